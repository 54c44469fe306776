/-
  Rows of events and of ints in answers.
-/
import Derived.Test.YtomloodakabcbaaEtDa
import Derived.Test.YtomloodakabcbaaEtMk
import Derived.Test.YtomloodakabcbaaMarkI
namespace Go.Proofs.Ytomloodakabcbaa.Et
open Go.RowKit Go.Proofs.Ytomloodakabcbaa.Cond Go.Proofs.Ytomloodakabcbaa.Gx
set_option linter.unusedVariables false
set_option linter.unusedSimpArgs false

/-- A row of ints of the call's own. -/
abbrev RI (w : World) (S g N c : Nat) (D : List Int) : Prop := w.ownsRow S 3 1 (.slice (some ⟨g, 0, none⟩) N c) N (D.map (Value.int .i64))
theorem row_ge {w : World} {S g N c : Nat} {T : TypeId} {xs : List Value} (h : w.ownsRow S T 1 (.slice (some ⟨g, 0, none⟩) N c) N xs) : S ≤ g ∧ g < w.heap.size := by
  rcases h.2 with ⟨hv, h0⟩ | ⟨g', cap, cur, hv, hS, hh, _⟩
  · cases hv
  · injection hv with h1 h2 h3
    injection h1 with h1
    injection h1 with h1
    subst h1
    exact ⟨hS, (Array.getElem?_eq_some_iff.1 hh).1⟩
theorem row_same {w w' : World} {S g N c : Nat} {T : TypeId} {xs : List Value} (h : w.ownsRow S T 1 (.slice (some ⟨g, 0, none⟩) N c) N xs) (hb : w'.heap[g]? = w.heap[g]?) : w'.ownsRow S T 1 (.slice (some ⟨g, 0, none⟩) N c) N xs := by
  refine ⟨h.1, ?_⟩
  rcases h.2 with h2 | ⟨g', cap, cur, hv, hS, hh, r⟩
  · exact .inl h2
  · have e := hv
    injection e with h1 h2 h3
    injection h1 with h1
    injection h1 with h1
    subst h1
    exact .inr ⟨g, cap, cur, hv, hS, hb.trans hh, r⟩
theorem row_on {w w' : World} {S g N c : Nat} {T : TypeId} {xs : List Value} (h : w.ownsRow S T 1 (.slice (some ⟨g, 0, none⟩) N c) N xs) (hb : Below w.heap.size w w') : w'.ownsRow S T 1 (.slice (some ⟨g, 0, none⟩) N c) N xs := row_same h (hb.block g (row_ge h).2)
theorem row_mv {w w' : World} {S g N c : Nat} {T : TypeId} {xs : List Value} {o o' : Nat → Prop} (h : w.ownsRow S T 1 (.slice (some ⟨g, 0, none⟩) N c) N xs) (hm : Mv o o' w w') (ho : ¬ o g) : w'.ownsRow S T 1 (.slice (some ⟨g, 0, none⟩) N c) N xs :=
  row_same h (hm.block g (row_ge h).2 ho)
theorem IAns.fix {S N : Nat} {zs : List Int} {ok : Bool} {w w' : World} {e : Ending} (hN : N = zs.length) (h : IAns S zs ok w e w') : ∃ g c, e = .returned (.tuple #[.slice (some ⟨g, 0, none⟩) N c, .bool ok]) ∧ RI w' S g N c zs ∧ Below w.heap.size w w' := by
  obtain ⟨g, n, c, hn, he, ho, hb⟩ := h
  rw [← hN] at hn
  subst hn
  unfold UniS.Own at ho
  rw [← hN] at ho
  exact ⟨g, c, he, ho, hb⟩

/-- A row of events of the call's own. -/
structure RE (w : World) (S g N c : Nat) (D : List E) : Prop where
  wr : WrE w (some ⟨g, 0, none⟩) N c D
  ge : S ≤ g
  lt : g < w.heap.size
theorem front_one {g N b : Nat} (h : b ∈ Cl.frontN (some ⟨g, 0, none⟩) N) : b = g := by
  cases N with
  | zero => simp [Cl.frontN] at h
  | succ N => simpa [Cl.frontN] using h
theorem RE.same {w w' : World} {S g N c : Nat} {D : List E} (h : RE w S g N c D) (hb : w'.heap[g]? = w.heap[g]?) (hs : w.heap.size ≤ w'.heap.size) : RE w' S g N c D := by
  refine ⟨⟨⟨fun hp => ?_, h.wr.has.asz, h.wr.has.len, h.wr.has.nc, h.wr.has.cm⟩, fun b hb' o => ?_⟩, h.ge, Nat.lt_of_lt_of_le h.lt hs⟩
  · obtain ⟨b, o, e, hB, hc⟩ := h.wr.has.at_ hp
    have e2 := e
    injection e with e
    injection e with e1 _ _
    subst e1
    exact ⟨_, o, e2, Nat.lt_of_lt_of_le hB hs, fun i hi => (hc i hi).alike hb⟩
  · have hg := front_one hb'
    subst hg
    exact (World.frozen?_of_block (a := ⟨b, o, none⟩) hb).trans (h.wr.fz b hb' o)
theorem RE.on {w w' : World} {S g N c : Nat} {D : List E} (h : RE w S g N c D) (hb : Below w.heap.size w w') : RE w' S g N c D := h.same (hb.block g h.lt) hb.size
theorem RE.mv {w w' : World} {S g N c : Nat} {D : List E} {o o' : Nat → Prop} (h : RE w S g N c D) (hm : Mv o o' w w') (ho : ¬ o g) : RE w' S g N c D := h.same (hm.block g h.lt ho) hm.size
theorem RwE.wre {w : World} {g n : Nat} {ms : List E} (h : RwE w g n ms) (hl : ms.length = n) (hm : n ≤ maxLen) : WrE w (some ⟨g, 0, none⟩) n n ms :=
  ⟨h.lie hl hm, fun b hb o => by rw [front_one hb]; exact h.blk.frozen o⟩
theorem RwE.re {w : World} {g n S : Nat} {ms : List E} (h : RwE w g n ms) (hl : ms.length = n) (hm : n ≤ maxLen) (hS : S ≤ g) : RE w S g n n ms := ⟨h.wre hl hm, hS, h.blk.lt⟩
/-- What a function answers: a row of events and a bool. -/
def EAns (S : Nat) (D : List E) (ok : Bool) (w : World) (e : Ending) (w' : World) : Prop :=
  ∃ g n c, n = D.length ∧ e = .returned (.tuple #[.slice (some ⟨g, 0, none⟩) n c, .bool ok]) ∧ RE w' S g n c D ∧ Below w.heap.size w w'
theorem EAns.fix {S N : Nat} {zs : List E} {ok : Bool} {w w' : World} {e : Ending} (hN : N = zs.length) (h : EAns S zs ok w e w') : ∃ g c, e = .returned (.tuple #[.slice (some ⟨g, 0, none⟩) N c, .bool ok]) ∧ RE w' S g N c zs ∧ Below w.heap.size w w' := by
  obtain ⟨g, n, c, hn, he, ho, hb⟩ := h
  rw [← hN] at hn
  subst hn
  exact ⟨g, c, he, ho, hb⟩
theorem Mv.belowF {g N B : Nat} {w w' : World} (h : Mv (· ∈ Cl.frontN (some ⟨g, 0, none⟩) N) (· ∈ Cl.frontN (some ⟨g, 0, none⟩) N) w w') (hg : B ≤ g) (hB : B ≤ w.heap.size) : Below B w w' :=
  ⟨h.os, h.tape, h.output, h.size, fun k hk => h.block k (Nat.lt_of_lt_of_le hk hB) (fun hh => by have := front_one hh; omega)⟩

end Go.Proofs.Ytomloodakabcbaa.Et
