/-
  The days of an event list: both EventDays.
-/
import Derived.Test.YtomloodakabcbaaEtL
import Derived.Test.YtomloodakabcbaaEtMk
import Derived.Test.YtomloodakabcbaaUniS
import Derived.Test.YtomloodakabcbaaSrtR
namespace Go.Proofs.Ytomloodakabcbaa.Et
open Go.RowKit Go.Proofs.Ytomloodakabcbaa.Cond Go.Proofs.Ytomloodakabcbaa.Gx Go.Proofs.Ytomloodakabcbaa.IRow
set_option linter.unusedVariables false
set_option linter.unusedSimpArgs false

/-- The days, each once, in ascending order. -/
def dyE (ms : List E) : List Int := UniMath.uni [] (ms.map E.day)
/-- A row of ints of the call's own, and a bool. -/
def IAns (S : Nat) (D : List Int) (ok : Bool) (w : World) (e : Ending) (w' : World) : Prop :=
  ∃ g n c, n = D.length ∧ e = .returned (.tuple #[.slice (some ⟨g, 0, none⟩) n c, .bool ok]) ∧ UniS.Own w' S (.slice (some ⟨g, 0, none⟩) n c) D ∧ Below w.heap.size w w'
theorem good_len {ms : List E} {p : Int} (h : goodE ms p) : ms.length ≤ 40 := by
  have h2 := h.2
  simp only [valE, Bool.and_eq_true, decide_eq_true_eq] at h2
  exact h2.2.1
theorem ownK {B : Nat} {e : TypeId} {k : Nat} {v : Value} {n : Nat} {xs : List Value} {w w' : World} (h : w.ownsRow B e k v n xs) (hb : Below w.heap.size w w') : w'.ownsRow B e k v n xs :=
  h.kept (row := none) ⟨hb.os, hb.tape, hb.output, hb.size, fun j hj _ => hb.block j hj⟩ (by cases hv : v.ownBlock <;> simp)
theorem own_lower {B B' : Nat} {e : TypeId} {k : Nat} {v : Value} {n : Nat} {xs : List Value} {w : World} (h : w.ownsRow B e k v n xs) (hb : B' ≤ B) : w.ownsRow B' e k v n xs := by
  refine ⟨h.1, ?_⟩
  rcases h.2 with h | ⟨g, c, cur, hv, hS, r⟩
  · exact .inl h
  · exact .inr ⟨g, c, cur, hv, by omega, r⟩
theorem dyE_len (ms : List E) : (dyE ms).length ≤ ms.length := by
  have := UniMath.length_uni (ms.map E.day) []
  simpa [dyE] using this
theorem dyE_snoc (ms : List E) (m : E) : dyE (ms ++ [m]) = UniMath.putL (dyE ms) m.day := by
  unfold dyE
  rw [List.map_append, List.map_cons, List.map_nil, UniMath.uni_snoc]

/-- The days of a rising list rise. -/
theorem cI_le {x y : Int} {zs : List Int} (h : orI (cI x y :: zs) ≤ 0) : x ≤ y := by
  unfold orI cI at h
  by_cases h1 : x < y
  · omega
  · by_cases h2 : y < x
    · simp [h1, h2] at h
    · omega
theorem days_up {ms : List E} (h : riseE ms) : (ms.map E.day).Pairwise (· ≤ ·) := by
  have key : ∀ d i, ∀ hd : i + d < ms.length, ms[i].day ≤ ms[i + d].day := by
    intro d
    induction d with
    | zero => intro i hd; exact Int.le_refl _
    | succ d ih =>
      intro i hd
      have h1 := ih i (by omega)
      have h2 := cI_le (h (i + d) hd)
      exact Int.le_trans h1 h2
  rw [List.pairwise_iff_getElem]
  intro i j hi hj hij
  have hi' : i < ms.length := by simpa using hi
  have hj' : j < ms.length := by simpa using hj
  have := key (j - i) i (by omega)
  simp only [List.getElem_map]
  have e : i + (j - i) = j := by omega
  simp only [e] at this
  exact this
theorem compact_dy {ms : List E} (h : riseE ms) : Lib.compact (ms.map E.day) = dyE ms := by
  have hs : ((ms.map E.day).mergeSort fun x y => decide (x ≤ y)) = ms.map E.day := List.mergeSort_of_pairwise (by simpa using days_up h)
  have := UniMath.compact_sort [] (ms.map E.day) List.Pairwise.nil
  rw [List.nil_append, hs] at this
  exact this

end Go.Proofs.Ytomloodakabcbaa.Et
