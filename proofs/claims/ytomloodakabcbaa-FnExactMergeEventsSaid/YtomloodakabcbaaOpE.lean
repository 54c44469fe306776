/-
  An event and a row of events that came in: how they lie in memory.
-/
import Derived.Test.YtomloodakabcbaaEtB
import Derived.Test.YtomloodakabcbaaRows
import Derived.OpenShut
import Derived.ShutString
import Derived.ChangeSlices
import Derived.Carry
import Derived.Lib.SmallJoins
namespace Go.Proofs.Ytomloodakabcbaa.Et
open Go.RowKit Go.ChangeShapes Go.WideShapes Go.ChangeAt Go.Joins Go.Deep Go.Proofs.Ytomloodakabcbaa.Cond Go.Proofs.Ytomloodakabcbaa.Gx
set_option linter.unusedVariables false

theorem wfI {a : Int} (h : (Lit.int .i64 a).wf = true) : -9223372036854775808 ≤ a ∧ a ≤ 9223372036854775807 := by
  simpa [Lit.wf, IntKind.min, IntKind.max, IntKind.signed, IntKind.bits] using h
instance : Inhabited E := ⟨⟨0, 0, .empty, 0⟩⟩
theorem cellsEv : Try.prog.cellsOf 35 = 4 := by kernel_rfl
theorem pick_lt {α : Type} [Inhabited α] {n : Nat} {P : Nat → α → Prop} (h : ∀ i, i < n → ∃ a, P i a) : ∃ f : Nat → α, ∀ i, i < n → P i (f i) :=
  ⟨fun i => if hi : i < n then Classical.choose (h i hi) else default, fun i hi => by simp only [hi, dif_pos]; exact Classical.choose_spec (h i hi)⟩

set_option maxRecDepth 100000 in
theorem openE {H : Type} {enc : TypeId × Value → H} {W : World} {spare : Nat → Bool} {held : Bool} {fuel : Nat} {cs : List Value} {x : DataW H × List MemPlace} (h : DataW.trod enc Try.prog W 0 spare held fuel 35 cs = some x) :
    ∃ m : E, cs = m.cells ∧ m.act.size ≤ maxLen := by
  obtain ⟨xs, n, hfu, _, hl, hx, hfld⟩ := DataW.trod_struct Try.underlying35 h
  rw [cellsEv] at hl
  match cs, hl with
  | [c0, c1, c2, c3], _ =>
    have h0 := hfld 0 _ rfl
    have h1 := hfld 1 _ rfl
    have h2 := hfld 2 _ rfl
    have h3 := hfld 3 _ rfl
    have e0 : Try.prog.cellsOf 3 = 1 := by kernel_rfl
    have e1 : Try.prog.cellsOf 9 = 1 := by kernel_rfl
    have hx' : xs.length = 4 := hx
    have g0 : DataW.trod enc Try.prog W 0 spare held n 3 [c0] = some xs[0] := by simpa [e0, List.getElem?_eq_getElem (show 0 < xs.length by omega)] using h0
    have g1 : DataW.trod enc Try.prog W 0 spare held n 3 [c1] = some xs[1] := by simpa [e0, List.getElem?_eq_getElem (show 1 < xs.length by omega)] using h1
    have g2 : DataW.trod enc Try.prog W 0 spare held n 9 [c2] = some xs[2] := by simpa [e1, List.getElem?_eq_getElem (show 2 < xs.length by omega)] using h2
    have g3 : DataW.trod enc Try.prog W 0 spare held n 3 [c3] = some xs[3] := by simpa [e0, List.getElem?_eq_getElem (show 3 < xs.length by omega)] using h3
    obtain ⟨a0, q0, _, _⟩ := DataW.trod_int Try.underlying3 g0
    obtain ⟨a1, q1, _, _⟩ := DataW.trod_int Try.underlying3 g1
    obtain ⟨a2, q2, _, s2⟩ := DataW.trod_string Try.underlying9 g2
    obtain ⟨a3, q3, _, _⟩ := DataW.trod_int Try.underlying3 g3
    simp only [List.cons.injEq, and_true] at q0 q1 q2 q3
    subst q0 q1 q2 q3
    exact ⟨⟨a0, a1, a2, a3⟩, rfl, s2⟩

theorem cellsRow {w : World} {a : Addr} : ∀ {n : Nat} {cs : List Value}, w.cells? 0 a n = some cs → cs.length = n ∧ ∀ i, ∀ h : i < cs.length, w.cell? (a.add i) = some cs[i] := by
  intro n cs h
  simp only [World.cells?, Nat.zero_le, if_true] at h
  have key : ∀ (l : List Nat) (cs : List Value), (l.mapM fun i => w.cell? (a.add i)) = some cs → cs.length = l.length ∧ ∀ i, ∀ h : i < cs.length, ∀ h2 : i < l.length, w.cell? (a.add l[i]) = some cs[i] := by
    intro l
    induction l with
    | nil => intro cs h; simp at h; subst h; simp
    | cons x l ih =>
      intro cs h
      simp only [List.mapM_cons, Option.bind_eq_bind, Option.bind_eq_some_iff, Option.pure_def, Option.some.injEq] at h
      obtain ⟨v, hv, vs, hvs, rfl⟩ := h
      obtain ⟨h1, h2⟩ := ih vs hvs
      refine ⟨by simp [h1], fun i hi hi2 => ?_⟩
      cases i with
      | zero => exact hv
      | succ i => exact h2 i (by simpa using hi) (by simpa using hi2)
  obtain ⟨h1, h2⟩ := key _ _ h
  rw [List.length_range] at h1
  refine ⟨h1, fun i hi => ?_⟩
  have := h2 i hi (by rw [List.length_range]; omega)
  simpa using this
theorem spotNone {w : World} {a : Addr} {v : Value} (h : w.cell? a = some v) : a = ⟨a.block, a.off, none⟩ := by
  cases a with
  | mk b o sp =>
    cases sp with
    | none => rfl
    | some s =>
      unfold World.cell? at h
      split at h <;> simp at h
theorem addNone (b o i : Nat) : (⟨b, o, none⟩ : Addr).add i = ⟨b, o + i, none⟩ := by simp [Addr.add]

set_option maxRecDepth 100000 in
theorem openES {H : Type} {enc : TypeId × Value → H} {W : World} {spare : Nat → Bool} {held : Bool} {fuel : Nat} {c0 : Value} {x : DataW H × List MemPlace} (h : DataW.trod enc Try.prog W 0 spare held fuel 22 [c0] = some x) :
    ∃ (A : Option Addr) (n cap : Nat) (ms : List E), c0 = .slice A n cap ∧ LiE W W.heap.size A n cap ms := by
  rcases DataW.trod_slice Try.underlying22 h with ⟨hc, _⟩ | ⟨a, len, cap, elems, rest, n', hn', hc, _, _, hl, hm, hel, hall, _, _⟩
  · simp at hc
    exact ⟨none, 0, 0, [], hc, fun h => by simp at h, fun m hm => by simp at hm, rfl, Nat.le_refl _, by unfold maxLen; omega⟩
  · simp at hc
    have key : ∀ i, i < len → ∃ m : E, W.cells? 0 (a.add (i * 4)) 4 = some m.cells ∧ m.act.size ≤ maxLen := fun i hi => by
      have h1 := hall i hi
      rw [cellsEv, List.getElem?_eq_getElem (by omega)] at h1
      obtain ⟨cs', h2, h3⟩ := Option.bind_eq_some_iff.1 h1
      obtain ⟨m, rfl, hk⟩ := openE h3
      exact ⟨m, h2, hk⟩
    obtain ⟨f, hf⟩ := pick_lt key
    have hget : ∀ i, ∀ h : i < ((List.range len).map f).length, ((List.range len).map f)[i] = f i := fun i h => by simp
    refine ⟨some a, len, cap, (List.range len).map f, hc, fun hp => ?_, fun m hm => ?_, by simp, by omega, hm⟩
    · have hp' : 0 < len := by simpa using hp
      have g0 := (cellsRow (hf 0 hp').1).2 0 (by rw [E.len]; omega)
      rw [show (a.add (0 * 4)).add 0 = a by simp [Addr.add]] at g0
      have hsp := spotNone g0
      refine ⟨a.block, a.off, by rw [← hsp], World.block_lt_of_cell? W a g0, fun i hi j hj => ?_⟩
      have hi' : i < len := by simpa using hi
      have h1 := (cellsRow (hf i hi').1).2 j (by rw [hget i hi] at hj; exact hj)
      rw [hsp, addNone, addNone] at h1
      simp only [hget i hi]
      exact h1
    · obtain ⟨i, hi, rfl⟩ := List.mem_map.1 hm
      exact (hf i (by simpa using hi)).2

set_option maxRecDepth 100000 in
theorem openEvs {H : Type} {enc : TypeId × Value → H} {W : World} {spare : Nat → Bool} {held : Bool} {r : Reach} {b0 : Nat} {v : Value} {d : DataW H} {p : List MemPlace} (hv : Value.okWide Try.prog W r b0 22 v) (h : DataW.Trod enc Try.prog W 0 spare held 22 v d p) :
    ∃ (A : Option Addr) (n cap : Nat) (ms : List E), v = .slice A n cap ∧ LiE W W.heap.size A n cap ms := by
  obtain ⟨a, len, cap, rfl⟩ := okWide_slice Try.underlying22 hv
  obtain ⟨fuel, hf⟩ := h
  exact openES hf

set_option maxRecDepth 100000 in
theorem openEv {H : Type} {enc : TypeId × Value → H} {W : World} {spare : Nat → Bool} {held : Bool} {r : Reach} {b0 : Nat} {v : Value} {d : DataW H} {p : List MemPlace} (hv : Value.okWide Try.prog W r b0 35 v) (h : DataW.Trod enc Try.prog W 0 spare held 35 v d p) :
    ∃ m : E, v = m.val ∧ m.act.size ≤ maxLen := by
  obtain ⟨cs, rfl, hsz⟩ := okWide_struct Try.underlying35 hv
  obtain ⟨fuel, hf⟩ := h
  obtain ⟨m, hm, hl⟩ := openE hf
  refine ⟨m, ?_, hl⟩
  have : cs = m.cells.toArray := by
    apply Array.toList_inj.1
    simpa [Value.cells] using hm
  rw [this]
  rfl

end Go.Proofs.Ytomloodakabcbaa.Et
