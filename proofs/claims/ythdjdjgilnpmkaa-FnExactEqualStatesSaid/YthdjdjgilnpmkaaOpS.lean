/-
  A state that came in: how it lies in memory.
-/
import Derived.Test.YthdjdjgilnpmkaaStB
import Derived.Test.YthdjdjgilnpmkaaRows
import Derived.OpenShut
import Derived.ShutString
import Derived.ChangeSlices
import Derived.Carry
import Derived.Lib.SmallJoins
namespace Go.Proofs.Ythdjdjgilnpmkaa.Sta
open Go.RowKit Go.ChangeShapes Go.WideShapes Go.ChangeAt Go.Joins Go.Deep Go.Proofs.Ythdjdjgilnpmkaa.Cond Go.Proofs.Ythdjdjgilnpmkaa.Gx Go.Proofs.Ythdjdjgilnpmkaa.Cl Go.Proofs.Ythdjdjgilnpmkaa.Dt
set_option linter.unusedVariables false

theorem wfI {a : Int} (h : (Lit.int .i64 a).wf = true) : -9223372036854775808 ≤ a ∧ a ≤ 9223372036854775807 := by
  simpa [Lit.wf, IntKind.min, IntKind.max, IntKind.signed, IntKind.bits] using h
/-- The numbers of a duty, of a state are ints. -/
def wD (m : D) : Prop := (-9223372036854775808 ≤ m.cl ∧ m.cl ≤ 9223372036854775807) ∧ (-9223372036854775808 ≤ m.since ∧ m.since ≤ 9223372036854775807) ∧ (-9223372036854775808 ≤ m.due ∧ m.due ≤ 9223372036854775807) ∧ (-9223372036854775808 ≤ m.st ∧ m.st ≤ 9223372036854775807)
def S.w (x : S) : Prop := (-9223372036854775808 ≤ x.day ∧ x.day ≤ 9223372036854775807) ∧ (∀ m ∈ x.ds, wD m) ∧ ∀ z ∈ x.zs, -9223372036854775808 ≤ z ∧ z ≤ 9223372036854775807
instance : Inhabited D := ⟨⟨0, 0, 0, 0⟩⟩
theorem cellsDu : Try.prog.cellsOf 46 = 4 := by kernel_rfl
theorem pick_ltD {α : Type} [Inhabited α] {n : Nat} {P : Nat → α → Prop} (h : ∀ i, i < n → ∃ a, P i a) : ∃ f : Nat → α, ∀ i, i < n → P i (f i) :=
  ⟨fun i => if hi : i < n then Classical.choose (h i hi) else default, fun i hi => by simp only [hi, dif_pos]; exact Classical.choose_spec (h i hi)⟩

set_option maxRecDepth 100000 in
theorem openD {H : Type} {enc : TypeId × Value → H} {W : World} {spare : Nat → Bool} {held : Bool} {fuel : Nat} {cs : List Value} {x : DataW H × List MemPlace} (h : DataW.trod enc Try.prog W 0 spare held fuel 46 cs = some x) :
    ∃ m : D, cs = m.cells ∧ wD m := by
  obtain ⟨xs, n, hfu, _, hl, hx, hfld⟩ := DataW.trod_struct Try.underlying46 h
  rw [cellsDu] at hl
  match cs, hl with
  | [c0, c1, c2, c3], _ =>
    have h0 := hfld 0 _ rfl
    have h1 := hfld 1 _ rfl
    have h2 := hfld 2 _ rfl
    have h3 := hfld 3 _ rfl
    have e0 : Try.prog.cellsOf 3 = 1 := by kernel_rfl
    have hx' : xs.length = 4 := hx
    have g0 : DataW.trod enc Try.prog W 0 spare held n 3 [c0] = some xs[0] := by simpa [e0, List.getElem?_eq_getElem (show 0 < xs.length by omega)] using h0
    have g1 : DataW.trod enc Try.prog W 0 spare held n 3 [c1] = some xs[1] := by simpa [e0, List.getElem?_eq_getElem (show 1 < xs.length by omega)] using h1
    have g2 : DataW.trod enc Try.prog W 0 spare held n 3 [c2] = some xs[2] := by simpa [e0, List.getElem?_eq_getElem (show 2 < xs.length by omega)] using h2
    have g3 : DataW.trod enc Try.prog W 0 spare held n 3 [c3] = some xs[3] := by simpa [e0, List.getElem?_eq_getElem (show 3 < xs.length by omega)] using h3
    obtain ⟨a0, q0, _, w0⟩ := DataW.trod_int Try.underlying3 g0
    obtain ⟨a1, q1, _, w1⟩ := DataW.trod_int Try.underlying3 g1
    obtain ⟨a2, q2, _, w2⟩ := DataW.trod_int Try.underlying3 g2
    obtain ⟨a3, q3, _, w3⟩ := DataW.trod_int Try.underlying3 g3
    simp only [List.cons.injEq, and_true] at q0 q1 q2 q3
    subst q0 q1 q2 q3
    exact ⟨⟨a0, a1, a2, a3⟩, rfl, wfI w0, wfI w1, wfI w2, wfI w3⟩

theorem cellsRowD {w : World} {a : Addr} : ∀ {n : Nat} {cs : List Value}, w.cells? 0 a n = some cs → cs.length = n ∧ ∀ i, ∀ h : i < cs.length, w.cell? (a.add i) = some cs[i] := by
  intro n cs h
  simp only [World.cells?, Nat.zero_le, if_true] at h
  have key : ∀ (l : List Nat) (cs : List Value), (l.mapM fun i => w.cell? (a.add i)) = some cs → cs.length = l.length ∧ ∀ i, ∀ h : i < cs.length, ∀ h2 : i < l.length, w.cell? (a.add l[i]) = some cs[i] := by
    intro l
    induction l with
    | nil => intro cs h; simp at h; subst h; simp
    | cons x l ih =>
      intro cs h
      simp only [List.mapM_cons, Option.bind_eq_bind, Option.bind_eq_some_iff, Option.pure_def, Option.some.injEq] at h
      obtain ⟨v, hv, vs, hvs, rfl⟩ := h
      obtain ⟨h1, h2⟩ := ih vs hvs
      refine ⟨by simp [h1], fun i hi hi2 => ?_⟩
      cases i with
      | zero => exact hv
      | succ i => exact h2 i (by simpa using hi) (by simpa using hi2)
  obtain ⟨h1, h2⟩ := key _ _ h
  rw [List.length_range] at h1
  refine ⟨h1, fun i hi => ?_⟩
  have := h2 i hi (by rw [List.length_range]; omega)
  simpa using this
theorem spotD {w : World} {a : Addr} {v : Value} (h : w.cell? a = some v) : a = ⟨a.block, a.off, none⟩ := by
  cases a with
  | mk b o sp =>
    cases sp with
    | none => rfl
    | some s =>
      unfold World.cell? at h
      split at h <;> simp at h
theorem addD (b o i : Nat) : (⟨b, o, none⟩ : Addr).add i = ⟨b, o + i, none⟩ := by simp [Addr.add]

set_option maxRecDepth 100000 in
theorem openDS {H : Type} {enc : TypeId × Value → H} {W : World} {spare : Nat → Bool} {held : Bool} {fuel : Nat} {c0 : Value} {x : DataW H × List MemPlace} (h : DataW.trod enc Try.prog W 0 spare held fuel 23 [c0] = some x) :
    ∃ (A : Option Addr) (n cap : Nat) (ms : List D), c0 = .slice A n cap ∧ LiD W W.heap.size A n cap ms ∧ ∀ m ∈ ms, wD m := by
  rcases DataW.trod_slice Try.underlying23 h with ⟨hc, _⟩ | ⟨a, len, cap, elems, rest, n', hn', hc, _, _, hl, hm, hel, hall, _, _⟩
  · simp at hc
    exact ⟨none, 0, 0, [], hc, ⟨fun h => by simp at h, rfl, Nat.le_refl _, by unfold maxLen; omega⟩, fun m hm => by simp at hm⟩
  · simp at hc
    have key : ∀ i, i < len → ∃ m : D, W.cells? 0 (a.add (i * 4)) 4 = some m.cells ∧ wD m := fun i hi => by
      have h1 := hall i hi
      rw [cellsDu, List.getElem?_eq_getElem (by omega)] at h1
      obtain ⟨cs', h2, h3⟩ := Option.bind_eq_some_iff.1 h1
      obtain ⟨m, rfl, hk⟩ := openD h3
      exact ⟨m, h2, hk⟩
    obtain ⟨f, hf⟩ := pick_ltD key
    have hget : ∀ i, ∀ h : i < ((List.range len).map f).length, ((List.range len).map f)[i] = f i := fun i h => by simp
    refine ⟨some a, len, cap, (List.range len).map f, hc, ⟨fun hp => ?_, by simp, by omega, hm⟩, fun m hm => ?_⟩
    · have hp' : 0 < len := by simpa using hp
      have g0 := (cellsRowD (hf 0 hp').1).2 0 (by rw [D.len]; omega)
      rw [show (a.add (0 * 4)).add 0 = a by simp [Addr.add]] at g0
      have hsp := spotD g0
      refine ⟨a.block, a.off, by rw [← hsp], World.block_lt_of_cell? W a g0, fun i hi j hj => ?_⟩
      have hi' : i < len := by simpa using hi
      have h1 := (cellsRowD (hf i hi').1).2 j (by rw [hget i hi] at hj; exact hj)
      rw [hsp, addD, addD] at h1
      simp only [hget i hi]
      exact h1
    · obtain ⟨i, hi, rfl⟩ := List.mem_map.1 hm
      exact (hf i (by simpa using hi)).2

set_option maxRecDepth 100000 in
theorem openNS {H : Type} {enc : TypeId × Value → H} {W : World} {spare : Nat → Bool} {held : Bool} {fuel : Nat} {c0 : Value} {x : DataW H × List MemPlace} (h : DataW.trod enc Try.prog W 0 spare held fuel 22 [c0] = some x) :
    ∃ (A : Option Addr) (n cap : Nat) (ss : List ByteArray), c0 = .slice A n cap ∧ LiN W W.heap.size A n cap ss := by
  rcases open_strings Try.underlying22 Try.underlying9 (by kernel_rfl) h with ⟨hcs, _⟩ | ⟨x, l, c, ss, hcs, _, hl, hm, hz, _, hcell, hws⟩
  · simp at hcs
    exact ⟨none, 0, 0, [], hcs, fun h => by simp at h, rfl, Nat.le_refl _, by unfold maxLen; omega, fun p hp => by simp at hp, fun ad e => by cases e⟩
  · simp at hcs
    have hz' : l ≤ ss.length := by rw [hz]; split <;> omega
    refine ⟨some x, l, c, ss.take l, hcs, fun hp => ?_, by simp; omega, hl, hm, fun p hp => hws p (List.mem_of_mem_take hp), fun ad e h0 => ?_⟩
    · have hl0 : 0 < ss.length := by simp at hp; omega
      refine ⟨x, rfl, ?_, fun j hj => ?_⟩
      · have h2 := World.block_lt_of_cell? W _ (hcell 0 hl0)
        rwa [Row.block_add] at h2
      · have hj' : j < ss.length := by simp at hj; omega
        rw [hcell j hj']
        simp [List.getD, hj']
    · injection e with e
      subst e
      have h2 := hcell 0 (by omega)
      rw [show x.add 0 = x by simp [Addr.add]] at h2
      exact spotD h2

set_option maxRecDepth 100000 in
theorem openIS {H : Type} {enc : TypeId × Value → H} {W : World} {spare : Nat → Bool} {held : Bool} {fuel : Nat} {c0 : Value} {x : DataW H × List MemPlace} (h : DataW.trod enc Try.prog W 0 spare held fuel 24 [c0] = some x) :
    ∃ (A : Option Addr) (n cap : Nat) (zs : List Int), c0 = .slice A n cap ∧ LiI W W.heap.size A n cap zs ∧ ∀ z ∈ zs, -9223372036854775808 ≤ z ∧ z ≤ 9223372036854775807 := by
  rcases open_ints Try.underlying24 Try.underlying3 (by kernel_rfl) h with ⟨hcs, _⟩ | ⟨x, l, c, ss, hcs, _, hl, hm, hz, _, hcell, hws⟩
  · simp at hcs
    exact ⟨none, 0, 0, [], hcs, ⟨fun h => by simp at h, rfl, Nat.le_refl _, by unfold maxLen; omega, fun ad e => by cases e⟩, fun p hp => by simp at hp⟩
  · simp at hcs
    have hz' : l ≤ ss.length := by rw [hz]; split <;> omega
    refine ⟨some x, l, c, ss.take l, hcs, ⟨fun hp => ?_, by simp; omega, hl, hm, fun ad e h0 => ?_⟩, fun p hp => wfI (hws p (List.mem_of_mem_take hp))⟩
    · have hl0 : 0 < ss.length := by simp at hp; omega
      refine ⟨x, rfl, ?_, fun j hj => ?_⟩
      · have h2 := World.block_lt_of_cell? W _ (hcell 0 hl0)
        rwa [IRow.block_add] at h2
      · have hj' : j < ss.length := by simp at hj; omega
        rw [hcell j hj']
        simp [List.getD, hj']
    · injection e with e
      subst e
      have h2 := hcell 0 (by omega)
      rw [show x.add 0 = x by simp [Addr.add]] at h2
      exact spotD h2

theorem cellsSt : Try.prog.cellsOf 26 = 5 := by kernel_rfl
set_option maxRecDepth 100000 in
theorem openSt {H : Type} {enc : TypeId × Value → H} {W : World} {spare : Nat → Bool} {held : Bool} {r : Reach} {b0 : Nat} {v : Value} {d : DataW H} {p : List MemPlace} (hv : Value.okWide Try.prog W r b0 26 v) (h : DataW.Trod enc Try.prog W 0 spare held 26 v d p) :
    ∃ x : S, v = x.val ∧ LiS W W.heap.size x ∧ x.w := by
  obtain ⟨cs, rfl, hsz⟩ := okWide_struct Try.underlying26 hv
  obtain ⟨fuel, hf⟩ := h
  obtain ⟨xs, n, hfu, _, hl, hx, hfld⟩ := DataW.trod_struct Try.underlying26 hf
  rw [cellsSt] at hl
  have hcs : (Value.agg cs).cells.toList = cs.toList := by simp [Value.cells]
  generalize hL : (Value.agg cs).cells.toList = L at hl hfld hcs
  match L, hl with
  | [c0, c1, c2, c3, c4], _ =>
    have h0 := hfld 0 _ rfl
    have h1 := hfld 1 _ rfl
    have h2 := hfld 2 _ rfl
    have h3 := hfld 3 _ rfl
    have h4 := hfld 4 _ rfl
    have e0 : Try.prog.cellsOf 3 = 1 := by kernel_rfl
    have e1 : Try.prog.cellsOf 22 = 1 := by kernel_rfl
    have e2 : Try.prog.cellsOf 23 = 1 := by kernel_rfl
    have e3 : Try.prog.cellsOf 24 = 1 := by kernel_rfl
    have e4 : Try.prog.cellsOf 4 = 1 := by kernel_rfl
    have hx' : xs.length = 5 := hx
    have g0 : DataW.trod enc Try.prog W 0 spare held n 3 [c0] = some xs[0] := by simpa [e0, List.getElem?_eq_getElem (show 0 < xs.length by omega)] using h0
    have g1 : DataW.trod enc Try.prog W 0 spare held n 22 [c1] = some xs[1] := by simpa [e1, List.getElem?_eq_getElem (show 1 < xs.length by omega)] using h1
    have g2 : DataW.trod enc Try.prog W 0 spare held n 23 [c2] = some xs[2] := by simpa [e2, List.getElem?_eq_getElem (show 2 < xs.length by omega)] using h2
    have g3 : DataW.trod enc Try.prog W 0 spare held n 24 [c3] = some xs[3] := by simpa [e3, List.getElem?_eq_getElem (show 3 < xs.length by omega)] using h3
    have g4 : DataW.trod enc Try.prog W 0 spare held n 4 [c4] = some xs[4] := by simpa [e4, List.getElem?_eq_getElem (show 4 < xs.length by omega)] using h4
    obtain ⟨a0, q0, _, w0⟩ := DataW.trod_int Try.underlying3 g0
    obtain ⟨A1, n1, k1, ss, rfl, l1⟩ := openNS g1
    obtain ⟨A2, n2, k2, ds, rfl, l2, m2⟩ := openDS g2
    obtain ⟨A3, n3, k3, zs, rfl, l3, m3⟩ := openIS g3
    obtain ⟨b, q4, _⟩ := DataW.trod_bool Try.underlying4 g4
    simp only [List.cons.injEq, and_true] at q0 q4
    subst q0 q4
    refine ⟨⟨a0, A1, n1, k1, ss, A2, n2, k2, ds, A3, n3, k3, zs, b⟩, ?_, ⟨l1, l2, l3⟩, wfI w0, m2, m3⟩
    have : cs = #[.int .i64 a0, .slice A1 n1 k1, .slice A2 n2 k2, .slice A3 n3 k3, .bool b] := by
      apply Array.toList_inj.1
      rw [← hcs]
    rw [this]

end Go.Proofs.Ythdjdjgilnpmkaa.Sta
