/-
  The law FnExactJoinCalendars returns true at every input, and its arguments read afterwards as before. No condition.
-/
import Derived.Test.YtglpkanegehcbaaJoinX
import Derived.OpenShut
import Derived.ShutString
import Derived.ChangeSlices
import Derived.Carry
import Derived.Lib.SmallJoins
namespace Go.Proofs.Ytglpkanegehcbaa.fnExactJoinCalendars
open Go.ChangeShapes Go.WideShapes Go.ChangeAt Go.RowKit Go.Joins
open Go.ChangeMaps (open_string shut_string)
set_option linter.unusedVariables false

theorem own : ownKnob Try.prog.godebug = none := by kernel_rfl
theorem laidOut : laidOutB Try.prog = true := by kernel_rfl

theorem cellsCal : Try.prog.cellsOf 37 = 2 := by kernel_rfl
theorem rowOf {H : Type} {enc : TypeId × Value → H} {W : World} {sp : Nat → Bool} {b : Bool} {fuel : Nat} {c0 : Value} {y : DataW H × List MemPlace} (hf : DataW.trod enc Try.prog W 0 sp b fuel 24 [c0] = some y) :
    ∃ a l c, ∃ zs : List Int, c0 = .slice a l c ∧ l = zs.length ∧ l ≤ maxLen ∧ IRow.Is W W.heap.size a zs := by
  rcases open_ints Try.underlying24 Try.underlying3 (by kernel_rfl) hf with ⟨hcs, _⟩ | ⟨x, l, c, ss, hcs, _, hl, hm, hz, _, hcell, _⟩
  · simp at hcs
    exact ⟨none, 0, 0, [], hcs, rfl, by unfold maxLen; omega, fun h => by simp at h⟩
  · simp at hcs
    have hz' : l ≤ ss.length := by rw [hz]; split <;> omega
    refine ⟨some x, l, c, ss.take l, hcs, by simp; omega, by omega, fun hp => ?_⟩
    have hl0 : 0 < ss.length := by simp at hp; omega
    refine ⟨x, rfl, ?_, fun j hj => ?_⟩
    · have h2 := World.block_lt_of_cell? W _ (hcell 0 hl0)
      rwa [IRow.block_add] at h2
    · have hj' : j < ss.length := by simp at hj; omega
      rw [hcell j hj']
      simp [List.getD, hj']

set_option maxRecDepth 100000 in
theorem lifted (os : Os) (started : os.Started) (H : Type) (enc : TypeId × Value → H) :
    ReturnsInHanded {} Try.checked os 8 .any (Rows.fnExactJoinCalendarsSpec.pre6 enc Try.prog Try.f8 Rows.fnExactJoinCalendarsRow.domain false) (Rows.fnExactJoinCalendarsSpec.post enc Try.prog Try.f8 false true false false) := by
  refine returnsInHanded_of_change (C := Try.checked) own started (by kernel_rfl) Try.func8
    (ChangeSpec.witness6 (enc := enc) (C := Try.checked) false ⟨#[], #[.agg #[.slice none 0 0, .slice none 0 0], .agg #[.slice none 0 0, .slice none 0 0]], []⟩ 8 (by kernel_rfl) (by kernel_rfl) (by kernel_rfl) (by kernel_rfl)) ?_
  intro W base args ds gs before hval0 hW hcnd _
  have hval : ∀ (j : Nat) t v, Try.f8.params[j]? = some t → args[j]? = some v → Value.okWide Try.prog W .any base t v := hval0
  have hW' := hW
  obtain ⟨p, q, hA0, hV, rfl, hfz, hnd⟩ := hW
  have hA : DataW.TrodAll enc Try.prog W 0 (fun _ => true) true Try.f8.params.toList args.toList ds p := hA0
  rw [Try.params8] at hA hval
  obtain ⟨v0, vs0, d0, ds0, p0, q0, hargs, rfl, rfl, h0, r0⟩ := trodAll_cons hA
  obtain ⟨v1, vs1, d1, ds1, p1, q1, rfl, rfl, rfl, h1, r1⟩ := trodAll_cons r0
  obtain ⟨rfl, rfl, rfl⟩ := trodAll_nil r1
  obtain rfl : args = #[v0, v1] := by cases args; simp_all
  obtain ⟨rfl, rfl⟩ := trodVars_none hV
  have k0 := h0
  have lt0 : ∀ x ∈ p0, x.block < W.heap.size := by obtain ⟨m, hm⟩ := k0; exact DataW.trod_lt m _ _ _ hm
  obtain ⟨c0, c1, y0, y1, f0, rfl, rfl, rfl, hy0, hy1⟩ := open_agg2 Try.underlying37 (by kernel_rfl) cellsCal (hval 0 37 v0 rfl rfl) h0
  obtain ⟨ua0, un0, uc0, us0, rfl, hu0, hum0, huI0⟩ := rowOf hy0
  obtain ⟨va0, vn0, vc0, vs0, rfl, hv0, hvm0, hvI0⟩ := rowOf hy1
  clear hy0 hy1 h0
  have k1 := h1
  have lt1 : ∀ x ∈ p1, x.block < W.heap.size := by obtain ⟨m, hm⟩ := k1; exact DataW.trod_lt m _ _ _ hm
  obtain ⟨c0, c1, y0, y1, f1, rfl, rfl, rfl, hy0, hy1⟩ := open_agg2 Try.underlying37 (by kernel_rfl) cellsCal (hval 1 37 v1 rfl rfl) h1
  obtain ⟨ua1, un1, uc1, us1, rfl, hu1, hum1, huI1⟩ := rowOf hy0
  obtain ⟨va1, vn1, vc1, vs1, rfl, hv1, hvm1, hvI1⟩ := rowOf hy1
  clear hy0 hy1 h1
  clear hA0
  refine (JoinX.walk ua0 va0 ua1 va1 un0 uc0 vn0 vc0 un1 uc1 vn1 vc1 us0 vs0 us1 vs1 W hu0 hum0 huI0 hv0 hvm0 hvI0 hu1 hum1 huI1 hv1 hvm1 hvI1).mono fun e W' ⟨he, bel⟩ => ?_
  subst he
  exact ⟨_, rfl, _, _, _, [], _, [], hW', trodAll_mk1 (shut_bool Try.underlying4 _), (trodAll_cons_mk (Below.trod laidOut (by kernel_rfl) (of_decide_eq_true (by kernel_rfl)) k0 bel lt0) (trodAll_cons_mk (Below.trod laidOut (by kernel_rfl) (of_decide_eq_true (by kernel_rfl)) k1 bel lt1) trodAll_mk0)), rfl, bel.frame _, fun h => by cases h⟩

theorem proved : Rows.FnExactJoinCalendarsSaid :=
  OpenClaim.holds_of_wide 8 Try.f8 rfl rfl rfl rfl rfl rfl rfl ⟨rfl, rfl, rfl, rfl, rfl⟩ rfl rfl rfl rfl rfl (by kernel_rfl) Try.func8 (by kernel_rfl)
    (of_decide_eq_true (by kernel_rfl)) (by unfold Func.isWrapper; first | (rw [if_pos (by decide +kernel)]; kernel_rfl) | (rw [if_neg (by decide +kernel)]; exact ⟨rfl, rfl⟩))
    (fun os started H enc _ => lifted os started H enc)
end Go.Proofs.Ytglpkanegehcbaa.fnExactJoinCalendars
