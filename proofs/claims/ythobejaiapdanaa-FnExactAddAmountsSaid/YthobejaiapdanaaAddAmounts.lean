/-
  The law FnExactAddAmounts returns true at every input, and its argument reads afterwards as before. No condition.
-/
import Derived.Test.YthobejaiapdanaaSums
import Derived.OpenShut
import Derived.ChangeSlices
import Derived.Carry
namespace Go.Proofs.Ythobejaiapdanaa.fnExactAddAmounts
open Go.ChangeShapes Go.WideShapes Go.ChangeAt Go.RowKit
open Go.Proofs.Ythobejaiapdanaa.IRow Go.Proofs.Ythobejaiapdanaa.Amount Go.Proofs.Ythobejaiapdanaa.Sums
set_option linter.unusedVariables false

theorem own : ownKnob Try.prog.godebug = none := by kernel_rfl
theorem laidOut : laidOutB Try.prog = true := by kernel_rfl

set_option maxHeartbeats 1000000 in
theorem walk (A : Option Addr) (n cap : Nat) (zs : List Int) (w : World) (hn : n = zs.length) (hm : n ≤ maxLen) (hA : Is w w.heap.size A zs) :
    Calls Try.prog 4 #[.slice A n cap] w fun e w' => e = .returned (.bool true) ∧ Below w.heap.size w w' := by
  have hq := hm
  unfold maxLen at hq
  have HN := Lib.hid hn
  have HM := Lib.hid hm
  have HA := Lib.hid hA
  clear hn hm hA
  by_cases h1 : 1048576 < n
  · go_enter Try.func4, Try.ntmps4
    go_wp2_with fail
    go_ret
    exact ⟨rfl, Below.refl _ _⟩
  · have hn6 : n ≤ 1048576 := by omega
    obtain ⟨v, hv⟩ : ∃ v, v = val zs := ⟨_, rfl⟩
    obtain ⟨f, hf⟩ : ∃ f, f = ok zs := ⟨_, rfl⟩
    have HV := Lib.hid hv
    have HF := Lib.hid hf
    clear hv hf
    go_enter Try.func4, Try.ntmps4
    go_wp2_with (go_at_call 11; refine (toI A n cap zs w HN.out hn6 HA.out).mono ?_; rintro e w1 ⟨rfl, hown1, hb1⟩; refine Hid.out ?_)
    refine Lib.hid ?_
    have I1 := Lib.hid (Is.of_own hown1 HN.out)
    clear hown1
    go_wp2_with (go_at_call 10; refine (specAdd _ n n zs w1 w1.heap.size HN.out HM.out I1.out).mono ?_; rintro e w2 ⟨rfl, he⟩; rw [← HV.out, ← HF.out] at he; subst he; refine Hid.out ?_)
    refine Lib.hid ?_
    have I2 : Hid (Is w1 w1.heap.size A zs) := Lib.hid ((HA.out.below hb1).more hb1.size)
    go_wp2_with (go_at_call 11; refine (toI A n cap zs w1 HN.out hn6 I2.out).mono ?_; rintro e w3 ⟨rfl, hown3, hb3⟩; refine Hid.out ?_)
    refine Lib.hid ?_
    have I3 := Lib.hid (Is.of_own hown3 HN.out)
    clear hown3
    have hb3' : Below w.heap.size w w3 := hb1.trans (hb3.mono hb1.size)
    go_wp2_with (go_at_call 12; refine (implAdd _ n n zs w3 w3.heap.size HN.out HM.out I3.out).mono ?_; rintro e w4 ⟨rfl, he⟩; rw [← HV.out, ← HF.out] at he; subst he; refine Hid.out ?_)
    refine Lib.hid ?_
    have I4 : Hid (Is w3 w3.heap.size A zs) := Lib.hid ((HA.out.below hb3').more hb3'.size)
    go_wp2_with (go_at_call 11; refine (toI A n cap zs w3 HN.out hn6 I4.out).mono ?_; rintro e w5 ⟨rfl, hown5, hb5⟩; refine Hid.out ?_)
    refine Lib.hid ?_
    have I5 := Lib.hid (Is.of_own hown5 HN.out)
    have J5 := Lib.hid ((I3.out.below hb5).more hb5.size)
    clear hown5
    go_wp2_with (go_at_call 13; refine (eqI _ _ n n n w5.heap.size zs w5 HN.out (by omega) J5.out I5.out).mono ?_; rintro e w6 ⟨rfl, q, rfl⟩)
    go_ret
    exact ⟨rfl, below_drewN (hb3'.trans (hb5.mono hb3'.size)) q⟩

set_option maxRecDepth 100000 in
theorem lifted (os : Os) (started : os.Started) (H : Type) (enc : TypeId × Value → H) :
    ReturnsInHanded {} Try.checked os 4 .any (Rows.fnExactAddAmountsSpec.pre6 enc Try.prog Try.f4 Rows.fnExactAddAmountsRow.domain false) (Rows.fnExactAddAmountsSpec.post enc Try.prog Try.f4 false true false false) := by
  refine returnsInHanded_of_change (C := Try.checked) own started (by kernel_rfl) Try.func4
    (ChangeSpec.witness6 (enc := enc) (C := Try.checked) false ⟨#[], #[.slice none 0 0], []⟩ 8 (by kernel_rfl) (by kernel_rfl) (by kernel_rfl) (by kernel_rfl)) ?_
  intro W base args ds gs before hval0 hW hcnd _
  have hval : ∀ (j : Nat) t v, Try.f4.params[j]? = some t → args[j]? = some v → Value.okWide Try.prog W .any base t v := hval0
  have hW' := hW
  obtain ⟨p, q, hA0, hV, rfl, hfz, hnd⟩ := hW
  have hA : DataW.TrodAll enc Try.prog W 0 (fun _ => true) true Try.f4.params.toList args.toList ds p := hA0
  rw [Try.params4] at hA hval
  obtain ⟨v0, vs0, d0, ds0, p0, q0, hargs, rfl, rfl, h0, r0⟩ := trodAll_cons hA
  obtain ⟨rfl, rfl, rfl⟩ := trodAll_nil r0
  obtain rfl : args = #[v0] := by cases args; simp_all
  obtain ⟨rfl, rfl⟩ := trodVars_none hV
  obtain ⟨a0, len0, cap0, rfl⟩ := okWide_slice Try.underlying24 (hval 0 24 v0 rfl rfl)
  have k0 := h0
  have lt0 : ∀ x ∈ p0, x.block < W.heap.size := by obtain ⟨m, hm⟩ := k0; exact DataW.trod_lt m _ _ _ hm
  obtain ⟨zs, hn, hm, hI, hs⟩ : ∃ zs : List Int, len0 = zs.length ∧ len0 ≤ maxLen ∧ Is W W.heap.size a0 zs ∧ ∀ z ∈ zs, (Lit.int .i64 z).wf = true := by
    obtain ⟨fuel, hf⟩ := h0
    rcases open_ints Try.underlying24 Try.underlying3 (by kernel_rfl) hf with ⟨hcs, _⟩ | ⟨x, l, c, ss, hcs, _, hl, hm, hz, _, hcell, hws⟩
    · simp [Value.cells] at hcs
      obtain ⟨rfl, rfl, rfl⟩ := hcs
      exact ⟨[], rfl, by unfold maxLen; omega, fun h => by simp at h, fun p hp => by simp at hp⟩
    · simp [Value.cells] at hcs
      obtain ⟨rfl, rfl, rfl⟩ := hcs
      have hz' : ss.length = cap0 := by simpa using hz
      refine ⟨ss.take len0, by simp; omega, by omega, fun hp => ?_, fun p hp => hws p (List.mem_of_mem_take hp)⟩
      have hl0 : 0 < ss.length := by simp at hp; omega
      refine ⟨x, rfl, ?_, fun j hj => ?_⟩
      · have h2 := World.block_lt_of_cell? W _ (hcell 0 hl0)
        rwa [IRow.block_add] at h2
      · have hj' : j < ss.length := by simp at hj; omega
        rw [hcell j hj']
        simp [List.getD, hj']
  clear hA0 hval0
  refine (walk a0 len0 cap0 zs W hn hm hI).mono fun e W' ⟨he, bel⟩ => ?_
  subst he
  exact ⟨_, rfl, _, _, _, [], _, [], hW', trodAll_mk1 (shut_bool Try.underlying4 _), (trodAll_cons_mk (Below.trod laidOut (by kernel_rfl) (of_decide_eq_true (by kernel_rfl)) k0 bel lt0) trodAll_mk0), rfl, bel.frame _, fun h => by cases h⟩

theorem over : Rows.fnExactAddAmountsRow.holds Try.pinned (OpenSpec.ofChange Rows.fnExactAddAmountsSpec) :=
  OpenClaim.holds_of_wide 4 Try.f4 rfl rfl rfl rfl rfl rfl rfl ⟨rfl, rfl, rfl, rfl, rfl⟩ rfl rfl rfl rfl rfl (by kernel_rfl) Try.func4 (by kernel_rfl)
    (of_decide_eq_true (by kernel_rfl)) (by unfold Func.isWrapper; first | (rw [if_pos (by decide +kernel)]; kernel_rfl) | (rw [if_neg (by decide +kernel)]; exact ⟨rfl, rfl⟩))
    (fun os started H enc _ => lifted os started H enc)

theorem proved : Rows.FnExactAddAmountsSaid :=
  over
end Go.Proofs.Ythobejaiapdanaa.fnExactAddAmounts
