/-
  The law FnExactSplitString returns true at every input, and its arguments read afterwards as before. No condition.
-/
import Derived.Test.YtokikbfhjhppmaaSplitRes
import Derived.Test.YtokikbfhjhppmaaMarkRow
import Derived.Test.YtokikbfhjhppmaaRowEq
import Derived.WalkKit
import Derived.ProofKit
import Derived.OpenShut
import Derived.ShutString
namespace Go.Proofs.Ytokikbfhjhppmaa.fnExactSplitString
open Go.ChangeShapes Go.WideShapes Go.ChangeAt Go.RowKit
open Go.ChangeMaps (open_string shut_string)
open Go.Proofs.Ytokikbfhjhppmaa.Plain Go.Proofs.Ytokikbfhjhppmaa.Row Go.Proofs.Ytokikbfhjhppmaa.SplitRes Go.Proofs.Ytokikbfhjhppmaa.SplitImpl Go.Proofs.Ytokikbfhjhppmaa.Mark
set_option linter.unusedVariables false

theorem own : ownKnob Try.prog.godebug = none := by kernel_rfl

set_option maxHeartbeats 2000000 in
theorem walk (s sep : ByteArray) (w0 : s.size ≤ maxLen) (w1 : sep.size ≤ maxLen) (w : World) :
    Calls Try.prog 4 #[.string s, .string sep] w fun e w' => e = .returned (.bool true) ∧ Below w.heap.size w w' := by
  have W0 := Lib.hid w0
  have W1 := Lib.hid w1
  unfold maxLen at w0 w1
  by_cases h1 : 1048576 < s.size
  · go_enter Try.func4, Try.ntmps4
    go_wp2
    go_ret
    exact ⟨rfl, Below.refl _ _⟩
  · by_cases h2 : 1048576 < sep.size
    · go_enter Try.func4, Try.ntmps4
      go_wp2
      go_ret
      exact ⟨rfl, Below.refl _ _⟩
    · obtain ⟨ss, f, ho⟩ := out_is s sep
      have HO := Lib.hid ho
      have hl := ho.len
      obtain ⟨n, hn⟩ : ∃ n, n = ss.length := ⟨_, rfl⟩
      rw [← hn] at hl
      have HN := Lib.hid hn
      clear ho hn
      have hbf : (f != f) = false := by cases f <;> rfl
      go_enter Try.func4, Try.ntmps4
      go_wp2_with (go_at_call 17; refine (specRes s sep ss f HO.out w W0.out W1.out).mono ?_; rintro e wA ⟨AW, cw, rfl, ownW, bA⟩; refine Hid.out ?_)
      refine Lib.hid ?_
      rw [← HN.out] at ownW ⊢
      have IW := Lib.hid (Is.of_own ownW HN.out)
      clear ownW
      go_wp2_with (go_at_call 10; refine (implRes s sep ss f HO.out wA W0.out W1.out).mono ?_; rintro e wB ⟨AG, cg, rfl, ownG, bB⟩; refine Hid.out ?_)
      refine Lib.hid ?_
      rw [← HN.out] at ownG ⊢
      have IG := Lib.hid (Is.of_own ownG HN.out)
      have IWB : Hid (Is wB wB.heap.size AW ss) := Lib.hid ((IW.out.below bB).more bB.size)
      have bB' : Below w.heap.size w wB := bA.trans (bB.mono bA.size)
      go_wp2_with (go_at_call 18; refine (eqS AG AW n cg cw wB.heap.size ss wB HN.out (by omega) IG.out IWB.out).mono ?_; rintro e wC ⟨rfl, m, rfl⟩; refine Hid.out ?_)
      refine Lib.hid ?_
      have bC : Below wA.heap.size wA (wB.drewN m) := below_drewN bB m
      have ownC : (wB.drewN m).ownsRow wA.heap.size 9 1 (.slice AG n cg) n (ss.map Value.string) := own_below ownG (below_drewN (Below.refl _ _) m)
      generalize wB.drewN m = wC at *
      clear ownG IG IWB bB' bB
      have sC := bC.size
      go_wp2_with (go_at_call 19; refine (markRow AG n cg wA.heap.size _ wC (by omega) sC ownC).mono ?_; rintro e wD ⟨rfl, ⟨ys, ownD, mk⟩, bD⟩; refine Hid.out ?_)
      refine Lib.hid ?_
      have MK := Lib.hid mk
      clear mk ownC
      have bD' : Below wA.heap.size wA wD := bC.trans bD
      clear bC bD sC
      go_wp2_with (go_at_call 20; refine (heldRow AG n cg wA.heap.size ys wD (by omega) ownD MK.out).mono ?_; rintro e wE ⟨rfl, bE⟩; refine Hid.out ?_)
      refine Lib.hid ?_
      have ownE := own_below ownD bE
      have bE' : Below wA.heap.size wA wE := bD'.trans (bE.mono bD'.size)
      clear ownD bD' bE
      go_wp2_with (go_at_call 10; refine (implRes s sep ss f HO.out wE W0.out W1.out).mono ?_; rintro e wF ⟨AK, ck, rfl, ownK, bF⟩; refine Hid.out ?_)
      refine Lib.hid ?_
      rw [← HN.out] at ownK ⊢
      have IK := Lib.hid (Is.of_own ownK HN.out)
      have bF' : Below wA.heap.size wA wF := bE'.trans (bF.mono bE'.size)
      have ownF := own_below ownE bF
      have IWF : Hid (Is wF wF.heap.size AW ss) := Lib.hid ((IW.out.below bF').more bF'.size)
      clear ownK ownE bE' bF
      go_wp2_with (go_at_call 18; refine (eqS AK AW n ck cw wF.heap.size ss wF HN.out (by omega) IK.out IWF.out).mono ?_; rintro e wG ⟨rfl, m2, rfl⟩; refine Hid.out ?_)
      refine Lib.hid ?_
      have bG : Below wA.heap.size wA (wF.drewN m2) := below_drewN bF' m2
      have ownG : (wF.drewN m2).ownsRow wA.heap.size 9 1 (.slice AG n cg) n ys := own_below ownF (below_drewN (Below.refl _ _) m2)
      generalize wF.drewN m2 = wG at *
      clear ownF IK IWF bF'
      go_wp2_with (go_at_call 20; refine (heldRow AG n cg wA.heap.size ys wG (by omega) ownG MK.out).mono ?_; rintro e wH ⟨rfl, bH⟩)
      go_ret
      exact ⟨rfl, bA.trans ((bG.trans (bH.mono bG.size)).mono bA.size)⟩

set_option maxRecDepth 100000 in
theorem lifted (os : Os) (started : os.Started) (H : Type) (enc : TypeId × Value → H) :
    ReturnsInHanded {} Try.checked os 4 .any (Rows.fnExactSplitStringSpec.pre6 enc Try.prog Try.f4 Rows.fnExactSplitStringRow.domain false) (Rows.fnExactSplitStringSpec.post enc Try.prog Try.f4 false true false false) := by
  refine returnsInHanded_of_change (C := Try.checked) own started (by kernel_rfl) Try.func4
    (ChangeSpec.witness6 (enc := enc) (C := Try.checked) false ⟨#[], #[.string ByteArray.empty, .string ByteArray.empty], []⟩ 8 (by kernel_rfl) (by kernel_rfl) (by kernel_rfl) (by kernel_rfl)) ?_
  intro W base args ds gs before hval0 hW hcnd _
  have hval : ∀ (j : Nat) t v, Try.f4.params[j]? = some t → args[j]? = some v → Value.okWide Try.prog W .any base t v := hval0
  have hW' := hW
  obtain ⟨p, q, hA0, hV, rfl, hfz, hnd⟩ := hW
  have hA : DataW.TrodAll enc Try.prog W 0 (fun _ => true) true Try.f4.params.toList args.toList ds p := hA0
  rw [Try.params4] at hA hval
  obtain ⟨v0, vs0, d0, ds0, p0, q0, hargs, rfl, rfl, h0, r0⟩ := trodAll_cons hA
  obtain ⟨v1, vs1, d1, ds1, p1, q1, rfl, rfl, rfl, h1, r1⟩ := trodAll_cons r0
  obtain ⟨rfl, rfl, rfl⟩ := trodAll_nil r1
  obtain rfl : args = #[v0, v1] := by cases args; simp_all
  obtain ⟨rfl, rfl⟩ := trodVars_none hV
  obtain ⟨a0, rfl, rfl, rfl, w0⟩ := open_string Try.underlying9 (hval 0 9 v0 rfl rfl) h0
  obtain ⟨a1, rfl, rfl, rfl, w1⟩ := open_string Try.underlying9 (hval 1 9 v1 rfl rfl) h1
  clear hA0 hval0
  simp only [List.append_nil] at hW'
  refine (walk a0 a1 w0 w1 W).mono fun e W' ⟨he, bel⟩ => ?_
  subst he
  exact ⟨_, rfl, _, _, _, [], _, [], hW', trodAll_mk1 (shut_bool Try.underlying4 _), (trodAll_cons_mk (shut_string Try.underlying9 w0) (trodAll_cons_mk (shut_string Try.underlying9 w1) trodAll_mk0)), rfl, bel.frame _, fun h => by cases h⟩

theorem over : Rows.fnExactSplitStringRow.holds Try.pinned (OpenSpec.ofChange Rows.fnExactSplitStringSpec) :=
  OpenClaim.holds_of_wide 4 Try.f4 rfl rfl rfl rfl rfl rfl rfl ⟨rfl, rfl, rfl, rfl, rfl⟩ rfl rfl rfl rfl rfl (by kernel_rfl) Try.func4 (by kernel_rfl)
    (of_decide_eq_true (by kernel_rfl)) (by unfold Func.isWrapper; first | (rw [if_pos (by decide +kernel)]; kernel_rfl) | (rw [if_neg (by decide +kernel)]; exact ⟨rfl, rfl⟩))
    (fun os started H enc _ => lifted os started H enc)

theorem proved : Rows.FnExactSplitStringSaid :=
  over
end Go.Proofs.Ytokikbfhjhppmaa.fnExactSplitString
