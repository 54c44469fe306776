/-
  The law FnExactJoinStrings returns true at every input, and its arguments read afterwards as before. No condition.
-/
import Derived.Test.YtokikbfhjhppmaaJoinRes
import Derived.Test.YtokikbfhjhppmaaRowTo
import Derived.Test.YtokikbfhjhppmaaRowEq
import Derived.OpenShut
import Derived.ShutString
import Derived.SliceStrings
import Derived.Carry
namespace Go.Proofs.Ytokikbfhjhppmaa.fnExactJoinStrings
open Go.ChangeShapes Go.WideShapes Go.ChangeAt Go.RowKit
open Go.ChangeMaps (open_string shut_string)
open Go.Proofs.Ytokikbfhjhppmaa.Plain Go.Proofs.Ytokikbfhjhppmaa.Seal Go.Proofs.Ytokikbfhjhppmaa.Row Go.Proofs.Ytokikbfhjhppmaa.Join
set_option linter.unusedVariables false

theorem own : ownKnob Try.prog.godebug = none := by kernel_rfl
theorem laidOut : laidOutB Try.prog = true := by kernel_rfl

theorem szBig (A : Option Addr) (n cap : Nat) (ss : List ByteArray) (h : 1048576 < sizes ss + ss.length) (w : World) (B : Nat) (hn : n = ss.length) (hm : n ≤ maxLen) (hA : Is w B A ss) (hs : ∀ p ∈ ss, p.size ≤ maxLen) :
    Calls Try.prog 21 #[.slice A n cap, .int .i64 1048576] w fun e w' => e = .returned (.int .i64 (-1)) ∧ w = w' :=
  (sz A n cap ss w B hn hm hA hs).mono fun e w' ⟨hw, hh⟩ => by
    rcases hh with ⟨h2, _⟩ | ⟨_, rfl⟩
    · omega
    · exact ⟨rfl, hw⟩

theorem szOk (A : Option Addr) (n cap : Nat) (ss : List ByteArray) (h : sizes ss + ss.length ≤ 1048576) (w : World) (B : Nat) (hn : n = ss.length) (hm : n ≤ maxLen) (hA : Is w B A ss) (hs : ∀ p ∈ ss, p.size ≤ maxLen) :
    Calls Try.prog 21 #[.slice A n cap, .int .i64 1048576] w fun e w' => ∃ r : Nat, e = .returned (.int .i64 (r : Int)) ∧ w = w' :=
  (sz A n cap ss w B hn hm hA hs).mono fun e w' ⟨hw, hh⟩ => by
    rcases hh with ⟨_, rfl⟩ | ⟨h2, _⟩
    · exact ⟨1048576 - (sizes ss + ss.length), by congr 2; omega, hw⟩
    · omega

theorem size_le {ss : List ByteArray} {p : ByteArray} (hp : p ∈ ss) : p.size ≤ sizes ss := by
  induction ss with
  | nil => simp at hp
  | cons q r ih =>
    have h1 : sizes (q :: r) = q.size + sizes r := by simp [sizes]
    rcases List.mem_cons.1 hp with rfl | hp
    · omega
    · have := ih hp; omega

set_option maxHeartbeats 1000000 in
theorem walk (A : Option Addr) (n cap : Nat) (ss : List ByteArray) (sep : ByteArray) (w : World) (hn : n = ss.length) (hm : n ≤ maxLen) (hA : Is w w.heap.size A ss) (hs : ∀ p ∈ ss, p.size ≤ maxLen) (hq : sep.size ≤ maxLen) :
    Calls Try.prog 5 #[.slice A n cap, .string sep] w fun e w' => e = .returned (.bool true) ∧ Below w.heap.size w w' := by
  have hq' := hq
  unfold maxLen at hq'
  have HN := Lib.hid hn
  have HM := Lib.hid hm
  by_cases h1 : 1048576 < sep.size
  · clear hn hm
    go_enter Try.func5, Try.ntmps5
    go_wp2_with fail
    go_ret
    exact ⟨rfl, Below.refl _ _⟩
  · by_cases h2 : 1048576 < sizes ss + ss.length
    · have H2 := Lib.hid h2
      clear hn hm h2
      go_enter Try.func5, Try.ntmps5
      go_wp2_with (go_at_call 21; refine (szBig A n cap ss H2.out _ w.heap.size HN.out HM.out hA hs).mono ?_; rintro e w' ⟨rfl, rfl⟩)
      go_ret
      exact ⟨rfl, Below.refl _ _⟩
    · have H2 : Hid (sizes ss + ss.length ≤ 1048576) := Lib.hid (by omega)
      have hn6 : n ≤ 1048576 := by omega
      have HS : Hid (∀ p ∈ ss, p.size ≤ 1048576) := Lib.hid (fun p hp => by have := size_le hp; omega)
      obtain ⟨R, f, hr⟩ := res_is ss sep
      have HR := Lib.hid hr
      have HA := Lib.hid hA
      have HQ : Hid (sep.size ≤ 1048576) := Lib.hid (by omega)
      have HSZ := Lib.hid hs
      clear hn hm h2 hr hA hs
      go_enter Try.func5, Try.ntmps5
      go_wp2_with (go_at_call 21; refine (szOk A n cap ss H2.out _ w.heap.size HN.out HM.out HA.out HSZ.out).mono ?_; rintro e w' ⟨r, rfl, rfl⟩; refine Hid.out ?_)
      refine Lib.hid ?_
      have hr0 : (0 : Int) ≤ (r : Int) := by omega
      go_wp2_with (go_at_call 22; refine (toS A n cap ss w HN.out hn6 HA.out).mono ?_; rintro e w1 ⟨rfl, hown1, hb1⟩; refine Hid.out ?_)
      refine Lib.hid ?_
      have I1 := Lib.hid (Is.of_own hown1 HN.out)
      clear hown1
      go_wp2_with (go_at_call 13; refine (specRes _ n n w1.heap.size ss sep R f HR.out w1 HN.out hn6 I1.out HS.out HQ.out).mono ?_; rintro e w2 ⟨rfl, m, rfl⟩; refine Hid.out ?_)
      refine Lib.hid ?_
      have hb2 : Below w.heap.size w (w1.drewN m) := below_drewN hb1 m
      have I2 : Hid (Is (w1.drewN m) (w1.drewN m).heap.size A ss) := Lib.hid ((HA.out.below hb2).more hb2.size)
      go_wp2_with (go_at_call 22; refine (toS A n cap ss (w1.drewN m) HN.out hn6 I2.out).mono ?_; rintro e w3 ⟨rfl, hown3, hb3⟩; refine Hid.out ?_)
      refine Lib.hid ?_
      have I3 := Lib.hid (Is.of_own hown3 HN.out)
      clear hown3
      have hb3' : Below w.heap.size w w3 := hb2.trans (hb3.mono hb2.size)
      go_wp2_with (go_at_call 12; refine (implRes _ n n ss sep R f HR.out w3 HN.out hn6 I3.out HS.out HQ.out).mono ?_; rintro e w4 ⟨rfl, hb4⟩; refine Hid.out ?_)
      refine Lib.hid ?_
      have hb4' : Below w.heap.size w w4 := hb3'.trans (hb4.mono hb3'.size)
      have I4 : Hid (Is w4 w4.heap.size A ss) := Lib.hid ((HA.out.below hb4').more hb4'.size)
      have J4 : Hid (Is w4 w4.heap.size _ ss) := Lib.hid ((I3.out.below hb4).more hb4.size)
      go_wp2_with (go_at_call 22; refine (toS A n cap ss w4 HN.out hn6 I4.out).mono ?_; rintro e w5 ⟨rfl, hown5, hb5⟩; refine Hid.out ?_)
      refine Lib.hid ?_
      have I5 := Lib.hid (Is.of_own hown5 HN.out)
      have J5 := Lib.hid ((J4.out.below hb5).more hb5.size)
      clear hown5
      go_wp2_with (go_at_call 18; refine (eqS _ _ n n n w5.heap.size ss w5 HN.out (by omega) J5.out I5.out).mono ?_; rintro e w6 ⟨rfl, q, rfl⟩)
      go_ret
      exact ⟨rfl, below_drewN (hb4'.trans (hb5.mono hb4'.size)) q⟩

set_option maxRecDepth 100000 in
theorem lifted (os : Os) (started : os.Started) (H : Type) (enc : TypeId × Value → H) :
    ReturnsInHanded {} Try.checked os 5 .any (Rows.fnExactJoinStringsSpec.pre6 enc Try.prog Try.f5 Rows.fnExactJoinStringsRow.domain false) (Rows.fnExactJoinStringsSpec.post enc Try.prog Try.f5 false true false false) := by
  refine returnsInHanded_of_change (C := Try.checked) own started (by kernel_rfl) Try.func5
    (ChangeSpec.witness6 (enc := enc) (C := Try.checked) false ⟨#[], #[.slice none 0 0, .string ByteArray.empty], []⟩ 8 (by kernel_rfl) (by kernel_rfl) (by kernel_rfl) (by kernel_rfl)) ?_
  intro W base args ds gs before hval0 hW hcnd _
  have hval : ∀ (j : Nat) t v, Try.f5.params[j]? = some t → args[j]? = some v → Value.okWide Try.prog W .any base t v := hval0
  have hW' := hW
  obtain ⟨p, q, hA0, hV, rfl, hfz, hnd⟩ := hW
  have hA : DataW.TrodAll enc Try.prog W 0 (fun _ => true) true Try.f5.params.toList args.toList ds p := hA0
  rw [Try.params5] at hA hval
  obtain ⟨v0, vs0, d0, ds0, p0, q0, hargs, rfl, rfl, h0, r0⟩ := trodAll_cons hA
  obtain ⟨v1, vs1, d1, ds1, p1, q1, rfl, rfl, rfl, h1, r1⟩ := trodAll_cons r0
  obtain ⟨rfl, rfl, rfl⟩ := trodAll_nil r1
  obtain rfl : args = #[v0, v1] := by cases args; simp_all
  obtain ⟨rfl, rfl⟩ := trodVars_none hV
  obtain ⟨a0, len0, cap0, rfl⟩ := okWide_slice Try.underlying26 (hval 0 26 v0 rfl rfl)
  obtain ⟨s1, rfl, rfl, rfl, w1⟩ := open_string Try.underlying9 (hval 1 9 v1 rfl rfl) h1
  have k0 := h0
  have lt0 : ∀ x ∈ p0, x.block < W.heap.size := by obtain ⟨m, hm⟩ := k0; exact DataW.trod_lt m _ _ _ hm
  obtain ⟨ss, hn, hm, hI, hs⟩ : ∃ ss : List ByteArray, len0 = ss.length ∧ len0 ≤ maxLen ∧ Is W W.heap.size a0 ss ∧ ∀ p ∈ ss, p.size ≤ maxLen := by
    obtain ⟨fuel, hf⟩ := h0
    rcases open_strings Try.underlying26 Try.underlying9 (by kernel_rfl) hf with ⟨hcs, _⟩ | ⟨x, l, c, ss, hcs, _, hl, hm, hz, _, hcell, hws⟩
    · simp [Value.cells] at hcs
      obtain ⟨rfl, rfl, rfl⟩ := hcs
      exact ⟨[], rfl, by unfold maxLen; omega, fun h => by simp at h, fun p hp => by simp at hp⟩
    · simp [Value.cells] at hcs
      obtain ⟨rfl, rfl, rfl⟩ := hcs
      have hz' : ss.length = cap0 := by simpa using hz
      refine ⟨ss.take len0, by simp; omega, by omega, fun hp => ?_, fun p hp => hws p (List.mem_of_mem_take hp)⟩
      have hl0 : 0 < ss.length := by simp at hp; omega
      refine ⟨x, rfl, ?_, fun j hj => ?_⟩
      · have h2 := World.block_lt_of_cell? W _ (hcell 0 hl0)
        rwa [Row.block_add] at h2
      · have hj' : j < ss.length := by simp at hj; omega
        rw [hcell j hj']
        simp [List.getD, hj']
  clear hA0 hval0
  refine (walk a0 len0 cap0 ss s1 W hn hm hI hs w1).mono fun e W' ⟨he, bel⟩ => ?_
  subst he
  exact ⟨_, rfl, _, _, _, [], _, [], hW', trodAll_mk1 (shut_bool Try.underlying4 _), (trodAll_cons_mk (Below.trod laidOut (by kernel_rfl) (of_decide_eq_true (by kernel_rfl)) k0 bel lt0) (trodAll_cons_mk (shut_string Try.underlying9 w1) trodAll_mk0)), rfl, bel.frame _, fun h => by cases h⟩

theorem over : Rows.fnExactJoinStringsRow.holds Try.pinned (OpenSpec.ofChange Rows.fnExactJoinStringsSpec) :=
  OpenClaim.holds_of_wide 5 Try.f5 rfl rfl rfl rfl rfl rfl rfl ⟨rfl, rfl, rfl, rfl, rfl⟩ rfl rfl rfl rfl rfl (by kernel_rfl) Try.func5 (by kernel_rfl)
    (of_decide_eq_true (by kernel_rfl)) (by unfold Func.isWrapper; first | (rw [if_pos (by decide +kernel)]; kernel_rfl) | (rw [if_neg (by decide +kernel)]; exact ⟨rfl, rfl⟩))
    (fun os started H enc _ => lifted os started H enc)

theorem proved : Rows.FnExactJoinStringsSaid :=
  over
end Go.Proofs.Ytokikbfhjhppmaa.fnExactJoinStrings
