/-
  The walk of the law FnFractions.
-/
import Derived.Test.YthobejaiapdanaaDoorDrawFrac
import Derived.Test.YthobejaiapdanaaDoorVCut
import Derived.Test.YthobejaiapdanaaDoorFracAlg
import Derived.Test.YthobejaiapdanaaDoorCmpLaw
import Derived.Deep.DeepCutAuto
namespace Go.Proofs.YthobejaiapdanaaDoor.FracWalk
open Go.RowKit Go.Proofs.YthobejaiapdanaaDoor.Cur Go.Proofs.YthobejaiapdanaaDoor.IsFrac Go.Proofs.YthobejaiapdanaaDoor.DrawFrac Go.Proofs.YthobejaiapdanaaDoor.AddMul Go.Proofs.YthobejaiapdanaaDoor.Tz Go.Proofs.YthobejaiapdanaaDoor.Red

theorem opAt {P : Program} {f : FuncId} {args : Array Value} {V : Prop} [Decidable V] {X Y : Int} {w : World} (h : Calls P f args w (opAns V X Y w)) {rN rD : Int} {rB : Bool} (e1 : rN = opN V X Y) (e2 : rD = opD V X Y) (e3 : rB = opB V X Y) :
    Calls P f args w fun e w' => e = .returned (.tuple #[.agg #[.int .i64 rN, .int .i64 rD], .bool rB]) ∧ Below w.heap.size w w' := by
  subst e1 e2 e3; exact h

theorem named {V : Prop} [Decidable V] (X Y : Int) : ∃ N D B, N = opN V X Y ∧ D = opD V X Y ∧ B = opB V X Y := ⟨_, _, _, rfl, rfl, rfl⟩

/-- Only a given answer is a valid fraction. -/
theorem valid_given {V : Prop} [Decidable V] {X Y : Int} (h : Valid (opN V X Y) (opD V X Y)) : opB V X Y = true := by
  unfold opD at h
  unfold opB
  by_cases hv : V
  · rw [if_pos hv] at h ⊢
    unfold resB
    apply decide_eq_true
    apply Classical.byContradiction
    intro ho
    have := (res_no ho).2.1
    rw [this] at h
    exact absurd h.1.1 (by omega)
  · rw [if_neg hv] at h
    exact absurd h.1.1 (by omega)

theorem vBigNo (A : Option Addr) (n cap : Nat) (w : World) (h : n ≤ 65536) :
    Calls Tryd.prog 12 #[.slice A n cap] w fun e w' => e = .returned (.bool false) ∧ w = w' := by
  go_enter Tryd.func12, Tryd.ntmps12
  go_wp2_with fail
  go_ret
  exact ⟨by simp; omega, rfl⟩

theorem vBigYes (A : Option Addr) (n cap : Nat) (w : World) (h : 65536 < n) (hm : n ≤ maxLen) :
    Calls Tryd.prog 12 #[.slice A n cap] w fun e w' => e = .returned (.bool true) ∧ w = w' := by
  unfold maxLen at hm
  go_enter Tryd.func12, Tryd.ntmps12
  go_wp2_with fail
  go_ret
  exact ⟨by simp; omega, rfl⟩

theorem bytesBelow {w w' : World} {A : Option Addr} {n : Nat} (h : Bytes w w.heap.size A n) (hb : Below w.heap.size w w') : Bytes w' w'.heap.size A n := fun hp => by
  obtain ⟨ad, e, hlt, hc⟩ := h hp
  refine ⟨ad, e, Nat.lt_of_lt_of_le hlt hb.size, fun j hj => ?_⟩
  obtain ⟨z, hz, h0, h1⟩ := hc j hj
  exact ⟨z, (hb.cell (by rw [Cur.block_add]; exact hlt)).trans hz, h0, h1⟩

set_option maxRecDepth 100000 in
set_option maxHeartbeats 16000000 in
theorem walk (A : Option Addr) (n cap : Nat) (w : World) (hm : n ≤ maxLen) (hc : n ≤ cap) (h0 : A = none → n = 0 ∧ cap = 0) (hA : Bytes w w.heap.size A n) (hT : Tab w) :
    Calls Tryd.prog 4 #[.slice A n cap] w fun e w' => e = .returned (.bool true) ∧ Below w.heap.size w w' := by
  have HT := Lib.hid hT
  have HA := Lib.hid hA
  have HM := Lib.hid hm
  have H0 := Lib.hid h0
  clear hT hA hm h0
  by_cases hbig : 65536 < n
  · go_enter Tryd.func4, Tryd.ntmps4
    go_wp2_with (go_at_call 12; refine (vBigYes A n cap _ hbig HM.out).mono ?_; rintro e w' ⟨rfl, rfl⟩)
    go_ret
    exact ⟨rfl, Below.refl _ _⟩
  · go_enter Tryd.func4, Tryd.ntmps4
    go_wp2_with (first
      | (go_at_call 12; refine (vBigNo A n cap _ (by omega)).mono ?_; rintro e w' ⟨rfl, rfl⟩)
      | (go_at_call 20; refine (drawAdd A n cap _ (by omega) HA.out).mono ?_; rintro e w1 ⟨an, ad, bn, bd, rfl, hb1⟩; refine Hid.out ?_))
    refine Lib.hid ?_
    have B1 := Lib.hid hb1
    have BW1 : Hid (Below w.heap.size w ((w1.alloc (.cells #[.int .i64 an, .int .i64 ad] 31)).alloc (.cells #[.int .i64 bn, .int .i64 bd] 31))) := Lib.hid ((hb1.alloc hb1.size _).alloc (by have := hb1.size; simp; omega) _)
    have HA1 := Lib.hid (bytesBelow HA.out BW1.out)
    clear hb1
    go_wp2_with (go_at_call 21; refine (VCut.vCut A n cap _ (by omega) hc H0.out HA1.out).mono ?_; rintro e w2 ⟨A2, n2, cap2, rfl, hn2, hby2, hb2⟩; refine Hid.out ?_)
    refine Lib.hid ?_
    have B2 : Hid (Below w.heap.size w w2) := Lib.hid (BW1.out.trans (hb2.mono BW1.out.size))
    have OA2 := Lib.hid (((One.new w1 (.int .i64 an) (.int .i64 ad) 31).alloc (.cells #[.int .i64 bn, .int .i64 bd] 31)).below hb2)
    have OB2 : Hid (One (w1.heap.size + 1) w2 (.int .i64 bn) (.int .i64 bd)) := Lib.hid (by
      have h := (One.new (w1.alloc (.cells #[.int .i64 an, .int .i64 ad] 31)) (.int .i64 bn) (.int .i64 bd) 31).below hb2
      rw [World.size_alloc] at h; exact h)
    have HA2 := Lib.hid hby2
    clear hb2 hby2 HA1 BW1
    go_wp2_with (go_at_call 20; refine (drawAdd A2 n2 cap2 w2 (by omega) HA2.out).mono ?_; rintro e w3 ⟨cn, cd, en, ed, rfl, hb3⟩; refine Hid.out ?_)
    refine Lib.hid ?_
    have B3 : Hid (Below w.heap.size w w3) := Lib.hid (B2.out.trans (hb3.mono B2.out.size))
    have T3 := Lib.hid (Tz.Tab.below HT.out B3.out)
    have OA3 := Lib.hid (OA2.out.below hb3)
    have OB3 := Lib.hid (OB2.out.below hb3)
    clear hb3 HA2 OA2 OB2 B1 B2
    obtain ⟨sN, sD, sB, h1, h2, h3⟩ := named (V := AddMul.Both an ad bn bd) (an * bd + bn * ad) (ad * bd)
    have HsN := Lib.hid h1
    have HsD := Lib.hid h2
    have HsB := Lib.hid h3
    clear h1 h2 h3
    have HtN : Hid (sN = opN (AddMul.Both bn bd an ad) (bn * ad + an * bd) (bd * ad)) := Lib.hid (HsN.out.trans (FracAlg.op_comm an ad bn bd).1.symm)
    have HtD : Hid (sD = opD (AddMul.Both bn bd an ad) (bn * ad + an * bd) (bd * ad)) := Lib.hid (HsD.out.trans (FracAlg.op_comm an ad bn bd).2.1.symm)
    have HtB : Hid (sB = opB (AddMul.Both bn bd an ad) (bn * ad + an * bd) (bd * ad)) := Lib.hid (HsB.out.trans (FracAlg.op_comm an ad bn bd).2.2.symm)
    obtain ⟨pN, pD, pB, h1, h2, h3⟩ := named (V := AddMul.Both an ad cn cd) (an * cn) (ad * cd)
    have HpN := Lib.hid h1
    have HpD := Lib.hid h2
    have HpB := Lib.hid h3
    clear h1 h2 h3
    obtain ⟨qN, qD, qB, h1, h2, h3⟩ := named (V := AddMul.Both bn bd cn cd) (bn * cn) (bd * cd)
    have HqN := Lib.hid h1
    have HqD := Lib.hid h2
    have HqB := Lib.hid h3
    clear h1 h2 h3
    obtain ⟨rN, rD, rB, h1, h2, h3⟩ := named (V := AddMul.Both sN sD cn cd) (sN * cn) (sD * cd)
    have HrN := Lib.hid h1
    have HrD := Lib.hid h2
    have HrB := Lib.hid h3
    clear h1 h2 h3
    obtain ⟨uN, uD, uB, h1, h2, h3⟩ := named (V := AddMul.Both pN pD qN qD) (pN * qD + qN * pD) (pD * qD)
    have HuN := Lib.hid h1
    have HuD := Lib.hid h2
    have HuB := Lib.hid h3
    clear h1 h2 h3
    obtain ⟨mN, mD, mB, h1, h2, h3⟩ := named (V := AddMul.Both bn bd (-1) 1) (bn * -1) (bd * 1)
    have HmN := Lib.hid h1
    have HmD := Lib.hid h2
    have HmB := Lib.hid h3
    clear h1 h2 h3
    obtain ⟨dN, dD, dB, h1, h2, h3⟩ := named (V := AddMul.Both an ad mN mD) (an * mD + mN * ad) (ad * mD)
    have HdN := Lib.hid h1
    have HdD := Lib.hid h2
    have HdB := Lib.hid h3
    clear h1 h2 h3
    obtain ⟨x, hx⟩ : ∃ x, x = Compare.cmpN an ad bn bd := ⟨_, rfl⟩
    obtain ⟨cB, hcB⟩ : ∃ x, x = Compare.cmpB an ad bn bd := ⟨_, rfl⟩
    have HxN := Lib.hid hx
    have HxB := Lib.hid hcB
    clear hx hcB
    have HDI : Hid (sB = true → pB = true → qB = true → rB = true → uB = true → rN = uN ∧ rD = uD) := Lib.hid (fun h1 h2 h3 h4 h5 =>
      FracAlg.distr (FracAlg.given FracAlg.dens HsN.out HsD.out (HsB.out.symm.trans h1)) (FracAlg.given FracAlg.dens HpN.out HpD.out (HpB.out.symm.trans h2))
        (FracAlg.given FracAlg.dens HqN.out HqD.out (HqB.out.symm.trans h3)) (FracAlg.given FracAlg.dens HrN.out HrD.out (HrB.out.symm.trans h4))
        (FracAlg.given FracAlg.dens HuN.out HuD.out (HuB.out.symm.trans h5)))
    have HOR : Hid (dB = true → cB = true → (0 < dN ↔ 0 < x) ∧ (dN < 0 ↔ x < 0)) := Lib.hid (fun h1 h2 => by
      have gd := FracAlg.given FracAlg.dens HdN.out HdD.out (HdB.out.symm.trans h1)
      have hmv : Valid mN mD := gd.1.2
      have hmB : opB (AddMul.Both bn bd (-1) 1) (bn * -1) (bd * 1) = true := valid_given (by rw [← HmN.out, ← HmD.out]; exact hmv)
      have gm := FracAlg.given FracAlg.dens HmN.out HmD.out hmB
      have hb : Compare.Both an ad bn bd := by have := HxB.out.symm.trans h2; unfold Compare.cmpB at this; exact of_decide_eq_true this
      have hx : x = Compare.sign an ad bn bd := by rw [HxN.out]; unfold Compare.cmpN; rw [if_pos hb]
      rw [hx]; exact FracAlg.order gm gd)
    obtain ⟨lA3, cA03, cA13, _, _⟩ := OA3.out
    have lA3x : w1.heap.size < w3.heap.size + 1 := by omega
    obtain ⟨lB3, cB03, cB13, _, _⟩ := OB3.out
    have lB3x : w1.heap.size + 1 < w3.heap.size + 1 := by omega
    go_wp2_with (go_at_call 22; refine (opAt (implAdd an ad bn bd _ (Frac.Tab.alloc (Frac.Tab.alloc T3.out _) _)) HsN.out HsD.out HsB.out).mono ?_; rintro e w4 ⟨rfl, hw⟩; refine Hid.out ?_)
    refine Lib.hid ?_
    have B4 : Hid (Below w.heap.size w w4) := Lib.hid (((B3.out.alloc B3.out.size _).alloc (by have := B3.out.size; simp; omega) _).trans (hw.mono (by have := B3.out.size; simp; omega)))
    have OA4 := Lib.hid (((OA3.out.alloc _).alloc _).below hw)
    have OB4 := Lib.hid (((OB3.out.alloc _).alloc _).below hw)
    have OC4 := Lib.hid (((One.new w3 (.int .i64 cn) (.int .i64 cd) 31).alloc (.cells #[.int .i64 en, .int .i64 ed] 31)).below hw)
    have T4 := Lib.hid (Tz.Tab.below HT.out B4.out)
    clear OA3 OB3 B3 T3 hw cA03 cA13 lA3 lA3x cB03 cB13 lB3 lB3x
    obtain ⟨lA4, cA04, cA14, _, _⟩ := OA4.out
    obtain ⟨lB4, cB04, cB14, _, _⟩ := OB4.out
    go_wp2_with (go_at_call 22; refine (opAt (implAdd bn bd an ad _ (Frac.Tab.alloc T4.out _)) HtN.out HtD.out HtB.out).mono ?_; rintro e w5 ⟨rfl, hw⟩; refine Hid.out ?_)
    refine Lib.hid ?_
    have B5 : Hid (Below w.heap.size w w5) := Lib.hid ((B4.out.alloc B4.out.size _).trans (hw.mono (by have := B4.out.size; simp; omega)))
    have OA5 := Lib.hid ((OA4.out.alloc _).below hw)
    have OB5 := Lib.hid ((OB4.out.alloc _).below hw)
    have OC5 := Lib.hid ((OC4.out.alloc _).below hw)
    have OS5 := Lib.hid ((One.new w4 (.int .i64 sN) (.int .i64 sD) 31).below hw)
    have T5 := Lib.hid (Tz.Tab.below HT.out B5.out)
    clear OA4 OB4 OC4 B4 T4 hw cA04 cA14 lA4 cB04 cB14 lB4
    obtain ⟨lA5, cA05, cA15, _, _⟩ := OA5.out
    obtain ⟨lB5, cB05, cB15, _, _⟩ := OB5.out
    go_wp2_with (go_at_call 23; refine (opAt (specAdd an ad bn bd _) HsN.out HsD.out HsB.out).mono ?_; rintro e w6 ⟨rfl, hw⟩; refine Hid.out ?_)
    refine Lib.hid ?_
    have B6 : Hid (Below w.heap.size w w6) := Lib.hid ((B5.out.alloc B5.out.size _).trans (hw.mono (by have := B5.out.size; simp; omega)))
    have OA6 := Lib.hid ((OA5.out.alloc _).below hw)
    have OB6 := Lib.hid ((OB5.out.alloc _).below hw)
    have OC6 := Lib.hid ((OC5.out.alloc _).below hw)
    have OS6 := Lib.hid ((OS5.out.alloc _).below hw)
    have OT6 := Lib.hid ((One.new w5 (.int .i64 sN) (.int .i64 sD) 31).below hw)
    have T6 := Lib.hid (Tz.Tab.below HT.out B6.out)
    clear OA5 OB5 OC5 OS5 B5 T5 hw cA05 cA15 lA5 cB05 cB15 lB5
    obtain ⟨lS6, cS06, cS16, _, _⟩ := OS6.out
    obtain ⟨lT6, cT06, cT16, _, _⟩ := OT6.out
    obtain ⟨lA6, cA06, cA16, _, _⟩ := OA6.out
    obtain ⟨lC6, cC06, cC16, _, _⟩ := OC6.out
    go_wp2_with (go_at_call 24; refine (opAt (implMultiply an ad cn cd _ (Frac.Tab.alloc T6.out _)) HpN.out HpD.out HpB.out).mono ?_; rintro e w7 ⟨rfl, hw⟩; refine Hid.out ?_)
    refine Lib.hid ?_
    have B7 : Hid (Below w.heap.size w w7) := Lib.hid ((B6.out.alloc B6.out.size _).trans (hw.mono (by have := B6.out.size; simp; omega)))
    have OA7 := Lib.hid ((OA6.out.alloc _).below hw)
    have OB7 := Lib.hid ((OB6.out.alloc _).below hw)
    have OC7 := Lib.hid ((OC6.out.alloc _).below hw)
    have OS7 := Lib.hid ((OS6.out.alloc _).below hw)
    have OT7 := Lib.hid ((OT6.out.alloc _).below hw)
    have OX7 := Lib.hid ((One.new w6 (.int .i64 sN) (.int .i64 sD) 31).below hw)
    have T7 := Lib.hid (Tz.Tab.below HT.out B7.out)
    clear OA6 OB6 OC6 OS6 OT6 B6 T6 hw cS06 cS16 lS6 cT06 cT16 lT6 cA06 cA16 lA6 cC06 cC16 lC6
    obtain ⟨lB7, cB07, cB17, _, _⟩ := OB7.out
    obtain ⟨lC7, cC07, cC17, _, _⟩ := OC7.out
    go_wp2_with (go_at_call 24; refine (opAt (implMultiply bn bd cn cd _ (Frac.Tab.alloc T7.out _)) HqN.out HqD.out HqB.out).mono ?_; rintro e w8 ⟨rfl, hw⟩; refine Hid.out ?_)
    refine Lib.hid ?_
    have B8 : Hid (Below w.heap.size w w8) := Lib.hid ((B7.out.alloc B7.out.size _).trans (hw.mono (by have := B7.out.size; simp; omega)))
    have OA8 := Lib.hid ((OA7.out.alloc _).below hw)
    have OB8 := Lib.hid ((OB7.out.alloc _).below hw)
    have OC8 := Lib.hid ((OC7.out.alloc _).below hw)
    have OS8 := Lib.hid ((OS7.out.alloc _).below hw)
    have OP8 := Lib.hid ((One.new w7 (.int .i64 pN) (.int .i64 pD) 31).below hw)
    have T8 := Lib.hid (Tz.Tab.below HT.out B8.out)
    clear OA7 OB7 OC7 OS7 B7 T7 hw cB07 cB17 lB7 cC07 cC17 lC7
    obtain ⟨lS8, cS08, cS18, _, _⟩ := OS8.out
    obtain ⟨lC8, cC08, cC18, _, _⟩ := OC8.out
    go_wp2_with (go_at_call 24; refine (opAt (implMultiply sN sD cn cd _ (Frac.Tab.alloc T8.out _)) HrN.out HrD.out HrB.out).mono ?_; rintro e w9 ⟨rfl, hw⟩; refine Hid.out ?_)
    refine Lib.hid ?_
    have B9 : Hid (Below w.heap.size w w9) := Lib.hid ((B8.out.alloc B8.out.size _).trans (hw.mono (by have := B8.out.size; simp; omega)))
    have OA9 := Lib.hid ((OA8.out.alloc _).below hw)
    have OB9 := Lib.hid ((OB8.out.alloc _).below hw)
    have OC9 := Lib.hid ((OC8.out.alloc _).below hw)
    have OS9 := Lib.hid ((OS8.out.alloc _).below hw)
    have OP9 := Lib.hid ((OP8.out.alloc _).below hw)
    have OQ9 := Lib.hid ((One.new w8 (.int .i64 qN) (.int .i64 qD) 31).below hw)
    have T9 := Lib.hid (Tz.Tab.below HT.out B9.out)
    clear OA8 OB8 OC8 OS8 OP8 B8 T8 hw cS08 cS18 lS8 cC08 cC18 lC8
    obtain ⟨lP9, cP09, cP19, _, _⟩ := OP9.out
    obtain ⟨lQ9, cQ09, cQ19, _, _⟩ := OQ9.out
    go_wp2_with (go_at_call 22; refine (opAt (implAdd pN pD qN qD _ (Frac.Tab.alloc T9.out _)) HuN.out HuD.out HuB.out).mono ?_; rintro e w10 ⟨rfl, hw⟩; refine Hid.out ?_)
    refine Lib.hid ?_
    have B10 : Hid (Below w.heap.size w w10) := Lib.hid ((B9.out.alloc B9.out.size _).trans (hw.mono (by have := B9.out.size; simp; omega)))
    have OA10 := Lib.hid ((OA9.out.alloc _).below hw)
    have OB10 := Lib.hid ((OB9.out.alloc _).below hw)
    have OP10 := Lib.hid ((OP9.out.alloc _).below hw)
    have OQ10 := Lib.hid ((OQ9.out.alloc _).below hw)
    have OR10 := Lib.hid ((One.new w9 (.int .i64 rN) (.int .i64 rD) 31).below hw)
    have T10 := Lib.hid (Tz.Tab.below HT.out B10.out)
    clear OA9 OB9 OP9 OQ9 B9 T9 hw cP09 cP19 lP9 cQ09 cQ19 lQ9
    obtain ⟨lR10, cR010, cR110, _, _⟩ := OR10.out
    go_upto_region 14 with fail
    go_cut [112] (fun s wx => s = .bool false ∧ wx = w10.alloc (.cells #[.int .i64 uN, .int .i64 uD] 31))
    case first =>
      cases sB with
      | false => (go_wp2_with fail; go_meet; exact ⟨rfl, rfl⟩)
      | true =>
        cases pB with
        | false => (go_wp2_with fail; go_meet; exact ⟨rfl, rfl⟩)
        | true =>
          cases qB with
          | false => (go_wp2_with fail; go_meet; exact ⟨rfl, rfl⟩)
          | true =>
            cases rB with
            | false => (go_wp2_with fail; go_meet; exact ⟨rfl, rfl⟩)
            | true =>
              cases uB with
              | false => (go_wp2_with fail; go_meet; exact ⟨rfl, rfl⟩)
              | true =>
                obtain ⟨e1, e2⟩ := HDI.out rfl rfl rfl rfl rfl
                have q1 : (rN == uN) = true := by simpa using e1
                have q2 : (rD == uD) = true := by simpa using e2
                clear e1 e2
                go_wp2_with fail
                all_goals go_meet
                all_goals exact ⟨by first | rfl | simp_all, rfl⟩
    case rest =>
      obtain ⟨rfl, rfl⟩ := hcut
      clear HDI cR010 cR110 lR10
      obtain ⟨lB10, cB010, cB110, _, _⟩ := OB10.out
      go_wp2_with (go_at_call 24; refine (opAt (implMultiply bn bd (-1) 1 _ (Frac.Tab.alloc T10.out _)) HmN.out HmD.out HmB.out).mono ?_; rintro e w11 ⟨rfl, hw⟩; refine Hid.out ?_)
      refine Lib.hid ?_
      have B11 : Hid (Below w.heap.size w w11) := Lib.hid ((B10.out.alloc B10.out.size _).trans (hw.mono (by have := B10.out.size; simp; omega)))
      have OA11 := Lib.hid ((OA10.out.alloc _).below hw)
      have OB11 := Lib.hid ((OB10.out.alloc _).below hw)
      have OU11 := Lib.hid ((One.new w10 (.int .i64 uN) (.int .i64 uD) 31).below hw)
      have T11 := Lib.hid (Tz.Tab.below HT.out B11.out)
      clear OA10 OB10 B10 T10 hw cB010 cB110 lB10
      obtain ⟨lA11, cA011, cA111, _, _⟩ := OA11.out
      go_wp2_with (go_at_call 22; refine (opAt (implAdd an ad mN mD _ (Frac.Tab.alloc T11.out _)) HdN.out HdD.out HdB.out).mono ?_; rintro e w12 ⟨rfl, hw⟩; refine Hid.out ?_)
      refine Lib.hid ?_
      have B12 : Hid (Below w.heap.size w w12) := Lib.hid ((B11.out.alloc B11.out.size _).trans (hw.mono (by have := B11.out.size; simp; omega)))
      have OA12 := Lib.hid ((OA11.out.alloc _).below hw)
      have OB12 := Lib.hid ((OB11.out.alloc _).below hw)
      have OM12 := Lib.hid ((One.new w11 (.int .i64 mN) (.int .i64 mD) 31).below hw)
      have T12 := Lib.hid (Tz.Tab.below HT.out B12.out)
      clear OA11 OB11 B11 T11 hw cA011 cA111 lA11
      obtain ⟨lA12, cA012, cA112, _, _⟩ := OA12.out
      obtain ⟨lB12, cB012, cB112, _, _⟩ := OB12.out
      go_wp2_with (go_at_call 25; refine (CmpLaw.cmpAt (Compare.impl an ad bn bd _ (Frac.Tab.alloc T12.out _)) HxN.out HxB.out).mono ?_; rintro e w13 ⟨rfl, hw⟩; refine Hid.out ?_)
      refine Lib.hid ?_
      have B13 : Hid (Below w.heap.size w w13) := Lib.hid ((B12.out.alloc B12.out.size _).trans (hw.mono (by have := B12.out.size; simp; omega)))
      have OA13 := Lib.hid ((OA12.out.alloc _).below hw)
      have OB13 := Lib.hid ((OB12.out.alloc _).below hw)
      have OD13 := Lib.hid ((One.new w12 (.int .i64 dN) (.int .i64 dD) 31).below hw)
      have T13 := Lib.hid (Tz.Tab.below HT.out B13.out)
      clear OA12 OB12 B12 T12 hw cA012 cA112 lA12 cB012 cB112 lB12
      obtain ⟨lD13, cD013, cD113, _, _⟩ := OD13.out
      cases dB with
      | false => (go_wp2_with fail; go_ret; exact ⟨rfl, B13.out⟩)
      | true =>
        cases cB with
        | false => (go_wp2_with fail; go_ret; exact ⟨rfl, B13.out⟩)
        | true =>
          obtain ⟨o1, o2⟩ := HOR.out rfl rfl
          clear HOR
          by_cases h1 : 0 < dN
          · have h2 := o1.1 h1
            have h3 : ¬ dN < 0 := by omega
            have h4 : ¬ x < 0 := by omega
            clear o1 o2
            go_wp2_with fail
            go_ret
            exact ⟨by simp <;> omega, B13.out⟩
          · have h2 : ¬ 0 < x := fun h => h1 (o1.2 h)
            by_cases h3 : dN < 0
            · have h4 := o2.1 h3
              clear o1 o2
              go_wp2_with fail
              go_ret
              exact ⟨by simp <;> omega, B13.out⟩
            · have h4 : ¬ x < 0 := fun h => h3 (o2.2 h)
              clear o1 o2
              go_wp2_with fail
              go_ret
              exact ⟨by simp <;> omega, B13.out⟩

end Go.Proofs.YthobejaiapdanaaDoor.FracWalk
