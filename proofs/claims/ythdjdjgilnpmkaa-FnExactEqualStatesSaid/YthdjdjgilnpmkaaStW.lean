/-
  The walk of the law FnExactEqualStates.
-/
import Derived.Test.YthdjdjgilnpmkaaStE
import Derived.Test.YthdjdjgilnpmkaaStT
import Derived.Deep.RegionHeld3
namespace Go.Proofs.Ythdjdjgilnpmkaa.StW
open Go.RowKit Go.Proofs.Ythdjdjgilnpmkaa.Cond Go.Proofs.Ythdjdjgilnpmkaa.Gx Go.Proofs.Ythdjdjgilnpmkaa.Cl Go.Proofs.Ythdjdjgilnpmkaa.Dt Go.Proofs.Ythdjdjgilnpmkaa.Sta
set_option linter.unusedVariables false
set_option linter.unusedSimpArgs false

set_option maxRecDepth 100000 in
set_option maxHeartbeats 16000000 in
theorem walk (x0 x1 : S) (w : World) (hin0 : LiS w w.heap.size x0) (hin1 : LiS w w.heap.size x1) :
    Calls Try.prog 3 #[x0.val, x1.val] w fun e w' => e = .returned (.bool true) ∧ Below w.heap.size w w' := by
  obtain ⟨t, ht⟩ := t_dec x0.st x1.st
  have HX := Lib.hid ht
  clear ht
  obtain ⟨w0, hw0⟩ : ∃ w0, w0 = (w.alloc (.cells #[.int .i64 x0.day, .slice x0.A1 x0.n1 x0.c1, .slice x0.A2 x0.n2 x0.c2, .slice x0.A3 x0.n3 x0.c3, .bool x0.over] 26)).alloc (.cells #[.int .i64 x1.day, .slice x1.A1 x1.n1 x1.c1, .slice x1.A2 x1.n2 x1.c2, .slice x1.A3 x1.n3 x1.c3, .bool x1.over] 26) := ⟨_, rfl⟩
  have Bz_w0 : Hid (Below w.heap.size w w0) := Lib.hid (by rw [hw0]; exact (below1 _ _).alloc (by simp) _)
  have XA_w0 : Hid (Bk w.heap.size w0 [.int .i64 x0.day, .slice x0.A1 x0.n1 x0.c1, .slice x0.A2 x0.n2 x0.c2, .slice x0.A3 x0.n3 x0.c3, .bool x0.over]) := Lib.hid (by rw [hw0]; exact (Bk.new w #[.int .i64 x0.day, .slice x0.A1 x0.n1 x0.c1, .slice x0.A2 x0.n2 x0.c2, .slice x0.A3 x0.n3 x0.c3, .bool x0.over] 26).alloc _)
  have XB_w0 : Hid (Bk (w.heap.size + 1) w0 [.int .i64 x1.day, .slice x1.A1 x1.n1 x1.c1, .slice x1.A2 x1.n2 x1.c2, .slice x1.A3 x1.n3 x1.c3, .bool x1.over]) := Lib.hid (by rw [hw0]; have := Bk.new (w.alloc (.cells #[.int .i64 x0.day, .slice x0.A1 x0.n1 x0.c1, .slice x0.A2 x0.n2 x0.c2, .slice x0.A3 x0.n3 x0.c3, .bool x0.over] 26)) #[.int .i64 x1.day, .slice x1.A1 x1.n1 x1.c1, .slice x1.A2 x1.n2 x1.c2, .slice x1.A3 x1.n3 x1.c3, .bool x1.over] 26; rw [World.size_alloc] at this; exact this)
  have HW0 := Lib.hid hw0
  have HI0 := Lib.hid hin0
  have HI1 := Lib.hid hin1
  clear hw0 hin0 hin1
  go_enter Try.func3, Try.ntmps3
  by_cases hz : 1048576 < x0.st.wt
  · have HZ := szSt x0 1048576 (by omega) w0 (HI0.out.on Bz_w0.out)
    rw [szRes, if_pos hz] at HZ
    have HZH := Lib.hid HZ
    clear HZ
    go_wp2_with (go_at_call 4; (try rw [← HW0.out]); refine HZH.out.mono ?_; rintro e wz ⟨rfl, hbz⟩)
    go_ret
    exact ⟨rfl, Bz_w0.out.trans (hbz.mono Bz_w0.out.size)⟩
  have HZ := szSt x0 1048576 (by omega) w0 (HI0.out.on Bz_w0.out)
  rw [szRes, if_neg hz] at HZ
  have HLE0 : Hid (x0.st.wt ≤ 1048576) := Lib.hid (by omega)
  obtain ⟨m0, hm0⟩ : ∃ m, m = 1048576 - x0.st.wt := ⟨_, rfl⟩
  rw [← hm0] at HZ
  have HZH := Lib.hid HZ
  have hmb0 : m0 ≤ 1048576 := by omega
  have hmz0 : (0 : Int) ≤ (m0 : Int) := by omega
  clear HZ hm0 hz
  go_wp2_with (go_at_call 4; (try rw [← HW0.out]); refine HZH.out.mono ?_; rintro e w1 ⟨rfl, hb⟩; refine Hid.out ?_)
  refine Lib.hid ?_
  have Bz_w1 := Lib.hid (Bz_w0.out.trans (hb.mono Bz_w0.out.size))
  have Z1 : Hid (w0.heap.size ≤ w1.heap.size) := Lib.hid (hb.size)
  have XA_w1 := Lib.hid (XA_w0.out.on hb)
  have XB_w1 := Lib.hid (XB_w0.out.on hb)
  clear hb HZH
  have xbl := XB_w1.out.lt
  have xb0 := XB_w1.out.c 0 (by simp)
  have xb1 := XB_w1.out.c 1 (by simp)
  have xb2 := XB_w1.out.c 2 (by simp)
  have xb3 := XB_w1.out.c 3 (by simp)
  have xb4 := XB_w1.out.c 4 (by simp)
  simp only [List.getElem_cons_succ, List.getElem_cons_zero] at xb0 xb1 xb2 xb3 xb4
  by_cases hz : m0 < x1.st.wt
  · have HZ := szSt x1 m0 (by omega) w1 (HI1.out.on Bz_w1.out)
    rw [szRes, if_pos hz] at HZ
    have HZH := Lib.hid HZ
    clear HZ
    go_wp2_with (go_at_call 4; refine HZH.out.mono ?_; rintro e wz ⟨rfl, hbz⟩)
    go_ret
    exact ⟨rfl, Bz_w1.out.trans (hbz.mono Bz_w1.out.size)⟩
  have HZ := szSt x1 m0 (by omega) w1 (HI1.out.on Bz_w1.out)
  rw [szRes, if_neg hz] at HZ
  have HLE1 : Hid (x1.st.wt ≤ 1048576) := Lib.hid (by omega)
  obtain ⟨m1, hm1⟩ : ∃ m, m = m0 - x1.st.wt := ⟨_, rfl⟩
  rw [← hm1] at HZ
  have HZH := Lib.hid HZ
  have hmb1 : m1 ≤ 1048576 := by omega
  have hmz1 : (0 : Int) ≤ (m1 : Int) := by omega
  clear HZ hm1 hz
  go_wp2_with (go_at_call 4; refine HZH.out.mono ?_; rintro e w2 ⟨rfl, hb⟩; refine Hid.out ?_)
  refine Lib.hid ?_
  have Bz_w2 := Lib.hid (Bz_w1.out.trans (hb.mono Bz_w1.out.size))
  have Z2 : Hid (w1.heap.size ≤ w2.heap.size) := Lib.hid (hb.size)
  have XA_w2 := Lib.hid (XA_w1.out.on hb)
  have XB_w2 := Lib.hid (XB_w1.out.on hb)
  clear hb HZH
  clear xb0 xb1 xb2 xb3 xb4 xbl
  have KX : Hid (∀ v, Below w2.heap.size w2 v → (v.cell? ⟨w.heap.size, 0, none⟩ = some (.int .i64 x0.day) ∧ v.cell? ⟨w.heap.size, 1, none⟩ = some (.slice x0.A1 x0.n1 x0.c1) ∧ v.cell? ⟨w.heap.size, 2, none⟩ = some (.slice x0.A2 x0.n2 x0.c2) ∧ v.cell? ⟨w.heap.size, 3, none⟩ = some (.slice x0.A3 x0.n3 x0.c3) ∧ v.cell? ⟨w.heap.size, 4, none⟩ = some (.bool x0.over)) ∧ v.cell? ⟨w.heap.size + 1, 0, none⟩ = some (.int .i64 x1.day) ∧ v.cell? ⟨w.heap.size + 1, 1, none⟩ = some (.slice x1.A1 x1.n1 x1.c1) ∧ v.cell? ⟨w.heap.size + 1, 2, none⟩ = some (.slice x1.A2 x1.n2 x1.c2) ∧ v.cell? ⟨w.heap.size + 1, 3, none⟩ = some (.slice x1.A3 x1.n3 x1.c3) ∧ v.cell? ⟨w.heap.size + 1, 4, none⟩ = some (.bool x1.over)) := Lib.hid fun v hv => by
    have a0 := (XA_w2.out.on hv).c 0 (by simp)
    have a1 := (XA_w2.out.on hv).c 1 (by simp)
    have a2 := (XA_w2.out.on hv).c 2 (by simp)
    have a3 := (XA_w2.out.on hv).c 3 (by simp)
    have a4 := (XA_w2.out.on hv).c 4 (by simp)
    have b0 := (XB_w2.out.on hv).c 0 (by simp)
    have b1 := (XB_w2.out.on hv).c 1 (by simp)
    have b2 := (XB_w2.out.on hv).c 2 (by simp)
    have b3 := (XB_w2.out.on hv).c 3 (by simp)
    have b4 := (XB_w2.out.on hv).c 4 (by simp)
    simp only [List.getElem_cons_succ, List.getElem_cons_zero] at a0 a1 a2 a3 a4 b0 b1 b2 b3 b4
    exact ⟨⟨a0, a1, a2, a3, a4⟩, b0, b1, b2, b3, b4⟩
  have HT0 := Lib.hid fun v (hv : Below w2.heap.size w2 v) => toSt x0 v (HI0.out.on (Bz_w2.out.trans (hv.mono Bz_w2.out.size))) HLE0.out
  have HT1 := Lib.hid fun v (hv : Below w2.heap.size w2 v) => toSt x1 v (HI1.out.on (Bz_w2.out.trans (hv.mono Bz_w2.out.size))) HLE1.out
  have HSP : Hid (∀ v (q0 q1 : S), q0.st = x0.st → q1.st = x1.st → LiS v v.heap.size q0 → LiS v v.heap.size q1 → Calls Try.prog 5 #[q0.val, q1.val] v fun e w' => e = .returned (.bool t) ∧ Below v.heap.size v w') := Lib.hid fun v q0 q1 h0 h1 l0 l1 => specES q0 q1 v l0 l1 t (by rw [h0, h1]; exact HX.out)
  have hc0 := KX.out w2 (Below.refl _ _)
  obtain ⟨⟨e0, e1, e2, e3, e4⟩, g0, g1, g2, g3, g4⟩ := hc0
  go_wp2_with fail
  go_region_held3 (fun v => (v.cell? ⟨w.heap.size, 0, none⟩ = some (.int .i64 x0.day) ∧ v.cell? ⟨w.heap.size, 1, none⟩ = some (.slice x0.A1 x0.n1 x0.c1) ∧ v.cell? ⟨w.heap.size, 2, none⟩ = some (.slice x0.A2 x0.n2 x0.c2) ∧ v.cell? ⟨w.heap.size, 3, none⟩ = some (.slice x0.A3 x0.n3 x0.c3) ∧ v.cell? ⟨w.heap.size, 4, none⟩ = some (.bool x0.over)) ∧ v.cell? ⟨w.heap.size + 1, 0, none⟩ = some (.int .i64 x1.day) ∧ v.cell? ⟨w.heap.size + 1, 1, none⟩ = some (.slice x1.A1 x1.n1 x1.c1) ∧ v.cell? ⟨w.heap.size + 1, 2, none⟩ = some (.slice x1.A2 x1.n2 x1.c2) ∧ v.cell? ⟨w.heap.size + 1, 3, none⟩ = some (.slice x1.A3 x1.n3 x1.c3) ∧ v.cell? ⟨w.heap.size + 1, 4, none⟩ = some (.bool x1.over)) (first | (refine KX.out _ ?_; (repeat (first | exact Below.refl _ _ | exact b3 | exact b2 | exact b1 | apply Below.drew)); done))
    (first
      | (go_at_call 6; (with_reducible refine (HT0.out _ (by (repeat (first | exact Below.refl _ _ | apply Below.drew)))).mono ?_); rintro e wa ⟨q0, rfl, hq0, ho0, hb⟩; have b1 : Below w2.heap.size w2 wa := (Below.trans (by (repeat (first | exact Below.refl _ _ | apply Below.drew))) (hb.mono (by first | omega | (simp; done) | (simp; omega) | (have := b1.size; simp; omega) | exact b1.size))); have Q0 := Lib.hid hq0; have L0 := Lib.hid ho0; clear hb hq0 ho0)
      | (go_at_call 6; (with_reducible refine (HT1.out _ (by (repeat (first | exact Below.refl _ _ | exact b1 | apply Below.drew)))).mono ?_); rintro e wb ⟨q1, rfl, hq1, ho1, hb⟩; have b2 : Below w2.heap.size w2 wb := (Below.trans (by (repeat (first | exact Below.refl _ _ | exact b1 | apply Below.drew))) (hb.mono (by first | omega | (simp; done) | (simp; omega) | (have := b1.size; simp; omega) | exact b1.size))); have ee : Below wa.heap.size wa wb := Below.trans (by (repeat (first | exact Below.refl _ _ | apply Below.drew))) (hb.mono (by first | omega | (simp; done) | (simp; omega))); have Q1 := Lib.hid hq1; have L1 := Lib.hid ho1; have L0b := Lib.hid (L0.out.on ee); clear hb hq1 ho1 ee)
      | (go_at_call 5; (with_reducible refine (HSP.out _ q0 q1 Q0.out Q1.out (L0b.out.on (by (repeat (first | exact Below.refl _ _ | apply Below.drew)))) (L1.out.on (by (repeat (first | exact Below.refl _ _ | apply Below.drew))))).mono ?_); rintro e wc ⟨rfl, hb⟩; have b3 : Below w2.heap.size w2 wc := (Below.trans (by (repeat (first | exact Below.refl _ _ | exact b2 | apply Below.drew))) (hb.mono (by first | omega | (simp; done) | (simp; omega) | (have := b2.size; simp; omega) | exact b2.size))); clear hb))
  all_goals clear e0 e1 e2 e3 e4 g0 g1 g2 g3 g4 KX HT0 HT1 HSP
  all_goals
    clear b1 b2 Q0 Q1 L0 L1 L0b
    have Bz_wc := Lib.hid (Bz_w2.out.trans (b3.mono Bz_w2.out.size))
    have Z3 : Hid (w2.heap.size ≤ wc.heap.size) := Lib.hid (b3.size)
    have XA_wc := Lib.hid (XA_w2.out.on b3)
    have XB_wc := Lib.hid (XB_w2.out.on b3)
    clear b3
    have HT := Lib.hid (toSt x0 wc (HI0.out.on Bz_wc.out) HLE0.out)
    have xal := XA_wc.out.lt
    have xa0 := XA_wc.out.c 0 (by simp)
    have xa1 := XA_wc.out.c 1 (by simp)
    have xa2 := XA_wc.out.c 2 (by simp)
    have xa3 := XA_wc.out.c 3 (by simp)
    have xa4 := XA_wc.out.c 4 (by simp)
    simp only [List.getElem_cons_succ, List.getElem_cons_zero] at xa0 xa1 xa2 xa3 xa4
    have xbl := XB_wc.out.lt
    have xb0 := XB_wc.out.c 0 (by simp)
    have xb1 := XB_wc.out.c 1 (by simp)
    have xb2 := XB_wc.out.c 2 (by simp)
    have xb3 := XB_wc.out.c 3 (by simp)
    have xb4 := XB_wc.out.c 4 (by simp)
    simp only [List.getElem_cons_succ, List.getElem_cons_zero] at xb0 xb1 xb2 xb3 xb4
    go_wp2_with (go_at_call 6; refine (HT.out).mono ?_; rintro e w3 ⟨y0, rfl, hcd, how, hb⟩; refine Hid.out ?_)
    refine Lib.hid ?_
    clear xa0 xa1 xa2 xa3 xa4 xal xb0 xb1 xb2 xb3 xb4 xbl
    have HCy0 := Lib.hid hcd
    have Wy0_w3 := Lib.hid how
    have Bz_w3 := Lib.hid (Bz_wc.out.trans (hb.mono Bz_wc.out.size))
    have Z4 : Hid (wc.heap.size ≤ w3.heap.size) := Lib.hid (hb.size)
    have XA_w3 := Lib.hid (XA_wc.out.on hb)
    have XB_w3 := Lib.hid (XB_wc.out.on hb)
    clear hcd how hb HT
    obtain ⟨w4, hwx⟩ : ∃ wx, wx = w3.alloc (.cells #[.int .i64 y0.day, .slice y0.A1 y0.n1 y0.c1, .slice y0.A2 y0.n2 y0.c2, .slice y0.A3 y0.n3 y0.c3, .bool y0.over] 31) := ⟨_, rfl⟩
    have hb : Below w3.heap.size w3 w4 := by rw [hwx]; exact below1 _ _
    have XCn : Hid (Bk w3.heap.size w4 [.int .i64 y0.day, .slice y0.A1 y0.n1 y0.c1, .slice y0.A2 y0.n2 y0.c2, .slice y0.A3 y0.n3 y0.c3, .bool y0.over]) := Lib.hid (by rw [hwx]; exact Bk.new _ _ _)
    have Bz_w4 := Lib.hid (Bz_w3.out.trans (hb.mono Bz_w3.out.size))
    have Z5 : Hid (w3.heap.size ≤ w4.heap.size) := Lib.hid (hb.size)
    have XA_w4 := Lib.hid (XA_w3.out.on hb)
    have XB_w4 := Lib.hid (XB_w3.out.on hb)
    have Wy0_w4 := Lib.hid (Wy0_w3.out.on hb)
    have Z6 : Hid (w3.heap.size < w4.heap.size) := Lib.hid (by rw [hwx]; simp)
    have XC_w4 := XCn
    have HW_w4 := Lib.hid hwx
    clear hwx hb XCn
    have HT := Lib.hid (toSt x1 w4 (HI1.out.on Bz_w4.out) HLE1.out)
    have xal := XA_w3.out.lt
    have xa0 := XA_w3.out.c 0 (by simp)
    have xa1 := XA_w3.out.c 1 (by simp)
    have xa2 := XA_w3.out.c 2 (by simp)
    have xa3 := XA_w3.out.c 3 (by simp)
    have xa4 := XA_w3.out.c 4 (by simp)
    simp only [List.getElem_cons_succ, List.getElem_cons_zero] at xa0 xa1 xa2 xa3 xa4
    have xbl := XB_w3.out.lt
    have xb0 := XB_w3.out.c 0 (by simp)
    have xb1 := XB_w3.out.c 1 (by simp)
    have xb2 := XB_w3.out.c 2 (by simp)
    have xb3 := XB_w3.out.c 3 (by simp)
    have xb4 := XB_w3.out.c 4 (by simp)
    simp only [List.getElem_cons_succ, List.getElem_cons_zero] at xb0 xb1 xb2 xb3 xb4
    go_wp2_with (go_at_call 6; (try rw [← HW_w4.out]); refine (HT.out).mono ?_; rintro e w5 ⟨y1, rfl, hcd, how, hb⟩; refine Hid.out ?_)
    refine Lib.hid ?_
    clear xa0 xa1 xa2 xa3 xa4 xal xb0 xb1 xb2 xb3 xb4 xbl
    have HCy1 := Lib.hid hcd
    have Wy1_w5 := Lib.hid how
    have Bz_w5 := Lib.hid (Bz_w4.out.trans (hb.mono Bz_w4.out.size))
    have Z7 : Hid (w4.heap.size ≤ w5.heap.size) := Lib.hid (hb.size)
    have XA_w5 := Lib.hid (XA_w4.out.on hb)
    have XB_w5 := Lib.hid (XB_w4.out.on hb)
    have Wy0_w5 := Lib.hid (Wy0_w4.out.on hb)
    have XC_w5 := Lib.hid (XC_w4.out.on hb)
    clear hcd how hb HT
    obtain ⟨w6, hwx⟩ : ∃ wx, wx = w5.alloc (.cells #[.int .i64 y1.day, .slice y1.A1 y1.n1 y1.c1, .slice y1.A2 y1.n2 y1.c2, .slice y1.A3 y1.n3 y1.c3, .bool y1.over] 31) := ⟨_, rfl⟩
    have hb : Below w5.heap.size w5 w6 := by rw [hwx]; exact below1 _ _
    have XDn : Hid (Bk w5.heap.size w6 [.int .i64 y1.day, .slice y1.A1 y1.n1 y1.c1, .slice y1.A2 y1.n2 y1.c2, .slice y1.A3 y1.n3 y1.c3, .bool y1.over]) := Lib.hid (by rw [hwx]; exact Bk.new _ _ _)
    have Bz_w6 := Lib.hid (Bz_w5.out.trans (hb.mono Bz_w5.out.size))
    have Z8 : Hid (w5.heap.size ≤ w6.heap.size) := Lib.hid (hb.size)
    have XA_w6 := Lib.hid (XA_w5.out.on hb)
    have XB_w6 := Lib.hid (XB_w5.out.on hb)
    have Wy0_w6 := Lib.hid (Wy0_w5.out.on hb)
    have XC_w6 := Lib.hid (XC_w5.out.on hb)
    have Wy1_w6 := Lib.hid (Wy1_w5.out.on hb)
    have Z9 : Hid (w5.heap.size < w6.heap.size) := Lib.hid (by rw [hwx]; simp)
    have XD_w6 := XDn
    have HW_w6 := Lib.hid hwx
    clear hwx hb XDn
    have HCALL := Lib.hid (implES y0 y1 w6 Wy0_w6.out Wy1_w6.out t (by rw [HCy0.out, HCy1.out]; exact HX.out))
    have xcl := XC_w5.out.lt
    have xc0 := XC_w5.out.c 0 (by simp)
    have xc1 := XC_w5.out.c 1 (by simp)
    have xc2 := XC_w5.out.c 2 (by simp)
    have xc3 := XC_w5.out.c 3 (by simp)
    have xc4 := XC_w5.out.c 4 (by simp)
    simp only [List.getElem_cons_succ, List.getElem_cons_zero] at xc0 xc1 xc2 xc3 xc4
    go_wp2_with (go_at_call 7; (try rw [← HW_w6.out]); refine (HCALL.out).mono ?_; rintro e w7 ⟨rfl, hb⟩; refine Hid.out ?_)
    refine Lib.hid ?_
    clear xc0 xc1 xc2 xc3 xc4 xcl
    clear HCALL
    have Bz_w7 := Lib.hid (Bz_w6.out.trans (hb.mono Bz_w6.out.size))
    have Z10 : Hid (w6.heap.size ≤ w7.heap.size) := Lib.hid (hb.size)
    have XA_w7 := Lib.hid (XA_w6.out.on hb)
    have XB_w7 := Lib.hid (XB_w6.out.on hb)
    have Wy0_w7 := Lib.hid (Wy0_w6.out.on hb)
    have XC_w7 := Lib.hid (XC_w6.out.on hb)
    have Wy1_w7 := Lib.hid (Wy1_w6.out.on hb)
    have XD_w7 := Lib.hid (XD_w6.out.on hb)
    clear hb
    cases t
    all_goals
      have KX : Hid (∀ v, Below w7.heap.size w7 v → (v.cell? ⟨w.heap.size, 0, none⟩ = some (.int .i64 x0.day) ∧ v.cell? ⟨w.heap.size, 1, none⟩ = some (.slice x0.A1 x0.n1 x0.c1) ∧ v.cell? ⟨w.heap.size, 2, none⟩ = some (.slice x0.A2 x0.n2 x0.c2) ∧ v.cell? ⟨w.heap.size, 3, none⟩ = some (.slice x0.A3 x0.n3 x0.c3) ∧ v.cell? ⟨w.heap.size, 4, none⟩ = some (.bool x0.over)) ∧ v.cell? ⟨w3.heap.size, 0, none⟩ = some (.int .i64 y0.day) ∧ v.cell? ⟨w3.heap.size, 1, none⟩ = some (.slice y0.A1 y0.n1 y0.c1) ∧ v.cell? ⟨w3.heap.size, 2, none⟩ = some (.slice y0.A2 y0.n2 y0.c2) ∧ v.cell? ⟨w3.heap.size, 3, none⟩ = some (.slice y0.A3 y0.n3 y0.c3) ∧ v.cell? ⟨w3.heap.size, 4, none⟩ = some (.bool y0.over)) := Lib.hid fun v hv => by
        have a0 := (XA_w7.out.on hv).c 0 (by simp)
        have a1 := (XA_w7.out.on hv).c 1 (by simp)
        have a2 := (XA_w7.out.on hv).c 2 (by simp)
        have a3 := (XA_w7.out.on hv).c 3 (by simp)
        have a4 := (XA_w7.out.on hv).c 4 (by simp)
        have b0 := (XC_w7.out.on hv).c 0 (by simp)
        have b1 := (XC_w7.out.on hv).c 1 (by simp)
        have b2 := (XC_w7.out.on hv).c 2 (by simp)
        have b3 := (XC_w7.out.on hv).c 3 (by simp)
        have b4 := (XC_w7.out.on hv).c 4 (by simp)
        simp only [List.getElem_cons_succ, List.getElem_cons_zero] at a0 a1 a2 a3 a4 b0 b1 b2 b3 b4
        exact ⟨⟨a0, a1, a2, a3, a4⟩, b0, b1, b2, b3, b4⟩
      have HTX := Lib.hid fun v (hv : Below w7.heap.size w7 v) => toSt x0 v (HI0.out.on (Bz_w7.out.trans (hv.mono Bz_w7.out.size))) HLE0.out
      have HEQ : Hid (∀ v wa (z : S), Below w7.heap.size w7 wa → LiS wa wa.heap.size z → z.st = x0.st → Below wa.heap.size wa v → Calls Try.prog 8 #[y0.val, z.val] v fun e w' => e = .returned (.bool true) ∧ Below v.heap.size v w') :=
        Lib.hid fun v wa z hx hz hc hv => eqSt y0 z v (by rw [HCy0.out, hc]) (by rw [hc]; exact HLE0.out) ((Wy0_w7.out.on hx).on hv) (hz.on hv)
      have hcells := KX.out w7 (Below.refl _ _)
      obtain ⟨⟨e0, e1, e2, e3, e4⟩, g0, g1, g2, g3, g4⟩ := hcells
      go_wp2_with fail
      go_region_held3 (fun v => (v.cell? ⟨w.heap.size, 0, none⟩ = some (.int .i64 x0.day) ∧ v.cell? ⟨w.heap.size, 1, none⟩ = some (.slice x0.A1 x0.n1 x0.c1) ∧ v.cell? ⟨w.heap.size, 2, none⟩ = some (.slice x0.A2 x0.n2 x0.c2) ∧ v.cell? ⟨w.heap.size, 3, none⟩ = some (.slice x0.A3 x0.n3 x0.c3) ∧ v.cell? ⟨w.heap.size, 4, none⟩ = some (.bool x0.over)) ∧ v.cell? ⟨w3.heap.size, 0, none⟩ = some (.int .i64 y0.day) ∧ v.cell? ⟨w3.heap.size, 1, none⟩ = some (.slice y0.A1 y0.n1 y0.c1) ∧ v.cell? ⟨w3.heap.size, 2, none⟩ = some (.slice y0.A2 y0.n2 y0.c2) ∧ v.cell? ⟨w3.heap.size, 3, none⟩ = some (.slice y0.A3 y0.n3 y0.c3) ∧ v.cell? ⟨w3.heap.size, 4, none⟩ = some (.bool y0.over)) (first | (refine KX.out _ ?_; (repeat (first | exact Below.refl _ _ | exact b2 | exact b1 | apply Below.drew)); done))
        (first
          | (go_at_call 6; (with_reducible refine (HTX.out _ (by (repeat (first | exact Below.refl _ _ | exact b2 | exact b1 | apply Below.drew)))).mono ?_); rintro e wp ⟨z, rfl, hzc, hzo, hb⟩; have b1 : Below w7.heap.size w7 wp := (Below.trans (by (repeat (first | exact Below.refl _ _ | exact b2 | exact b1 | apply Below.drew))) (hb.mono (by first | omega | (simp; done) | (simp; omega) | exact b1.size | (have := b1.size; simp; omega)))); have NA := Lib.hid hzo; have NC := Lib.hid hzc; clear hb hzo hzc)
          | (go_at_call 8; (with_reducible refine (HEQ.out _ _ z b1 NA.out NC.out (by (repeat (first | exact Below.refl _ _ | apply Below.drew)))).mono ?_); rintro e wq0 ⟨rfl, hb⟩; have b2 : Below w7.heap.size w7 wq0 := (Below.trans (by (repeat (first | exact Below.refl _ _ | exact b2 | exact b1 | apply Below.drew))) (hb.mono (by first | omega | (simp; done) | (simp; omega) | exact b1.size | (have := b1.size; simp; omega)))); clear hb))
      all_goals clear e0 e1 e2 e3 e4 g0 g1 g2 g3 g4 KX HTX HEQ NA NC b1
      all_goals
        have Bz_wq0 := Lib.hid (Bz_w7.out.trans (b2.mono Bz_w7.out.size))
        have Z11 : Hid (w7.heap.size ≤ wq0.heap.size) := Lib.hid (b2.size)
        have XA_wq0 := Lib.hid (XA_w7.out.on b2)
        have XB_wq0 := Lib.hid (XB_w7.out.on b2)
        have Wy0_wq0 := Lib.hid (Wy0_w7.out.on b2)
        have XC_wq0 := Lib.hid (XC_w7.out.on b2)
        have Wy1_wq0 := Lib.hid (Wy1_w7.out.on b2)
        have XD_wq0 := Lib.hid (XD_w7.out.on b2)
        clear b2
        have KX : Hid (∀ v, Below wq0.heap.size wq0 v → (v.cell? ⟨w.heap.size + 1, 0, none⟩ = some (.int .i64 x1.day) ∧ v.cell? ⟨w.heap.size + 1, 1, none⟩ = some (.slice x1.A1 x1.n1 x1.c1) ∧ v.cell? ⟨w.heap.size + 1, 2, none⟩ = some (.slice x1.A2 x1.n2 x1.c2) ∧ v.cell? ⟨w.heap.size + 1, 3, none⟩ = some (.slice x1.A3 x1.n3 x1.c3) ∧ v.cell? ⟨w.heap.size + 1, 4, none⟩ = some (.bool x1.over)) ∧ v.cell? ⟨w5.heap.size, 0, none⟩ = some (.int .i64 y1.day) ∧ v.cell? ⟨w5.heap.size, 1, none⟩ = some (.slice y1.A1 y1.n1 y1.c1) ∧ v.cell? ⟨w5.heap.size, 2, none⟩ = some (.slice y1.A2 y1.n2 y1.c2) ∧ v.cell? ⟨w5.heap.size, 3, none⟩ = some (.slice y1.A3 y1.n3 y1.c3) ∧ v.cell? ⟨w5.heap.size, 4, none⟩ = some (.bool y1.over)) := Lib.hid fun v hv => by
          have a0 := (XB_wq0.out.on hv).c 0 (by simp)
          have a1 := (XB_wq0.out.on hv).c 1 (by simp)
          have a2 := (XB_wq0.out.on hv).c 2 (by simp)
          have a3 := (XB_wq0.out.on hv).c 3 (by simp)
          have a4 := (XB_wq0.out.on hv).c 4 (by simp)
          have b0 := (XD_wq0.out.on hv).c 0 (by simp)
          have b1 := (XD_wq0.out.on hv).c 1 (by simp)
          have b2 := (XD_wq0.out.on hv).c 2 (by simp)
          have b3 := (XD_wq0.out.on hv).c 3 (by simp)
          have b4 := (XD_wq0.out.on hv).c 4 (by simp)
          simp only [List.getElem_cons_succ, List.getElem_cons_zero] at a0 a1 a2 a3 a4 b0 b1 b2 b3 b4
          exact ⟨⟨a0, a1, a2, a3, a4⟩, b0, b1, b2, b3, b4⟩
        have HTX := Lib.hid fun v (hv : Below wq0.heap.size wq0 v) => toSt x1 v (HI1.out.on (Bz_wq0.out.trans (hv.mono Bz_wq0.out.size))) HLE1.out
        have HEQ : Hid (∀ v wa (z : S), Below wq0.heap.size wq0 wa → LiS wa wa.heap.size z → z.st = x1.st → Below wa.heap.size wa v → Calls Try.prog 8 #[y1.val, z.val] v fun e w' => e = .returned (.bool true) ∧ Below v.heap.size v w') :=
          Lib.hid fun v wa z hx hz hc hv => eqSt y1 z v (by rw [HCy1.out, hc]) (by rw [hc]; exact HLE1.out) ((Wy1_wq0.out.on hx).on hv) (hz.on hv)
        have hcells := KX.out wq0 (Below.refl _ _)
        obtain ⟨⟨e0, e1, e2, e3, e4⟩, g0, g1, g2, g3, g4⟩ := hcells
        go_wp2_with fail
        go_region_held3 (fun v => (v.cell? ⟨w.heap.size + 1, 0, none⟩ = some (.int .i64 x1.day) ∧ v.cell? ⟨w.heap.size + 1, 1, none⟩ = some (.slice x1.A1 x1.n1 x1.c1) ∧ v.cell? ⟨w.heap.size + 1, 2, none⟩ = some (.slice x1.A2 x1.n2 x1.c2) ∧ v.cell? ⟨w.heap.size + 1, 3, none⟩ = some (.slice x1.A3 x1.n3 x1.c3) ∧ v.cell? ⟨w.heap.size + 1, 4, none⟩ = some (.bool x1.over)) ∧ v.cell? ⟨w5.heap.size, 0, none⟩ = some (.int .i64 y1.day) ∧ v.cell? ⟨w5.heap.size, 1, none⟩ = some (.slice y1.A1 y1.n1 y1.c1) ∧ v.cell? ⟨w5.heap.size, 2, none⟩ = some (.slice y1.A2 y1.n2 y1.c2) ∧ v.cell? ⟨w5.heap.size, 3, none⟩ = some (.slice y1.A3 y1.n3 y1.c3) ∧ v.cell? ⟨w5.heap.size, 4, none⟩ = some (.bool y1.over)) (first | (refine KX.out _ ?_; (repeat (first | exact Below.refl _ _ | exact b2 | exact b1 | apply Below.drew)); done))
          (first
            | (go_at_call 6; (with_reducible refine (HTX.out _ (by (repeat (first | exact Below.refl _ _ | exact b2 | exact b1 | apply Below.drew)))).mono ?_); rintro e wp ⟨z, rfl, hzc, hzo, hb⟩; have b1 : Below wq0.heap.size wq0 wp := (Below.trans (by (repeat (first | exact Below.refl _ _ | exact b2 | exact b1 | apply Below.drew))) (hb.mono (by first | omega | (simp; done) | (simp; omega) | exact b1.size | (have := b1.size; simp; omega)))); have NA := Lib.hid hzo; have NC := Lib.hid hzc; clear hb hzo hzc)
            | (go_at_call 8; (with_reducible refine (HEQ.out _ _ z b1 NA.out NC.out (by (repeat (first | exact Below.refl _ _ | apply Below.drew)))).mono ?_); rintro e wq1 ⟨rfl, hb⟩; have b2 : Below wq0.heap.size wq0 wq1 := (Below.trans (by (repeat (first | exact Below.refl _ _ | exact b2 | exact b1 | apply Below.drew))) (hb.mono (by first | omega | (simp; done) | (simp; omega) | exact b1.size | (have := b1.size; simp; omega)))); clear hb))
        all_goals clear e0 e1 e2 e3 e4 g0 g1 g2 g3 g4 KX HTX HEQ NA NC b1
        all_goals go_wp2_with fail
        all_goals go_ret
        all_goals exact ⟨rfl, Bz_wq0.out.trans (b2.mono Bz_wq0.out.size)⟩

end Go.Proofs.Ythdjdjgilnpmkaa.StW
