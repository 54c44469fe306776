/-
  The walk of the law FnExactEqualContracts.
-/
import Derived.Test.YtencedbohnbogaaSmN
import Derived.Test.YtencedbohnbogaaSmF
import Derived.Test.YtencedbohnbogaaClEq
import Derived.Test.YtencedbohnbogaaClSz
import Derived.Test.YtencedbohnbogaaClTo
import Derived.Deep.RegionHeld3
namespace Go.Proofs.Ytencedbohnbogaa.EqW
open Go.RowKit Go.Proofs.Ytencedbohnbogaa.Cond Go.Proofs.Ytencedbohnbogaa.Gx Go.Proofs.Ytencedbohnbogaa.Cl
set_option linter.unusedVariables false
set_option linter.unusedSimpArgs false

set_option maxRecDepth 100000 in
set_option maxHeartbeats 16000000 in
theorem walk (x0 x1 : Kt) (w : World) (hin0 : LiC w w.heap.size x0) (hin1 : LiC w w.heap.size x1) :
    Calls Try.prog 4 #[x0.val, x1.val] w fun e w' => e = .returned (.bool true) ∧ Below w.heap.size w w' := by
  obtain ⟨t, ht⟩ := t_dec x0.ct x1.ct
  have HX := Lib.hid ht
  clear ht
  obtain ⟨w0, hw0⟩ : ∃ w0, w0 = (w.alloc (.cells #[.slice x0.A1 x0.n1 x0.c1, .slice x0.A2 x0.n2 x0.c2] 38)).alloc (.cells #[.slice x1.A1 x1.n1 x1.c1, .slice x1.A2 x1.n2 x1.c2] 38) := ⟨_, rfl⟩
  have Bz_w0 : Hid (Below w.heap.size w w0) := Lib.hid (by rw [hw0]; exact (below1 _ _).alloc (by simp) _)
  have XA_w0 : Hid (Bk w.heap.size w0 [.slice x0.A1 x0.n1 x0.c1, .slice x0.A2 x0.n2 x0.c2]) := Lib.hid (by rw [hw0]; exact (Bk.new w #[.slice x0.A1 x0.n1 x0.c1, .slice x0.A2 x0.n2 x0.c2] 38).alloc _)
  have XB_w0 : Hid (Bk (w.heap.size + 1) w0 [.slice x1.A1 x1.n1 x1.c1, .slice x1.A2 x1.n2 x1.c2]) := Lib.hid (by rw [hw0]; have := Bk.new (w.alloc (.cells #[.slice x0.A1 x0.n1 x0.c1, .slice x0.A2 x0.n2 x0.c2] 38)) #[.slice x1.A1 x1.n1 x1.c1, .slice x1.A2 x1.n2 x1.c2] 38; rw [World.size_alloc] at this; exact this)
  have HW0 := Lib.hid hw0
  have HI0 := Lib.hid hin0
  have HI1 := Lib.hid hin1
  clear hw0 hin0 hin1
  go_enter Try.func4, Try.ntmps4
  by_cases hz : 1048576 < x0.ct.wt
  · have HZ := szCt x0 1048576 (by omega) w0 (HI0.out.on Bz_w0.out)
    rw [szRes, if_pos hz] at HZ
    have HZH := Lib.hid HZ
    clear HZ
    go_wp2_with (go_at_call 12; (try rw [← HW0.out]); refine HZH.out.mono ?_; rintro e wz ⟨rfl, hbz⟩)
    go_ret
    exact ⟨rfl, Bz_w0.out.trans (hbz.mono Bz_w0.out.size)⟩
  have HZ := szCt x0 1048576 (by omega) w0 (HI0.out.on Bz_w0.out)
  rw [szRes, if_neg hz] at HZ
  have HLE0 : Hid (x0.ct.wt ≤ 1048576) := Lib.hid (by omega)
  obtain ⟨m0, hm0⟩ : ∃ m, m = 1048576 - x0.ct.wt := ⟨_, rfl⟩
  rw [← hm0] at HZ
  have HZH := Lib.hid HZ
  have hmb0 : m0 ≤ 1048576 := by omega
  have hmz0 : (0 : Int) ≤ (m0 : Int) := by omega
  clear HZ hm0 hz
  go_wp2_with (go_at_call 12; (try rw [← HW0.out]); refine HZH.out.mono ?_; rintro e w1 ⟨rfl, hb⟩; refine Hid.out ?_)
  refine Lib.hid ?_
  have Bz_w1 := Lib.hid (Bz_w0.out.trans (hb.mono Bz_w0.out.size))
  have Z1 : Hid (w0.heap.size ≤ w1.heap.size) := Lib.hid (hb.size)
  have XA_w1 := Lib.hid (XA_w0.out.on hb)
  have XB_w1 := Lib.hid (XB_w0.out.on hb)
  clear hb HZH
  have xbl := XB_w1.out.lt
  have xb0 := XB_w1.out.c 0 (by simp)
  have xb1 := XB_w1.out.c 1 (by simp)
  simp only [List.getElem_cons_succ, List.getElem_cons_zero] at xb0 xb1
  by_cases hz : m0 < x1.ct.wt
  · have HZ := szCt x1 m0 (by omega) w1 (HI1.out.on Bz_w1.out)
    rw [szRes, if_pos hz] at HZ
    have HZH := Lib.hid HZ
    clear HZ
    go_wp2_with (go_at_call 12; refine HZH.out.mono ?_; rintro e wz ⟨rfl, hbz⟩)
    go_ret
    exact ⟨rfl, Bz_w1.out.trans (hbz.mono Bz_w1.out.size)⟩
  have HZ := szCt x1 m0 (by omega) w1 (HI1.out.on Bz_w1.out)
  rw [szRes, if_neg hz] at HZ
  have HLE1 : Hid (x1.ct.wt ≤ 1048576) := Lib.hid (by omega)
  obtain ⟨m1, hm1⟩ : ∃ m, m = m0 - x1.ct.wt := ⟨_, rfl⟩
  rw [← hm1] at HZ
  have HZH := Lib.hid HZ
  have hmb1 : m1 ≤ 1048576 := by omega
  have hmz1 : (0 : Int) ≤ (m1 : Int) := by omega
  clear HZ hm1 hz
  go_wp2_with (go_at_call 12; refine HZH.out.mono ?_; rintro e w2 ⟨rfl, hb⟩; refine Hid.out ?_)
  refine Lib.hid ?_
  have Bz_w2 := Lib.hid (Bz_w1.out.trans (hb.mono Bz_w1.out.size))
  have Z2 : Hid (w1.heap.size ≤ w2.heap.size) := Lib.hid (hb.size)
  have XA_w2 := Lib.hid (XA_w1.out.on hb)
  have XB_w2 := Lib.hid (XB_w1.out.on hb)
  clear hb HZH
  clear xb0 xb1 xbl
  have KX : Hid (∀ v, Below w2.heap.size w2 v → (v.cell? ⟨w.heap.size, 0, none⟩ = some (.slice x0.A1 x0.n1 x0.c1) ∧ v.cell? ⟨w.heap.size, 1, none⟩ = some (.slice x0.A2 x0.n2 x0.c2)) ∧ v.cell? ⟨w.heap.size + 1, 0, none⟩ = some (.slice x1.A1 x1.n1 x1.c1) ∧ v.cell? ⟨w.heap.size + 1, 1, none⟩ = some (.slice x1.A2 x1.n2 x1.c2)) := Lib.hid fun v hv => by
    have a0 := (XA_w2.out.on hv).c 0 (by simp)
    have a1 := (XA_w2.out.on hv).c 1 (by simp)
    have b0 := (XB_w2.out.on hv).c 0 (by simp)
    have b1 := (XB_w2.out.on hv).c 1 (by simp)
    simp only [List.getElem_cons_succ, List.getElem_cons_zero] at a0 a1 b0 b1
    exact ⟨⟨a0, a1⟩, b0, b1⟩
  have HT0 := Lib.hid fun v (hv : Below w2.heap.size w2 v) => toCt x0 v (HI0.out.on (Bz_w2.out.trans (hv.mono Bz_w2.out.size))) HLE0.out
  have HT1 := Lib.hid fun v (hv : Below w2.heap.size w2 v) => toCt x1 v (HI1.out.on (Bz_w2.out.trans (hv.mono Bz_w2.out.size))) HLE1.out
  have HSP : Hid (∀ v (q0 q1 : Kt), q0.ct = x0.ct → q1.ct = x1.ct → LiC v v.heap.size q0 → LiC v v.heap.size q1 → Calls Try.prog 13 #[q0.val, q1.val] v fun e w' => e = .returned (.bool t) ∧ Below v.heap.size v w') := Lib.hid fun v q0 q1 h0 h1 l0 l1 => specEq q0 q1 v l0 l1 t (by rw [h0, h1]; exact HX.out)
  have hc0 := KX.out w2 (Below.refl _ _)
  obtain ⟨⟨e0, e1⟩, g0, g1⟩ := hc0
  go_wp2_with fail
  go_region_held3 (fun v => (v.cell? ⟨w.heap.size, 0, none⟩ = some (.slice x0.A1 x0.n1 x0.c1) ∧ v.cell? ⟨w.heap.size, 1, none⟩ = some (.slice x0.A2 x0.n2 x0.c2)) ∧ v.cell? ⟨w.heap.size + 1, 0, none⟩ = some (.slice x1.A1 x1.n1 x1.c1) ∧ v.cell? ⟨w.heap.size + 1, 1, none⟩ = some (.slice x1.A2 x1.n2 x1.c2)) (first | (refine KX.out _ ?_; (repeat (first | exact Below.refl _ _ | exact b3 | exact b2 | exact b1 | apply Below.drew)); done))
    (first
      | (go_at_call 14; (with_reducible refine (HT0.out _ (by (repeat (first | exact Below.refl _ _ | apply Below.drew)))).mono ?_); rintro e wa ⟨q0, rfl, hq0, ho0, hg0, hb⟩; have b1 : Below w2.heap.size w2 wa := (Below.trans (by (repeat (first | exact Below.refl _ _ | apply Below.drew))) (hb.mono (by first | omega | (simp; done) | (simp; omega) | (have := b1.size; simp; omega) | exact b1.size))); have Q0 := Lib.hid hq0; have L0 := Lib.hid ho0.has; clear hb hq0 ho0 hg0)
      | (go_at_call 14; (with_reducible refine (HT1.out _ (by (repeat (first | exact Below.refl _ _ | exact b1 | apply Below.drew)))).mono ?_); rintro e wb ⟨q1, rfl, hq1, ho1, hg1, hb⟩; have b2 : Below w2.heap.size w2 wb := (Below.trans (by (repeat (first | exact Below.refl _ _ | exact b1 | apply Below.drew))) (hb.mono (by first | omega | (simp; done) | (simp; omega) | (have := b1.size; simp; omega) | exact b1.size))); have e2 : Below wa.heap.size wa wb := Below.trans (by (repeat (first | exact Below.refl _ _ | apply Below.drew))) (hb.mono (by first | omega | (simp; done) | (simp; omega))); have Q1 := Lib.hid hq1; have L1 := Lib.hid ho1.has; have L0b := Lib.hid (L0.out.on e2); clear hb hq1 ho1 hg1 e2)
      | (go_at_call 13; (with_reducible refine (HSP.out _ q0 q1 Q0.out Q1.out (L0b.out.on (by (repeat (first | exact Below.refl _ _ | apply Below.drew)))) (L1.out.on (by (repeat (first | exact Below.refl _ _ | apply Below.drew))))).mono ?_); rintro e wc ⟨rfl, hb⟩; have b3 : Below w2.heap.size w2 wc := (Below.trans (by (repeat (first | exact Below.refl _ _ | exact b2 | apply Below.drew))) (hb.mono (by first | omega | (simp; done) | (simp; omega) | (have := b2.size; simp; omega) | exact b2.size))); clear hb))
  all_goals clear e0 e1 g0 g1 KX HT0 HT1 HSP
  all_goals
    clear b1 b2 Q0 Q1 L0 L1 L0b
    have Bz_wc := Lib.hid (Bz_w2.out.trans (b3.mono Bz_w2.out.size))
    have Z3 : Hid (w2.heap.size ≤ wc.heap.size) := Lib.hid (b3.size)
    have XA_wc := Lib.hid (XA_w2.out.on b3)
    have XB_wc := Lib.hid (XB_w2.out.on b3)
    clear b3
    have HT := Lib.hid (toCt x0 wc (HI0.out.on Bz_wc.out) HLE0.out)
    have xal := XA_wc.out.lt
    have xa0 := XA_wc.out.c 0 (by simp)
    have xa1 := XA_wc.out.c 1 (by simp)
    simp only [List.getElem_cons_succ, List.getElem_cons_zero] at xa0 xa1
    have xbl := XB_wc.out.lt
    have xb0 := XB_wc.out.c 0 (by simp)
    have xb1 := XB_wc.out.c 1 (by simp)
    simp only [List.getElem_cons_succ, List.getElem_cons_zero] at xb0 xb1
    go_wp2_with (go_at_call 14; refine (HT.out).mono ?_; rintro e w3 ⟨y0, rfl, hcd, how, hge, hb⟩; refine Hid.out ?_)
    refine Lib.hid ?_
    clear xa0 xa1 xal xb0 xb1 xbl
    have HCy0 := Lib.hid hcd
    have Wy0_w3 := Lib.hid how
    have Bz_w3 := Lib.hid (Bz_wc.out.trans (hb.mono Bz_wc.out.size))
    have Z4 : Hid (wc.heap.size ≤ w3.heap.size) := Lib.hid (hb.size)
    have XA_w3 := Lib.hid (XA_wc.out.on hb)
    have XB_w3 := Lib.hid (XB_wc.out.on hb)
    clear hcd how hge hb HT
    obtain ⟨w4, hwx⟩ : ∃ wx, wx = w3.alloc (.cells #[.slice y0.A1 y0.n1 y0.c1, .slice y0.A2 y0.n2 y0.c2] 43) := ⟨_, rfl⟩
    have hb : Below w3.heap.size w3 w4 := by rw [hwx]; exact below1 _ _
    have XCn : Hid (Bk w3.heap.size w4 [.slice y0.A1 y0.n1 y0.c1, .slice y0.A2 y0.n2 y0.c2]) := Lib.hid (by rw [hwx]; exact Bk.new _ _ _)
    have Bz_w4 := Lib.hid (Bz_w3.out.trans (hb.mono Bz_w3.out.size))
    have Z5 : Hid (w3.heap.size ≤ w4.heap.size) := Lib.hid (hb.size)
    have XA_w4 := Lib.hid (XA_w3.out.on hb)
    have XB_w4 := Lib.hid (XB_w3.out.on hb)
    have Wy0_w4 := Lib.hid (Wy0_w3.out.on hb)
    have Z6 : Hid (w3.heap.size < w4.heap.size) := Lib.hid (by rw [hwx]; simp)
    have XC_w4 := XCn
    have HW_w4 := Lib.hid hwx
    clear hwx hb XCn
    have HT := Lib.hid (toCt x1 w4 (HI1.out.on Bz_w4.out) HLE1.out)
    have xal := XA_w3.out.lt
    have xa0 := XA_w3.out.c 0 (by simp)
    have xa1 := XA_w3.out.c 1 (by simp)
    simp only [List.getElem_cons_succ, List.getElem_cons_zero] at xa0 xa1
    have xbl := XB_w3.out.lt
    have xb0 := XB_w3.out.c 0 (by simp)
    have xb1 := XB_w3.out.c 1 (by simp)
    simp only [List.getElem_cons_succ, List.getElem_cons_zero] at xb0 xb1
    go_wp2_with (go_at_call 14; (try rw [← HW_w4.out]); refine (HT.out).mono ?_; rintro e w5 ⟨y1, rfl, hcd, how, hge, hb⟩; refine Hid.out ?_)
    refine Lib.hid ?_
    clear xa0 xa1 xal xb0 xb1 xbl
    have HCy1 := Lib.hid hcd
    have Wy1_w5 := Lib.hid how
    have Bz_w5 := Lib.hid (Bz_w4.out.trans (hb.mono Bz_w4.out.size))
    have Z7 : Hid (w4.heap.size ≤ w5.heap.size) := Lib.hid (hb.size)
    have XA_w5 := Lib.hid (XA_w4.out.on hb)
    have XB_w5 := Lib.hid (XB_w4.out.on hb)
    have Wy0_w5 := Lib.hid (Wy0_w4.out.on hb)
    have XC_w5 := Lib.hid (XC_w4.out.on hb)
    clear hcd how hge hb HT
    obtain ⟨w6, hwx⟩ : ∃ wx, wx = w5.alloc (.cells #[.slice y1.A1 y1.n1 y1.c1, .slice y1.A2 y1.n2 y1.c2] 43) := ⟨_, rfl⟩
    have hb : Below w5.heap.size w5 w6 := by rw [hwx]; exact below1 _ _
    have XDn : Hid (Bk w5.heap.size w6 [.slice y1.A1 y1.n1 y1.c1, .slice y1.A2 y1.n2 y1.c2]) := Lib.hid (by rw [hwx]; exact Bk.new _ _ _)
    have Bz_w6 := Lib.hid (Bz_w5.out.trans (hb.mono Bz_w5.out.size))
    have Z8 : Hid (w5.heap.size ≤ w6.heap.size) := Lib.hid (hb.size)
    have XA_w6 := Lib.hid (XA_w5.out.on hb)
    have XB_w6 := Lib.hid (XB_w5.out.on hb)
    have Wy0_w6 := Lib.hid (Wy0_w5.out.on hb)
    have XC_w6 := Lib.hid (XC_w5.out.on hb)
    have Wy1_w6 := Lib.hid (Wy1_w5.out.on hb)
    have Z9 : Hid (w5.heap.size < w6.heap.size) := Lib.hid (by rw [hwx]; simp)
    have XD_w6 := XDn
    have HW_w6 := Lib.hid hwx
    clear hwx hb XDn
    have HCALL := Lib.hid (implEq y0 y1 w6 Wy0_w6.out.has (Wy0_w6.out.wrs (by rw [HCy0.out]; exact HLE0.out)) Wy1_w6.out.has t (by rw [HCy0.out, HCy1.out]; exact HX.out))
    have xcl := XC_w5.out.lt
    have xc0 := XC_w5.out.c 0 (by simp)
    have xc1 := XC_w5.out.c 1 (by simp)
    simp only [List.getElem_cons_succ, List.getElem_cons_zero] at xc0 xc1
    go_wp2_with (go_at_call 15; (try rw [← HW_w6.out]); refine (HCALL.out).mono ?_; rintro e w7 ⟨rfl, hb⟩; refine Hid.out ?_)
    refine Lib.hid ?_
    clear xc0 xc1 xcl
    clear HCALL
    have Bz_w7 := Lib.hid (Bz_w6.out.trans (hb.mono Bz_w6.out.size))
    have Z10 : Hid (w6.heap.size ≤ w7.heap.size) := Lib.hid (hb.size)
    have XA_w7 := Lib.hid (XA_w6.out.on hb)
    have XB_w7 := Lib.hid (XB_w6.out.on hb)
    have Wy0_w7 := Lib.hid (Wy0_w6.out.on hb)
    have XC_w7 := Lib.hid (XC_w6.out.on hb)
    have Wy1_w7 := Lib.hid (Wy1_w6.out.on hb)
    have XD_w7 := Lib.hid (XD_w6.out.on hb)
    clear hb
    cases t
    all_goals
      have KX : Hid (∀ v, Below w7.heap.size w7 v → (v.cell? ⟨w.heap.size, 0, none⟩ = some (.slice x0.A1 x0.n1 x0.c1) ∧ v.cell? ⟨w.heap.size, 1, none⟩ = some (.slice x0.A2 x0.n2 x0.c2)) ∧ v.cell? ⟨w3.heap.size, 0, none⟩ = some (.slice y0.A1 y0.n1 y0.c1) ∧ v.cell? ⟨w3.heap.size, 1, none⟩ = some (.slice y0.A2 y0.n2 y0.c2)) := Lib.hid fun v hv => by
        have a0 := (XA_w7.out.on hv).c 0 (by simp)
        have a1 := (XA_w7.out.on hv).c 1 (by simp)
        have b0 := (XC_w7.out.on hv).c 0 (by simp)
        have b1 := (XC_w7.out.on hv).c 1 (by simp)
        simp only [List.getElem_cons_succ, List.getElem_cons_zero] at a0 a1 b0 b1
        exact ⟨⟨a0, a1⟩, b0, b1⟩
      have HTX := Lib.hid fun v (hv : Below w7.heap.size w7 v) => toCt x0 v (HI0.out.on (Bz_w7.out.trans (hv.mono Bz_w7.out.size))) HLE0.out
      have HEQ : Hid (∀ v wa (z : Kt), Below w7.heap.size w7 wa → WrC wa z → z.ct = x0.ct → Below wa.heap.size wa v → Calls Try.prog 16 #[y0.val, z.val] v fun e w' => e = .returned (.bool true) ∧ Below v.heap.size v w') :=
        Lib.hid fun v wa z hx hz hc hv => eqCt y0 z v (by rw [HCy0.out, hc]) (by rw [hc]; exact HLE0.out) ((Wy0_w7.out.has.on hx).on hv) (hz.has.on hv)
      have hcells := KX.out w7 (Below.refl _ _)
      obtain ⟨⟨e0, e1⟩, g0, g1⟩ := hcells
      go_wp2_with fail
      go_region_held3 (fun v => (v.cell? ⟨w.heap.size, 0, none⟩ = some (.slice x0.A1 x0.n1 x0.c1) ∧ v.cell? ⟨w.heap.size, 1, none⟩ = some (.slice x0.A2 x0.n2 x0.c2)) ∧ v.cell? ⟨w3.heap.size, 0, none⟩ = some (.slice y0.A1 y0.n1 y0.c1) ∧ v.cell? ⟨w3.heap.size, 1, none⟩ = some (.slice y0.A2 y0.n2 y0.c2)) (first | (refine KX.out _ ?_; (repeat (first | exact Below.refl _ _ | exact b2 | exact b1 | apply Below.drew)); done))
        (first
          | (go_at_call 14; (with_reducible refine (HTX.out _ (by (repeat (first | exact Below.refl _ _ | exact b2 | exact b1 | apply Below.drew)))).mono ?_); rintro e wp ⟨z, rfl, hzc, hzo, hzg, hb⟩; have b1 : Below w7.heap.size w7 wp := (Below.trans (by (repeat (first | exact Below.refl _ _ | exact b2 | exact b1 | apply Below.drew))) (hb.mono (by first | omega | (simp; done) | (simp; omega) | exact b1.size | (have := b1.size; simp; omega)))); have NA := Lib.hid hzo; have NC := Lib.hid hzc; clear hb hzo hzc hzg)
          | (go_at_call 16; (with_reducible refine (HEQ.out _ _ z b1 NA.out NC.out (by (repeat (first | exact Below.refl _ _ | apply Below.drew)))).mono ?_); rintro e wq0 ⟨rfl, hb⟩; have b2 : Below w7.heap.size w7 wq0 := (Below.trans (by (repeat (first | exact Below.refl _ _ | exact b2 | exact b1 | apply Below.drew))) (hb.mono (by first | omega | (simp; done) | (simp; omega) | exact b1.size | (have := b1.size; simp; omega)))); clear hb))
      all_goals clear e0 e1 g0 g1 KX HTX HEQ NA NC b1
      all_goals
        have Bz_wq0 := Lib.hid (Bz_w7.out.trans (b2.mono Bz_w7.out.size))
        have Z11 : Hid (w7.heap.size ≤ wq0.heap.size) := Lib.hid (b2.size)
        have XA_wq0 := Lib.hid (XA_w7.out.on b2)
        have XB_wq0 := Lib.hid (XB_w7.out.on b2)
        have Wy0_wq0 := Lib.hid (Wy0_w7.out.on b2)
        have XC_wq0 := Lib.hid (XC_w7.out.on b2)
        have Wy1_wq0 := Lib.hid (Wy1_w7.out.on b2)
        have XD_wq0 := Lib.hid (XD_w7.out.on b2)
        clear b2
        have KX : Hid (∀ v, Below wq0.heap.size wq0 v → (v.cell? ⟨w.heap.size + 1, 0, none⟩ = some (.slice x1.A1 x1.n1 x1.c1) ∧ v.cell? ⟨w.heap.size + 1, 1, none⟩ = some (.slice x1.A2 x1.n2 x1.c2)) ∧ v.cell? ⟨w5.heap.size, 0, none⟩ = some (.slice y1.A1 y1.n1 y1.c1) ∧ v.cell? ⟨w5.heap.size, 1, none⟩ = some (.slice y1.A2 y1.n2 y1.c2)) := Lib.hid fun v hv => by
          have a0 := (XB_wq0.out.on hv).c 0 (by simp)
          have a1 := (XB_wq0.out.on hv).c 1 (by simp)
          have b0 := (XD_wq0.out.on hv).c 0 (by simp)
          have b1 := (XD_wq0.out.on hv).c 1 (by simp)
          simp only [List.getElem_cons_succ, List.getElem_cons_zero] at a0 a1 b0 b1
          exact ⟨⟨a0, a1⟩, b0, b1⟩
        have HTX := Lib.hid fun v (hv : Below wq0.heap.size wq0 v) => toCt x1 v (HI1.out.on (Bz_wq0.out.trans (hv.mono Bz_wq0.out.size))) HLE1.out
        have HEQ : Hid (∀ v wa (z : Kt), Below wq0.heap.size wq0 wa → WrC wa z → z.ct = x1.ct → Below wa.heap.size wa v → Calls Try.prog 16 #[y1.val, z.val] v fun e w' => e = .returned (.bool true) ∧ Below v.heap.size v w') :=
          Lib.hid fun v wa z hx hz hc hv => eqCt y1 z v (by rw [HCy1.out, hc]) (by rw [hc]; exact HLE1.out) ((Wy1_wq0.out.has.on hx).on hv) (hz.has.on hv)
        have hcells := KX.out wq0 (Below.refl _ _)
        obtain ⟨⟨e0, e1⟩, g0, g1⟩ := hcells
        go_wp2_with fail
        go_region_held3 (fun v => (v.cell? ⟨w.heap.size + 1, 0, none⟩ = some (.slice x1.A1 x1.n1 x1.c1) ∧ v.cell? ⟨w.heap.size + 1, 1, none⟩ = some (.slice x1.A2 x1.n2 x1.c2)) ∧ v.cell? ⟨w5.heap.size, 0, none⟩ = some (.slice y1.A1 y1.n1 y1.c1) ∧ v.cell? ⟨w5.heap.size, 1, none⟩ = some (.slice y1.A2 y1.n2 y1.c2)) (first | (refine KX.out _ ?_; (repeat (first | exact Below.refl _ _ | exact b2 | exact b1 | apply Below.drew)); done))
          (first
            | (go_at_call 14; (with_reducible refine (HTX.out _ (by (repeat (first | exact Below.refl _ _ | exact b2 | exact b1 | apply Below.drew)))).mono ?_); rintro e wp ⟨z, rfl, hzc, hzo, hzg, hb⟩; have b1 : Below wq0.heap.size wq0 wp := (Below.trans (by (repeat (first | exact Below.refl _ _ | exact b2 | exact b1 | apply Below.drew))) (hb.mono (by first | omega | (simp; done) | (simp; omega) | exact b1.size | (have := b1.size; simp; omega)))); have NA := Lib.hid hzo; have NC := Lib.hid hzc; clear hb hzo hzc hzg)
            | (go_at_call 16; (with_reducible refine (HEQ.out _ _ z b1 NA.out NC.out (by (repeat (first | exact Below.refl _ _ | apply Below.drew)))).mono ?_); rintro e wq1 ⟨rfl, hb⟩; have b2 : Below wq0.heap.size wq0 wq1 := (Below.trans (by (repeat (first | exact Below.refl _ _ | exact b2 | exact b1 | apply Below.drew))) (hb.mono (by first | omega | (simp; done) | (simp; omega) | exact b1.size | (have := b1.size; simp; omega)))); clear hb))
        all_goals clear e0 e1 g0 g1 KX HTX HEQ NA NC b1
        all_goals go_wp2_with fail
        all_goals go_ret
        all_goals exact ⟨rfl, Bz_wq0.out.trans (b2.mono Bz_wq0.out.size)⟩

end Go.Proofs.Ytencedbohnbogaa.EqW
