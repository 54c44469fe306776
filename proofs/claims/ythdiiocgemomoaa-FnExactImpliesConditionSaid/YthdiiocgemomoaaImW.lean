/-
  The walk of the law FnExactImpliesCondition.
-/
import Derived.Test.YthdiiocgemomoaaImI
import Derived.Test.YthdiiocgemomoaaImE
import Derived.Test.YthdiiocgemomoaaCoEq
import Derived.Deep.RegionHeld3
namespace Go.Proofs.Ythdiiocgemomoaa.ImW
open Go.RowKit Go.Proofs.Ythdiiocgemomoaa.Cond
set_option linter.unusedVariables false

set_option maxRecDepth 100000 in
set_option maxHeartbeats 16000000 in
theorem walk (k0 k1 : K) (w : World) (hin0 : Lies w w.heap.size k0) (hin1 : Lies w w.heap.size k1) :
    Calls Try.prog 4 #[k0.val, k1.val] w fun e w' => e = .returned (.bool true) ∧ Below w.heap.size w w' := by
  obtain ⟨x, y, hx⟩ := im_is k0.cond k1.cond
  have HX := Lib.hid hx
  clear hx
  obtain ⟨w0, hw0⟩ : ∃ w0, w0 = (w.alloc (.cells #[.int .i64 k0.op, .string k0.nm, .int .i64 k0.day, .slice k0.A k0.ps.length k0.cap] 24)).alloc (.cells #[.int .i64 k1.op, .string k1.nm, .int .i64 k1.day, .slice k1.A k1.ps.length k1.cap] 24) := ⟨_, rfl⟩
  have Bz_w0 : Hid (Below w.heap.size w w0) := Lib.hid (by rw [hw0]; exact (below1 _ _).alloc (by simp) _)
  have XA_w0 : Hid (B4 w.heap.size w0 (.int .i64 k0.op) (.string k0.nm) (.int .i64 k0.day) (.slice k0.A k0.ps.length k0.cap)) := Lib.hid (by rw [hw0]; exact (B4.new _ _ _ _ _ _).alloc _)
  have XB_w0 : Hid (B4 (w.heap.size + 1) w0 (.int .i64 k1.op) (.string k1.nm) (.int .i64 k1.day) (.slice k1.A k1.ps.length k1.cap)) := Lib.hid (by rw [hw0]; have := B4.new (w.alloc (.cells #[.int .i64 k0.op, .string k0.nm, .int .i64 k0.day, .slice k0.A k0.ps.length k0.cap] 24)) (.int .i64 k1.op) (.string k1.nm) (.int .i64 k1.day) (.slice k1.A k1.ps.length k1.cap) 24; simpa using this)
  have HW0 := Lib.hid hw0
  have HI0 := Lib.hid hin0
  have HI1 := Lib.hid hin1
  clear hw0 hin0 hin1
  go_enter Try.func4, Try.ntmps4
  by_cases hz : 1048576 < k0.cond.wt
  · have HZ := sz k0 1048576 w0 (by omega) (HI0.out.on Bz_w0.out)
    rw [szRes, if_pos hz] at HZ
    have HZH := Lib.hid HZ
    clear HZ
    go_wp2_with (go_at_call 5; rw [← HW0.out]; refine HZH.out.mono ?_; rintro e wz ⟨rfl, hbz⟩)
    go_ret
    exact ⟨rfl, Bz_w0.out.trans (hbz.mono Bz_w0.out.size)⟩
  have HZ := sz k0 1048576 w0 (by omega) (HI0.out.on Bz_w0.out)
  rw [szRes, if_neg hz] at HZ
  have HZH := Lib.hid HZ
  have HLE0 : Hid (k0.cond.wt ≤ 1048576) := Lib.hid (by omega)
  obtain ⟨m0, hm0⟩ : ∃ m, m = 1048576 - k0.cond.wt := ⟨_, rfl⟩
  rw [← hm0] at HZH
  have hmb0 : m0 ≤ 1048576 := by omega
  have hmz0 : (0 : Int) ≤ (m0 : Int) := by omega
  clear HZ hm0 hz
  go_wp2_with (go_at_call 5; rw [← HW0.out]; refine HZH.out.mono ?_; rintro e w1 ⟨rfl, hb⟩; refine Hid.out ?_)
  refine Lib.hid ?_
  have Bz_w1 := Lib.hid (Bz_w0.out.trans (hb.mono Bz_w0.out.size))
  have Z1 : Hid (w0.heap.size ≤ w1.heap.size) := Lib.hid (hb.size)
  have XA_w1 := Lib.hid (XA_w0.out.on hb)
  have XB_w1 := Lib.hid (XB_w0.out.on hb)
  clear hb HZH
  obtain ⟨xbl, xb0, xb1, xb2, xb3, _⟩ := XB_w1.out
  by_cases hz : m0 < k1.cond.wt
  · have HZ := sz k1 m0 w1 (by omega) (HI1.out.on Bz_w1.out)
    rw [szRes, if_pos hz] at HZ
    have HZH := Lib.hid HZ
    clear HZ
    go_wp2_with (go_at_call 5; refine HZH.out.mono ?_; rintro e wz ⟨rfl, hbz⟩)
    go_ret
    exact ⟨rfl, Bz_w1.out.trans (hbz.mono Bz_w1.out.size)⟩
  have HZ := sz k1 m0 w1 (by omega) (HI1.out.on Bz_w1.out)
  rw [szRes, if_neg hz] at HZ
  have HZH := Lib.hid HZ
  have HLE1 : Hid (k1.cond.wt ≤ 1048576) := Lib.hid (by omega)
  obtain ⟨m1, hm1⟩ : ∃ m, m = m0 - k1.cond.wt := ⟨_, rfl⟩
  rw [← hm1] at HZH
  have hmb1 : m1 ≤ 1048576 := by omega
  have hmz1 : (0 : Int) ≤ (m1 : Int) := by omega
  clear HZ hm1 hz
  go_wp2_with (go_at_call 5; refine HZH.out.mono ?_; rintro e w2 ⟨rfl, hb⟩; refine Hid.out ?_)
  refine Lib.hid ?_
  have Bz_w2 := Lib.hid (Bz_w1.out.trans (hb.mono Bz_w1.out.size))
  have Z2 : Hid (w1.heap.size ≤ w2.heap.size) := Lib.hid (hb.size)
  have XA_w2 := Lib.hid (XA_w1.out.on hb)
  have XB_w2 := Lib.hid (XB_w1.out.on hb)
  clear hb HZH
  clear xb0 xb1 xb2 xb3 xbl
  have KX : Hid (∀ v, Below w2.heap.size w2 v → (v.cell? ⟨w.heap.size, 0, none⟩ = some (.int .i64 k0.op) ∧ v.cell? ⟨w.heap.size, 1, none⟩ = some (.string k0.nm) ∧ v.cell? ⟨w.heap.size, 2, none⟩ = some (.int .i64 k0.day) ∧ v.cell? ⟨w.heap.size, 3, none⟩ = some (.slice k0.A k0.ps.length k0.cap)) ∧ v.cell? ⟨w.heap.size + 1, 0, none⟩ = some (.int .i64 k1.op) ∧ v.cell? ⟨w.heap.size + 1, 1, none⟩ = some (.string k1.nm) ∧ v.cell? ⟨w.heap.size + 1, 2, none⟩ = some (.int .i64 k1.day) ∧ v.cell? ⟨w.heap.size + 1, 3, none⟩ = some (.slice k1.A k1.ps.length k1.cap)) := Lib.hid fun v hv => by
    have a := XA_w2.out.on hv
    have b := XB_w2.out.on hv
    exact ⟨⟨a.c0, a.c1, a.c2, a.c3⟩, b.c0, b.c1, b.c2, b.c3⟩
  have HT0 := Lib.hid fun v (hv : Below w2.heap.size w2 v) => toC k0 v (HI0.out.on (Bz_w2.out.trans (hv.mono Bz_w2.out.size))) HLE0.out
  have HT1 := Lib.hid fun v (hv : Below w2.heap.size w2 v) => toC k1 v (HI1.out.on (Bz_w2.out.trans (hv.mono Bz_w2.out.size))) HLE1.out
  have HSP : Hid (∀ v (q0 q1 : K), q0.cond = k0.cond → q1.cond = k1.cond → Lies v v.heap.size q0 → Lies v v.heap.size q1 → Calls Try.prog 12 #[q0.val, q1.val] v fun e w' => e = .returned (.tuple #[.bool x, .bool y]) ∧ Below v.heap.size v w') := Lib.hid fun v q0 q1 h0 h1 l0 l1 => specIm q0 q1 v l0 l1 (by rw [h0]; exact HLE0.out) (by rw [h1]; exact HLE1.out) x y (by rw [h0, h1]; exact HX.out)
  have hc0 := KX.out w2 (Below.refl _ _)
  go_wp2_with fail
  go_region_held3 (fun v => (v.cell? ⟨w.heap.size, 0, none⟩ = some (.int .i64 k0.op) ∧ v.cell? ⟨w.heap.size, 1, none⟩ = some (.string k0.nm) ∧ v.cell? ⟨w.heap.size, 2, none⟩ = some (.int .i64 k0.day) ∧ v.cell? ⟨w.heap.size, 3, none⟩ = some (.slice k0.A k0.ps.length k0.cap)) ∧ v.cell? ⟨w.heap.size + 1, 0, none⟩ = some (.int .i64 k1.op) ∧ v.cell? ⟨w.heap.size + 1, 1, none⟩ = some (.string k1.nm) ∧ v.cell? ⟨w.heap.size + 1, 2, none⟩ = some (.int .i64 k1.day) ∧ v.cell? ⟨w.heap.size + 1, 3, none⟩ = some (.slice k1.A k1.ps.length k1.cap)) (first | (refine KX.out _ ?_; (repeat (first | exact Below.refl _ _ | exact b3 | exact b2 | exact b1 | apply Below.drew)); done))
    (first
      | (go_at_call 7; (with_reducible refine (HT0.out _ (by (repeat (first | exact Below.refl _ _ | apply Below.drew)))).mono ?_); rintro e wa ⟨q0, rfl, hq0, ho0, hb⟩; have b1 : Below w2.heap.size w2 wa := (Below.trans (by (repeat (first | exact Below.refl _ _ | apply Below.drew))) (hb.mono (by first | omega | (simp; done) | (simp; omega) | (have := b1.size; simp; omega) | exact b1.size))); have Q0 := Lib.hid hq0; have L0 := Lib.hid ho0.lies; clear hb hq0 ho0)
      | (go_at_call 7; (with_reducible refine (HT1.out _ (by (repeat (first | exact Below.refl _ _ | exact b1 | apply Below.drew)))).mono ?_); rintro e wb ⟨q1, rfl, hq1, ho1, hb⟩; have b2 : Below w2.heap.size w2 wb := (Below.trans (by (repeat (first | exact Below.refl _ _ | exact b1 | apply Below.drew))) (hb.mono (by first | omega | (simp; done) | (simp; omega) | (have := b1.size; simp; omega) | exact b1.size))); have e2 : Below wa.heap.size wa wb := Below.trans (by (repeat (first | exact Below.refl _ _ | apply Below.drew))) (hb.mono (by first | omega | (simp; done) | (simp; omega))); have Q1 := Lib.hid hq1; have L1 := Lib.hid ho1.lies; have L0b := Lib.hid (L0.out.on e2); clear hb hq1 ho1 e2)
      | (go_at_call 12; (with_reducible refine (HSP.out _ q0 q1 Q0.out Q1.out (L0b.out.on (by (repeat (first | exact Below.refl _ _ | apply Below.drew)))) (L1.out.on (by (repeat (first | exact Below.refl _ _ | apply Below.drew))))).mono ?_); rintro e wc ⟨rfl, hb⟩; have b3 : Below w2.heap.size w2 wc := (Below.trans (by (repeat (first | exact Below.refl _ _ | exact b2 | apply Below.drew))) (hb.mono (by first | omega | (simp; done) | (simp; omega) | (have := b2.size; simp; omega) | exact b2.size))); clear hb))
  all_goals clear hc0 KX HT0 HT1 HSP
  all_goals
    clear b1 b2 Q0 Q1 L0 L1 L0b
    have Bz_wc := Lib.hid (Bz_w2.out.trans (b3.mono Bz_w2.out.size))
    have Z3 : Hid (w2.heap.size ≤ wc.heap.size) := Lib.hid (b3.size)
    have XA_wc := Lib.hid (XA_w2.out.on b3)
    have XB_wc := Lib.hid (XB_w2.out.on b3)
    clear b3
    have HT := Lib.hid (toC k0 wc (HI0.out.on Bz_wc.out) HLE0.out)
    obtain ⟨xal, xa0, xa1, xa2, xa3, _⟩ := XA_wc.out
    obtain ⟨xbl, xb0, xb1, xb2, xb3, _⟩ := XB_wc.out
    go_wp2_with (go_at_call 7; refine (HT.out).mono ?_; rintro e w3 ⟨x0, rfl, hcd, how, hb⟩; refine Hid.out ?_)
    refine Lib.hid ?_
    clear xa0 xa1 xa2 xa3 xal xb0 xb1 xb2 xb3 xbl
    have HCx0 := Lib.hid hcd
    have Wx0_w3 := Lib.hid how.lies
    have Bz_w3 := Lib.hid (Bz_wc.out.trans (hb.mono Bz_wc.out.size))
    have Z4 : Hid (wc.heap.size ≤ w3.heap.size) := Lib.hid (hb.size)
    have XA_w3 := Lib.hid (XA_wc.out.on hb)
    have XB_w3 := Lib.hid (XB_wc.out.on hb)
    clear hcd how hb HT
    obtain ⟨w4, hwx⟩ : ∃ wx, wx = w3.alloc (.cells #[.int .i64 x0.op, .string x0.nm, .int .i64 x0.day, .slice x0.A x0.ps.length x0.cap] 28) := ⟨_, rfl⟩
    have hb : Below w3.heap.size w3 w4 := by rw [hwx]; exact below1 _ _
    have XCn : Hid (B4 w3.heap.size w4 (.int .i64 x0.op) (.string x0.nm) (.int .i64 x0.day) (.slice x0.A x0.ps.length x0.cap)) := Lib.hid (by rw [hwx]; exact B4.new _ _ _ _ _ _)
    have Bz_w4 := Lib.hid (Bz_w3.out.trans (hb.mono Bz_w3.out.size))
    have Z5 : Hid (w3.heap.size ≤ w4.heap.size) := Lib.hid (hb.size)
    have XA_w4 := Lib.hid (XA_w3.out.on hb)
    have XB_w4 := Lib.hid (XB_w3.out.on hb)
    have Wx0_w4 := Lib.hid (Wx0_w3.out.on hb)
    have Z6 : Hid (w3.heap.size < w4.heap.size) := Lib.hid (by rw [hwx]; simp)
    have XC_w4 := XCn
    have HW_w4 := Lib.hid hwx
    clear hwx hb XCn
    have HT := Lib.hid (toC k1 w4 (HI1.out.on Bz_w4.out) HLE1.out)
    obtain ⟨xal, xa0, xa1, xa2, xa3, _⟩ := XA_w3.out
    obtain ⟨xbl, xb0, xb1, xb2, xb3, _⟩ := XB_w3.out
    go_wp2_with (go_at_call 7; (try rw [← HW_w4.out]); refine (HT.out).mono ?_; rintro e w5 ⟨x1, rfl, hcd, how, hb⟩; refine Hid.out ?_)
    refine Lib.hid ?_
    clear xa0 xa1 xa2 xa3 xal xb0 xb1 xb2 xb3 xbl
    have HCx1 := Lib.hid hcd
    have Wx1_w5 := Lib.hid how.lies
    have Bz_w5 := Lib.hid (Bz_w4.out.trans (hb.mono Bz_w4.out.size))
    have Z7 : Hid (w4.heap.size ≤ w5.heap.size) := Lib.hid (hb.size)
    have XA_w5 := Lib.hid (XA_w4.out.on hb)
    have XB_w5 := Lib.hid (XB_w4.out.on hb)
    have Wx0_w5 := Lib.hid (Wx0_w4.out.on hb)
    have XC_w5 := Lib.hid (XC_w4.out.on hb)
    clear hcd how hb HT
    obtain ⟨w6, hwx⟩ : ∃ wx, wx = w5.alloc (.cells #[.int .i64 x1.op, .string x1.nm, .int .i64 x1.day, .slice x1.A x1.ps.length x1.cap] 28) := ⟨_, rfl⟩
    have hb : Below w5.heap.size w5 w6 := by rw [hwx]; exact below1 _ _
    have XDn : Hid (B4 w5.heap.size w6 (.int .i64 x1.op) (.string x1.nm) (.int .i64 x1.day) (.slice x1.A x1.ps.length x1.cap)) := Lib.hid (by rw [hwx]; exact B4.new _ _ _ _ _ _)
    have Bz_w6 := Lib.hid (Bz_w5.out.trans (hb.mono Bz_w5.out.size))
    have Z8 : Hid (w5.heap.size ≤ w6.heap.size) := Lib.hid (hb.size)
    have XA_w6 := Lib.hid (XA_w5.out.on hb)
    have XB_w6 := Lib.hid (XB_w5.out.on hb)
    have Wx0_w6 := Lib.hid (Wx0_w5.out.on hb)
    have XC_w6 := Lib.hid (XC_w5.out.on hb)
    have Wx1_w6 := Lib.hid (Wx1_w5.out.on hb)
    have Z9 : Hid (w5.heap.size < w6.heap.size) := Lib.hid (by rw [hwx]; simp)
    have XD_w6 := XDn
    have HW_w6 := Lib.hid hwx
    clear hwx hb XDn
    have HCALL := Lib.hid (implIm x0 x1 w6 Wx0_w6.out Wx1_w6.out (by rw [HCx0.out]; exact HLE0.out) (by rw [HCx1.out]; exact HLE1.out) x y (by rw [HCx0.out, HCx1.out]; exact HX.out))
    obtain ⟨xcl, xc0, xc1, xc2, xc3, _⟩ := XC_w5.out
    go_wp2_with (go_at_call 13; (try rw [← HW_w6.out]); refine (HCALL.out).mono ?_; rintro e w7 ⟨rfl, hb⟩; refine Hid.out ?_)
    refine Lib.hid ?_
    clear xc0 xc1 xc2 xc3 xcl
    clear HCALL
    have Bz_w7 := Lib.hid (Bz_w6.out.trans (hb.mono Bz_w6.out.size))
    have Z10 : Hid (w6.heap.size ≤ w7.heap.size) := Lib.hid (hb.size)
    have XA_w7 := Lib.hid (XA_w6.out.on hb)
    have XB_w7 := Lib.hid (XB_w6.out.on hb)
    have Wx0_w7 := Lib.hid (Wx0_w6.out.on hb)
    have XC_w7 := Lib.hid (XC_w6.out.on hb)
    have Wx1_w7 := Lib.hid (Wx1_w6.out.on hb)
    have XD_w7 := Lib.hid (XD_w6.out.on hb)
    clear hb
    cases x <;> cases y
    all_goals
      have KX : Hid (∀ v, Below w7.heap.size w7 v → (v.cell? ⟨w.heap.size, 0, none⟩ = some (.int .i64 k0.op) ∧ v.cell? ⟨w.heap.size, 1, none⟩ = some (.string k0.nm) ∧ v.cell? ⟨w.heap.size, 2, none⟩ = some (.int .i64 k0.day) ∧ v.cell? ⟨w.heap.size, 3, none⟩ = some (.slice k0.A k0.ps.length k0.cap)) ∧ v.cell? ⟨w3.heap.size, 0, none⟩ = some (.int .i64 x0.op) ∧ v.cell? ⟨w3.heap.size, 1, none⟩ = some (.string x0.nm) ∧ v.cell? ⟨w3.heap.size, 2, none⟩ = some (.int .i64 x0.day) ∧ v.cell? ⟨w3.heap.size, 3, none⟩ = some (.slice x0.A x0.ps.length x0.cap)) := Lib.hid fun v hv => by
        have a := XA_w7.out.on hv
        have b := XC_w7.out.on hv
        exact ⟨⟨a.c0, a.c1, a.c2, a.c3⟩, b.c0, b.c1, b.c2, b.c3⟩
      have HTX := Lib.hid fun v (hv : Below w7.heap.size w7 v) => toC k0 v (HI0.out.on (Bz_w7.out.trans (hv.mono Bz_w7.out.size))) HLE0.out
      have HEQ : Hid (∀ v wa (z : K) B, Below w7.heap.size w7 wa → Own wa B wa.heap.size z → z.cond = k0.cond → Below wa.heap.size wa v → Calls Try.prog 9 #[x0.val, z.val] v fun e w' => e = .returned (.bool true) ∧ Below v.heap.size v w') :=
        Lib.hid fun v wa z B hx hz hc hv => eqC x0 z v (by rw [HCx0.out, hc]) (by rw [HCx0.out]; exact HLE0.out) ((Wx0_w7.out.on hx).on hv) (hz.lies.on hv)
      have hcells := KX.out w7 (Below.refl _ _)
      go_wp2_with fail
      go_region_held3 (fun v => (v.cell? ⟨w.heap.size, 0, none⟩ = some (.int .i64 k0.op) ∧ v.cell? ⟨w.heap.size, 1, none⟩ = some (.string k0.nm) ∧ v.cell? ⟨w.heap.size, 2, none⟩ = some (.int .i64 k0.day) ∧ v.cell? ⟨w.heap.size, 3, none⟩ = some (.slice k0.A k0.ps.length k0.cap)) ∧ v.cell? ⟨w3.heap.size, 0, none⟩ = some (.int .i64 x0.op) ∧ v.cell? ⟨w3.heap.size, 1, none⟩ = some (.string x0.nm) ∧ v.cell? ⟨w3.heap.size, 2, none⟩ = some (.int .i64 x0.day) ∧ v.cell? ⟨w3.heap.size, 3, none⟩ = some (.slice x0.A x0.ps.length x0.cap)) (first | (refine KX.out _ ?_; (repeat (first | exact Below.refl _ _ | exact b2 | exact b1 | apply Below.drew)); done))
        (first
          | (go_at_call 7; (with_reducible refine (HTX.out _ (by (repeat (first | exact Below.refl _ _ | exact b2 | exact b1 | apply Below.drew)))).mono ?_); rintro e wp ⟨z, rfl, hzc, hzo, hb⟩; have b1 : Below w7.heap.size w7 wp := (Below.trans (by (repeat (first | exact Below.refl _ _ | exact b2 | exact b1 | apply Below.drew))) (hb.mono (by first | omega | (simp; done) | (simp; omega) | exact b1.size | (have := b1.size; simp; omega)))); have NA := Lib.hid hzo; have NC := Lib.hid hzc; clear hb hzo hzc)
          | (go_at_call 9; (with_reducible refine (HEQ.out _ _ z _ b1 NA.out NC.out (by (repeat (first | exact Below.refl _ _ | apply Below.drew)))).mono ?_); rintro e wq0 ⟨rfl, hb⟩; have b2 : Below w7.heap.size w7 wq0 := (Below.trans (by (repeat (first | exact Below.refl _ _ | exact b2 | exact b1 | apply Below.drew))) (hb.mono (by first | omega | (simp; done) | (simp; omega) | exact b1.size | (have := b1.size; simp; omega)))); clear hb))
      all_goals clear hcells KX HTX HEQ NA NC b1
      all_goals
        have Bz_wq0 := Lib.hid (Bz_w7.out.trans (b2.mono Bz_w7.out.size))
        have Z11 : Hid (w7.heap.size ≤ wq0.heap.size) := Lib.hid (b2.size)
        have XA_wq0 := Lib.hid (XA_w7.out.on b2)
        have XB_wq0 := Lib.hid (XB_w7.out.on b2)
        have Wx0_wq0 := Lib.hid (Wx0_w7.out.on b2)
        have XC_wq0 := Lib.hid (XC_w7.out.on b2)
        have Wx1_wq0 := Lib.hid (Wx1_w7.out.on b2)
        have XD_wq0 := Lib.hid (XD_w7.out.on b2)
        clear b2
        have KX : Hid (∀ v, Below wq0.heap.size wq0 v → (v.cell? ⟨w.heap.size + 1, 0, none⟩ = some (.int .i64 k1.op) ∧ v.cell? ⟨w.heap.size + 1, 1, none⟩ = some (.string k1.nm) ∧ v.cell? ⟨w.heap.size + 1, 2, none⟩ = some (.int .i64 k1.day) ∧ v.cell? ⟨w.heap.size + 1, 3, none⟩ = some (.slice k1.A k1.ps.length k1.cap)) ∧ v.cell? ⟨w5.heap.size, 0, none⟩ = some (.int .i64 x1.op) ∧ v.cell? ⟨w5.heap.size, 1, none⟩ = some (.string x1.nm) ∧ v.cell? ⟨w5.heap.size, 2, none⟩ = some (.int .i64 x1.day) ∧ v.cell? ⟨w5.heap.size, 3, none⟩ = some (.slice x1.A x1.ps.length x1.cap)) := Lib.hid fun v hv => by
          have a := XB_wq0.out.on hv
          have b := XD_wq0.out.on hv
          exact ⟨⟨a.c0, a.c1, a.c2, a.c3⟩, b.c0, b.c1, b.c2, b.c3⟩
        have HTX := Lib.hid fun v (hv : Below wq0.heap.size wq0 v) => toC k1 v (HI1.out.on (Bz_wq0.out.trans (hv.mono Bz_wq0.out.size))) HLE1.out
        have HEQ : Hid (∀ v wa (z : K) B, Below wq0.heap.size wq0 wa → Own wa B wa.heap.size z → z.cond = k1.cond → Below wa.heap.size wa v → Calls Try.prog 9 #[x1.val, z.val] v fun e w' => e = .returned (.bool true) ∧ Below v.heap.size v w') :=
          Lib.hid fun v wa z B hx hz hc hv => eqC x1 z v (by rw [HCx1.out, hc]) (by rw [HCx1.out]; exact HLE1.out) ((Wx1_wq0.out.on hx).on hv) (hz.lies.on hv)
        have hcells := KX.out wq0 (Below.refl _ _)
        go_wp2_with fail
        go_region_held3 (fun v => (v.cell? ⟨w.heap.size + 1, 0, none⟩ = some (.int .i64 k1.op) ∧ v.cell? ⟨w.heap.size + 1, 1, none⟩ = some (.string k1.nm) ∧ v.cell? ⟨w.heap.size + 1, 2, none⟩ = some (.int .i64 k1.day) ∧ v.cell? ⟨w.heap.size + 1, 3, none⟩ = some (.slice k1.A k1.ps.length k1.cap)) ∧ v.cell? ⟨w5.heap.size, 0, none⟩ = some (.int .i64 x1.op) ∧ v.cell? ⟨w5.heap.size, 1, none⟩ = some (.string x1.nm) ∧ v.cell? ⟨w5.heap.size, 2, none⟩ = some (.int .i64 x1.day) ∧ v.cell? ⟨w5.heap.size, 3, none⟩ = some (.slice x1.A x1.ps.length x1.cap)) (first | (refine KX.out _ ?_; (repeat (first | exact Below.refl _ _ | exact b2 | exact b1 | apply Below.drew)); done))
          (first
            | (go_at_call 7; (with_reducible refine (HTX.out _ (by (repeat (first | exact Below.refl _ _ | exact b2 | exact b1 | apply Below.drew)))).mono ?_); rintro e wp ⟨z, rfl, hzc, hzo, hb⟩; have b1 : Below wq0.heap.size wq0 wp := (Below.trans (by (repeat (first | exact Below.refl _ _ | exact b2 | exact b1 | apply Below.drew))) (hb.mono (by first | omega | (simp; done) | (simp; omega) | exact b1.size | (have := b1.size; simp; omega)))); have NA := Lib.hid hzo; have NC := Lib.hid hzc; clear hb hzo hzc)
            | (go_at_call 9; (with_reducible refine (HEQ.out _ _ z _ b1 NA.out NC.out (by (repeat (first | exact Below.refl _ _ | apply Below.drew)))).mono ?_); rintro e wq1 ⟨rfl, hb⟩; have b2 : Below wq0.heap.size wq0 wq1 := (Below.trans (by (repeat (first | exact Below.refl _ _ | exact b2 | exact b1 | apply Below.drew))) (hb.mono (by first | omega | (simp; done) | (simp; omega) | exact b1.size | (have := b1.size; simp; omega)))); clear hb))
        all_goals clear hcells KX HTX HEQ NA NC b1
        all_goals go_wp2_with fail
        all_goals go_ret
        all_goals exact ⟨rfl, Bz_wq0.out.trans (b2.mono Bz_wq0.out.size)⟩

end Go.Proofs.Ythdiiocgemomoaa.ImW
