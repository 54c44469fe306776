/-
  The walk of the law FnExactSimplifyCondition.
-/
import Derived.Test.YtencedbohnbogaaSfF
namespace Go.Proofs.Ytencedbohnbogaa.SfW
open Go.RowKit Go.Proofs.Ytencedbohnbogaa.Cond
set_option linter.unusedVariables false

set_option maxRecDepth 100000 in
set_option maxHeartbeats 16000000 in
theorem walk (k0 : K) (w : World) (hin : Lies w w.heap.size k0) :
    Calls Try.prog 3 #[k0.val] w fun e w' => e = .returned (.bool true) ∧ Below w.heap.size w w' := by
  obtain ⟨d, y, hx⟩ := sf_is k0.cond
  have HX := Lib.hid hx
  clear hx
  obtain ⟨w0, hw0⟩ : ∃ w0, w0 = w.alloc (.cells #[.int .i64 k0.op, .string k0.nm, .int .i64 k0.day, .slice k0.A k0.ps.length k0.cap] 24) := ⟨_, rfl⟩
  have Bz_w0 : Hid (Below w.heap.size w w0) := Lib.hid (by rw [hw0]; exact below1 _ _)
  have XA_w0 : Hid (B4 w.heap.size w0 (.int .i64 k0.op) (.string k0.nm) (.int .i64 k0.day) (.slice k0.A k0.ps.length k0.cap)) := Lib.hid (by rw [hw0]; exact B4.new _ _ _ _ _ _)
  have Z1 : Hid (w.heap.size < w0.heap.size) := Lib.hid (by rw [hw0]; simp)
  have HW0 := Lib.hid hw0
  have HI := Lib.hid hin
  clear hw0 hin
  go_enter Try.func3, Try.ntmps3
  by_cases hz : 1048576 < k0.cond.wt
  · have HZ := sz k0 1048576 w0 (by omega) (HI.out.on Bz_w0.out)
    rw [szRes, if_pos hz] at HZ
    have HZH := Lib.hid HZ
    clear HZ
    go_wp2_with (go_at_call 5; rw [← HW0.out]; refine HZH.out.mono ?_; rintro e wz ⟨rfl, hbz⟩)
    go_ret
    exact ⟨rfl, Bz_w0.out.trans (hbz.mono Bz_w0.out.size)⟩
  have HZ := sz k0 1048576 w0 (by omega) (HI.out.on Bz_w0.out)
  rw [szRes, if_neg hz] at HZ
  have HZH := Lib.hid HZ
  have HLK : Hid (k0.cond.wt ≤ 1048576) := Lib.hid (by omega)
  have HLE : Hid (d.wt ≤ 1048576) := Lib.hid (Nat.le_trans HX.out.wt (by omega))
  obtain ⟨m1, hm1⟩ : ∃ m, m = 1048576 - k0.cond.wt := ⟨_, rfl⟩
  rw [← hm1] at HZH
  have hm0 : (0 : Int) ≤ (m1 : Int) := by omega
  clear HZ hm1 hz
  go_wp2_with (go_at_call 5; rw [← HW0.out]; refine HZH.out.mono ?_; rintro e w1 ⟨rfl, hb⟩; refine Hid.out ?_)
  refine Lib.hid ?_
  have Bz_w1 := Lib.hid (Bz_w0.out.trans (hb.mono Bz_w0.out.size))
  have Z2 : Hid (w0.heap.size ≤ w1.heap.size) := Lib.hid (hb.size)
  have XA_w1 := Lib.hid (XA_w0.out.on hb)
  clear hb HZH
  have HT := Lib.hid (toC k0 w1 (HI.out.on Bz_w1.out) HLK.out)
  obtain ⟨xal, xa0, xa1, xa2, xa3, _⟩ := XA_w1.out
  go_wp2_with (go_at_call 7; refine (HT.out).mono ?_; rintro e w2 ⟨q, rfl, hcd, how, hb⟩; refine Hid.out ?_)
  refine Lib.hid ?_
  clear xa0 xa1 xa2 xa3 xal
  have IVq : Hid (∀ bb ∈ q.blocks, w1.heap.size ≤ bb ∧ bb < w2.heap.size) := Lib.hid fun bb hx => ⟨how.ge bb hx, how.lt bb hx⟩
  have HCq := Lib.hid hcd
  have Wq_w2 := Lib.hid (how.wr (Nat.le_refl _))
  have Bz_w2 := Lib.hid (Bz_w1.out.trans (hb.mono Bz_w1.out.size))
  have Z3 : Hid (w1.heap.size ≤ w2.heap.size) := Lib.hid (hb.size)
  have XA_w2 := Lib.hid (XA_w1.out.on hb)
  clear hcd how hb HT
  have HCALL := Lib.hid (specSf q w2 Wq_w2.out.lies (by rw [HCq.out]; exact HLK.out) d y (by rw [HCq.out]; exact HX.out))
  go_wp2_with (go_at_call 6; refine (HCALL.out).mono ?_; rintro e w3 ⟨rs, rfl, hr, hwr, hge, hb⟩; refine Hid.out ?_)
  refine Lib.hid ?_
  clear HCALL
  have IVrs : Hid (∀ bb ∈ rs.blocks, w2.heap.size ≤ bb ∧ bb < w3.heap.size) := Lib.hid fun bb hx => ⟨hge bb hx, hwr.lt bb hx⟩
  have HCrs := Lib.hid hr
  have Wrs_w3 := Lib.hid hwr
  have Bz_w3 := Lib.hid (Bz_w2.out.trans (hb.mono Bz_w2.out.size))
  have Z4 : Hid (w2.heap.size ≤ w3.heap.size) := Lib.hid (hb.size)
  have XA_w3 := Lib.hid (XA_w2.out.on hb)
  have Wq_w3 := Lib.hid (Wq_w2.out.on hb)
  clear hr hwr hge hb
  obtain ⟨w4, hwx⟩ : ∃ wx, wx = w3.alloc (.cells #[.int .i64 rs.op, .string rs.nm, .int .i64 rs.day, .slice rs.A rs.ps.length rs.cap] 28) := ⟨_, rfl⟩
  have hb : Below w3.heap.size w3 w4 := by rw [hwx]; exact below1 _ _
  have XSn : Hid (B4 w3.heap.size w4 (.int .i64 rs.op) (.string rs.nm) (.int .i64 rs.day) (.slice rs.A rs.ps.length rs.cap)) := Lib.hid (by rw [hwx]; exact B4.new _ _ _ _ _ _)
  have Bz_w4 := Lib.hid (Bz_w3.out.trans (hb.mono Bz_w3.out.size))
  have Z5 : Hid (w3.heap.size ≤ w4.heap.size) := Lib.hid (hb.size)
  have XA_w4 := Lib.hid (XA_w3.out.on hb)
  have Wrs_w4 := Lib.hid (Wrs_w3.out.on hb)
  have Z6 : Hid (w3.heap.size < w4.heap.size) := Lib.hid (by rw [hwx]; simp)
  have XS_w4 := XSn
  have HW_w4 := Lib.hid hwx
  clear hwx hb XSn
  have HT := Lib.hid (toC k0 w4 (HI.out.on Bz_w4.out) HLK.out)
  obtain ⟨xal, xa0, xa1, xa2, xa3, _⟩ := XA_w3.out
  go_wp2_with (go_at_call 7; (try rw [← HW_w4.out]); refine (HT.out).mono ?_; rintro e w5 ⟨x, rfl, hcd, how, hb⟩; refine Hid.out ?_)
  refine Lib.hid ?_
  clear xa0 xa1 xa2 xa3 xal
  have IVx : Hid (∀ bb ∈ x.blocks, w4.heap.size ≤ bb ∧ bb < w5.heap.size) := Lib.hid fun bb hx => ⟨how.ge bb hx, how.lt bb hx⟩
  have HCx := Lib.hid hcd
  have Wx_w5 := Lib.hid (how.wr (Nat.le_refl _))
  have Bz_w5 := Lib.hid (Bz_w4.out.trans (hb.mono Bz_w4.out.size))
  have Z7 : Hid (w4.heap.size ≤ w5.heap.size) := Lib.hid (hb.size)
  have XA_w5 := Lib.hid (XA_w4.out.on hb)
  have Wrs_w5 := Lib.hid (Wrs_w4.out.on hb)
  have XS_w5 := Lib.hid (XS_w4.out.on hb)
  clear hcd how hb HT
  obtain ⟨w6, hwx⟩ : ∃ wx, wx = w5.alloc (.cells #[.int .i64 x.op, .string x.nm, .int .i64 x.day, .slice x.A x.ps.length x.cap] 28) := ⟨_, rfl⟩
  have hb : Below w5.heap.size w5 w6 := by rw [hwx]; exact below1 _ _
  have XXn : Hid (B4 w5.heap.size w6 (.int .i64 x.op) (.string x.nm) (.int .i64 x.day) (.slice x.A x.ps.length x.cap)) := Lib.hid (by rw [hwx]; exact B4.new _ _ _ _ _ _)
  have Bz_w6 := Lib.hid (Bz_w5.out.trans (hb.mono Bz_w5.out.size))
  have Z8 : Hid (w5.heap.size ≤ w6.heap.size) := Lib.hid (hb.size)
  have XA_w6 := Lib.hid (XA_w5.out.on hb)
  have Wrs_w6 := Lib.hid (Wrs_w5.out.on hb)
  have XS_w6 := Lib.hid (XS_w5.out.on hb)
  have Wx_w6 := Lib.hid (Wx_w5.out.on hb)
  have Z9 : Hid (w5.heap.size < w6.heap.size) := Lib.hid (by rw [hwx]; simp)
  have XX_w6 := XXn
  have HW_w6 := Lib.hid hwx
  clear hwx hb XXn
  have HCALL := Lib.hid (implSf x w6 Wx_w6.out.lies (by rw [HCx.out]; exact HLK.out) d y (by rw [HCx.out]; exact HX.out))
  go_wp2_with (go_at_call 8; (try rw [← HW_w6.out]); refine (HCALL.out).mono ?_; rintro e w7 ⟨rg, rfl, hr, hwr, hge, hb⟩; refine Hid.out ?_)
  refine Lib.hid ?_
  clear HCALL
  have IVrg : Hid (∀ bb ∈ rg.blocks, w6.heap.size ≤ bb ∧ bb < w7.heap.size) := Lib.hid fun bb hx => ⟨hge bb hx, hwr.lt bb hx⟩
  have HCrg := Lib.hid hr
  have Wrg_w7 := Lib.hid hwr
  have Bz_w7 := Lib.hid (Bz_w6.out.trans (hb.mono Bz_w6.out.size))
  have Z10 : Hid (w6.heap.size ≤ w7.heap.size) := Lib.hid (hb.size)
  have XA_w7 := Lib.hid (XA_w6.out.on hb)
  have Wrs_w7 := Lib.hid (Wrs_w6.out.on hb)
  have XS_w7 := Lib.hid (XS_w6.out.on hb)
  have Wx_w7 := Lib.hid (Wx_w6.out.on hb)
  have XX_w7 := Lib.hid (XX_w6.out.on hb)
  clear hr hwr hge hb
  obtain ⟨w8, hwx⟩ : ∃ wx, wx = w7.alloc (.cells #[.int .i64 rg.op, .string rg.nm, .int .i64 rg.day, .slice rg.A rg.ps.length rg.cap] 28) := ⟨_, rfl⟩
  have hb : Below w7.heap.size w7 w8 := by rw [hwx]; exact below1 _ _
  have XGn : Hid (B4 w7.heap.size w8 (.int .i64 rg.op) (.string rg.nm) (.int .i64 rg.day) (.slice rg.A rg.ps.length rg.cap)) := Lib.hid (by rw [hwx]; exact B4.new _ _ _ _ _ _)
  have Bz_w8 := Lib.hid (Bz_w7.out.trans (hb.mono Bz_w7.out.size))
  have Z11 : Hid (w7.heap.size ≤ w8.heap.size) := Lib.hid (hb.size)
  have XA_w8 := Lib.hid (XA_w7.out.on hb)
  have Wrs_w8 := Lib.hid (Wrs_w7.out.on hb)
  have XS_w8 := Lib.hid (XS_w7.out.on hb)
  have Wx_w8 := Lib.hid (Wx_w7.out.on hb)
  have XX_w8 := Lib.hid (XX_w7.out.on hb)
  have Wrg_w8 := Lib.hid (Wrg_w7.out.on hb)
  have Z12 : Hid (w7.heap.size < w8.heap.size) := Lib.hid (by rw [hwx]; simp)
  have XG_w8 := XGn
  have HW_w8 := Lib.hid hwx
  clear hwx hb XGn
  have HEQ := Lib.hid (eqC rg rs w8 (by rw [HCrg.out, HCrs.out]) (by rw [HCrg.out]; exact HLE.out) ⟨Wrg_w8.out.has, Wrg_w8.out.lt⟩ ⟨Wrs_w8.out.has, Wrs_w8.out.lt⟩)
  obtain ⟨xsl, xs0, xs1, xs2, xs3, _⟩ := XS_w7.out
  go_wp2_with (go_at_call 9; (try rw [← HW_w8.out]); refine (HEQ.out).mono ?_; rintro e w9 ⟨rfl, hb⟩; refine Hid.out ?_)
  refine Lib.hid ?_
  clear xs0 xs1 xs2 xs3 xsl
  clear HEQ
  have Bz_w9 := Lib.hid (Bz_w8.out.trans (hb.mono Bz_w8.out.size))
  have Z13 : Hid (w8.heap.size ≤ w9.heap.size) := Lib.hid (hb.size)
  have XA_w9 := Lib.hid (XA_w8.out.on hb)
  have Wrs_w9 := Lib.hid (Wrs_w8.out.on hb)
  have XS_w9 := Lib.hid (XS_w8.out.on hb)
  have Wx_w9 := Lib.hid (Wx_w8.out.on hb)
  have XX_w9 := Lib.hid (XX_w8.out.on hb)
  have Wrg_w9 := Lib.hid (Wrg_w8.out.on hb)
  have XG_w9 := Lib.hid (XG_w8.out.on hb)
  clear hb
  have KX : Hid (∀ v, Below w9.heap.size w9 v → (v.cell? ⟨w.heap.size, 0, none⟩ = some (.int .i64 k0.op) ∧ v.cell? ⟨w.heap.size, 1, none⟩ = some (.string k0.nm) ∧ v.cell? ⟨w.heap.size, 2, none⟩ = some (.int .i64 k0.day) ∧ v.cell? ⟨w.heap.size, 3, none⟩ = some (.slice k0.A k0.ps.length k0.cap)) ∧ v.cell? ⟨w5.heap.size, 0, none⟩ = some (.int .i64 x.op) ∧ v.cell? ⟨w5.heap.size, 1, none⟩ = some (.string x.nm) ∧ v.cell? ⟨w5.heap.size, 2, none⟩ = some (.int .i64 x.day) ∧ v.cell? ⟨w5.heap.size, 3, none⟩ = some (.slice x.A x.ps.length x.cap)) := Lib.hid fun v hv => by
    have a := XA_w9.out.on hv
    have b := XX_w9.out.on hv
    exact ⟨⟨a.c0, a.c1, a.c2, a.c3⟩, b.c0, b.c1, b.c2, b.c3⟩
  have HTX := Lib.hid fun v (hv : Below w9.heap.size w9 v) => toC k0 v (HI.out.on (Bz_w9.out.trans (hv.mono Bz_w9.out.size))) HLK.out
  have HEQ : Hid (∀ v wa (z : K) B, Below w9.heap.size w9 wa → Own wa B wa.heap.size z → z.cond = k0.cond → Below wa.heap.size wa v → Calls Try.prog 9 #[x.val, z.val] v fun e w' => e = .returned (.bool true) ∧ Below v.heap.size v w') :=
    Lib.hid fun v wa z B hx hz hc hv => eqC x z v (by rw [HCx.out, hc]) (by rw [HCx.out]; exact HLK.out) ((Wx_w9.out.lies.on hx).on hv) (hz.lies.on hv)
  have hcells := KX.out w9 (Below.refl _ _)
  obtain ⟨⟨e0, e1, e2, e3⟩, g0, g1, g2, g3⟩ := hcells
  go_wp2_with fail
  go_region_held3 (fun v => (v.cell? ⟨w.heap.size, 0, none⟩ = some (.int .i64 k0.op) ∧ v.cell? ⟨w.heap.size, 1, none⟩ = some (.string k0.nm) ∧ v.cell? ⟨w.heap.size, 2, none⟩ = some (.int .i64 k0.day) ∧ v.cell? ⟨w.heap.size, 3, none⟩ = some (.slice k0.A k0.ps.length k0.cap)) ∧ v.cell? ⟨w5.heap.size, 0, none⟩ = some (.int .i64 x.op) ∧ v.cell? ⟨w5.heap.size, 1, none⟩ = some (.string x.nm) ∧ v.cell? ⟨w5.heap.size, 2, none⟩ = some (.int .i64 x.day) ∧ v.cell? ⟨w5.heap.size, 3, none⟩ = some (.slice x.A x.ps.length x.cap)) (first | (refine KX.out _ ?_; (repeat (first | exact Below.refl _ _ | exact b2 | exact b1 | apply Below.drew)); done))
    (first
      | (go_at_call 7; (with_reducible refine (HTX.out _ (by (repeat (first | exact Below.refl _ _ | exact b2 | exact b1 | apply Below.drew)))).mono ?_); rintro e wa ⟨z, rfl, hzc, hzo, hb⟩; have b1 : Below w9.heap.size w9 wa := (Below.trans (by (repeat (first | exact Below.refl _ _ | exact b2 | exact b1 | apply Below.drew))) (hb.mono (by first | omega | (simp; done) | (simp; omega) | exact b1.size | (have := b1.size; simp; omega)))); have NA := Lib.hid hzo; have NC := Lib.hid hzc; clear hb hzo hzc)
      | (go_at_call 9; (with_reducible refine (HEQ.out _ _ z _ b1 NA.out NC.out (by (repeat (first | exact Below.refl _ _ | apply Below.drew)))).mono ?_); rintro e wb ⟨rfl, hb⟩; have b2 : Below w9.heap.size w9 wb := (Below.trans (by (repeat (first | exact Below.refl _ _ | exact b2 | exact b1 | apply Below.drew))) (hb.mono (by first | omega | (simp; done) | (simp; omega) | exact b1.size | (have := b1.size; simp; omega)))); clear hb))
  all_goals clear e0 e1 e2 e3 g0 g1 g2 g3 KX HTX HEQ
  all_goals
    clear NA NC b1
    have Bz_wb := Lib.hid (Bz_w9.out.trans (b2.mono Bz_w9.out.size))
    have Z14 : Hid (w9.heap.size ≤ wb.heap.size) := Lib.hid (b2.size)
    have XA_wb := Lib.hid (XA_w9.out.on b2)
    have Wrs_wb := Lib.hid (Wrs_w9.out.on b2)
    have XS_wb := Lib.hid (XS_w9.out.on b2)
    have Wx_wb := Lib.hid (Wx_w9.out.on b2)
    have XX_wb := Lib.hid (XX_w9.out.on b2)
    have Wrg_wb := Lib.hid (Wrg_w9.out.on b2)
    have XG_wb := Lib.hid (XG_w9.out.on b2)
    clear b2
    have HMC := markC x 1 wb (by omega) (by have := C.size_le x.cond; have h2 : x.cond.size = 1 + sizes (conds x.ps) := (by cases x with | mk op' nm' day' A' cap' qs => simp only [K.ps, K.cond, C.size]); have h3 := HLK.out; rw [← HCx.out] at h3; omega) Wx_wb.out
    obtain ⟨t0, ht0⟩ : ∃ t, t = 1 + 3 * sizes (conds x.ps) := ⟨_, rfl⟩
    rw [← ht0] at HMC
    have HMCH := Lib.hid HMC
    have ht0p : (0 : Int) ≤ (t0 : Int) := by omega
    clear HMC ht0
    obtain ⟨xxl, xx0, xx1, xx2, xx3, _⟩ := XX_wb.out
    go_wp2_with (go_at_call 10; refine (HMCH.out).mono ?_; rintro e w10 ⟨rfl, _, hmv⟩; refine Hid.out ?_)
    refine Lib.hid ?_
    clear xx0 xx1 xx2 xx3 xxl
    have Bz_w10 := Lib.hid (Bz_wb.out.trans (hmv.below (fun b h => by have a := IVx.out b h; have z1 := Z1.out; have z2 := Z2.out; have z3 := Z3.out; have z4 := Z4.out; have z5 := Z5.out; have z6 := Z6.out; have z7 := Z7.out; have z8 := Z8.out; have z9 := Z9.out; have z10 := Z10.out; have z11 := Z11.out; have z12 := Z12.out; have z13 := Z13.out; have z14 := Z14.out; omega) Bz_wb.out.size))
    have XA_w10 := Lib.hid (XA_wb.out.alike (hmv.block _ XA_wb.out.lt (fun h => by have a := IVx.out _ h; have z1 := Z1.out; have z2 := Z2.out; have z3 := Z3.out; have z4 := Z4.out; have z5 := Z5.out; have z6 := Z6.out; have z7 := Z7.out; have z8 := Z8.out; have z9 := Z9.out; have z10 := Z10.out; have z11 := Z11.out; have z12 := Z12.out; have z13 := Z13.out; have z14 := Z14.out; omega)) hmv.size)
    have Wrs_w10 := Lib.hid (Wrs_wb.out.same (fun b hb => hmv.block b (Wrs_wb.out.lt b hb) (fun h => by have a := IVx.out b h; have c := IVrs.out b hb; have z1 := Z1.out; have z2 := Z2.out; have z3 := Z3.out; have z4 := Z4.out; have z5 := Z5.out; have z6 := Z6.out; have z7 := Z7.out; have z8 := Z8.out; have z9 := Z9.out; have z10 := Z10.out; have z11 := Z11.out; have z12 := Z12.out; have z13 := Z13.out; have z14 := Z14.out; omega)) hmv.size)
    have XS_w10 := Lib.hid (XS_wb.out.alike (hmv.block _ XS_wb.out.lt (fun h => by have a := IVx.out _ h; have z1 := Z1.out; have z2 := Z2.out; have z3 := Z3.out; have z4 := Z4.out; have z5 := Z5.out; have z6 := Z6.out; have z7 := Z7.out; have z8 := Z8.out; have z9 := Z9.out; have z10 := Z10.out; have z11 := Z11.out; have z12 := Z12.out; have z13 := Z13.out; have z14 := Z14.out; omega)) hmv.size)
    have XX_w10 := Lib.hid (XX_wb.out.alike (hmv.block _ XX_wb.out.lt (fun h => by have a := IVx.out _ h; have z1 := Z1.out; have z2 := Z2.out; have z3 := Z3.out; have z4 := Z4.out; have z5 := Z5.out; have z6 := Z6.out; have z7 := Z7.out; have z8 := Z8.out; have z9 := Z9.out; have z10 := Z10.out; have z11 := Z11.out; have z12 := Z12.out; have z13 := Z13.out; have z14 := Z14.out; omega)) hmv.size)
    have Wrg_w10 := Lib.hid (Wrg_wb.out.same (fun b hb => hmv.block b (Wrg_wb.out.lt b hb) (fun h => by have a := IVx.out b h; have c := IVrg.out b hb; have z1 := Z1.out; have z2 := Z2.out; have z3 := Z3.out; have z4 := Z4.out; have z5 := Z5.out; have z6 := Z6.out; have z7 := Z7.out; have z8 := Z8.out; have z9 := Z9.out; have z10 := Z10.out; have z11 := Z11.out; have z12 := Z12.out; have z13 := Z13.out; have z14 := Z14.out; omega)) hmv.size)
    have XG_w10 := Lib.hid (XG_wb.out.alike (hmv.block _ XG_wb.out.lt (fun h => by have a := IVx.out _ h; have z1 := Z1.out; have z2 := Z2.out; have z3 := Z3.out; have z4 := Z4.out; have z5 := Z5.out; have z6 := Z6.out; have z7 := Z7.out; have z8 := Z8.out; have z9 := Z9.out; have z10 := Z10.out; have z11 := Z11.out; have z12 := Z12.out; have z13 := Z13.out; have z14 := Z14.out; omega)) hmv.size)
    have Z15 : Hid (wb.heap.size ≤ w10.heap.size) := Lib.hid (hmv.size)
    clear hmv HMCH
    have HEQ := Lib.hid (eqC rg rs w10 (by rw [HCrg.out, HCrs.out]) (by rw [HCrg.out]; exact HLE.out) ⟨Wrg_w10.out.has, Wrg_w10.out.lt⟩ ⟨Wrs_w10.out.has, Wrs_w10.out.lt⟩)
    obtain ⟨xgl, xg0, xg1, xg2, xg3, _⟩ := XG_w10.out
    obtain ⟨xsl, xs0, xs1, xs2, xs3, _⟩ := XS_w10.out
    go_wp2_with (go_at_call 9; refine (HEQ.out).mono ?_; rintro e w11 ⟨rfl, hb⟩; refine Hid.out ?_)
    refine Lib.hid ?_
    clear xg0 xg1 xg2 xg3 xgl xs0 xs1 xs2 xs3 xsl
    clear HEQ
    have Bz_w11 := Lib.hid (Bz_w10.out.trans (hb.mono Bz_w10.out.size))
    have Z16 : Hid (w10.heap.size ≤ w11.heap.size) := Lib.hid (hb.size)
    have XA_w11 := Lib.hid (XA_w10.out.on hb)
    have Wrs_w11 := Lib.hid (Wrs_w10.out.on hb)
    have XS_w11 := Lib.hid (XS_w10.out.on hb)
    have XX_w11 := Lib.hid (XX_w10.out.on hb)
    have Wrg_w11 := Lib.hid (Wrg_w10.out.on hb)
    have XG_w11 := Lib.hid (XG_w10.out.on hb)
    clear hb
    have HMC := markC rg 1 w11 (by omega) (by have := C.size_le rg.cond; have h2 : rg.cond.size = 1 + sizes (conds rg.ps) := (by cases rg with | mk op' nm' day' A' cap' qs => simp only [K.ps, K.cond, C.size]); have h3 := HLE.out; rw [← HCrg.out] at h3; omega) Wrg_w11.out
    have HTB : Hid (1 + 3 * sizes (conds rg.ps) ≤ 90000000) := Lib.hid (by have := C.size_le rg.cond; have h2 : rg.cond.size = 1 + sizes (conds rg.ps) := (by cases rg with | mk op' nm' day' A' cap' qs => simp only [K.ps, K.cond, C.size]); have h3 := HLE.out; rw [← HCrg.out] at h3; omega)
    obtain ⟨t1, ht1⟩ : ∃ t, t = 1 + 3 * sizes (conds rg.ps) := ⟨_, rfl⟩
    rw [← ht1] at HMC
    have HT1 := Lib.hid ht1
    have HMCH := Lib.hid HMC
    have ht1p : (0 : Int) ≤ (t1 : Int) := by omega
    clear HMC ht1
    obtain ⟨xgl, xg0, xg1, xg2, xg3, _⟩ := XG_w11.out
    go_wp2_with (go_at_call 10; refine (HMCH.out).mono ?_; rintro e w12 ⟨rfl, hhd, hmv⟩; refine Hid.out ?_)
    refine Lib.hid ?_
    clear xg0 xg1 xg2 xg3 xgl
    have HD_w12 := Lib.hid hhd
    have Bz_w12 := Lib.hid (Bz_w11.out.trans (hmv.below (fun b h => by have a := IVrg.out b h; have z1 := Z1.out; have z2 := Z2.out; have z3 := Z3.out; have z4 := Z4.out; have z5 := Z5.out; have z6 := Z6.out; have z7 := Z7.out; have z8 := Z8.out; have z9 := Z9.out; have z10 := Z10.out; have z11 := Z11.out; have z12 := Z12.out; have z13 := Z13.out; have z14 := Z14.out; have z15 := Z15.out; have z16 := Z16.out; omega) Bz_w11.out.size))
    have XA_w12 := Lib.hid (XA_w11.out.alike (hmv.block _ XA_w11.out.lt (fun h => by have a := IVrg.out _ h; have z1 := Z1.out; have z2 := Z2.out; have z3 := Z3.out; have z4 := Z4.out; have z5 := Z5.out; have z6 := Z6.out; have z7 := Z7.out; have z8 := Z8.out; have z9 := Z9.out; have z10 := Z10.out; have z11 := Z11.out; have z12 := Z12.out; have z13 := Z13.out; have z14 := Z14.out; have z15 := Z15.out; have z16 := Z16.out; omega)) hmv.size)
    have Wrs_w12 := Lib.hid (Wrs_w11.out.same (fun b hb => hmv.block b (Wrs_w11.out.lt b hb) (fun h => by have a := IVrg.out b h; have c := IVrs.out b hb; have z1 := Z1.out; have z2 := Z2.out; have z3 := Z3.out; have z4 := Z4.out; have z5 := Z5.out; have z6 := Z6.out; have z7 := Z7.out; have z8 := Z8.out; have z9 := Z9.out; have z10 := Z10.out; have z11 := Z11.out; have z12 := Z12.out; have z13 := Z13.out; have z14 := Z14.out; have z15 := Z15.out; have z16 := Z16.out; omega)) hmv.size)
    have XS_w12 := Lib.hid (XS_w11.out.alike (hmv.block _ XS_w11.out.lt (fun h => by have a := IVrg.out _ h; have z1 := Z1.out; have z2 := Z2.out; have z3 := Z3.out; have z4 := Z4.out; have z5 := Z5.out; have z6 := Z6.out; have z7 := Z7.out; have z8 := Z8.out; have z9 := Z9.out; have z10 := Z10.out; have z11 := Z11.out; have z12 := Z12.out; have z13 := Z13.out; have z14 := Z14.out; have z15 := Z15.out; have z16 := Z16.out; omega)) hmv.size)
    have XX_w12 := Lib.hid (XX_w11.out.alike (hmv.block _ XX_w11.out.lt (fun h => by have a := IVrg.out _ h; have z1 := Z1.out; have z2 := Z2.out; have z3 := Z3.out; have z4 := Z4.out; have z5 := Z5.out; have z6 := Z6.out; have z7 := Z7.out; have z8 := Z8.out; have z9 := Z9.out; have z10 := Z10.out; have z11 := Z11.out; have z12 := Z12.out; have z13 := Z13.out; have z14 := Z14.out; have z15 := Z15.out; have z16 := Z16.out; omega)) hmv.size)
    have XG_w12 := Lib.hid (XG_w11.out.alike (hmv.block _ XG_w11.out.lt (fun h => by have a := IVrg.out _ h; have z1 := Z1.out; have z2 := Z2.out; have z3 := Z3.out; have z4 := Z4.out; have z5 := Z5.out; have z6 := Z6.out; have z7 := Z7.out; have z8 := Z8.out; have z9 := Z9.out; have z10 := Z10.out; have z11 := Z11.out; have z12 := Z12.out; have z13 := Z13.out; have z14 := Z14.out; have z15 := Z15.out; have z16 := Z16.out; omega)) hmv.size)
    have Z17 : Hid (w11.heap.size ≤ w12.heap.size) := Lib.hid (hmv.size)
    clear hmv hhd HMCH
    have HHH := heldC rg 1 w12 (by omega) HTB.out HD_w12.out
    rw [← HT1.out] at HHH
    have HHC := Lib.hid HHH
    clear HHH
    obtain ⟨xgl, xg0, xg1, xg2, xg3, _⟩ := XG_w12.out
    go_wp2_with (go_at_call 11; refine (HHC.out).mono ?_; rintro e w13 ⟨rfl, hb⟩; refine Hid.out ?_)
    refine Lib.hid ?_
    clear xg0 xg1 xg2 xg3 xgl
    have Bz_w13 := Lib.hid (Bz_w12.out.trans (hb.mono Bz_w12.out.size))
    have Z18 : Hid (w12.heap.size ≤ w13.heap.size) := Lib.hid (hb.size)
    have XA_w13 := Lib.hid (XA_w12.out.on hb)
    have Wrs_w13 := Lib.hid (Wrs_w12.out.on hb)
    have XS_w13 := Lib.hid (XS_w12.out.on hb)
    have XX_w13 := Lib.hid (XX_w12.out.on hb)
    have XG_w13 := Lib.hid (XG_w12.out.on hb)
    have HD_w13 := Lib.hid (HD_w12.out.on hb)
    clear hb HHC
    have HT := Lib.hid (toC k0 w13 (HI.out.on Bz_w13.out) HLK.out)
    obtain ⟨xal, xa0, xa1, xa2, xa3, _⟩ := XA_w13.out
    go_wp2_with (go_at_call 7; refine (HT.out).mono ?_; rintro e w14 ⟨h, rfl, hcd, how, hb⟩; refine Hid.out ?_)
    refine Lib.hid ?_
    clear xa0 xa1 xa2 xa3 xal
    have IVh : Hid (∀ bb ∈ h.blocks, w13.heap.size ≤ bb ∧ bb < w14.heap.size) := Lib.hid fun bb hx => ⟨how.ge bb hx, how.lt bb hx⟩
    have HCh := Lib.hid hcd
    have Wh_w14 := Lib.hid (how.wr (Nat.le_refl _))
    have Bz_w14 := Lib.hid (Bz_w13.out.trans (hb.mono Bz_w13.out.size))
    have Z19 : Hid (w13.heap.size ≤ w14.heap.size) := Lib.hid (hb.size)
    have XA_w14 := Lib.hid (XA_w13.out.on hb)
    have Wrs_w14 := Lib.hid (Wrs_w13.out.on hb)
    have XS_w14 := Lib.hid (XS_w13.out.on hb)
    have XX_w14 := Lib.hid (XX_w13.out.on hb)
    have XG_w14 := Lib.hid (XG_w13.out.on hb)
    have HD_w14 := Lib.hid (HD_w13.out.on hb)
    clear hcd how hb HT
    have HCALL := Lib.hid (implSf h w14 Wh_w14.out.lies (by rw [HCh.out]; exact HLK.out) d y (by rw [HCh.out]; exact HX.out))
    go_wp2_with (go_at_call 8; refine (HCALL.out).mono ?_; rintro e w15 ⟨rh, rfl, hr, hwr, hge, hb⟩; refine Hid.out ?_)
    refine Lib.hid ?_
    clear HCALL
    have IVrh : Hid (∀ bb ∈ rh.blocks, w14.heap.size ≤ bb ∧ bb < w15.heap.size) := Lib.hid fun bb hx => ⟨hge bb hx, hwr.lt bb hx⟩
    have HCrh := Lib.hid hr
    have Wrh_w15 := Lib.hid hwr
    have Bz_w15 := Lib.hid (Bz_w14.out.trans (hb.mono Bz_w14.out.size))
    have Z20 : Hid (w14.heap.size ≤ w15.heap.size) := Lib.hid (hb.size)
    have XA_w15 := Lib.hid (XA_w14.out.on hb)
    have Wrs_w15 := Lib.hid (Wrs_w14.out.on hb)
    have XS_w15 := Lib.hid (XS_w14.out.on hb)
    have XX_w15 := Lib.hid (XX_w14.out.on hb)
    have XG_w15 := Lib.hid (XG_w14.out.on hb)
    have HD_w15 := Lib.hid (HD_w14.out.on hb)
    have Wh_w15 := Lib.hid (Wh_w14.out.on hb)
    clear hr hwr hge hb
    obtain ⟨w16, hwx⟩ : ∃ wx, wx = w15.alloc (.cells #[.int .i64 rh.op, .string rh.nm, .int .i64 rh.day, .slice rh.A rh.ps.length rh.cap] 28) := ⟨_, rfl⟩
    have hb : Below w15.heap.size w15 w16 := by rw [hwx]; exact below1 _ _
    have XHn : Hid (B4 w15.heap.size w16 (.int .i64 rh.op) (.string rh.nm) (.int .i64 rh.day) (.slice rh.A rh.ps.length rh.cap)) := Lib.hid (by rw [hwx]; exact B4.new _ _ _ _ _ _)
    have Bz_w16 := Lib.hid (Bz_w15.out.trans (hb.mono Bz_w15.out.size))
    have Z21 : Hid (w15.heap.size ≤ w16.heap.size) := Lib.hid (hb.size)
    have XA_w16 := Lib.hid (XA_w15.out.on hb)
    have Wrs_w16 := Lib.hid (Wrs_w15.out.on hb)
    have XS_w16 := Lib.hid (XS_w15.out.on hb)
    have XX_w16 := Lib.hid (XX_w15.out.on hb)
    have XG_w16 := Lib.hid (XG_w15.out.on hb)
    have HD_w16 := Lib.hid (HD_w15.out.on hb)
    have Wh_w16 := Lib.hid (Wh_w15.out.on hb)
    have Wrh_w16 := Lib.hid (Wrh_w15.out.on hb)
    have Z22 : Hid (w15.heap.size < w16.heap.size) := Lib.hid (by rw [hwx]; simp)
    have XH_w16 := XHn
    have HW_w16 := Lib.hid hwx
    clear hwx hb XHn
    have HEQ := Lib.hid (eqC rh rs w16 (by rw [HCrh.out, HCrs.out]) (by rw [HCrh.out]; exact HLE.out) ⟨Wrh_w16.out.has, Wrh_w16.out.lt⟩ ⟨Wrs_w16.out.has, Wrs_w16.out.lt⟩)
    obtain ⟨xsl, xs0, xs1, xs2, xs3, _⟩ := XS_w15.out
    go_wp2_with (go_at_call 9; (try rw [← HW_w16.out]); refine (HEQ.out).mono ?_; rintro e w17 ⟨rfl, hb⟩; refine Hid.out ?_)
    refine Lib.hid ?_
    clear xs0 xs1 xs2 xs3 xsl
    clear HEQ
    have Bz_w17 := Lib.hid (Bz_w16.out.trans (hb.mono Bz_w16.out.size))
    have Z23 : Hid (w16.heap.size ≤ w17.heap.size) := Lib.hid (hb.size)
    have XA_w17 := Lib.hid (XA_w16.out.on hb)
    have Wrs_w17 := Lib.hid (Wrs_w16.out.on hb)
    have XS_w17 := Lib.hid (XS_w16.out.on hb)
    have XX_w17 := Lib.hid (XX_w16.out.on hb)
    have XG_w17 := Lib.hid (XG_w16.out.on hb)
    have HD_w17 := Lib.hid (HD_w16.out.on hb)
    have Wh_w17 := Lib.hid (Wh_w16.out.on hb)
    have Wrh_w17 := Lib.hid (Wrh_w16.out.on hb)
    have XH_w17 := Lib.hid (XH_w16.out.on hb)
    clear hb
    have HHH := heldC rg 1 w17 (by omega) HTB.out HD_w17.out
    rw [← HT1.out] at HHH
    have HHC := Lib.hid HHH
    clear HHH
    obtain ⟨xgl, xg0, xg1, xg2, xg3, _⟩ := XG_w17.out
    go_wp2_with (go_at_call 11; refine (HHC.out).mono ?_; rintro e w18 ⟨rfl, hb⟩; refine Hid.out ?_)
    refine Lib.hid ?_
    clear xg0 xg1 xg2 xg3 xgl
    have Bz_w18 := Lib.hid (Bz_w17.out.trans (hb.mono Bz_w17.out.size))
    have Z24 : Hid (w17.heap.size ≤ w18.heap.size) := Lib.hid (hb.size)
    have XA_w18 := Lib.hid (XA_w17.out.on hb)
    have Wrs_w18 := Lib.hid (Wrs_w17.out.on hb)
    have XS_w18 := Lib.hid (XS_w17.out.on hb)
    have XX_w18 := Lib.hid (XX_w17.out.on hb)
    have XG_w18 := Lib.hid (XG_w17.out.on hb)
    have HD_w18 := Lib.hid (HD_w17.out.on hb)
    have Wh_w18 := Lib.hid (Wh_w17.out.on hb)
    have Wrh_w18 := Lib.hid (Wrh_w17.out.on hb)
    have XH_w18 := Lib.hid (XH_w17.out.on hb)
    clear hb HHC
    go_wp2_with fail
    go_ret
    exact ⟨rfl, Bz_w18.out⟩

end Go.Proofs.Ytencedbohnbogaa.SfW
