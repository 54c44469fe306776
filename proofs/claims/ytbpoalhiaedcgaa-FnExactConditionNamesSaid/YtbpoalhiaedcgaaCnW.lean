/-
  The walk of the law FnExactConditionNames.
-/
import Derived.Test.YtbpoalhiaedcgaaCnF
import Derived.Test.YtbpoalhiaedcgaaCoHe
namespace Go.Proofs.Ytbpoalhiaedcgaa.CnW
open Go.RowKit Go.Proofs.Ytbpoalhiaedcgaa.Cond
set_option linter.unusedVariables false

set_option maxHeartbeats 8000000 in
theorem walk (k0 : K) (w : World) (hin0 : Lies w w.heap.size k0) :
    Calls Try.prog 6 #[k0.val] w fun e w' => e = .returned (.bool true) ∧ Below w.heap.size w w' := by
  obtain ⟨w0, hw0⟩ : ∃ w0, w0 = w.alloc (.cells #[.int .i64 k0.op, .string k0.nm, .int .i64 k0.day, .slice k0.A k0.ps.length k0.cap] 25) := ⟨_, rfl⟩
  have Bz0 : Hid (Below w.heap.size w w0) := Lib.hid (by rw [hw0]; exact below1 _ _)
  have X0_0 : Hid (B4 (w.heap.size) w0 (.int .i64 k0.op) (.string k0.nm) (.int .i64 k0.day) (.slice k0.A k0.ps.length k0.cap)) := Lib.hid (by rw [hw0]; have := B4.new w (.int .i64 k0.op) (.string k0.nm) (.int .i64 k0.day) (.slice k0.A k0.ps.length k0.cap) 25; simpa using this)
  have HW0 := Lib.hid hw0
  clear hw0
  have HI0 := Lib.hid hin0
  clear hin0
  go_enter Try.func6, Try.ntmps6
  by_cases hz0 : 1048576 < k0.cond.wt
  · have HZ := sz k0 1048576 w0 (by omega) (HI0.out.on Bz0.out)
    rw [szRes, if_pos hz0] at HZ
    have HZH := Lib.hid HZ
    clear HZ
    go_wp2_with (go_at_call 12; rw [← HW0.out]; refine HZH.out.mono ?_; rintro e wz ⟨rfl, hbz⟩)
    go_ret
    exact ⟨rfl, Bz0.out.trans (hbz.mono Bz0.out.size)⟩
  have HZ0 := sz k0 1048576 w0 (by omega) (HI0.out.on Bz0.out)
  rw [szRes, if_neg hz0] at HZ0
  have HZH0 := Lib.hid HZ0
  have HLE0 : Hid (k0.cond.wt ≤ 1048576) := Lib.hid (by omega)
  obtain ⟨m1, hm_1⟩ : ∃ m, m = 1048576 - k0.cond.wt := ⟨_, rfl⟩
  rw [← hm_1] at HZH0
  have hmm1 : m1 ≤ 1048576 := by omega
  have hm0_1 : (0 : Int) ≤ (m1 : Int) := by omega
  clear HZ0 hm_1 hz0
  go_wp2_with (go_at_call 12; rw [← HW0.out]; refine HZH0.out.mono ?_; rintro e w1 ⟨rfl, hb⟩; refine Hid.out ?_)
  refine Lib.hid ?_
  have Bz1 := Lib.hid (Bz0.out.trans (hb.mono Bz0.out.size))
  have X0_1 := Lib.hid (X0_0.out.on hb)
  clear hb
  obtain ⟨_, x00, x01, x02, x03, _⟩ := X0_1.out
  have HT := Lib.hid (toC k0 w1 (HI0.out.on Bz1.out) HLE0.out)
  go_wp2_with (go_at_call 14; refine HT.out.mono ?_; rintro e w2 ⟨q0, rfl, hq0, hoq0, hb⟩; refine Hid.out ?_)
  refine Lib.hid ?_
  clear HT
  clear x00 x01 x02 x03
  have Bz2 := Lib.hid (Bz1.out.trans (hb.mono Bz1.out.size))
  have X0_2 := Lib.hid (X0_1.out.on hb)
  have Lq0_2 := Lib.hid hoq0.lies
  have HCq0 := Lib.hid hq0
  clear hb hoq0 hq0
  obtain ⟨D, y, hx⟩ := CnF.cn_is k0.cond
  have HX := Lib.hid hx
  have HDL := Lib.hid hx.len
  clear hx
  have HSP := CnF.specCn q0 w2 (Lq0_2.out) (by rw [HCq0.out]; exact HLE0.out) D y (by rw [HCq0.out]; exact HX.out)
  have HSPH := Lib.hid HSP
  clear HSP
  go_wp2_with (go_at_call 22; refine HSPH.out.mono ?_; rintro e w3 ⟨gs, _, cs, rfl, rfl, hos, hb⟩; refine Hid.out ?_)
  refine Lib.hid ?_
  have Bz3 := Lib.hid (Bz2.out.trans (hb.mono Bz2.out.size))
  have X0_3 := Lib.hid (X0_2.out.on hb)
  have Rs_3 := Lib.hid hos
  clear hos
  clear hb HSPH
  obtain ⟨_, x00, x01, x02, x03, _⟩ := X0_3.out
  have HT := Lib.hid (toC k0 w3 (HI0.out.on Bz3.out) HLE0.out)
  go_wp2_with (go_at_call 14; refine HT.out.mono ?_; rintro e w4 ⟨x0, rfl, hx0, hox0, hb⟩; refine Hid.out ?_)
  refine Lib.hid ?_
  clear HT
  clear x00 x01 x02 x03
  have Bz4 := Lib.hid (Bz3.out.trans (hb.mono Bz3.out.size))
  have X0_4 := Lib.hid (X0_3.out.on hb)
  have Rs_4 := Lib.hid (CnF.own_on Rs_3.out hb)
  have OWx0_4 := Lib.hid hox0
  have EOWx0_4 : Hid (w4.heap.size ≤ w4.heap.size) := Lib.hid (Nat.le_refl _)
  have SOWx0 : Hid (w.heap.size < w3.heap.size) := Lib.hid (by have := X0_3.out.lt; have := Bz3.out.size; omega)
  have SSEX : Hid (w3.heap.size ≤ w4.heap.size) := Lib.hid hb.size
  have Lx0_4 := Lib.hid hox0.lies
  have HCx0 := Lib.hid hx0
  clear hb hox0 hx0
  obtain ⟨w5, hwx⟩ : ∃ wx, wx = w4.alloc (.cells #[.int .i64 x0.op, .string x0.nm, .int .i64 x0.day, .slice x0.A x0.ps.length x0.cap] 30) := ⟨_, rfl⟩
  have hb : Below w4.heap.size w4 w5 := by rw [hwx]; exact below1 _ _
  have Y0_5 : Hid (B4 w4.heap.size w5 (.int .i64 x0.op) (.string x0.nm) (.int .i64 x0.day) (.slice x0.A x0.ps.length x0.cap)) := Lib.hid (by rw [hwx]; exact B4.new _ _ _ _ _ _)
  have Bz5 := Lib.hid (Bz4.out.trans (hb.mono Bz4.out.size))
  have X0_5 := Lib.hid (X0_4.out.on hb)
  have Lx0_5 := Lib.hid (Lx0_4.out.on hb)
  have Rs_5 := Lib.hid (CnF.own_on Rs_4.out hb)
  have OWx0_5 := Lib.hid (OWx0_4.out.below hb EOWx0_4.out)
  have EOWx0_5 := Lib.hid (Nat.le_trans EOWx0_4.out hb.size)
  have HWX0 := Lib.hid hwx
  clear hwx hb
  have HIMP := CnF.implCn x0 w5 (Lx0_5.out) (by rw [HCx0.out]; exact HLE0.out) D y (by rw [HCx0.out]; exact HX.out)
  have HIMH := Lib.hid HIMP
  clear HIMP
  go_wp2_with (go_at_call 23; rw [← HWX0.out]; refine HIMH.out.mono ?_; rintro e w6 ⟨gi, _, ci, rfl, rfl, hoi, hb⟩; refine Hid.out ?_)
  refine Lib.hid ?_
  have Bz6 := Lib.hid (Bz5.out.trans (hb.mono Bz5.out.size))
  have X0_6 := Lib.hid (X0_5.out.on hb)
  have Lx0_6 := Lib.hid (Lx0_5.out.on hb)
  have Y0_6 := Lib.hid (Y0_5.out.on hb)
  have Rs_6 := Lib.hid (CnF.own_on Rs_5.out hb)
  have OWx0_6 := Lib.hid (OWx0_5.out.below hb EOWx0_5.out)
  have EOWx0_6 := Lib.hid (Nat.le_trans EOWx0_5.out hb.size)
  have Ri_6 := Lib.hid hoi
  clear hoi
  clear hb HIMH
  have SGI : Hid (w4.heap.size ≤ w5.heap.size) := Lib.hid (by have := EOWx0_5.out; omega)
  have SGS : Hid (gs < w3.heap.size) := Lib.hid (Rs_3.out.lt gs rfl).2
  have SYB : Hid (w4.heap.size ≤ w4.heap.size) := Lib.hid (Nat.le_refl _)
  have SYI : Hid (w4.heap.size < w5.heap.size) := Lib.hid Y0_5.out.lt
  have HSD : Hid (D.length = (UniT.strs D).length) := Lib.hid (by simp [UniT.strs])
  have hD15 : D.length ≤ 15 := HDL.out
  cases y
  all_goals
    have JA := Lib.hid (CnF.isOf Ri_6.out)
    have JB := Lib.hid (CnF.isOf Rs_6.out)
    go_wp2_with (go_at_call 21; refine (Row.eqS _ _ D.length ci cs w6.heap.size (UniT.strs D) w6 HSD.out (by omega) JA.out JB.out).mono ?_; rintro e wA ⟨rfl, hdr⟩; refine Hid.out ?_)
    refine Lib.hid ?_
    have hb : Below w6.heap.size w6 wA := by obtain ⟨mq, rfl⟩ := hdr; exact below_drewN (Below.refl _ _) mq
    have BzA := Lib.hid (Bz6.out.trans (hb.mono Bz6.out.size))
    have X0_A := Lib.hid (X0_6.out.on hb)
    have Lx0_A := Lib.hid (Lx0_6.out.on hb)
    have Y0_A := Lib.hid (Y0_6.out.on hb)
    have Rs_A := Lib.hid (CnF.own_on Rs_6.out hb)
    have Ri_A := Lib.hid (CnF.own_on Ri_6.out hb)
    have OWx0_A := Lib.hid (OWx0_6.out.below hb EOWx0_6.out)
    have EOWx0_A := Lib.hid (Nat.le_trans EOWx0_6.out hb.size)
    clear hb hdr JA JB
    have KX : Hid (∀ v, Below wA.heap.size wA v → (v.cell? ⟨w.heap.size, 0, none⟩ = some (.int .i64 k0.op) ∧ v.cell? ⟨w.heap.size, 1, none⟩ = some (.string k0.nm) ∧ v.cell? ⟨w.heap.size, 2, none⟩ = some (.int .i64 k0.day) ∧ v.cell? ⟨w.heap.size, 3, none⟩ = some (.slice k0.A k0.ps.length k0.cap)) ∧ v.cell? ⟨w4.heap.size, 0, none⟩ = some (.int .i64 x0.op) ∧ v.cell? ⟨w4.heap.size, 1, none⟩ = some (.string x0.nm) ∧ v.cell? ⟨w4.heap.size, 2, none⟩ = some (.int .i64 x0.day) ∧ v.cell? ⟨w4.heap.size, 3, none⟩ = some (.slice x0.A x0.ps.length x0.cap)) := Lib.hid fun v hv => by
      have a := X0_A.out.on hv
      have b := Y0_A.out.on hv
      exact ⟨⟨a.c0, a.c1, a.c2, a.c3⟩, b.c0, b.c1, b.c2, b.c3⟩
    have HTX := Lib.hid fun v (hv : Below wA.heap.size wA v) => toC k0 v (HI0.out.on (BzA.out.trans (hv.mono BzA.out.size))) HLE0.out
    have HEQ : Hid (∀ v wa (z : K) B, Below wA.heap.size wA wa → Own wa B wa.heap.size z → z.cond = k0.cond → Below wa.heap.size wa v → Calls Try.prog 16 #[x0.val, z.val] v fun e w' => e = .returned (.bool true) ∧ Below v.heap.size v w') :=
      Lib.hid fun v wa z B hx hz hc hv => eqC x0 z v (by rw [HCx0.out, hc]) (by rw [HCx0.out]; exact HLE0.out) ((Lx0_A.out.on hx).on hv) (hz.lies.on hv)
    have hcells := KX.out wA (Below.refl _ _)
    obtain ⟨⟨e0, e1, e2, e3⟩, g0, g1, g2, g3⟩ := hcells
    go_wp2_with fail
    go_region_held3 (fun v => (v.cell? ⟨w.heap.size, 0, none⟩ = some (.int .i64 k0.op) ∧ v.cell? ⟨w.heap.size, 1, none⟩ = some (.string k0.nm) ∧ v.cell? ⟨w.heap.size, 2, none⟩ = some (.int .i64 k0.day) ∧ v.cell? ⟨w.heap.size, 3, none⟩ = some (.slice k0.A k0.ps.length k0.cap)) ∧ v.cell? ⟨w4.heap.size, 0, none⟩ = some (.int .i64 x0.op) ∧ v.cell? ⟨w4.heap.size, 1, none⟩ = some (.string x0.nm) ∧ v.cell? ⟨w4.heap.size, 2, none⟩ = some (.int .i64 x0.day) ∧ v.cell? ⟨w4.heap.size, 3, none⟩ = some (.slice x0.A x0.ps.length x0.cap)) (first | (refine KX.out _ ?_; (repeat (first | exact Below.refl _ _ | exact b2 | exact b1 | apply Below.drew)); done))
      (first
        | (go_at_call 14; (with_reducible refine (HTX.out _ (by (repeat (first | exact Below.refl _ _ | exact b2 | exact b1 | apply Below.drew)))).mono ?_); rintro e wa ⟨z, rfl, hzc, hzo, hb⟩; have b1 : Below wA.heap.size wA wa := (Below.trans (by (repeat (first | exact Below.refl _ _ | exact b2 | exact b1 | apply Below.drew))) (hb.mono (by first | omega | (simp; done) | (simp; omega) | exact b1.size | (have := b1.size; simp; omega)))); have NA := Lib.hid hzo; have NC := Lib.hid hzc; clear hb hzo hzc)
        | (go_at_call 16; (with_reducible refine (HEQ.out _ _ z _ b1 NA.out NC.out (by (repeat (first | exact Below.refl _ _ | apply Below.drew)))).mono ?_); rintro e wb ⟨rfl, hb⟩; have b2 : Below wA.heap.size wA wb := (Below.trans (by (repeat (first | exact Below.refl _ _ | exact b2 | exact b1 | apply Below.drew))) (hb.mono (by first | omega | (simp; done) | (simp; omega) | exact b1.size | (have := b1.size; simp; omega)))); clear hb))
    all_goals
      clear e0 e1 e2 e3 g0 g1 g2 g3 KX HTX HEQ
      have Bzb := Lib.hid (BzA.out.trans (b2.mono BzA.out.size))
      have X0_b := Lib.hid (X0_A.out.on b2)
      have Lx0_b := Lib.hid (Lx0_A.out.on b2)
      have Y0_b := Lib.hid (Y0_A.out.on b2)
      have Rs_b := Lib.hid (CnF.own_on Rs_A.out b2)
      have Ri_b := Lib.hid (CnF.own_on Ri_A.out b2)
      have OWx0_b := Lib.hid (OWx0_A.out.below b2 EOWx0_A.out)
      have EOWx0_b := Lib.hid (Nat.le_trans EOWx0_A.out b2.size)
      clear b1 b2 NA NC
      obtain ⟨_, y0, y1, y2, y3, _⟩ := Y0_b.out
      have HMC := markC x0 1 wb (by omega) (by have := C.size_le x0.cond; have h2 : x0.cond.size = 1 + sizes (conds x0.ps) := (by cases x0 with | mk op' nm' day' A' cap' qs => simp only [K.ps, K.cond, C.size]); have h3 := HLE0.out; rw [← HCx0.out] at h3; omega) (OWx0_b.out.wr EOWx0_b.out)
      obtain ⟨t0, ht0⟩ : ∃ t, t = 1 + 3 * sizes (conds x0.ps) := ⟨_, rfl⟩
      rw [← ht0] at HMC
      have HMCH := Lib.hid HMC
      have ht0p : (0 : Int) ≤ (t0 : Int) := by omega
      clear HMC ht0
      go_wp2_with (go_at_call 24; refine HMCH.out.mono ?_; rintro e wm ⟨rfl, _, hmv⟩; refine Hid.out ?_)
      refine Lib.hid ?_
      have HNO : Hid (∀ b, (b < w3.heap.size ∨ w4.heap.size ≤ b) → b < wb.heap.size → wm.heap[b]? = wb.heap[b]?) := Lib.hid fun b h1 h2 => hmv.block b h2 (fun h3 => by have := OWx0_b.out.ge b h3; have := OWx0_b.out.lt b h3; omega)
      have Bzm : Hid (Below w.heap.size w wm) := Lib.hid (Bzb.out.trans (hmv.below (fun b h3 => by have := OWx0_b.out.ge b h3; have := SOWx0.out; omega) Bzb.out.size))
      have X0_m := Lib.hid (X0_b.out.alike (HNO.out w.heap.size (.inl SOWx0.out) X0_b.out.lt) hmv.size)
      have hgi := (Ri_b.out.lt gi rfl)
      have hgs := (Rs_b.out.lt gs rfl)
      have Rs_m : Hid (UniT.Own wm w2.heap.size (.slice (some ⟨gs, 0, none⟩) D.length cs) D) := Lib.hid (NdI.own_same Rs_b.out (HNO.out gs (.inl SGS.out) hgs.2))
      have Ri_m : Hid (UniT.Own wm w5.heap.size (.slice (some ⟨gi, 0, none⟩) D.length ci) D) := Lib.hid (NdI.own_same Ri_b.out (HNO.out gi (.inr (by have := SGI.out; omega)) hgi.2))
      have SIM : Hid (w5.heap.size ≤ wm.heap.size) := Lib.hid (by have := hgi.1; have := hgi.2; have := hmv.size; omega)
      clear hmv hgi hgs y0 y1 y2 y3 HNO
      have JA := Lib.hid (CnF.isOf Ri_m.out)
      have JB := Lib.hid (CnF.isOf Rs_m.out)
      go_wp2_with (go_at_call 21; refine (Row.eqS _ _ D.length ci cs wm.heap.size (UniT.strs D) wm HSD.out (by omega) JA.out JB.out).mono ?_; rintro e wc ⟨rfl, hdr⟩; refine Hid.out ?_)
      refine Lib.hid ?_
      have hb : Below wm.heap.size wm wc := by obtain ⟨mq, rfl⟩ := hdr; exact below_drewN (Below.refl _ _) mq
      have Bzc := Lib.hid (Bzm.out.trans (hb.mono Bzm.out.size))
      have X0_c := Lib.hid (X0_m.out.on hb)
      have Rs_c := Lib.hid (CnF.own_on Rs_m.out hb)
      have Ri_c := Lib.hid (CnF.own_on Ri_m.out hb)
      clear hb hdr JA JB
      have SIC : Hid (w5.heap.size ≤ wc.heap.size) := Lib.hid (by have := (Ri_c.out.lt gi rfl); omega)
      have HSX : Hid (w.heap.size < w5.heap.size) := Lib.hid (by have := SOWx0.out; have := SGI.out; have := OWx0_b.out; have := EOWx0_b.out; have := SSEX.out; omega)
      have HGS2 : Hid (gs < w5.heap.size) := Lib.hid (by have := SGS.out; have := SGI.out; have := SSEX.out; omega)
      go_wp2_with (go_at_call 25; refine (CnF.markRow _ D.length ci w5.heap.size _ wc (by omega) SIC.out Ri_c.out).mono ?_; rintro e wd ⟨rfl, ⟨ys, hoy, hmk⟩, hb⟩; refine Hid.out ?_)
      refine Lib.hid ?_
      have Bzd : Hid (Below w.heap.size w wd) := Lib.hid (Bzc.out.trans (hb.mono (Nat.le_of_lt HSX.out)))
      have X0_d := Lib.hid (X0_c.out.below hb HSX.out)
      have Rs_d : Hid (UniT.Own wd w2.heap.size (.slice (some ⟨gs, 0, none⟩) D.length cs) D) := Lib.hid (NdI.own_same Rs_c.out (hb.block gs HGS2.out))
      have Ri_d := Lib.hid hoy
      have HMK := Lib.hid hmk
      clear hoy hmk hb
      have hD0 : (0 : Int) ≤ ((1 + D.length : Nat) : Int) := by omega
      go_wp2_with (go_at_call 26; refine (CnF.heldRow _ D.length ci w5.heap.size ys wd (by omega) Ri_d.out HMK.out).mono ?_; rintro e we ⟨rfl, hb⟩; refine Hid.out ?_)
      refine Lib.hid ?_
      have Bze := Lib.hid (Bzd.out.trans (hb.mono Bzd.out.size))
      have X0_e := Lib.hid (X0_d.out.on hb)
      have Rs_e := Lib.hid (CnF.own_on Rs_d.out hb)
      have Ri_e := Lib.hid (CnF.own_on Ri_d.out hb)
      clear hb
      obtain ⟨_, x00, x01, x02, x03, _⟩ := X0_e.out
      have HT := Lib.hid (toC k0 we (HI0.out.on Bze.out) HLE0.out)
      go_wp2_with (go_at_call 14; refine HT.out.mono ?_; rintro e wf ⟨h0, rfl, hhc, hho, hb⟩; refine Hid.out ?_)
      refine Lib.hid ?_
      have Bzf := Lib.hid (Bze.out.trans (hb.mono Bze.out.size))
      have X0_f := Lib.hid (X0_e.out.on hb)
      have Rs_f := Lib.hid (CnF.own_on Rs_e.out hb)
      have Ri_f := Lib.hid (CnF.own_on Ri_e.out hb)
      have HIM2 := Lib.hid (CnF.implCn h0 wf hho.lies (by rw [hhc]; exact HLE0.out) D _ (by rw [hhc]; exact HX.out))
      clear hb HT hho hhc x00 x01 x02 x03
      go_wp2_with (go_at_call 23; refine HIM2.out.mono ?_; rintro e wg ⟨gh, _, ch, rfl, rfl, hoh, hb⟩; refine Hid.out ?_)
      refine Lib.hid ?_
      have Bzg := Lib.hid (Bzf.out.trans (hb.mono Bzf.out.size))
      have X0_g := Lib.hid (X0_f.out.on hb)
      have Rs_g := Lib.hid (CnF.own_on Rs_f.out hb)
      have Ri_g := Lib.hid (CnF.own_on Ri_f.out hb)
      have Rh_g := Lib.hid hoh
      clear hoh hb HIM2
      have JA := Lib.hid (CnF.isOf Rh_g.out)
      have JB := Lib.hid (CnF.isOf Rs_g.out)
      go_wp2_with (go_at_call 21; refine (Row.eqS _ _ D.length ch cs wg.heap.size (UniT.strs D) wg HSD.out (by omega) JA.out JB.out).mono ?_; rintro e wh ⟨rfl, hdr⟩; refine Hid.out ?_)
      refine Lib.hid ?_
      have hb : Below wg.heap.size wg wh := by obtain ⟨mq, rfl⟩ := hdr; exact below_drewN (Below.refl _ _) mq
      have Bzh := Lib.hid (Bzg.out.trans (hb.mono Bzg.out.size))
      have X0_h := Lib.hid (X0_g.out.on hb)
      have Rs_h := Lib.hid (CnF.own_on Rs_g.out hb)
      have Ri_h := Lib.hid (CnF.own_on Ri_g.out hb)
      have Rh_h := Lib.hid (CnF.own_on Rh_g.out hb)
      clear hb hdr JA JB
      go_wp2_with (go_at_call 26; refine (CnF.heldRow _ D.length ci w5.heap.size ys wh (by omega) Ri_h.out HMK.out).mono ?_; rintro e wi ⟨rfl, hb⟩; refine Hid.out ?_)
      refine Lib.hid ?_
      have Bzi := Lib.hid (Bzh.out.trans (hb.mono Bzh.out.size))
      have X0_i := Lib.hid (X0_h.out.on hb)
      have Rs_i := Lib.hid (CnF.own_on Rs_h.out hb)
      have Ri_i := Lib.hid (CnF.own_on Ri_h.out hb)
      have Rh_i := Lib.hid (CnF.own_on Rh_h.out hb)
      clear hb
      go_wp2_with fail
      go_ret
      exact ⟨rfl, Bzi.out⟩

end Go.Proofs.Ytbpoalhiaedcgaa.CnW
