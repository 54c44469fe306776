/-
  The walk of the law FnExactFormatCondition.
-/
import Derived.Test.YtbpoalhiaedcgaaDoorFmF
namespace Go.Proofs.YtbpoalhiaedcgaaDoor.FmW
open Go.RowKit Go.Proofs.YtbpoalhiaedcgaaDoor.Cond
set_option linter.unusedVariables false

set_option maxHeartbeats 8000000 in
theorem walk (k0 : K) (w : World) (hin0 : Lies w w.heap.size k0) (hT : Tab.Tab w) (hP : FmtDate.Pow w) :
    Calls Tryd.prog 3 #[k0.val] w fun e w' => e = .returned (.bool true) ∧ Below w.heap.size w w' := by
  obtain ⟨w0, hw0⟩ : ∃ w0, w0 = w.alloc (.cells #[.int .i64 k0.op, .string k0.nm, .int .i64 k0.day, .slice k0.A k0.ps.length k0.cap] 24) := ⟨_, rfl⟩
  have Bz0 : Hid (Below w.heap.size w w0) := Lib.hid (by rw [hw0]; exact below1 _ _)
  have X0_0 : Hid (B4 (w.heap.size) w0 (.int .i64 k0.op) (.string k0.nm) (.int .i64 k0.day) (.slice k0.A k0.ps.length k0.cap)) := Lib.hid (by rw [hw0]; have := B4.new w (.int .i64 k0.op) (.string k0.nm) (.int .i64 k0.day) (.slice k0.A k0.ps.length k0.cap) 24; simpa using this)
  have HW0 := Lib.hid hw0
  clear hw0
  have HTB := Lib.hid (And.intro hT hP)
  clear hT hP
  have HI0 := Lib.hid hin0
  clear hin0
  go_enter Tryd.func3, Tryd.ntmps3
  by_cases hz0 : 1048576 < k0.cond.wt
  · have HZ := sz k0 1048576 w0 (by omega) (HI0.out.on Bz0.out)
    rw [szRes, if_pos hz0] at HZ
    have HZH := Lib.hid HZ
    clear HZ
    go_wp2_with (go_at_call 5; rw [← HW0.out]; refine HZH.out.mono ?_; rintro e wz ⟨rfl, hbz⟩)
    go_ret
    exact ⟨rfl, Bz0.out.trans (hbz.mono Bz0.out.size)⟩
  have HZ0 := sz k0 1048576 w0 (by omega) (HI0.out.on Bz0.out)
  rw [szRes, if_neg hz0] at HZ0
  have HZH0 := Lib.hid HZ0
  have HLE0 : Hid (k0.cond.wt ≤ 1048576) := Lib.hid (by omega)
  obtain ⟨m1, hm_1⟩ : ∃ m, m = 1048576 - k0.cond.wt := ⟨_, rfl⟩
  rw [← hm_1] at HZH0
  have hmm1 : m1 ≤ 1048576 := by omega
  have hm0_1 : (0 : Int) ≤ (m1 : Int) := by omega
  clear HZ0 hm_1 hz0
  go_wp2_with (go_at_call 5; rw [← HW0.out]; refine HZH0.out.mono ?_; rintro e w1 ⟨rfl, hb⟩; refine Hid.out ?_)
  refine Lib.hid ?_
  have Bz1 := Lib.hid (Bz0.out.trans (hb.mono Bz0.out.size))
  have X0_1 := Lib.hid (X0_0.out.on hb)
  clear hb
  obtain ⟨_, x00, x01, x02, x03, _⟩ := X0_1.out
  have HT := Lib.hid (toC k0 w1 (HI0.out.on Bz1.out) HLE0.out)
  go_wp2_with (go_at_call 7; refine HT.out.mono ?_; rintro e w2 ⟨q0, rfl, hq0, hoq0, hb⟩; refine Hid.out ?_)
  refine Lib.hid ?_
  clear HT
  clear x00 x01 x02 x03
  have Bz2 := Lib.hid (Bz1.out.trans (hb.mono Bz1.out.size))
  have X0_2 := Lib.hid (X0_1.out.on hb)
  have Lq0_2 := Lib.hid hoq0.lies
  have HCq0 := Lib.hid hq0
  clear hb hoq0 hq0
  obtain ⟨t, y, hx⟩ := FmF.fm_is k0.cond
  have HX := Lib.hid hx
  clear hx
  have HSP := FmF.specFm q0 w2 (Lq0_2.out) (by rw [HCq0.out]; exact HLE0.out) t y (by rw [HCq0.out]; exact HX.out)
  have HSPH := Lib.hid HSP
  clear HSP
  go_wp2_with (go_at_call 6; refine HSPH.out.mono ?_; rintro e w3 ⟨rfl, hb⟩; refine Hid.out ?_)
  refine Lib.hid ?_
  have Bz3 := Lib.hid (Bz2.out.trans (hb.mono Bz2.out.size))
  have X0_3 := Lib.hid (X0_2.out.on hb)
  clear hb HSPH
  obtain ⟨_, x00, x01, x02, x03, _⟩ := X0_3.out
  have HT := Lib.hid (toC k0 w3 (HI0.out.on Bz3.out) HLE0.out)
  go_wp2_with (go_at_call 7; refine HT.out.mono ?_; rintro e w4 ⟨x0, rfl, hx0, hox0, hb⟩; refine Hid.out ?_)
  refine Lib.hid ?_
  clear HT
  clear x00 x01 x02 x03
  have Bz4 := Lib.hid (Bz3.out.trans (hb.mono Bz3.out.size))
  have X0_4 := Lib.hid (X0_3.out.on hb)
  have Lx0_4 := Lib.hid hox0.lies
  have HCx0 := Lib.hid hx0
  clear hb hox0 hx0
  obtain ⟨w5, hwx⟩ : ∃ wx, wx = w4.alloc (.cells #[.int .i64 x0.op, .string x0.nm, .int .i64 x0.day, .slice x0.A x0.ps.length x0.cap] 30) := ⟨_, rfl⟩
  have hb : Below w4.heap.size w4 w5 := by rw [hwx]; exact below1 _ _
  have Y0_5 : Hid (B4 w4.heap.size w5 (.int .i64 x0.op) (.string x0.nm) (.int .i64 x0.day) (.slice x0.A x0.ps.length x0.cap)) := Lib.hid (by rw [hwx]; exact B4.new _ _ _ _ _ _)
  have Bz5 := Lib.hid (Bz4.out.trans (hb.mono Bz4.out.size))
  have X0_5 := Lib.hid (X0_4.out.on hb)
  have Lx0_5 := Lib.hid (Lx0_4.out.on hb)
  have HWX0 := Lib.hid hwx
  clear hwx hb
  have HIMP := FmF.implFm x0 w5 (Lx0_5.out) (by rw [HCx0.out]; exact HLE0.out) (HTB.out.1.below Bz5.out) (HTB.out.2.below Bz5.out) t y (by rw [HCx0.out]; exact HX.out)
  have HIMH := Lib.hid HIMP
  clear HIMP
  go_wp2_with (go_at_call 8; rw [← HWX0.out]; refine HIMH.out.mono ?_; rintro e w6 ⟨rfl, hb⟩; refine Hid.out ?_)
  refine Lib.hid ?_
  have Bz6 := Lib.hid (Bz5.out.trans (hb.mono Bz5.out.size))
  have X0_6 := Lib.hid (X0_5.out.on hb)
  have Lx0_6 := Lib.hid (Lx0_5.out.on hb)
  have Y0_6 := Lib.hid (Y0_5.out.on hb)
  clear hb HIMH
  generalize hkx0 : w4.heap.size = kx0 at *
  clear hkx0
  cases y
  all_goals
    have KX : Hid (∀ v, Below w6.heap.size w6 v → (v.cell? ⟨w.heap.size, 0, none⟩ = some (.int .i64 k0.op) ∧ v.cell? ⟨w.heap.size, 1, none⟩ = some (.string k0.nm) ∧ v.cell? ⟨w.heap.size, 2, none⟩ = some (.int .i64 k0.day) ∧ v.cell? ⟨w.heap.size, 3, none⟩ = some (.slice k0.A k0.ps.length k0.cap)) ∧ v.cell? ⟨kx0, 0, none⟩ = some (.int .i64 x0.op) ∧ v.cell? ⟨kx0, 1, none⟩ = some (.string x0.nm) ∧ v.cell? ⟨kx0, 2, none⟩ = some (.int .i64 x0.day) ∧ v.cell? ⟨kx0, 3, none⟩ = some (.slice x0.A x0.ps.length x0.cap)) := Lib.hid fun v hv => by
      have a := X0_6.out.on hv
      have b := Y0_6.out.on hv
      exact ⟨⟨a.c0, a.c1, a.c2, a.c3⟩, b.c0, b.c1, b.c2, b.c3⟩
    have HTX := Lib.hid fun v (hv : Below w6.heap.size w6 v) => toC k0 v (HI0.out.on (Bz6.out.trans (hv.mono Bz6.out.size))) HLE0.out
    have HEQ : Hid (∀ v wa (z : K) B, Below w6.heap.size w6 wa → Own wa B wa.heap.size z → z.cond = k0.cond → Below wa.heap.size wa v → Calls Tryd.prog 9 #[x0.val, z.val] v fun e w' => e = .returned (.bool true) ∧ Below v.heap.size v w') :=
      Lib.hid fun v wa z B hx hz hc hv => eqC x0 z v (by rw [HCx0.out, hc]) (by rw [HCx0.out]; exact HLE0.out) ((Lx0_6.out.on hx).on hv) (hz.lies.on hv)
    have hcells := KX.out w6 (Below.refl _ _)
    obtain ⟨⟨e0, e1, e2, e3⟩, g0, g1, g2, g3⟩ := hcells
    go_wp2_with fail
    go_region_held3 (fun v => (v.cell? ⟨w.heap.size, 0, none⟩ = some (.int .i64 k0.op) ∧ v.cell? ⟨w.heap.size, 1, none⟩ = some (.string k0.nm) ∧ v.cell? ⟨w.heap.size, 2, none⟩ = some (.int .i64 k0.day) ∧ v.cell? ⟨w.heap.size, 3, none⟩ = some (.slice k0.A k0.ps.length k0.cap)) ∧ v.cell? ⟨kx0, 0, none⟩ = some (.int .i64 x0.op) ∧ v.cell? ⟨kx0, 1, none⟩ = some (.string x0.nm) ∧ v.cell? ⟨kx0, 2, none⟩ = some (.int .i64 x0.day) ∧ v.cell? ⟨kx0, 3, none⟩ = some (.slice x0.A x0.ps.length x0.cap)) (first | (refine KX.out _ ?_; (repeat (first | exact Below.refl _ _ | exact b2 | exact b1 | apply Below.drew)); done))
      (first
        | (go_at_call 7; (with_reducible refine (HTX.out _ (by (repeat (first | exact Below.refl _ _ | exact b2 | exact b1 | apply Below.drew)))).mono ?_); rintro e wa ⟨z, rfl, hzc, hzo, hb⟩; have b1 : Below w6.heap.size w6 wa := (Below.trans (by (repeat (first | exact Below.refl _ _ | exact b2 | exact b1 | apply Below.drew))) (hb.mono (by first | omega | (simp; done) | (simp; omega) | exact b1.size | (have := b1.size; simp; omega)))); have NA := Lib.hid hzo; have NC := Lib.hid hzc; clear hb hzo hzc)
        | (go_at_call 9; (with_reducible refine (HEQ.out _ _ z _ b1 NA.out NC.out (by (repeat (first | exact Below.refl _ _ | apply Below.drew)))).mono ?_); rintro e wb ⟨rfl, hb⟩; have b2 : Below w6.heap.size w6 wb := (Below.trans (by (repeat (first | exact Below.refl _ _ | exact b2 | exact b1 | apply Below.drew))) (hb.mono (by first | omega | (simp; done) | (simp; omega) | exact b1.size | (have := b1.size; simp; omega)))); clear hb))
    all_goals
      go_wp2_with fail
      go_ret
      exact ⟨rfl, Bz6.out.trans (b2.mono Bz6.out.size)⟩

end Go.Proofs.YtbpoalhiaedcgaaDoor.FmW
