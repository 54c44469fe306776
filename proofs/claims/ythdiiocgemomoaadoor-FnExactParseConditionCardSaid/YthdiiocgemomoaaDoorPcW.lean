/-
  The walk of the law FnExactParseCondition.
-/
import Derived.Test.YthdiiocgemomoaaDoorPcU
import Derived.Test.YthdiiocgemomoaaDoorPcE
import Derived.Test.YthdiiocgemomoaaDoorCoHe
import Derived.Test.YthdiiocgemomoaaDoorCoEq
namespace Go.Proofs.YthdiiocgemomoaaDoor.PcW
open Go.RowKit Go.Proofs.YthdiiocgemomoaaDoor.Cond
set_option linter.unusedVariables false

set_option maxRecDepth 100000 in
set_option maxHeartbeats 16000000 in
theorem walkL (l : List UInt8) (w : World) (hlm : l.length ≤ maxLen) (hT : Tab.Tab w) (hLi : LiesD.Lies w) :
    Calls Tryd.prog 3 #[.string (ba l)] w fun e w' => e = .returned (.bool true) ∧ Below w.heap.size w w' := by
  unfold maxLen at hlm
  have hsz : (ba l).size = l.length := by simp [ByteArray.size]
  obtain ⟨s, hs⟩ : ∃ s, s = ba l := ⟨_, rfl⟩
  rw [← hs] at hsz ⊢
  by_cases hz : 1048576 < l.length
  · have hz2 : (1048576 : Int) < (s.size : Int) := by omega
    clear hs hT hLi
    go_enter Tryd.func3, Tryd.ntmps3
    go_wp2_with fail
    go_ret
    exact ⟨rfl, Below.refl _ _⟩
  obtain ⟨dt, hdt⟩ := dt_is
  obtain ⟨oq, hoq⟩ : ∃ o, o = pc dt l := ⟨_, rfl⟩
  obtain ⟨d, hd⟩ : ∃ d, d = dOf oq := ⟨_, rfl⟩
  obtain ⟨y, hy⟩ : ∃ y, y = oq.isSome := ⟨_, rfl⟩
  have HLE : Hid (d.wt ≤ 1048576) := Lib.hid (by rw [hd]; cases oq with | none => simp [dOf, C.wt, wts] | some q => have := (pc_len hdt hoq.symm).2.1; show q.c.wt ≤ _; omega)
  have hz2 : decide ((1048576 : Int) < (s.size : Int)) = false := decide_eq_false (by omega)
  have Bz_w : Hid (Below w.heap.size w w) := Lib.hid (Below.refl _ _)
  have HSP : Hid (∀ v, Calls Tryd.prog 4 #[.string s] v (PbAns d y v)) := Lib.hid fun v => by rw [hs]; exact (by rw [hd, hy]; exact specPc dt hdt (ba l) v (by simp [ByteArray.size]; omega) oq (by rw [hoq]))
  have HIM : Hid (∀ v, Below w.heap.size w v → Calls Tryd.prog 5 #[.string s] v (PbAns d y v)) := Lib.hid fun v hv => by rw [hs]; exact (by rw [hd, hy]; exact implPc dt hdt l v (by omega) (hT.below hv) (hLi.below hv) oq hoq)
  clear hs hT hLi hz hlm hoq hd hy hdt hsz
  go_enter Tryd.func3, Tryd.ntmps3
  have HCALL := Lib.hid (HSP.out w)
  go_wp2_with (go_at_call 4; refine (HCALL.out).mono ?_; rintro e w1 ⟨rs, rfl, hr, hwr, hge, hb⟩; refine Hid.out ?_)
  refine Lib.hid ?_
  clear HCALL
  have IVrs : Hid (∀ bb ∈ rs.blocks, w.heap.size ≤ bb ∧ bb < w1.heap.size) := Lib.hid fun bb hx => ⟨hge bb hx, hwr.lt bb hx⟩
  have HCrs := Lib.hid hr
  have Wrs_w1 := Lib.hid hwr
  have Bz_w1 := Lib.hid (Bz_w.out.trans (hb.mono Bz_w.out.size))
  have Z1 : Hid (w.heap.size ≤ w1.heap.size) := Lib.hid (hb.size)
  clear hr hwr hge hb
  obtain ⟨w2, hwx⟩ : ∃ wx, wx = w1.alloc (.cells #[.int .i64 rs.op, .string rs.nm, .int .i64 rs.day, .slice rs.A rs.ps.length rs.cap] 24) := ⟨_, rfl⟩
  have hb : Below w1.heap.size w1 w2 := by rw [hwx]; exact below1 _ _
  have XSn : Hid (B4 w1.heap.size w2 (.int .i64 rs.op) (.string rs.nm) (.int .i64 rs.day) (.slice rs.A rs.ps.length rs.cap)) := Lib.hid (by rw [hwx]; exact B4.new _ _ _ _ _ _)
  have Bz_w2 := Lib.hid (Bz_w1.out.trans (hb.mono Bz_w1.out.size))
  have Z2 : Hid (w1.heap.size ≤ w2.heap.size) := Lib.hid (hb.size)
  have Wrs_w2 := Lib.hid (Wrs_w1.out.on hb)
  have Z3 : Hid (w1.heap.size < w2.heap.size) := Lib.hid (by rw [hwx]; simp)
  have XS_w2 := XSn
  have HW_w2 := Lib.hid hwx
  clear hwx hb XSn
  have HCALL := Lib.hid (HIM.out w2 Bz_w2.out)
  go_wp2_with (go_at_call 5; (try rw [← HW_w2.out]); refine (HCALL.out).mono ?_; rintro e w3 ⟨rg, rfl, hr, hwr, hge, hb⟩; refine Hid.out ?_)
  refine Lib.hid ?_
  clear HCALL
  have IVrg : Hid (∀ bb ∈ rg.blocks, w2.heap.size ≤ bb ∧ bb < w3.heap.size) := Lib.hid fun bb hx => ⟨hge bb hx, hwr.lt bb hx⟩
  have HCrg := Lib.hid hr
  have Wrg_w3 := Lib.hid hwr
  have Bz_w3 := Lib.hid (Bz_w2.out.trans (hb.mono Bz_w2.out.size))
  have Z4 : Hid (w2.heap.size ≤ w3.heap.size) := Lib.hid (hb.size)
  have Wrs_w3 := Lib.hid (Wrs_w2.out.on hb)
  have XS_w3 := Lib.hid (XS_w2.out.on hb)
  clear hr hwr hge hb
  obtain ⟨w4, hwx⟩ : ∃ wx, wx = w3.alloc (.cells #[.int .i64 rg.op, .string rg.nm, .int .i64 rg.day, .slice rg.A rg.ps.length rg.cap] 24) := ⟨_, rfl⟩
  have hb : Below w3.heap.size w3 w4 := by rw [hwx]; exact below1 _ _
  have XGn : Hid (B4 w3.heap.size w4 (.int .i64 rg.op) (.string rg.nm) (.int .i64 rg.day) (.slice rg.A rg.ps.length rg.cap)) := Lib.hid (by rw [hwx]; exact B4.new _ _ _ _ _ _)
  have Bz_w4 := Lib.hid (Bz_w3.out.trans (hb.mono Bz_w3.out.size))
  have Z5 : Hid (w3.heap.size ≤ w4.heap.size) := Lib.hid (hb.size)
  have Wrs_w4 := Lib.hid (Wrs_w3.out.on hb)
  have XS_w4 := Lib.hid (XS_w3.out.on hb)
  have Wrg_w4 := Lib.hid (Wrg_w3.out.on hb)
  have Z6 : Hid (w3.heap.size < w4.heap.size) := Lib.hid (by rw [hwx]; simp)
  have XG_w4 := XGn
  have HW_w4 := Lib.hid hwx
  clear hwx hb XGn
  have HEQ := Lib.hid (eqC rg rs w4 (by rw [HCrg.out, HCrs.out]) (by rw [HCrg.out]; exact HLE.out) ⟨Wrg_w4.out.has, Wrg_w4.out.lt⟩ ⟨Wrs_w4.out.has, Wrs_w4.out.lt⟩)
  obtain ⟨xsl, xs0, xs1, xs2, xs3, _⟩ := XS_w3.out
  go_wp2_with (go_at_call 6; (try rw [← HW_w4.out]); refine (HEQ.out).mono ?_; rintro e w5 ⟨rfl, hb⟩; refine Hid.out ?_)
  refine Lib.hid ?_
  clear xs0 xs1 xs2 xs3 xsl
  clear HEQ
  have Bz_w5 := Lib.hid (Bz_w4.out.trans (hb.mono Bz_w4.out.size))
  have Z7 : Hid (w4.heap.size ≤ w5.heap.size) := Lib.hid (hb.size)
  have Wrs_w5 := Lib.hid (Wrs_w4.out.on hb)
  have XS_w5 := Lib.hid (XS_w4.out.on hb)
  have Wrg_w5 := Lib.hid (Wrg_w4.out.on hb)
  have XG_w5 := Lib.hid (XG_w4.out.on hb)
  clear hb
  have HMC := markC rg 1 w5 (by omega) (by have := C.size_le rg.cond; have h2 : rg.cond.size = 1 + sizes (conds rg.ps) := (by cases rg with | mk op' nm' day' A' cap' qs => simp only [K.ps, K.cond, C.size]); have h3 := HLE.out; rw [← HCrg.out] at h3; omega) Wrg_w5.out
  have HTB : Hid (1 + 3 * sizes (conds rg.ps) ≤ 90000000) := Lib.hid (by have := C.size_le rg.cond; have h2 : rg.cond.size = 1 + sizes (conds rg.ps) := (by cases rg with | mk op' nm' day' A' cap' qs => simp only [K.ps, K.cond, C.size]); have h3 := HLE.out; rw [← HCrg.out] at h3; omega)
  obtain ⟨t1, ht1⟩ : ∃ t, t = 1 + 3 * sizes (conds rg.ps) := ⟨_, rfl⟩
  rw [← ht1] at HMC
  have HT1 := Lib.hid ht1
  have HMCH := Lib.hid HMC
  have ht1p : (0 : Int) ≤ (t1 : Int) := by omega
  clear HMC ht1
  obtain ⟨xgl, xg0, xg1, xg2, xg3, _⟩ := XG_w5.out
  go_wp2_with (go_at_call 7; refine (HMCH.out).mono ?_; rintro e w6 ⟨rfl, hhd, hmv⟩; refine Hid.out ?_)
  refine Lib.hid ?_
  clear xg0 xg1 xg2 xg3 xgl
  have HD_w6 := Lib.hid hhd
  have Bz_w6 := Lib.hid (Bz_w5.out.trans (hmv.below (fun b h => by have a := IVrg.out b h; have z1 := Z1.out; have z2 := Z2.out; have z3 := Z3.out; have z4 := Z4.out; have z5 := Z5.out; have z6 := Z6.out; have z7 := Z7.out; omega) Bz_w5.out.size))
  have Wrs_w6 := Lib.hid (Wrs_w5.out.same (fun b hb => hmv.block b (Wrs_w5.out.lt b hb) (fun h => by have a := IVrg.out b h; have c := IVrs.out b hb; have z1 := Z1.out; have z2 := Z2.out; have z3 := Z3.out; have z4 := Z4.out; have z5 := Z5.out; have z6 := Z6.out; have z7 := Z7.out; omega)) hmv.size)
  have XS_w6 := Lib.hid (XS_w5.out.alike (hmv.block _ XS_w5.out.lt (fun h => by have a := IVrg.out _ h; have z1 := Z1.out; have z2 := Z2.out; have z3 := Z3.out; have z4 := Z4.out; have z5 := Z5.out; have z6 := Z6.out; have z7 := Z7.out; omega)) hmv.size)
  have XG_w6 := Lib.hid (XG_w5.out.alike (hmv.block _ XG_w5.out.lt (fun h => by have a := IVrg.out _ h; have z1 := Z1.out; have z2 := Z2.out; have z3 := Z3.out; have z4 := Z4.out; have z5 := Z5.out; have z6 := Z6.out; have z7 := Z7.out; omega)) hmv.size)
  have Z8 : Hid (w5.heap.size ≤ w6.heap.size) := Lib.hid (hmv.size)
  clear hmv hhd HMCH
  have HHH := heldC rg 1 w6 (by omega) HTB.out HD_w6.out
  rw [← HT1.out] at HHH
  have HHC := Lib.hid HHH
  clear HHH
  obtain ⟨xgl, xg0, xg1, xg2, xg3, _⟩ := XG_w6.out
  go_wp2_with (go_at_call 8; refine (HHC.out).mono ?_; rintro e w7 ⟨rfl, hb⟩; refine Hid.out ?_)
  refine Lib.hid ?_
  clear xg0 xg1 xg2 xg3 xgl
  have Bz_w7 := Lib.hid (Bz_w6.out.trans (hb.mono Bz_w6.out.size))
  have Z9 : Hid (w6.heap.size ≤ w7.heap.size) := Lib.hid (hb.size)
  have Wrs_w7 := Lib.hid (Wrs_w6.out.on hb)
  have XS_w7 := Lib.hid (XS_w6.out.on hb)
  have XG_w7 := Lib.hid (XG_w6.out.on hb)
  have HD_w7 := Lib.hid (HD_w6.out.on hb)
  clear hb HHC
  have HCALL := Lib.hid (HIM.out w7 Bz_w7.out)
  go_wp2_with (go_at_call 5; refine (HCALL.out).mono ?_; rintro e w8 ⟨rh, rfl, hr, hwr, hge, hb⟩; refine Hid.out ?_)
  refine Lib.hid ?_
  clear HCALL
  have IVrh : Hid (∀ bb ∈ rh.blocks, w7.heap.size ≤ bb ∧ bb < w8.heap.size) := Lib.hid fun bb hx => ⟨hge bb hx, hwr.lt bb hx⟩
  have HCrh := Lib.hid hr
  have Wrh_w8 := Lib.hid hwr
  have Bz_w8 := Lib.hid (Bz_w7.out.trans (hb.mono Bz_w7.out.size))
  have Z10 : Hid (w7.heap.size ≤ w8.heap.size) := Lib.hid (hb.size)
  have Wrs_w8 := Lib.hid (Wrs_w7.out.on hb)
  have XS_w8 := Lib.hid (XS_w7.out.on hb)
  have XG_w8 := Lib.hid (XG_w7.out.on hb)
  have HD_w8 := Lib.hid (HD_w7.out.on hb)
  clear hr hwr hge hb
  obtain ⟨w9, hwx⟩ : ∃ wx, wx = w8.alloc (.cells #[.int .i64 rh.op, .string rh.nm, .int .i64 rh.day, .slice rh.A rh.ps.length rh.cap] 24) := ⟨_, rfl⟩
  have hb : Below w8.heap.size w8 w9 := by rw [hwx]; exact below1 _ _
  have XHn : Hid (B4 w8.heap.size w9 (.int .i64 rh.op) (.string rh.nm) (.int .i64 rh.day) (.slice rh.A rh.ps.length rh.cap)) := Lib.hid (by rw [hwx]; exact B4.new _ _ _ _ _ _)
  have Bz_w9 := Lib.hid (Bz_w8.out.trans (hb.mono Bz_w8.out.size))
  have Z11 : Hid (w8.heap.size ≤ w9.heap.size) := Lib.hid (hb.size)
  have Wrs_w9 := Lib.hid (Wrs_w8.out.on hb)
  have XS_w9 := Lib.hid (XS_w8.out.on hb)
  have XG_w9 := Lib.hid (XG_w8.out.on hb)
  have HD_w9 := Lib.hid (HD_w8.out.on hb)
  have Wrh_w9 := Lib.hid (Wrh_w8.out.on hb)
  have Z12 : Hid (w8.heap.size < w9.heap.size) := Lib.hid (by rw [hwx]; simp)
  have XH_w9 := XHn
  have HW_w9 := Lib.hid hwx
  clear hwx hb XHn
  have HEQ := Lib.hid (eqC rh rs w9 (by rw [HCrh.out, HCrs.out]) (by rw [HCrh.out]; exact HLE.out) ⟨Wrh_w9.out.has, Wrh_w9.out.lt⟩ ⟨Wrs_w9.out.has, Wrs_w9.out.lt⟩)
  obtain ⟨xsl, xs0, xs1, xs2, xs3, _⟩ := XS_w8.out
  go_wp2_with (go_at_call 6; (try rw [← HW_w9.out]); refine (HEQ.out).mono ?_; rintro e w10 ⟨rfl, hb⟩; refine Hid.out ?_)
  refine Lib.hid ?_
  clear xs0 xs1 xs2 xs3 xsl
  clear HEQ
  have Bz_w10 := Lib.hid (Bz_w9.out.trans (hb.mono Bz_w9.out.size))
  have Z13 : Hid (w9.heap.size ≤ w10.heap.size) := Lib.hid (hb.size)
  have Wrs_w10 := Lib.hid (Wrs_w9.out.on hb)
  have XS_w10 := Lib.hid (XS_w9.out.on hb)
  have XG_w10 := Lib.hid (XG_w9.out.on hb)
  have HD_w10 := Lib.hid (HD_w9.out.on hb)
  have Wrh_w10 := Lib.hid (Wrh_w9.out.on hb)
  have XH_w10 := Lib.hid (XH_w9.out.on hb)
  clear hb
  have HHH := heldC rg 1 w10 (by omega) HTB.out HD_w10.out
  rw [← HT1.out] at HHH
  have HHC := Lib.hid HHH
  clear HHH
  obtain ⟨xgl, xg0, xg1, xg2, xg3, _⟩ := XG_w10.out
  go_wp2_with (go_at_call 8; refine (HHC.out).mono ?_; rintro e w11 ⟨rfl, hb⟩; refine Hid.out ?_)
  refine Lib.hid ?_
  clear xg0 xg1 xg2 xg3 xgl
  have Bz_w11 := Lib.hid (Bz_w10.out.trans (hb.mono Bz_w10.out.size))
  have Z14 : Hid (w10.heap.size ≤ w11.heap.size) := Lib.hid (hb.size)
  have Wrs_w11 := Lib.hid (Wrs_w10.out.on hb)
  have XS_w11 := Lib.hid (XS_w10.out.on hb)
  have XG_w11 := Lib.hid (XG_w10.out.on hb)
  have HD_w11 := Lib.hid (HD_w10.out.on hb)
  have Wrh_w11 := Lib.hid (Wrh_w10.out.on hb)
  have XH_w11 := Lib.hid (XH_w10.out.on hb)
  clear hb HHC
  go_wp2_with fail
  go_ret
  exact ⟨rfl, Bz_w11.out⟩

theorem walk (s : ByteArray) (w : World) (hm : s.size ≤ maxLen) (hT : Tab.Tab w) (hLi : LiesD.Lies w) :
    Calls Tryd.prog 3 #[.string s] w fun e w' => e = .returned (.bool true) ∧ Below w.heap.size w w' := by
  have e : s = ba s.data.toList := by cases s; simp
  rw [e]
  exact walkL s.data.toList w (by rw [Array.length_toList]; exact hm) hT hLi

end Go.Proofs.YthdiiocgemomoaaDoor.PcW
