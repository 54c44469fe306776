/-
  FactNames of the program.
  The walk of the law FnExactFactNames.
  The law FnExactFactNames returns true at every input, and its arguments read afterwards as before. No condition.
-/
import Derived.Test.YtlionlbihmldlaaGreatMb
import Derived.Test.YtlionlbihmldlaaGreatMc
import Derived.Test.YtlionlbihmldlaaGreatClSz
import Derived.Test.YtlionlbihmldlaaGreatClTo
import Derived.Test.YtlionlbihmldlaaGreatClEq
import Derived.Deep.RegionHeld3
import Derived.Test.YtlionlbihmldlaaGreatOpL
import Derived.OpenShut
import Derived.ShutString
import Derived.ChangeSlices
import Derived.Carry
import Derived.Lib.SmallJoins
namespace Go.Proofs.YtlionlbihmldlaaGreat.Cl
open Go.RowKit Go.Proofs.YtlionlbihmldlaaGreat.Cond Go.Proofs.YtlionlbihmldlaaGreat.Gx Go.Proofs.YtlionlbihmldlaaGreat.NdS
set_option linter.unusedVariables false
set_option linter.unusedSimpArgs false

set_option maxHeartbeats 4000000 in
theorem implFn (x : Kt) (w : World) (h : LiC w w.heap.size x) (hw : x.ct.wt ≤ 1048576) :
    Calls Tryz.prog 19 #[x.val] w (StrAns w.heap.size (fnL x.ct) x.ct.good w) := by
  obtain ⟨X, hX⟩ : ∃ X, X = w.alloc (.cells #[.slice x.A1 x.n1 x.c1, .slice x.A2 x.n2 x.c2] 32) := ⟨_, rfl⟩
  have B0 : Below w.heap.size w X := by rw [hX]; exact below1 _ _
  have HC := Lib.hid (checkContract x X (h.on B0) hw)
  have HB := Lib.hid B0
  have HX := Lib.hid hX
  clear h hw B0 hX
  go_enter Tryz.func19, Tryz.ntmps19
  go_wp2_with (go_at_call 31; (try rw [← HX.out]); refine HC.out.mono ?_; (rintro e w2 (⟨hg, hb, a1, l1, k1, a2, l2, k2, mo, a3, l3, k3, rfl⟩ | ⟨mb, g, n, c, rfl, hy⟩)); all_goals refine Hid.out ?_)
  · refine Lib.hid ?_
    have HG : Hid (fnL x.ct = [] ∧ x.ct.good = false) := Lib.hid ⟨by unfold fnL; rw [hg]; rfl, hg⟩
    obtain ⟨U, hU⟩ : ∃ U, U = w2.alloc (.cells #[.slice a1 l1 k1, .slice a2 l2 k2, .map mo, .slice a3 l3 k3] 55) := ⟨_, rfl⟩
    have BU : Below w.heap.size w U := by
      have h2 := HB.out.trans (hb.mono HB.out.size)
      rw [hU]; exact h2.alloc h2.size _
    have O2 : UniT.Own (U.alloc (.cells #[] 9)) w.heap.size (.slice (some ⟨U.heap.size, 0, none⟩) 0 0) [] := by
      have := World.ownsRow_lit (base := w.heap.size) (e := 9) (size := 1) U #[] 0 BU.size (by decide) (by simp)
      simpa [UniT.Own] using this
    have hUs : U.heap.size = w2.heap.size + 1 := by rw [hU]; simp
    rw [hUs, hU] at O2
    have B3 := BU.alloc BU.size (.cells #[] 9)
    rw [hU] at B3
    have HO := Lib.hid O2
    have HB3 := Lib.hid B3
    clear hg hb hU BU O2 hUs B3
    go_wp2_with fail
    go_ret2
    exact ⟨w2.heap.size + 1, 0, 0, by rw [HG.out.1]; rfl, by rw [HG.out.2]; rfl, by rw [HG.out.1]; exact HO.out, HB3.out⟩
  · refine Lib.hid ?_
    have HG : Hid (fnL x.ct = Cl.names x.ct.ls ∧ x.ct.good = true) := Lib.hid ⟨by unfold fnL; rw [hy.good]; rfl, hy.good⟩
    have HN := Lib.hid hy.len
    have HB2 := Lib.hid (HB.out.trans (hy.bel.mono HB.out.size))
    have HO := Lib.hid (own_lessT (own_on hy.own (below1 w2 (.cells #[.slice x.A1 x.n1 x.c1, .slice x.A2 x.n2 x.c2, .map (some mb), .slice (some ⟨g, 0, none⟩) n c] 55))) HB.out.size)
    clear hy
    go_wp2_with fail
    go_ret2
    exact ⟨g, n, c, by rw [HG.out.1]; exact HN.out, by rw [HG.out.2]; rfl, by rw [HG.out.1]; exact HO.out, HB2.out.alloc HB2.out.size _⟩

end Go.Proofs.YtlionlbihmldlaaGreat.Cl

namespace Go.Proofs.YtlionlbihmldlaaGreat.KrF
open Go.RowKit Go.Proofs.YtlionlbihmldlaaGreat.Cond Go.Proofs.YtlionlbihmldlaaGreat.Gx Go.Proofs.YtlionlbihmldlaaGreat.Cl
set_option linter.unusedVariables false
set_option linter.unusedSimpArgs false

set_option maxRecDepth 100000 in
set_option maxHeartbeats 8000000 in
theorem walk (x0 : Kt) (w : World) (hx0 : LiC w w.heap.size x0) :
    Calls Tryz.prog 5 #[x0.val] w fun e w' => e = .returned (.bool true) ∧ Below w.heap.size w w' := by
  obtain ⟨w0, hw0⟩ : ∃ w0, w0 = w.alloc (.cells #[.slice x0.A1 x0.n1 x0.c1, .slice x0.A2 x0.n2 x0.c2] 25) := ⟨_, rfl⟩
  have B0 : Hid (Below w.heap.size w w0) := Lib.hid (by rw [hw0]; exact below1 _ _)
  have X0 : Hid (Bk w.heap.size w0 [.slice x0.A1 x0.n1 x0.c1, .slice x0.A2 x0.n2 x0.c2]) := Lib.hid (by rw [hw0]; exact Bk.new _ _ _)
  have HI := Lib.hid hx0
  have HW0 := Lib.hid hw0
  clear hw0 hx0
  obtain ⟨t, ht⟩ : ∃ q : Bool, q = x0.ct.good := ⟨_, rfl⟩
  have HVt := Lib.hid ht
  clear ht
  go_enter Tryz.func5, Tryz.ntmps5
  obtain ⟨D, hD⟩ : ∃ D : List (List UInt8), D = fnL x0.ct := ⟨_, rfl⟩
  obtain ⟨N, hN⟩ : ∃ N, N = D.length := ⟨_, rfl⟩
  have hN3 : N ≤ 3000 := by rw [hN, hD]; exact fnL_len _
  have HVD := Lib.hid hD
  have HVN := Lib.hid hN
  have HVX : Hid (N = (UniT.strs D).length) := Lib.hid (by rw [hN]; simp [UniT.strs])
  clear hD hN
  by_cases hz : 1048576 < x0.ct.wt
  · have HZ := szCt x0 1048576 (by omega) w0 (HI.out.on B0.out)
    rw [szRes, if_pos hz] at HZ
    have HZH := Lib.hid HZ
    clear HZ hz
    go_wp2_with (go_at_call 7; (try rw [← HW0.out]); refine HZH.out.mono ?_; rintro e wz ⟨rfl, hbz⟩)
    go_ret
    exact ⟨rfl, B0.out.trans (hbz.mono B0.out.size)⟩
  have HZ := szCt x0 1048576 (by omega) w0 (HI.out.on B0.out)
  rw [szRes, if_neg hz] at HZ
  have HLE : Hid (x0.ct.wt ≤ 1048576) := Lib.hid (by omega)
  obtain ⟨m1, hm1⟩ : ∃ m, m = 1048576 - x0.ct.wt := ⟨_, rfl⟩
  rw [← hm1] at HZ
  have HZH := Lib.hid HZ
  have hm0 : (0 : Int) ≤ (m1 : Int) := by omega
  clear HZ hm1 hz
  go_wp2_with (go_at_call 7; (try rw [← HW0.out]); refine HZH.out.mono ?_; rintro e w1 ⟨rfl, hb⟩; refine Hid.out ?_)
  refine Lib.hid ?_
  have B1 := Lib.hid (B0.out.trans (hb.mono B0.out.size))
  have X1 := Lib.hid (X0.out.on hb)
  have e0 := X1.out.c 0 (by simp)
  have e1 := X1.out.c 1 (by simp)
  simp only [List.getElem_cons_succ, List.getElem_cons_zero] at e0 e1
  have HT := Lib.hid (toCt x0 w1 (HI.out.on B1.out) HLE.out)
  clear hb HZH
  go_wp2_with (go_at_call 9; refine HT.out.mono ?_; rintro e w2 ⟨q, rfl, hq, hwr, hge, hb⟩; refine Hid.out ?_)
  refine Lib.hid ?_
  have B2 := Lib.hid (B1.out.trans (hb.mono B1.out.size))
  have X2 := Lib.hid (X1.out.on hb)
  have HSP := specFn q w2 hwr.has (by rw [hq]; exact HLE.out)
  rw [hq] at HSP
  rw [← HVt.out] at HSP
  rw [← HVD.out] at HSP
  have HSPH := Lib.hid HSP
  clear HSP hq hwr hge hb e0 e1 HT
  go_wp2_with (go_at_call 18; refine HSPH.out.mono ?_; intro e w3 ha; obtain ⟨gS, cS, rfl, hoS, hb⟩ := StrAns.fix HVN.out ha; refine Hid.out ?_)
  refine Lib.hid ?_
  have B3 := Lib.hid (B2.out.trans (hb.mono B2.out.size))
  have X3 := Lib.hid (X2.out.on hb)
  have S3 : Hid (Row.Is w3 w3.heap.size (some ⟨gS, 0, none⟩) (UniT.strs D)) := Lib.hid (Row.Is.of_own hoS HVX.out)
  have e0 := X3.out.c 0 (by simp)
  have e1 := X3.out.c 1 (by simp)
  simp only [List.getElem_cons_succ, List.getElem_cons_zero] at e0 e1
  have HT := Lib.hid (toCt x0 w3 (HI.out.on B3.out) HLE.out)
  clear hb HSPH hoS ha
  go_wp2_with (go_at_call 9; refine HT.out.mono ?_; rintro e w4 ⟨y, rfl, hy, hwr, hge, hb⟩; refine Hid.out ?_)
  refine Lib.hid ?_
  have K4 : Hid (Below w3.heap.size w3 w4) := Lib.hid hb
  have HGE := Lib.hid hge
  obtain ⟨w5, hw5⟩ : ∃ w5, w5 = w4.alloc (.cells #[.slice y.A1 y.n1 y.c1, .slice y.A2 y.n2 y.c2] 32) := ⟨_, rfl⟩
  have hb5 : Below w4.heap.size w4 w5 := by rw [hw5]; exact below1 _ _
  have K5 := Lib.hid (K4.out.trans (hb5.mono K4.out.size))
  have Y5 : Hid (Bk w4.heap.size w5 [.slice y.A1 y.n1 y.c1, .slice y.A2 y.n2 y.c2]) := Lib.hid (by rw [hw5]; exact Bk.new _ _ _)
  have WY5 := Lib.hid (hwr.on hb5)
  have HYL : Hid (∀ b ∈ y.blocks, b < w4.heap.size) := Lib.hid hwr.has.lt
  have HY5 : Hid (w4.heap.size < w5.heap.size) := Lib.hid (by rw [hw5]; simp)
  have HY := Lib.hid hy
  have HIM := implFn y w5 WY5.out.has (by rw [hy]; exact HLE.out)
  rw [hy] at HIM
  rw [← HVt.out] at HIM
  rw [← HVD.out] at HIM
  have HIMH := Lib.hid HIM
  have HW5 := Lib.hid hw5
  clear HIM hy hwr hge hb hb5 hw5 e0 e1 HT
  go_wp2_with (go_at_call 19; (try rw [← HW5.out]); refine HIMH.out.mono ?_; intro e w6 ha; obtain ⟨gI, cI, rfl, hoI, hb⟩ := StrAns.fix HVN.out ha; refine Hid.out ?_)
  refine Lib.hid ?_
  have K6 := Lib.hid (K5.out.trans (hb.mono K5.out.size))
  have Y6 := Lib.hid (Y5.out.on hb)
  have WY6 := Lib.hid (WY5.out.on hb)
  have I6 := Lib.hid hoI
  have HS35 : Hid (w3.heap.size ≤ w5.heap.size) := Lib.hid K5.out.size
  have HS56 : Hid (w5.heap.size ≤ w6.heap.size) := Lib.hid hb.size
  clear hb HIMH hoI ha K4 K5 Y5 WY5
  generalize hky : w4.heap.size = ky at *
  clear hky
  cases t
  all_goals
    have HEQw7 := Lib.hid (Row.eqS (some ⟨gI, 0, none⟩) (some ⟨gS, 0, none⟩) N cI cS w6.heap.size (UniT.strs D) w6 HVX.out (by omega) (Row.Is.of_own I6.out HVX.out) ((S3.out.below K6.out).more K6.out.size))
    go_wp2_with (go_at_call 20; refine HEQw7.out.mono ?_; rintro e _ ⟨rfl, qw7, rfl⟩; refine Hid.out ?_)
    refine Lib.hid ?_
    obtain ⟨w7, hwq⟩ : ∃ v, v = w6.drewN qw7 := ⟨_, rfl⟩
    have hbq : Below w6.heap.size w6 w7 := by rw [hwq]; exact below_drewN (Below.refl _ _) _
    rw [← hwq]
    clear hwq HEQw7
    have K7 := Lib.hid (K6.out.trans (hbq.mono K6.out.size))
    have Y7 := Lib.hid (Y6.out.on hbq)
    have WY7 := Lib.hid (WY6.out.on hbq)
    have I7 := Lib.hid (row_on I6.out hbq)
    have B7 := Lib.hid (B3.out.trans (K7.out.mono B3.out.size))
    clear hbq K6 Y6 WY6 I6
    have HXL : Hid (w.heap.size < w3.heap.size) := Lib.hid X3.out.lt
    have KX : Hid (∀ v, Below w7.heap.size w7 v → (v.cell? ⟨w.heap.size, 0, none⟩ = some (.slice x0.A1 x0.n1 x0.c1) ∧ v.cell? ⟨w.heap.size, 1, none⟩ = some (.slice x0.A2 x0.n2 x0.c2)) ∧ v.cell? ⟨ky, 0, none⟩ = some (.slice y.A1 y.n1 y.c1) ∧ v.cell? ⟨ky, 1, none⟩ = some (.slice y.A2 y.n2 y.c2)) := Lib.hid fun v hv => by
      have hx := X3.out.on (K7.out.trans (hv.mono K7.out.size))
      have a0 := hx.c 0 (by simp)
      have a1 := hx.c 1 (by simp)
      have b0 := (Y7.out.on hv).c 0 (by simp)
      have b1 := (Y7.out.on hv).c 1 (by simp)
      simp only [List.getElem_cons_succ, List.getElem_cons_zero] at a0 a1 b0 b1
      exact ⟨⟨a0, a1⟩, b0, b1⟩
    have HTX := Lib.hid fun v (hv : Below w7.heap.size w7 v) => toCt x0 v (HI.out.on (B7.out.trans (hv.mono B7.out.size))) HLE.out
    have HEQ : Hid (∀ v wa (z : Kt), Below w7.heap.size w7 wa → LiC wa wa.heap.size z → z.ct = x0.ct → Below wa.heap.size wa v → Calls Tryz.prog 12 #[y.val, z.val] v fun e w' => e = .returned (.bool true) ∧ Below v.heap.size v w') :=
      Lib.hid fun v wa z hx hz hc hv => eqCt y z v (by rw [HY.out, hc]) (by rw [hc]; exact HLE.out) ((WY7.out.has.on hx).on hv) (hz.on hv)
    have hcells := KX.out w7 (Below.refl _ _)
    obtain ⟨⟨e0, e1⟩, g0, g1⟩ := hcells
    go_wp2_with fail
    go_region_held3 (fun v => (v.cell? ⟨w.heap.size, 0, none⟩ = some (.slice x0.A1 x0.n1 x0.c1) ∧ v.cell? ⟨w.heap.size, 1, none⟩ = some (.slice x0.A2 x0.n2 x0.c2)) ∧ v.cell? ⟨ky, 0, none⟩ = some (.slice y.A1 y.n1 y.c1) ∧ v.cell? ⟨ky, 1, none⟩ = some (.slice y.A2 y.n2 y.c2)) (first | (refine KX.out _ ?_; (repeat (first | exact Below.refl _ _ | exact b2 | exact b1 | apply Below.drew)); done))
      (first
        | (go_at_call 9; (with_reducible refine (HTX.out _ (by (repeat (first | exact Below.refl _ _ | exact b2 | exact b1 | apply Below.drew)))).mono ?_); rintro e wa ⟨z, rfl, hzc, hzw, hzg, hb⟩; have b1 : Below w7.heap.size w7 wa := (Below.trans (by (repeat (first | exact Below.refl _ _ | exact b2 | exact b1 | apply Below.drew))) (hb.mono (by first | omega | (simp; done) | (simp; omega) | exact b1.size | (have := b1.size; simp; omega)))); have NA := Lib.hid hzw.has; have NC := Lib.hid hzc; clear hb hzw hzc hzg)
        | (go_at_call 12; (with_reducible refine (HEQ.out _ _ z b1 NA.out NC.out (by (repeat (first | exact Below.refl _ _ | apply Below.drew)))).mono ?_); rintro e wb ⟨rfl, hb⟩; have b2 : Below w7.heap.size w7 wb := (Below.trans (by (repeat (first | exact Below.refl _ _ | exact b2 | exact b1 | apply Below.drew))) (hb.mono (by first | omega | (simp; done) | (simp; omega) | exact b1.size | (have := b1.size; simp; omega)))); clear hb))
    all_goals
      have K8 := Lib.hid (K7.out.trans (b2.mono K7.out.size))
      have Y8 := Lib.hid (Y7.out.on b2)
      have WY8 := Lib.hid (WY7.out.on b2)
      have I8 := Lib.hid (row_on I7.out b2)
      clear b1 b2 NA NC e0 e1 g0 g1 KX HTX HEQ K7 Y7 WY7 I7 B7
      have g0 := Y8.out.c 0 (by simp)
      have g1 := Y8.out.c 1 (by simp)
      simp only [List.getElem_cons_succ, List.getElem_cons_zero] at g0 g1
      have hmk := markCt y 1 wb (by omega) (nMkC_le WY8.out.has (by rw [HY.out]; exact HLE.out)) WY8.out
      obtain ⟨mq, hmq⟩ : ∃ m, m = 1 + nMkC y := ⟨_, rfl⟩
      rw [← hmq] at hmk
      have hmq0 : (0 : Int) ≤ (mq : Int) := by omega
      have HMK := Lib.hid hmk
      clear hmk hmq
      go_wp2_with (go_at_call 13; refine HMK.out.mono ?_; rintro e w9 ⟨rfl, hlm, hmv⟩; refine Hid.out ?_)
      refine Lib.hid ?_
      have K9 : Hid (Below w3.heap.size w3 w9) := Lib.hid (K8.out.trans (hmv.below HGE.out K8.out.size))
      have I9 := Lib.hid (row_mv I8.out hmv (fun h => by have := HYL.out gI h; have := (row_ge I8.out).1; have := HY5.out; omega))
      clear hlm hmv g0 g1 HMK K8 Y8 WY8 I8
      have HEQw10 := Lib.hid (Row.eqS (some ⟨gI, 0, none⟩) (some ⟨gS, 0, none⟩) N cI cS w9.heap.size (UniT.strs D) w9 HVX.out (by omega) (Row.Is.of_own I9.out HVX.out) ((S3.out.below K9.out).more K9.out.size))
      go_wp2_with (go_at_call 20; refine HEQw10.out.mono ?_; rintro e _ ⟨rfl, qw10, rfl⟩; refine Hid.out ?_)
      refine Lib.hid ?_
      obtain ⟨w10, hwq⟩ : ∃ v, v = w9.drewN qw10 := ⟨_, rfl⟩
      have hbq : Below w9.heap.size w9 w10 := by rw [hwq]; exact below_drewN (Below.refl _ _) _
      rw [← hwq]
      clear hwq HEQw10
      have K10 := Lib.hid (K9.out.trans (hbq.mono K9.out.size))
      have I10 := Lib.hid (row_on I9.out hbq)
      clear hbq K9 I9
      have HS510 : Hid (w5.heap.size ≤ w10.heap.size) := Lib.hid (by have := row_ge I10.out; omega)
      have HMI := Lib.hid (MkS.markRow (some ⟨gI, 0, none⟩) N cI w5.heap.size _ w10 (by omega) HS510.out I10.out)
      go_wp2_with (go_at_call 21; refine HMI.out.mono ?_; rintro e w11 ⟨rfl, ⟨ys, hoy, hmy⟩, hbo⟩; refine Hid.out ?_)
      refine Lib.hid ?_
      have K11 := Lib.hid (K10.out.trans (hbo.mono HS35.out))
      have I11 := Lib.hid hoy
      have HMY := Lib.hid hmy
      clear hoy hmy hbo HMI K10 I10
      have HHI := Lib.hid (MkS.heldRow (some ⟨gI, 0, none⟩) N cI w5.heap.size ys w11 (by omega) I11.out HMY.out)
      go_wp2_with (go_at_call 22; refine HHI.out.mono ?_; rintro e w12 ⟨rfl, hbq⟩; refine Hid.out ?_)
      refine Lib.hid ?_
      clear HHI
      have K12 := Lib.hid (K11.out.trans (hbq.mono K11.out.size))
      have I12 := Lib.hid (row_on I11.out hbq)
      clear hbq K11 I11
      have X12 := Lib.hid (X3.out.on K12.out)
      have B12 := Lib.hid (B3.out.trans (K12.out.mono B3.out.size))
      have e0 := X12.out.c 0 (by simp)
      have e1 := X12.out.c 1 (by simp)
      simp only [List.getElem_cons_succ, List.getElem_cons_zero] at e0 e1
      have HT := Lib.hid (toCt x0 w12 (HI.out.on B12.out) HLE.out)
      go_wp2_with (go_at_call 9; refine HT.out.mono ?_; rintro e w13 ⟨z, rfl, hz, hwr, hge, hb⟩; refine Hid.out ?_)
      refine Lib.hid ?_
      have K13 := Lib.hid (K12.out.trans (hb.mono K12.out.size))
      have I13 := Lib.hid (row_on I12.out hb)
      have HIM := implFn z w13 hwr.has (by rw [hz]; exact HLE.out)
      rw [hz] at HIM
      rw [← HVt.out] at HIM
      rw [← HVD.out] at HIM
      have HIMH := Lib.hid HIM
      clear HIM hz hwr hge hb e0 e1 HT K12 I12 X12 B12
      go_wp2_with (go_at_call 19; refine HIMH.out.mono ?_; intro e w14 ha; obtain ⟨gH, cH, rfl, hoH, hb⟩ := StrAns.fix HVN.out ha; refine Hid.out ?_)
      refine Lib.hid ?_
      have K14 := Lib.hid (K13.out.trans (hb.mono K13.out.size))
      have I14 := Lib.hid (row_on I13.out hb)
      have H14 := Lib.hid hoH
      clear hb HIMH hoH ha K13 I13
      have HEQw15 := Lib.hid (Row.eqS (some ⟨gH, 0, none⟩) (some ⟨gS, 0, none⟩) N cH cS w14.heap.size (UniT.strs D) w14 HVX.out (by omega) (Row.Is.of_own H14.out HVX.out) ((S3.out.below K14.out).more K14.out.size))
      go_wp2_with (go_at_call 20; refine HEQw15.out.mono ?_; rintro e _ ⟨rfl, qw15, rfl⟩; refine Hid.out ?_)
      refine Lib.hid ?_
      obtain ⟨w15, hwq⟩ : ∃ v, v = w14.drewN qw15 := ⟨_, rfl⟩
      have hbq : Below w14.heap.size w14 w15 := by rw [hwq]; exact below_drewN (Below.refl _ _) _
      rw [← hwq]
      clear hwq HEQw15
      have K15 := Lib.hid (K14.out.trans (hbq.mono K14.out.size))
      have I15 := Lib.hid (row_on I14.out hbq)
      clear hbq K14 I14 H14
      have HHI := Lib.hid (MkS.heldRow (some ⟨gI, 0, none⟩) N cI w5.heap.size ys w15 (by omega) I15.out HMY.out)
      go_wp2_with (go_at_call 22; refine HHI.out.mono ?_; rintro e w16 ⟨rfl, hbq⟩)
      go_ret
      exact ⟨rfl, (B3.out.trans (K15.out.mono B3.out.size)).trans (hbq.mono (B3.out.trans (K15.out.mono B3.out.size)).size)⟩

end Go.Proofs.YtlionlbihmldlaaGreat.KrF

namespace Go.Proofs.YtlionlbihmldlaaGreat.fnExactFactNames
open Go.ChangeShapes Go.WideShapes Go.ChangeAt Go.RowKit Go.Joins
open Go.ChangeMaps (open_string shut_string)
set_option linter.unusedVariables false

theorem own : ownKnob Tryz.prog.godebug = none := by kernel_rfl
theorem laidOut : laidOutB Tryz.prog = true := by kernel_rfl

set_option maxRecDepth 100000 in
theorem lifted (os : Os) (started : os.Started) (H : Type) (enc : TypeId × Value → H) :
    ReturnsInHanded {} Tryz.checked os 5 .any (Rows.fnExactFactNamesSpec.pre6 enc Tryz.prog Tryz.f5 Rows.fnExactFactNamesRow.domain false) (Rows.fnExactFactNamesSpec.post enc Tryz.prog Tryz.f5 false true false false) := by
  refine returnsInHanded_of_change (C := Tryz.checked) own started (by kernel_rfl) Tryz.func5
    (ChangeSpec.witness6 (enc := enc) (C := Tryz.checked) false ⟨#[], #[.agg #[.slice none 0 0, .slice none 0 0]], []⟩ 8 (by kernel_rfl) (by kernel_rfl) (by kernel_rfl) (by kernel_rfl)) ?_
  intro W base args ds gs before hval0 hW hcnd _
  have hval : ∀ (j : Nat) t v, Tryz.f5.params[j]? = some t → args[j]? = some v → Value.okWide Tryz.prog W .any base t v := hval0
  have hW' := hW
  obtain ⟨p, q, hA0, hV, rfl, hfz, hnd⟩ := hW
  have hA : DataW.TrodAll enc Tryz.prog W 0 (fun _ => true) true Tryz.f5.params.toList args.toList ds p := hA0
  rw [Tryz.params5] at hA hval
  obtain ⟨v0, vs0, d0, ds0, p0, q0, hargs, rfl, rfl, h0, r0⟩ := trodAll_cons hA
  obtain ⟨rfl, rfl, rfl⟩ := trodAll_nil r0
  obtain rfl : args = #[v0] := by cases args; simp_all
  obtain ⟨rfl, rfl⟩ := trodVars_none hV
  have kk0 := h0
  have lt0 : ∀ x ∈ p0, x.block < W.heap.size := by obtain ⟨m, hm⟩ := kk0; exact DataW.trod_lt m _ _ _ hm
  obtain ⟨x0, rfl, hx0⟩ := Cl.openCt (hval 0 25 v0 rfl rfl) h0
  clear h0
  clear hA0
  refine (KrF.walk x0 W hx0).mono fun e W' ⟨he, bel⟩ => ?_
  subst he
  exact ⟨_, rfl, _, _, _, [], _, [], hW', trodAll_mk1 (shut_bool Tryz.underlying4 _), (trodAll_cons_mk (Below.trod laidOut (by kernel_rfl) (of_decide_eq_true (by kernel_rfl)) kk0 bel lt0) trodAll_mk0), rfl, bel.frame _, fun h => by cases h⟩

theorem proved : Rows.FnExactFactNamesSaid :=
  OpenClaim.holds_of_wide 5 Tryz.f5 rfl rfl rfl rfl rfl rfl rfl ⟨rfl, rfl, rfl, rfl, rfl⟩ rfl rfl rfl rfl rfl (by kernel_rfl) Tryz.func5 (by kernel_rfl)
    (of_decide_eq_true (by kernel_rfl)) (by unfold Func.isWrapper; first | (rw [if_pos (by decide +kernel)]; kernel_rfl) | (rw [if_neg (by decide +kernel)]; exact ⟨rfl, rfl⟩))
    (fun os started H enc _ => lifted os started H enc)
end Go.Proofs.YtlionlbihmldlaaGreat.fnExactFactNames
