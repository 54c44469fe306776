/-
  The walk of the law FnExactClauseNumber.
-/
import Derived.Test.YtlionlbihmldlaaClSz
import Derived.Test.YtlionlbihmldlaaClTo
import Derived.Test.YtlionlbihmldlaaClEq
import Derived.Test.YtlionlbihmldlaaClCi
import Derived.Deep.RegionHeld3
namespace Go.Proofs.Ytlionlbihmldlaa.KwN
open Go.RowKit Go.Proofs.Ytlionlbihmldlaa.Cond Go.Proofs.Ytlionlbihmldlaa.Gx Go.Proofs.Ytlionlbihmldlaa.Cl
set_option linter.unusedVariables false
set_option linter.unusedSimpArgs false

set_option maxRecDepth 100000 in
set_option maxHeartbeats 8000000 in
theorem walk (x0 : Kt) (s1 : ByteArray) (w : World) (hx0 : LiC w w.heap.size x0) (hs1 : s1.size ≤ maxLen) :
    Calls Try.prog 4 #[x0.val, .string s1] w fun e w' => e = .returned (.bool true) ∧ Below w.heap.size w w' := by
  obtain ⟨w0, hw0⟩ : ∃ w0, w0 = w.alloc (.cells #[.slice x0.A1 x0.n1 x0.c1, .slice x0.A2 x0.n2 x0.c2] 25) := ⟨_, rfl⟩
  have B0 : Hid (Below w.heap.size w w0) := Lib.hid (by rw [hw0]; exact below1 _ _)
  have X0 : Hid (Bk w.heap.size w0 [.slice x0.A1 x0.n1 x0.c1, .slice x0.A2 x0.n2 x0.c2]) := Lib.hid (by rw [hw0]; exact Bk.new _ _ _)
  have HI := Lib.hid hx0
  have HW0 := Lib.hid hw0
  clear hw0 hx0
  obtain ⟨n, hn⟩ : ∃ q : Int, q = cnN x0.ct s1 := ⟨_, rfl⟩
  have HVn := Lib.hid hn
  clear hn
  obtain ⟨t, ht⟩ : ∃ q : Bool, q = cnB x0.ct s1 := ⟨_, rfl⟩
  have HVt := Lib.hid ht
  clear ht
  go_enter Try.func4, Try.ntmps4
  by_cases hl1 : 1048576 < s1.size
  · have g1 : (1048576 : Int) < (s1.size : Int) := by omega
    go_wp2_with fail
    go_ret
    exact ⟨rfl, by rw [← HW0.out]; exact B0.out⟩
  have g1 : ¬ (1048576 : Int) < (s1.size : Int) := by omega
  have HS1 := Lib.hid hs1
  clear hl1 hs1
  by_cases hz : 1048576 < x0.ct.wt
  · have HZ := szCt x0 1048576 (by omega) w0 (HI.out.on B0.out)
    rw [szRes, if_pos hz] at HZ
    have HZH := Lib.hid HZ
    clear HZ hz
    go_wp2_with (go_at_call 5; (try rw [← HW0.out]); refine HZH.out.mono ?_; rintro e wz ⟨rfl, hbz⟩)
    go_ret
    exact ⟨rfl, B0.out.trans (hbz.mono B0.out.size)⟩
  have HZ := szCt x0 1048576 (by omega) w0 (HI.out.on B0.out)
  rw [szRes, if_neg hz] at HZ
  have HLE : Hid (x0.ct.wt ≤ 1048576) := Lib.hid (by omega)
  obtain ⟨m1, hm1⟩ : ∃ m, m = 1048576 - x0.ct.wt := ⟨_, rfl⟩
  rw [← hm1] at HZ
  have HZH := Lib.hid HZ
  have hm0 : (0 : Int) ≤ (m1 : Int) := by omega
  clear HZ hm1 hz
  go_wp2_with (go_at_call 5; (try rw [← HW0.out]); refine HZH.out.mono ?_; rintro e w1 ⟨rfl, hb⟩; refine Hid.out ?_)
  refine Lib.hid ?_
  have B1 := Lib.hid (B0.out.trans (hb.mono B0.out.size))
  have X1 := Lib.hid (X0.out.on hb)
  have e0 := X1.out.c 0 (by simp)
  have e1 := X1.out.c 1 (by simp)
  simp only [List.getElem_cons_succ, List.getElem_cons_zero] at e0 e1
  have HT := Lib.hid (toCt x0 w1 (HI.out.on B1.out) HLE.out)
  clear hb HZH
  go_wp2_with (go_at_call 7; refine HT.out.mono ?_; rintro e w2 ⟨q, rfl, hq, hwr, hge, hb⟩; refine Hid.out ?_)
  refine Lib.hid ?_
  have B2 := Lib.hid (B1.out.trans (hb.mono B1.out.size))
  have X2 := Lib.hid (X1.out.on hb)
  have HSP := specCn q s1 w2 hwr.has (by rw [hq]; exact HLE.out)
  rw [hq] at HSP
  rw [← HVn.out] at HSP
  rw [← HVt.out] at HSP
  have HSPH := Lib.hid HSP
  clear HSP hq hwr hge hb e0 e1 HT
  go_wp2_with (go_at_call 10; refine HSPH.out.mono ?_; rintro e w3 ⟨rfl, hb⟩; refine Hid.out ?_)
  refine Lib.hid ?_
  have B3 := Lib.hid (B2.out.trans (hb.mono B2.out.size))
  have X3 := Lib.hid (X2.out.on hb)
  have e0 := X3.out.c 0 (by simp)
  have e1 := X3.out.c 1 (by simp)
  simp only [List.getElem_cons_succ, List.getElem_cons_zero] at e0 e1
  have HT := Lib.hid (toCt x0 w3 (HI.out.on B3.out) HLE.out)
  clear hb HSPH
  go_wp2_with (go_at_call 7; refine HT.out.mono ?_; rintro e w4 ⟨y, rfl, hy, hwr, hge, hb⟩; refine Hid.out ?_)
  refine Lib.hid ?_
  have B4 := Lib.hid (B3.out.trans (hb.mono B3.out.size))
  have X4 := Lib.hid (X3.out.on hb)
  obtain ⟨w5, hw5⟩ : ∃ w5, w5 = w4.alloc (.cells #[.slice y.A1 y.n1 y.c1, .slice y.A2 y.n2 y.c2] 30) := ⟨_, rfl⟩
  have hb5 : Below w4.heap.size w4 w5 := by rw [hw5]; exact below1 _ _
  have B5 := Lib.hid (B4.out.trans (hb5.mono B4.out.size))
  have X5 := Lib.hid (X4.out.on hb5)
  have Y5 : Hid (Bk w4.heap.size w5 [.slice y.A1 y.n1 y.c1, .slice y.A2 y.n2 y.c2]) := Lib.hid (by rw [hw5]; exact Bk.new _ _ _)
  have L5 := Lib.hid (hwr.has.on hb5)
  have HY := Lib.hid hy
  have HIM := implCn y s1 w5 L5.out (by rw [hy]; exact HLE.out) HS1.out
  rw [hy] at HIM
  rw [← HVn.out] at HIM
  rw [← HVt.out] at HIM
  have HIMH := Lib.hid HIM
  have HW5 := Lib.hid hw5
  clear HIM hy hwr hge hb hb5 hw5 e0 e1 HT
  go_wp2_with (go_at_call 11; (try rw [← HW5.out]); refine HIMH.out.mono ?_; rintro e w6 ⟨rfl, hb⟩; refine Hid.out ?_)
  refine Lib.hid ?_
  have B6 := Lib.hid (B5.out.trans (hb.mono B5.out.size))
  have X6 := Lib.hid (X5.out.on hb)
  have Y6 := Lib.hid (Y5.out.on hb)
  have L6 := Lib.hid (L5.out.on hb)
  clear hb HIMH
  generalize hky : w4.heap.size = ky at *
  clear hky
  cases t
  all_goals
    have KX : Hid (∀ v, Below w6.heap.size w6 v → (v.cell? ⟨w.heap.size, 0, none⟩ = some (.slice x0.A1 x0.n1 x0.c1) ∧ v.cell? ⟨w.heap.size, 1, none⟩ = some (.slice x0.A2 x0.n2 x0.c2)) ∧ v.cell? ⟨ky, 0, none⟩ = some (.slice y.A1 y.n1 y.c1) ∧ v.cell? ⟨ky, 1, none⟩ = some (.slice y.A2 y.n2 y.c2)) := Lib.hid fun v hv => by
      have a0 := (X6.out.on hv).c 0 (by simp)
      have a1 := (X6.out.on hv).c 1 (by simp)
      have b0 := (Y6.out.on hv).c 0 (by simp)
      have b1 := (Y6.out.on hv).c 1 (by simp)
      simp only [List.getElem_cons_succ, List.getElem_cons_zero] at a0 a1 b0 b1
      exact ⟨⟨a0, a1⟩, b0, b1⟩
    have HTX := Lib.hid fun v (hv : Below w6.heap.size w6 v) => toCt x0 v (HI.out.on (B6.out.trans (hv.mono B6.out.size))) HLE.out
    have HEQ : Hid (∀ v wa (z : Kt), Below w6.heap.size w6 wa → LiC wa wa.heap.size z → z.ct = x0.ct → Below wa.heap.size wa v → Calls Try.prog 9 #[y.val, z.val] v fun e w' => e = .returned (.bool true) ∧ Below v.heap.size v w') :=
      Lib.hid fun v wa z hx hz hc hv => eqCt y z v (by rw [HY.out, hc]) (by rw [hc]; exact HLE.out) ((L6.out.on hx).on hv) (hz.on hv)
    have hcells := KX.out w6 (Below.refl _ _)
    obtain ⟨⟨e0, e1⟩, g0, g1⟩ := hcells
    go_wp2_with fail
    go_region_held3 (fun v => (v.cell? ⟨w.heap.size, 0, none⟩ = some (.slice x0.A1 x0.n1 x0.c1) ∧ v.cell? ⟨w.heap.size, 1, none⟩ = some (.slice x0.A2 x0.n2 x0.c2)) ∧ v.cell? ⟨ky, 0, none⟩ = some (.slice y.A1 y.n1 y.c1) ∧ v.cell? ⟨ky, 1, none⟩ = some (.slice y.A2 y.n2 y.c2)) (first | (refine KX.out _ ?_; (repeat (first | exact Below.refl _ _ | exact b2 | exact b1 | apply Below.drew)); done))
      (first
        | (go_at_call 7; (with_reducible refine (HTX.out _ (by (repeat (first | exact Below.refl _ _ | exact b2 | exact b1 | apply Below.drew)))).mono ?_); rintro e wa ⟨z, rfl, hzc, hzw, hzg, hb⟩; have b1 : Below w6.heap.size w6 wa := (Below.trans (by (repeat (first | exact Below.refl _ _ | exact b2 | exact b1 | apply Below.drew))) (hb.mono (by first | omega | (simp; done) | (simp; omega) | exact b1.size | (have := b1.size; simp; omega)))); have NA := Lib.hid hzw.has; have NC := Lib.hid hzc; clear hb hzw hzc hzg)
        | (go_at_call 9; (with_reducible refine (HEQ.out _ _ z b1 NA.out NC.out (by (repeat (first | exact Below.refl _ _ | apply Below.drew)))).mono ?_); rintro e wb ⟨rfl, hb⟩; have b2 : Below w6.heap.size w6 wb := (Below.trans (by (repeat (first | exact Below.refl _ _ | exact b2 | exact b1 | apply Below.drew))) (hb.mono (by first | omega | (simp; done) | (simp; omega) | exact b1.size | (have := b1.size; simp; omega)))); clear hb))
    all_goals
      go_wp2_with fail
      go_ret
      exact ⟨rfl, B6.out.trans (b2.mono B6.out.size)⟩

end Go.Proofs.Ytlionlbihmldlaa.KwN
