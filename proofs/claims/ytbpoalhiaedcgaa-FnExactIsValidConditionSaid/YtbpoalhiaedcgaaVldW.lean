/-
  The walk of the law FnExactIsValidCondition.
-/
import Derived.Test.YtbpoalhiaedcgaaGoodI
namespace Go.Proofs.Ytbpoalhiaedcgaa.VldW
open Go.RowKit Go.Proofs.Ytbpoalhiaedcgaa.Cond

set_option maxHeartbeats 2000000 in
theorem walk (k : K) (w : World) (hin : Lies w w.heap.size k) :
    Calls Try.prog 4 #[k.val] w fun e w' => e = .returned (.bool true) ∧ Below w.heap.size w w' := by
  have B0 := Lib.hid (below1 w (.cells #[.int .i64 k.op, .string k.nm, .int .i64 k.day, .slice k.A k.ps.length k.cap] 25))
  have X0 := Lib.hid (B4.new w (.int .i64 k.op) (.string k.nm) (.int .i64 k.day) (.slice k.A k.ps.length k.cap) 25)
  have HI := Lib.hid hin
  have HZ := sz k 1048576 _ (Nat.le_refl _) (hin.on B0.out)
  by_cases h : 1048576 < k.cond.wt
  · rw [szRes, if_pos h] at HZ
    have HZH := Lib.hid HZ
    clear HZ hin
    go_enter Try.func4, Try.ntmps4
    go_wp2_with (go_at_call 12; refine HZH.out.mono ?_; rintro e w2 ⟨rfl, hb2⟩)
    go_ret
    exact ⟨rfl, B0.out.trans (hb2.mono B0.out.size)⟩
  · rw [szRes, if_neg h] at HZ
    have HZH := Lib.hid HZ
    have hle : k.cond.wt ≤ 1048576 := by omega
    have HLE := Lib.hid hle
    have h0 : (0 : Int) ≤ ((1048576 - k.cond.wt : Nat) : Int) := by omega
    clear HZ hin h hle
    generalize 1048576 - k.cond.wt = r at *
    go_enter Try.func4, Try.ntmps4
    go_wp2_with (go_at_call 12; refine HZH.out.mono ?_; rintro e w1 ⟨rfl, hb1⟩; refine Hid.out ?_)
    refine Lib.hid ?_
    have B1 := Lib.hid (B0.out.trans (hb1.mono B0.out.size))
    have X1 := Lib.hid (X0.out.on hb1)
    obtain ⟨_, x0, x1, x2, x3, _⟩ := X1.out
    have HT := Lib.hid (toC k w1 (HI.out.on B1.out) HLE.out)
    clear hb1
    go_wp2_with (go_at_call 14; refine HT.out.mono ?_; rintro e w2 ⟨q, rfl, hq, ho, hb2⟩; refine Hid.out ?_)
    refine Lib.hid ?_
    have HG := specGood q w2 ho.lies (by rw [hq]; exact HLE.out)
    rw [hq] at HG
    have HGH := Lib.hid HG
    have B2 := Lib.hid (B1.out.trans (hb2.mono B1.out.size))
    have X2 := Lib.hid (X1.out.on hb2)
    clear HG hb2 x0 x1 x2 x3 ho hq
    obtain ⟨gd, hgd⟩ : ∃ gd, gd = k.cond.good := ⟨_, rfl⟩
    rw [← hgd] at HGH
    have HGD := Lib.hid hgd
    clear hgd
    go_wp2_with (go_at_call 13; refine HGH.out.mono ?_; rintro e w3 ⟨rfl, hb3⟩; refine Hid.out ?_)
    refine Lib.hid ?_
    have B3 := Lib.hid (B2.out.trans (hb3.mono B2.out.size))
    have X3 := Lib.hid (X2.out.on hb3)
    obtain ⟨_, x0, x1, x2, x3, _⟩ := X3.out
    have HT3 := Lib.hid (toC k w3 (HI.out.on B3.out) HLE.out)
    clear hb3
    go_wp2_with (go_at_call 14; refine HT3.out.mono ?_; rintro e w4 ⟨q', rfl, hq', ho', hb4⟩; refine Hid.out ?_)
    refine Lib.hid ?_
    have B4' := Lib.hid (B3.out.trans (hb4.mono B3.out.size))
    have X4 := Lib.hid (X3.out.on hb4)
    clear x0 x1 x2 x3 hb4
    have HO := Lib.hid ho'
    have HQ := Lib.hid hq'
    obtain ⟨w5, hw5⟩ : ∃ w5, w5 = w4.alloc (.cells #[.int .i64 q'.op, .string q'.nm, .int .i64 q'.day, .slice q'.A q'.ps.length q'.cap] 30) := ⟨_, rfl⟩
    have hb5 : Below w4.heap.size w4 w5 := by rw [hw5]; exact below1 _ _
    have Y5 : Hid (B4 w4.heap.size w5 (.int .i64 q'.op) (.string q'.nm) (.int .i64 q'.day) (.slice q'.A q'.ps.length q'.cap)) := Lib.hid (by rw [hw5]; exact B4.new _ _ _ _ _ _)
    have B5 := Lib.hid (B4'.out.trans (hb5.mono B4'.out.size))
    have X5 := Lib.hid (X4.out.on hb5)
    have L5 := Lib.hid (HO.out.lies.on hb5)
    have HI5 := implGood q' w5 L5.out (by rw [HQ.out]; exact HLE.out)
    rw [HQ.out, ← HGD.out] at HI5
    have HIH := Lib.hid HI5
    have HW5 := Lib.hid hw5
    clear HI5 hb5 hw5 ho' hq'
    go_wp2_with (go_at_call 15; rw [← HW5.out]; refine HIH.out.mono ?_; rintro e w6 ⟨rfl, hb6⟩; refine Hid.out ?_)
    refine Lib.hid ?_
    have B6 := Lib.hid (B5.out.trans (hb6.mono B5.out.size))
    have X6 := Lib.hid (X5.out.on hb6)
    have Y6 := Lib.hid (Y5.out.on hb6)
    have L6 := Lib.hid (L5.out.on hb6)
    have KX : Hid (∀ v, Below w6.heap.size w6 v → (v.cell? ⟨w.heap.size, 0, none⟩ = some (.int .i64 k.op) ∧ v.cell? ⟨w.heap.size, 1, none⟩ = some (.string k.nm) ∧ v.cell? ⟨w.heap.size, 2, none⟩ = some (.int .i64 k.day) ∧ v.cell? ⟨w.heap.size, 3, none⟩ = some (.slice k.A k.ps.length k.cap)) ∧ v.cell? ⟨w4.heap.size, 0, none⟩ = some (.int .i64 q'.op) ∧ v.cell? ⟨w4.heap.size, 1, none⟩ = some (.string q'.nm) ∧ v.cell? ⟨w4.heap.size, 2, none⟩ = some (.int .i64 q'.day) ∧ v.cell? ⟨w4.heap.size, 3, none⟩ = some (.slice q'.A q'.ps.length q'.cap)) := Lib.hid fun v hv => by
      have a := X6.out.on hv
      have b := Y6.out.on hv
      exact ⟨⟨a.c0, a.c1, a.c2, a.c3⟩, b.c0, b.c1, b.c2, b.c3⟩
    have HTX := Lib.hid fun v (hv : Below w6.heap.size w6 v) => toC k v (HI.out.on (B6.out.trans (hv.mono B6.out.size))) HLE.out
    have HEQ : Hid (∀ v wa (z : K) B, Below w6.heap.size w6 wa → Own wa B wa.heap.size z → z.cond = k.cond → Below wa.heap.size wa v → Calls Try.prog 16 #[q'.val, z.val] v fun e w' => e = .returned (.bool true) ∧ Below v.heap.size v w') :=
      Lib.hid fun v wa z B hx hz hc hv => eqC q' z v (by rw [HQ.out, hc]) (by rw [HQ.out]; exact HLE.out) ((L6.out.on hx).on hv) (hz.lies.on hv)
    clear hb6 X6 Y6 L6 X5 Y5 L5 X4 HO
    generalize w4.heap.size = kx at *
    have hcells := KX.out w6 (Below.refl _ _)
    obtain ⟨⟨k0, k1, k2, k3⟩, j0, j1, j2, j3⟩ := hcells
    cases gd
    all_goals
      go_wp2_with fail
      go_region_held3 (fun v => (v.cell? ⟨w.heap.size, 0, none⟩ = some (.int .i64 k.op) ∧ v.cell? ⟨w.heap.size, 1, none⟩ = some (.string k.nm) ∧ v.cell? ⟨w.heap.size, 2, none⟩ = some (.int .i64 k.day) ∧ v.cell? ⟨w.heap.size, 3, none⟩ = some (.slice k.A k.ps.length k.cap)) ∧ v.cell? ⟨kx, 0, none⟩ = some (.int .i64 q'.op) ∧ v.cell? ⟨kx, 1, none⟩ = some (.string q'.nm) ∧ v.cell? ⟨kx, 2, none⟩ = some (.int .i64 q'.day) ∧ v.cell? ⟨kx, 3, none⟩ = some (.slice q'.A q'.ps.length q'.cap)) (first | (refine KX.out _ ?_; (repeat (first | exact Below.refl _ _ | exact b2 | exact b1 | apply Below.drew)); done))
        (first
          | (go_at_call 14; (with_reducible refine (HTX.out _ (by (repeat (first | exact Below.refl _ _ | exact b2 | exact b1 | apply Below.drew)))).mono ?_); rintro e wa ⟨z, rfl, hzc, hzo, hb⟩; have b1 : Below w6.heap.size w6 wa := (Below.trans (by (repeat (first | exact Below.refl _ _ | exact b2 | exact b1 | apply Below.drew))) (hb.mono (by first | omega | (simp; done) | (simp; omega) | exact b1.size | (have := b1.size; simp; omega)))); have NA := Lib.hid hzo; have NC := Lib.hid hzc; clear hb hzo hzc)
          | (go_at_call 16; (with_reducible refine (HEQ.out _ _ z _ b1 NA.out NC.out (by (repeat (first | exact Below.refl _ _ | apply Below.drew)))).mono ?_); rintro e wb ⟨rfl, hb⟩; have b2 : Below w6.heap.size w6 wb := (Below.trans (by (repeat (first | exact Below.refl _ _ | exact b2 | exact b1 | apply Below.drew))) (hb.mono (by first | omega | (simp; done) | (simp; omega) | exact b1.size | (have := b1.size; simp; omega)))); clear hb))
      all_goals
        go_wp2_with fail
        go_ret
        exact ⟨rfl, B6.out.trans (b2.mono B6.out.size)⟩

end Go.Proofs.Ytbpoalhiaedcgaa.VldW
