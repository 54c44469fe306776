/-
  The walk of the law FnExactEvaluateCondition.
-/
import Derived.Test.YtbpoalhiaedcgaaEvF
import Derived.Test.YtbpoalhiaedcgaaRowSz
import Derived.Test.YtbpoalhiaedcgaaRowTo
import Derived.Test.YtbpoalhiaedcgaaRowEq
namespace Go.Proofs.Ytbpoalhiaedcgaa.EvW
open Go.RowKit Go.Proofs.Ytbpoalhiaedcgaa.Cond
set_option linter.unusedVariables false

set_option maxHeartbeats 8000000 in
theorem walk (k0 : K) (F1 : Option Addr) (n1 cf1 : Nat) (ss1 : List ByteArray) (z2 : Int) (w : World) (hin0 : Lies w w.heap.size k0) (hn1 : n1 = ss1.length) (hm1 : n1 ≤ maxLen) (hF1 : Row.Is w w.heap.size F1 ss1) (hs1 : ∀ p ∈ ss1, p.size ≤ maxLen) :
    Calls Try.prog 5 #[k0.val, .slice F1 n1 cf1, .int .i64 z2] w fun e w' => e = .returned (.bool true) ∧ Below w.heap.size w w' := by
  obtain ⟨w0, hw0⟩ : ∃ w0, w0 = w.alloc (.cells #[.int .i64 k0.op, .string k0.nm, .int .i64 k0.day, .slice k0.A k0.ps.length k0.cap] 25) := ⟨_, rfl⟩
  have Bz0 : Hid (Below w.heap.size w w0) := Lib.hid (by rw [hw0]; exact below1 _ _)
  have X0_0 : Hid (B4 (w.heap.size) w0 (.int .i64 k0.op) (.string k0.nm) (.int .i64 k0.day) (.slice k0.A k0.ps.length k0.cap)) := Lib.hid (by rw [hw0]; have := B4.new w (.int .i64 k0.op) (.string k0.nm) (.int .i64 k0.day) (.slice k0.A k0.ps.length k0.cap) 25; simpa using this)
  have HW0 := Lib.hid hw0
  clear hw0
  have HI0 := Lib.hid hin0
  clear hin0
  have HN1 := Lib.hid hn1
  have HF1 := Lib.hid hF1
  have HS1 := Lib.hid hs1
  have HM1 := Lib.hid hm1
  clear hn1 hF1 hs1 hm1
  go_enter Try.func5, Try.ntmps5
  by_cases hz0 : 1048576 < k0.cond.wt
  · have HZ := sz k0 1048576 w0 (by omega) (HI0.out.on Bz0.out)
    rw [szRes, if_pos hz0] at HZ
    have HZH := Lib.hid HZ
    clear HZ
    go_wp2_with (go_at_call 12; rw [← HW0.out]; refine HZH.out.mono ?_; rintro e wz ⟨rfl, hbz⟩)
    go_ret
    exact ⟨rfl, Bz0.out.trans (hbz.mono Bz0.out.size)⟩
  have HZ0 := sz k0 1048576 w0 (by omega) (HI0.out.on Bz0.out)
  rw [szRes, if_neg hz0] at HZ0
  have HZH0 := Lib.hid HZ0
  have HLE0 : Hid (k0.cond.wt ≤ 1048576) := Lib.hid (by omega)
  obtain ⟨m1, hm_1⟩ : ∃ m, m = 1048576 - k0.cond.wt := ⟨_, rfl⟩
  rw [← hm_1] at HZH0
  have hmm1 : m1 ≤ 1048576 := by omega
  have hm0_1 : (0 : Int) ≤ (m1 : Int) := by omega
  clear HZ0 hm_1 hz0
  go_wp2_with (go_at_call 12; rw [← HW0.out]; refine HZH0.out.mono ?_; rintro e w1 ⟨rfl, hb⟩; refine Hid.out ?_)
  refine Lib.hid ?_
  have Bz1 := Lib.hid (Bz0.out.trans (hb.mono Bz0.out.size))
  have X0_1 := Lib.hid (X0_0.out.on hb)
  clear hb
  obtain ⟨_, x00, x01, x02, x03, _⟩ := X0_1.out
  by_cases hz1 : m1 < Row.sizes ss1 + ss1.length
  · go_wp2_with (go_at_call 17; refine (Row.szNo m1 (by omega) F1 n1 cf1 ss1 hz1 _ w.heap.size HN1.out HM1.out (HF1.out.below Bz1.out) HS1.out).mono ?_; rintro e w' ⟨rfl, rfl⟩)
    go_ret
    exact ⟨rfl, Bz1.out⟩
  have hn6_1 : n1 ≤ 1048576 := by have := HN1.out; omega
  have HS6_1 : Hid (∀ p ∈ ss1, p.size ≤ maxLen) := HS1
  have HY1 : Hid (Row.sizes ss1 + ss1.length ≤ m1) := Lib.hid (by omega)
  clear hz1
  go_wp2_with (go_at_call 17; refine (Row.szYes m1 (by omega) F1 n1 cf1 ss1 HY1.out _ w.heap.size HN1.out HM1.out (HF1.out.below Bz1.out) HS1.out).mono ?_; rintro e w' ⟨m2, rfl, rfl⟩; refine Hid.out ?_)
  refine Lib.hid ?_
  have hm0_2 : (0 : Int) ≤ (m2 : Int) := by omega
  have HT := Lib.hid (toC k0 w1 (HI0.out.on Bz1.out) HLE0.out)
  go_wp2_with (go_at_call 14; refine HT.out.mono ?_; rintro e w2 ⟨q0, rfl, hq0, hoq0, hb⟩; refine Hid.out ?_)
  refine Lib.hid ?_
  clear HT
  clear x00 x01 x02 x03
  have Bz2 := Lib.hid (Bz1.out.trans (hb.mono Bz1.out.size))
  have X0_2 := Lib.hid (X0_1.out.on hb)
  have Lq0_2 := Lib.hid hoq0.lies
  have HCq0 := Lib.hid hq0
  clear hb hoq0 hq0
  have HT := Lib.hid (Row.toS F1 n1 cf1 ss1 w2 HN1.out hn6_1 ((HF1.out.below Bz2.out).more Bz2.out.size))
  go_wp2_with (go_at_call 19; refine HT.out.mono ?_; rintro e w3 ⟨rfl, hown, hb⟩; refine Hid.out ?_)
  refine Lib.hid ?_
  have Bz3 := Lib.hid (Bz2.out.trans (hb.mono Bz2.out.size))
  have X0_3 := Lib.hid (X0_2.out.on hb)
  have Lq0_3 := Lib.hid (Lq0_2.out.on hb)
  have Jq1_3 := Lib.hid (Row.Is.of_own hown HN1.out)
  clear hb hown HT
  obtain ⟨f, hf⟩ : ∃ f : Bool, (f = true ↔ FOk ss1) := by
    by_cases h : FOk ss1
    · exact ⟨true, by simp [h]⟩
    · exact ⟨false, by simp [h]⟩
  obtain ⟨x, y, hx⟩ := ev_is k0.cond f ss1 z2
  have HFF := Lib.hid hf
  have HX := Lib.hid hx
  clear hf hx
  have HSP := specEv q0 (some ⟨w2.heap.size, 0, none⟩) n1 n1 ss1 z2 w3 (Lq0_3.out) (by rw [HCq0.out]; exact HLE0.out) HN1.out hn6_1 (Jq1_3.out) f HFF.out x y (by rw [HCq0.out]; exact HX.out)
  have HSPH := Lib.hid HSP
  clear HSP
  go_wp2_with (go_at_call 18; refine HSPH.out.mono ?_; rintro e w4 ⟨rfl, hb⟩; refine Hid.out ?_)
  refine Lib.hid ?_
  have Bz4 := Lib.hid (Bz3.out.trans (hb.mono Bz3.out.size))
  have X0_4 := Lib.hid (X0_3.out.on hb)
  clear hb HSPH
  obtain ⟨_, x00, x01, x02, x03, _⟩ := X0_4.out
  have HT := Lib.hid (toC k0 w4 (HI0.out.on Bz4.out) HLE0.out)
  go_wp2_with (go_at_call 14; refine HT.out.mono ?_; rintro e w5 ⟨x0, rfl, hx0, hox0, hb⟩; refine Hid.out ?_)
  refine Lib.hid ?_
  clear HT
  clear x00 x01 x02 x03
  have Bz5 := Lib.hid (Bz4.out.trans (hb.mono Bz4.out.size))
  have X0_5 := Lib.hid (X0_4.out.on hb)
  have Lx0_5 := Lib.hid hox0.lies
  have HCx0 := Lib.hid hx0
  clear hb hox0 hx0
  obtain ⟨w6, hwx⟩ : ∃ wx, wx = w5.alloc (.cells #[.int .i64 x0.op, .string x0.nm, .int .i64 x0.day, .slice x0.A x0.ps.length x0.cap] 30) := ⟨_, rfl⟩
  have hb : Below w5.heap.size w5 w6 := by rw [hwx]; exact below1 _ _
  have Y0_6 : Hid (B4 w5.heap.size w6 (.int .i64 x0.op) (.string x0.nm) (.int .i64 x0.day) (.slice x0.A x0.ps.length x0.cap)) := Lib.hid (by rw [hwx]; exact B4.new _ _ _ _ _ _)
  have Bz6 := Lib.hid (Bz5.out.trans (hb.mono Bz5.out.size))
  have X0_6 := Lib.hid (X0_5.out.on hb)
  have Lx0_6 := Lib.hid (Lx0_5.out.on hb)
  have HWX0 := Lib.hid hwx
  clear hwx hb
  have HT := Lib.hid (Row.toS F1 n1 cf1 ss1 w6 HN1.out hn6_1 ((HF1.out.below Bz6.out).more Bz6.out.size))
  go_wp2_with (go_at_call 19; rw [← HWX0.out]; refine HT.out.mono ?_; rintro e w7 ⟨rfl, hown, hb⟩; refine Hid.out ?_)
  refine Lib.hid ?_
  have Bz7 := Lib.hid (Bz6.out.trans (hb.mono Bz6.out.size))
  have X0_7 := Lib.hid (X0_6.out.on hb)
  have Lx0_7 := Lib.hid (Lx0_6.out.on hb)
  have Y0_7 := Lib.hid (Y0_6.out.on hb)
  have Jx1_7 := Lib.hid (Row.Is.of_own hown HN1.out)
  clear hb hown HT
  have HIMP := implEv x0 (some ⟨w6.heap.size, 0, none⟩) n1 n1 ss1 z2 w7 (Lx0_7.out) (by rw [HCx0.out]; exact HLE0.out) HN1.out hn6_1 (Jx1_7.out) HS1.out (fun ad h _ => by injection h with h; subst h; rfl) f HFF.out x y (by rw [HCx0.out]; exact HX.out)
  have HIMH := Lib.hid HIMP
  clear HIMP
  obtain ⟨_, y00, y01, y02, y03, _⟩ := Y0_7.out
  go_wp2_with (go_at_call 20; refine HIMH.out.mono ?_; rintro e w8 ⟨rfl, hb⟩; refine Hid.out ?_)
  refine Lib.hid ?_
  clear y00 y01 y02 y03
  have Bz8 := Lib.hid (Bz7.out.trans (hb.mono Bz7.out.size))
  have X0_8 := Lib.hid (X0_7.out.on hb)
  have Lx0_8 := Lib.hid (Lx0_7.out.on hb)
  have Y0_8 := Lib.hid (Y0_7.out.on hb)
  have Jx1_8 := Lib.hid ((Jx1_7.out.below hb).more hb.size)
  clear hb HIMH
  generalize hkx0 : w5.heap.size = kx0 at *
  clear hkx0
  cases x <;> cases y
  all_goals
    have KX : Hid (∀ v, Below w8.heap.size w8 v → (v.cell? ⟨w.heap.size, 0, none⟩ = some (.int .i64 k0.op) ∧ v.cell? ⟨w.heap.size, 1, none⟩ = some (.string k0.nm) ∧ v.cell? ⟨w.heap.size, 2, none⟩ = some (.int .i64 k0.day) ∧ v.cell? ⟨w.heap.size, 3, none⟩ = some (.slice k0.A k0.ps.length k0.cap)) ∧ v.cell? ⟨kx0, 0, none⟩ = some (.int .i64 x0.op) ∧ v.cell? ⟨kx0, 1, none⟩ = some (.string x0.nm) ∧ v.cell? ⟨kx0, 2, none⟩ = some (.int .i64 x0.day) ∧ v.cell? ⟨kx0, 3, none⟩ = some (.slice x0.A x0.ps.length x0.cap)) := Lib.hid fun v hv => by
      have a := X0_8.out.on hv
      have b := Y0_8.out.on hv
      exact ⟨⟨a.c0, a.c1, a.c2, a.c3⟩, b.c0, b.c1, b.c2, b.c3⟩
    have HTX := Lib.hid fun v (hv : Below w8.heap.size w8 v) => toC k0 v (HI0.out.on (Bz8.out.trans (hv.mono Bz8.out.size))) HLE0.out
    have HEQ : Hid (∀ v wa (z : K) B, Below w8.heap.size w8 wa → Own wa B wa.heap.size z → z.cond = k0.cond → Below wa.heap.size wa v → Calls Try.prog 16 #[x0.val, z.val] v fun e w' => e = .returned (.bool true) ∧ Below v.heap.size v w') :=
      Lib.hid fun v wa z B hx hz hc hv => eqC x0 z v (by rw [HCx0.out, hc]) (by rw [HCx0.out]; exact HLE0.out) ((Lx0_8.out.on hx).on hv) (hz.lies.on hv)
    have hcells := KX.out w8 (Below.refl _ _)
    obtain ⟨⟨e0, e1, e2, e3⟩, g0, g1, g2, g3⟩ := hcells
    go_wp2_with fail
    go_region_held3 (fun v => (v.cell? ⟨w.heap.size, 0, none⟩ = some (.int .i64 k0.op) ∧ v.cell? ⟨w.heap.size, 1, none⟩ = some (.string k0.nm) ∧ v.cell? ⟨w.heap.size, 2, none⟩ = some (.int .i64 k0.day) ∧ v.cell? ⟨w.heap.size, 3, none⟩ = some (.slice k0.A k0.ps.length k0.cap)) ∧ v.cell? ⟨kx0, 0, none⟩ = some (.int .i64 x0.op) ∧ v.cell? ⟨kx0, 1, none⟩ = some (.string x0.nm) ∧ v.cell? ⟨kx0, 2, none⟩ = some (.int .i64 x0.day) ∧ v.cell? ⟨kx0, 3, none⟩ = some (.slice x0.A x0.ps.length x0.cap)) (first | (refine KX.out _ ?_; (repeat (first | exact Below.refl _ _ | exact b2 | exact b1 | apply Below.drew)); done))
      (first
        | (go_at_call 14; (with_reducible refine (HTX.out _ (by (repeat (first | exact Below.refl _ _ | exact b2 | exact b1 | apply Below.drew)))).mono ?_); rintro e wa ⟨z, rfl, hzc, hzo, hb⟩; have b1 : Below w8.heap.size w8 wa := (Below.trans (by (repeat (first | exact Below.refl _ _ | exact b2 | exact b1 | apply Below.drew))) (hb.mono (by first | omega | (simp; done) | (simp; omega) | exact b1.size | (have := b1.size; simp; omega)))); have NA := Lib.hid hzo; have NC := Lib.hid hzc; clear hb hzo hzc)
        | (go_at_call 16; (with_reducible refine (HEQ.out _ _ z _ b1 NA.out NC.out (by (repeat (first | exact Below.refl _ _ | apply Below.drew)))).mono ?_); rintro e wb ⟨rfl, hb⟩; have b2 : Below w8.heap.size w8 wb := (Below.trans (by (repeat (first | exact Below.refl _ _ | exact b2 | exact b1 | apply Below.drew))) (hb.mono (by first | omega | (simp; done) | (simp; omega) | exact b1.size | (have := b1.size; simp; omega)))); clear hb))
    all_goals
      clear e0 e1 e2 e3 g0 g1 g2 g3 KX HTX HEQ
      have Bz9 := Lib.hid (Bz8.out.trans (b2.mono Bz8.out.size))
      have X0_9 := Lib.hid (X0_8.out.on b2)
      have Lx0_9 := Lib.hid (Lx0_8.out.on b2)
      have Y0_9 := Lib.hid (Y0_8.out.on b2)
      have Jx1_9 := Lib.hid ((Jx1_8.out.below b2).more b2.size)
      clear b1 b2 NA NC
      skip
      have HT := Lib.hid (Row.toS F1 n1 cf1 ss1 wb HN1.out hn6_1 ((HF1.out.below Bz9.out).more Bz9.out.size))
      go_wp2_with (go_at_call 19; refine HT.out.mono ?_; rintro e wt ⟨rfl, hown, hbt⟩; refine Hid.out ?_)
      refine Lib.hid ?_
      have J5 := Lib.hid (Row.Is.of_own hown HN1.out)
      have J6 := Lib.hid ((Jx1_9.out.below hbt).more hbt.size)
      clear hown
      go_wp2_with (go_at_call 21; refine (Row.eqS _ _ n1 n1 n1 wt.heap.size ss1 wt HN1.out (by omega) J6.out J5.out).mono ?_; rintro e wu ⟨rfl, mq, rfl⟩)
      go_ret
      exact ⟨rfl, below_drewN (Bz9.out.trans (hbt.mono Bz9.out.size)) mq⟩

end Go.Proofs.Ytbpoalhiaedcgaa.EvW
