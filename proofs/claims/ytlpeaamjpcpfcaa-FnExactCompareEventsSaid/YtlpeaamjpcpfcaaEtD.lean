/-
  The law FnExactCompareEvents walked.
-/
import Derived.Test.YtlpeaamjpcpfcaaEtC
namespace Go.Proofs.Ytlpeaamjpcpfcaa.Et
open Go.RowKit Go.Proofs.Ytlpeaamjpcpfcaa.Cond Go.Proofs.Ytlpeaamjpcpfcaa.Gx
set_option linter.unusedVariables false
set_option linter.unusedSimpArgs false

set_option maxHeartbeats 4000000 in
theorem specCmp (a b : E) (w : World) :
    Calls Try.prog 30 #[a.val, b.val] w fun e w' => e = .returned (.int .i64 (cE a b)) ∧ Below w.heap.size w w' := by
  obtain ⟨X, hX⟩ : ∃ X, X = (w.alloc (.cells #[.int .i64 a.day, .int .i64 a.party, .string a.act, .int .i64 a.amt] 47)).alloc (.cells #[.int .i64 b.day, .int .i64 b.party, .string b.act, .int .i64 b.amt] 47) := ⟨_, rfl⟩
  have B0 := Lib.hid (show Below w.heap.size w X by rw [hX]; exact (below1 _ _).alloc (by simp) _)
  have P0 : Hid (Bk w.heap.size X a.cells) := Lib.hid (by rw [hX]; exact (Bk.new w #[.int .i64 a.day, .int .i64 a.party, .string a.act, .int .i64 a.amt] 47).alloc _)
  have Q0 : Hid (Bk (w.heap.size + 1) X b.cells) := Lib.hid (by
    rw [hX]
    have := Bk.new (w.alloc (.cells #[.int .i64 a.day, .int .i64 a.party, .string a.act, .int .i64 a.amt] 47)) #[.int .i64 b.day, .int .i64 b.party, .string b.act, .int .i64 b.amt] 47
    rw [World.size_alloc] at this
    exact this)
  have KX : Hid (∀ v, Below X.heap.size X v → (v.cell? ⟨w.heap.size, 0, none⟩ = some (.int .i64 a.day) ∧ v.cell? ⟨w.heap.size, 1, none⟩ = some (.int .i64 a.party) ∧ v.cell? ⟨w.heap.size, 2, none⟩ = some (.string a.act) ∧ v.cell? ⟨w.heap.size, 3, none⟩ = some (.int .i64 a.amt)) ∧ v.cell? ⟨w.heap.size + 1, 0, none⟩ = some (.int .i64 b.day) ∧ v.cell? ⟨w.heap.size + 1, 1, none⟩ = some (.int .i64 b.party) ∧ v.cell? ⟨w.heap.size + 1, 2, none⟩ = some (.string b.act) ∧ v.cell? ⟨w.heap.size + 1, 3, none⟩ = some (.int .i64 b.amt)) := Lib.hid fun v hv => ⟨b4 (P0.out.on hv), b4 (Q0.out.on hv)⟩
  have HC : Hid (∀ v, Calls Try.prog 58 #[a.val, b.val] v fun e w' => e = .returned (.int .i64 (cE a b)) ∧ Below v.heap.size v w') := Lib.hid fun v => specCE a b v
  obtain ⟨⟨x0, x1, x2, x3⟩, y0, y1, y2, y3⟩ := KX.out X (Below.refl _ _)
  clear P0 Q0
  have HX := Lib.hid hX
  go_enter Try.func30, Try.ntmps30
  go_wp2_with (go_at_call 58; (try rw [← HX.out]); refine (HC.out _).mono ?_; rintro e w1 ⟨rfl, hb⟩)
  go_ret
  exact ⟨rfl, B0.out.trans (hb.mono B0.out.size)⟩

set_option maxRecDepth 100000 in
set_option maxHeartbeats 8000000 in
theorem cmpWalk (a b : E) (w : World) (ha : a.act.size ≤ maxLen) (hb : b.act.size ≤ maxLen) :
    Calls Try.prog 5 #[a.val, b.val] w fun e w' => e = .returned (.bool true) ∧ Below w.heap.size w w' := by
  obtain ⟨X, hX⟩ : ∃ X, X = (w.alloc (.cells #[.int .i64 a.day, .int .i64 a.party, .string a.act, .int .i64 a.amt] 44)).alloc (.cells #[.int .i64 b.day, .int .i64 b.party, .string b.act, .int .i64 b.amt] 44) := ⟨_, rfl⟩
  have B0 := Lib.hid (show Below w.heap.size w X by rw [hX]; exact (below1 _ _).alloc (by simp) _)
  have P0 : Hid (Bk w.heap.size X a.cells) := Lib.hid (by rw [hX]; exact (Bk.new w #[.int .i64 a.day, .int .i64 a.party, .string a.act, .int .i64 a.amt] 44).alloc _)
  have Q0 : Hid (Bk (w.heap.size + 1) X b.cells) := Lib.hid (by
    rw [hX]
    have := Bk.new (w.alloc (.cells #[.int .i64 a.day, .int .i64 a.party, .string a.act, .int .i64 a.amt] 44)) #[.int .i64 b.day, .int .i64 b.party, .string b.act, .int .i64 b.amt] 44
    rw [World.size_alloc] at this
    exact this)
  have KX : Hid (∀ v, Below X.heap.size X v → (v.cell? ⟨w.heap.size, 0, none⟩ = some (.int .i64 a.day) ∧ v.cell? ⟨w.heap.size, 1, none⟩ = some (.int .i64 a.party) ∧ v.cell? ⟨w.heap.size, 2, none⟩ = some (.string a.act) ∧ v.cell? ⟨w.heap.size, 3, none⟩ = some (.int .i64 a.amt)) ∧ v.cell? ⟨w.heap.size + 1, 0, none⟩ = some (.int .i64 b.day) ∧ v.cell? ⟨w.heap.size + 1, 1, none⟩ = some (.int .i64 b.party) ∧ v.cell? ⟨w.heap.size + 1, 2, none⟩ = some (.string b.act) ∧ v.cell? ⟨w.heap.size + 1, 3, none⟩ = some (.int .i64 b.amt)) := Lib.hid fun v hv => ⟨b4 (P0.out.on hv), b4 (Q0.out.on hv)⟩
  have HX := Lib.hid hX
  have HA := Lib.hid ha
  have HB := Lib.hid hb
  have HTO : Hid (∀ (m : E) v, Calls Try.prog 31 #[m.val] v fun e w' => e = .returned m.val ∧ Below v.heap.size v w') := Lib.hid toE
  have HS : Hid (∀ v, Calls Try.prog 30 #[a.val, b.val] v fun e w' => e = .returned (.int .i64 (cE a b)) ∧ Below v.heap.size v w') := Lib.hid fun v => specCmp a b v
  have HI : Hid (∀ v, Calls Try.prog 32 #[a.val, b.val] v fun e w' => e = .returned (.int .i64 (cE a b)) ∧ Below v.heap.size v w') := Lib.hid fun v => implCE a b v
  obtain ⟨r, hr⟩ : ∃ r, r = cE a b := ⟨_, rfl⟩
  rw [← hr] at HS HI
  obtain ⟨⟨x0, x1, x2, x3⟩, y0, y1, y2, y3⟩ := KX.out X (Below.refl _ _)
  clear P0 Q0 ha hb hr
  go_enter Try.func5, Try.ntmps5
  by_cases hz : 1048576 < a.act.size
  · have HZ := Lib.hid (show Calls Try.prog 29 #[a.val, .int .i64 (1048576 : Nat)] X fun e w' => e = .returned (.int .i64 (-1)) ∧ Below X.heap.size X w' by have h := szE a 1048576 X (Nat.le_refl _) HA.out; rw [szRes_no hz] at h; exact h)
    clear hz
    go_wp2_with (go_at_call 29; (try rw [← HX.out]); refine HZ.out.mono ?_; rintro e w1 ⟨rfl, hb⟩)
    go_ret
    exact ⟨rfl, B0.out.trans (hb.mono B0.out.size)⟩
  obtain ⟨t, ht⟩ : ∃ t, t = 1048576 - a.act.size := ⟨_, rfl⟩
  have HZ := Lib.hid (show Calls Try.prog 29 #[a.val, .int .i64 (1048576 : Nat)] X fun e w' => e = .returned (.int .i64 (t : Int)) ∧ Below X.heap.size X w' by have h := szE a 1048576 X (Nat.le_refl _) HA.out; rw [szRes_yes hz, ← ht] at h; exact h)
  have htl : t ≤ 1048576 := by omega
  have ht0 : (0 : Int) ≤ (t : Int) := by omega
  clear hz ht
  go_wp2_with (go_at_call 29; (try rw [← HX.out]); refine HZ.out.mono ?_; rintro e w1 ⟨rfl, hb⟩; refine Hid.out ?_)
  refine Lib.hid ?_
  have B1 := Lib.hid hb
  obtain ⟨⟨p0, p1, p2, p3⟩, q0, q1, q2, q3⟩ := KX.out w1 hb
  clear hb HZ hX x0 x1 x2 x3 y0 y1 y2 y3
  by_cases hz : t < b.act.size
  · have HZ := Lib.hid (show Calls Try.prog 29 #[b.val, .int .i64 (t : Int)] w1 fun e w' => e = .returned (.int .i64 (-1)) ∧ Below w1.heap.size w1 w' by have h := szE b t w1 htl HB.out; rw [szRes_no hz] at h; exact h)
    clear hz
    go_wp2_with (go_at_call 29; refine HZ.out.mono ?_; rintro e w2 ⟨rfl, hb⟩)
    go_ret
    exact ⟨rfl, (B0.out.trans (B1.out.mono B0.out.size)).trans (hb.mono (Nat.le_trans B0.out.size B1.out.size))⟩
  obtain ⟨u, hu⟩ : ∃ u, u = t - b.act.size := ⟨_, rfl⟩
  have HZ := Lib.hid (show Calls Try.prog 29 #[b.val, .int .i64 (t : Int)] w1 fun e w' => e = .returned (.int .i64 (u : Int)) ∧ Below w1.heap.size w1 w' by have h := szE b t w1 htl HB.out; rw [szRes_yes hz, ← hu] at h; exact h)
  have hu0 : (0 : Int) ≤ (u : Int) := by omega
  clear hz hu
  go_wp2_with (go_at_call 29; refine HZ.out.mono ?_; rintro e w2 ⟨rfl, hb⟩; refine Hid.out ?_)
  refine Lib.hid ?_
  have B2 := Lib.hid (B1.out.trans (hb.mono B1.out.size))
  clear hb HZ p0 p1 p2 p3 q0 q1 q2 q3
  obtain ⟨⟨p0, p1, p2, p3⟩, q0, q1, q2, q3⟩ := KX.out w2 B2.out
  have K2 : Hid (∀ v, Below w2.heap.size w2 v → (v.cell? ⟨w.heap.size, 0, none⟩ = some (.int .i64 a.day) ∧ v.cell? ⟨w.heap.size, 1, none⟩ = some (.int .i64 a.party) ∧ v.cell? ⟨w.heap.size, 2, none⟩ = some (.string a.act) ∧ v.cell? ⟨w.heap.size, 3, none⟩ = some (.int .i64 a.amt)) ∧ v.cell? ⟨w.heap.size + 1, 0, none⟩ = some (.int .i64 b.day) ∧ v.cell? ⟨w.heap.size + 1, 1, none⟩ = some (.int .i64 b.party) ∧ v.cell? ⟨w.heap.size + 1, 2, none⟩ = some (.string b.act) ∧ v.cell? ⟨w.heap.size + 1, 3, none⟩ = some (.int .i64 b.amt)) := Lib.hid fun v hv => KX.out v (B2.out.trans (hv.mono B2.out.size))
  go_wp2_with fail
  go_region_held3 (fun v => (v.cell? ⟨w.heap.size, 0, none⟩ = some (.int .i64 a.day) ∧ v.cell? ⟨w.heap.size, 1, none⟩ = some (.int .i64 a.party) ∧ v.cell? ⟨w.heap.size, 2, none⟩ = some (.string a.act) ∧ v.cell? ⟨w.heap.size, 3, none⟩ = some (.int .i64 a.amt)) ∧ v.cell? ⟨w.heap.size + 1, 0, none⟩ = some (.int .i64 b.day) ∧ v.cell? ⟨w.heap.size + 1, 1, none⟩ = some (.int .i64 b.party) ∧ v.cell? ⟨w.heap.size + 1, 2, none⟩ = some (.string b.act) ∧ v.cell? ⟨w.heap.size + 1, 3, none⟩ = some (.int .i64 b.amt)) (first | (refine K2.out _ ?_; (repeat (first | exact Below.refl _ _ | exact b3 | exact b2 | exact b1 | apply Below.drew)); done))
    (first
      | (go_at_call 31; (with_reducible refine (HTO.out a _).mono ?_); rintro e wa ⟨rfl, hb⟩; have b1 : Below w2.heap.size w2 wa := Below.trans (by (repeat (first | exact Below.refl _ _ | apply Below.drew))) (hb.mono (by first | omega | (simp; done) | (simp; omega))); clear hb)
      | (go_at_call 31; (with_reducible refine (HTO.out b _).mono ?_); rintro e wb ⟨rfl, hb⟩; have b2 : Below w2.heap.size w2 wb := Below.trans (by (repeat (first | exact Below.refl _ _ | exact b1 | apply Below.drew))) (hb.mono (by first | omega | (simp; done) | (simp; omega) | exact b1.size | (have := b1.size; simp; omega))); clear hb)
      | (go_at_call 30; (with_reducible refine (HS.out _).mono ?_); rintro e wc ⟨rfl, hb⟩; have b3 : Below w2.heap.size w2 wc := Below.trans (by (repeat (first | exact Below.refl _ _ | exact b2 | exact b1 | apply Below.drew))) (hb.mono (by first | omega | (simp; done) | (simp; omega) | exact b2.size | (have := b2.size; simp; omega))); clear hb))
  all_goals clear p0 p1 p2 p3 q0 q1 q2 q3 b1 b2
  all_goals obtain ⟨⟨p0, p1, p2, p3⟩, q0, q1, q2, q3⟩ := K2.out _ b3
  all_goals have B3 := Lib.hid b3
  all_goals have K3 : Hid (∀ v, Below wc.heap.size wc v → (v.cell? ⟨w.heap.size, 0, none⟩ = some (.int .i64 a.day) ∧ v.cell? ⟨w.heap.size, 1, none⟩ = some (.int .i64 a.party) ∧ v.cell? ⟨w.heap.size, 2, none⟩ = some (.string a.act) ∧ v.cell? ⟨w.heap.size, 3, none⟩ = some (.int .i64 a.amt)) ∧ v.cell? ⟨w.heap.size + 1, 0, none⟩ = some (.int .i64 b.day) ∧ v.cell? ⟨w.heap.size + 1, 1, none⟩ = some (.int .i64 b.party) ∧ v.cell? ⟨w.heap.size + 1, 2, none⟩ = some (.string b.act) ∧ v.cell? ⟨w.heap.size + 1, 3, none⟩ = some (.int .i64 b.amt)) := Lib.hid fun v hv => K2.out v (B3.out.trans (hv.mono B3.out.size))
  all_goals clear b3
  all_goals go_wp2_with fail
  all_goals go_region_held3 (fun v => (v.cell? ⟨w.heap.size, 0, none⟩ = some (.int .i64 a.day) ∧ v.cell? ⟨w.heap.size, 1, none⟩ = some (.int .i64 a.party) ∧ v.cell? ⟨w.heap.size, 2, none⟩ = some (.string a.act) ∧ v.cell? ⟨w.heap.size, 3, none⟩ = some (.int .i64 a.amt)) ∧ v.cell? ⟨w.heap.size + 1, 0, none⟩ = some (.int .i64 b.day) ∧ v.cell? ⟨w.heap.size + 1, 1, none⟩ = some (.int .i64 b.party) ∧ v.cell? ⟨w.heap.size + 1, 2, none⟩ = some (.string b.act) ∧ v.cell? ⟨w.heap.size + 1, 3, none⟩ = some (.int .i64 b.amt)) (first | (refine K3.out _ ?_; (repeat (first | exact Below.refl _ _ | exact b3 | exact b2 | exact b1 | apply Below.drew)); done))
    (first
      | (go_at_call 31; (with_reducible refine (HTO.out a _).mono ?_); rintro e wa ⟨rfl, hb⟩; have b1 : Below wc.heap.size wc wa := Below.trans (by (repeat (first | exact Below.refl _ _ | apply Below.drew))) (hb.mono (by first | omega | (simp; done) | (simp; omega))); clear hb)
      | (go_at_call 31; (with_reducible refine (HTO.out b _).mono ?_); rintro e wb ⟨rfl, hb⟩; have b2 : Below wc.heap.size wc wb := Below.trans (by (repeat (first | exact Below.refl _ _ | exact b1 | apply Below.drew))) (hb.mono (by first | omega | (simp; done) | (simp; omega) | exact b1.size | (have := b1.size; simp; omega))); clear hb)
      | (go_at_call 32; (with_reducible refine (HI.out _).mono ?_); rintro e wd ⟨rfl, hb⟩; have b3 : Below wc.heap.size wc wd := Below.trans (by (repeat (first | exact Below.refl _ _ | exact b2 | exact b1 | apply Below.drew))) (hb.mono (by first | omega | (simp; done) | (simp; omega) | exact b2.size | (have := b2.size; simp; omega))); clear hb))
  all_goals go_wp2_with fail
  all_goals go_ret
  all_goals exact ⟨rfl, (B0.out.trans (B2.out.mono B0.out.size)).trans ((B3.out.trans (b3.mono B3.out.size)).mono (Nat.le_trans B0.out.size B2.out.size))⟩

end Go.Proofs.Ytlpeaamjpcpfcaa.Et
