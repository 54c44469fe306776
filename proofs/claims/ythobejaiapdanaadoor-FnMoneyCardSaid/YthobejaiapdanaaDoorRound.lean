/-
  Rounding: what the model's l2Round and the program's roundQuotient return.
-/
import Derived.Test.YthobejaiapdanaaDoorIsFrac
namespace Go.Proofs.YthobejaiapdanaaDoor.Round
open Go.RowKit Go.Proofs.YthobejaiapdanaaDoor.Gcd Go.Proofs.YthobejaiapdanaaDoor.Tz Go.Proofs.YthobejaiapdanaaDoor.Common Go.Proofs.YthobejaiapdanaaDoor.Red Go.Proofs.YthobejaiapdanaaDoor.Amount Go.Proofs.YthobejaiapdanaaDoor.Frac Go.Proofs.YthobejaiapdanaaDoor.Make Go.Proofs.YthobejaiapdanaaDoor.IsFrac

/-- Whether the mode takes the integer away from zero: q, r: quotient and rest of the absolute value by d. -/
def away (q r d : Nat) (mode : Int) : Bool :=
  if mode = 2 then decide (0 < r) else if mode = 3 then decide (d ≤ 2 * r) else if mode = 4 then (decide (d < 2 * r) || (decide (2 * r = d) && decide (q % 2 = 1))) else false

/-- One more, where the mode says so. -/
def more (b : Bool) : Nat := if b then 1 else 0

/-- The absolute value of the rounded quotient of N by d > 0. -/
def rndN (N d : Nat) (mode : Int) : Nat := N / d + more (away (N / d) (N % d) d mode)

theorem away_cases (q r d : Nat) (mode : Int) (h : 1 ≤ mode ∧ mode ≤ 4) :
    (mode = 1 ∧ away q r d mode = false) ∨
    (mode = 2 ∧ 0 < r ∧ away q r d mode = true) ∨ (mode = 2 ∧ r ≤ 0 ∧ away q r d mode = false) ∨
    (mode = 3 ∧ d ≤ 2 * r ∧ away q r d mode = true) ∨ (mode = 3 ∧ 2 * r < d ∧ away q r d mode = false) ∨
    (mode = 4 ∧ d < 2 * r ∧ away q r d mode = true) ∨ (mode = 4 ∧ (2 * r ≤ d ∧ d ≤ 2 * r) ∧ q % 2 = 1 ∧ away q r d mode = true) ∨
    (mode = 4 ∧ (2 * r ≤ d ∧ d ≤ 2 * r) ∧ q % 2 = 0 ∧ away q r d mode = false) ∨ (mode = 4 ∧ 2 * r < d ∧ away q r d mode = false) := by
  have hm : mode = 1 ∨ mode = 2 ∨ mode = 3 ∨ mode = 4 := by omega
  rcases hm with rfl | rfl | rfl | rfl
  · left; simp [away]
  · right
    by_cases h0 : 0 < r
    · left; exact ⟨rfl, h0, by simp [away, h0]⟩
    · right; left; exact ⟨rfl, by omega, by simp [away, h0]⟩
  · right; right; right
    by_cases h0 : d ≤ 2 * r
    · left; exact ⟨rfl, h0, by simp [away, h0]⟩
    · right; left; exact ⟨rfl, by omega, by simp [away]; omega⟩
  · right; right; right; right; right
    by_cases h0 : d < 2 * r
    · left; exact ⟨rfl, h0, by simp [away, h0]⟩
    · right
      by_cases h1 : 2 * r = d
      · by_cases h2 : q % 2 = 1
        · left; exact ⟨rfl, ⟨by omega, by omega⟩, h2, by simp [away, h1, h2]⟩
        · right; left; exact ⟨rfl, ⟨by omega, by omega⟩, by omega, by simp [away, h2]; omega⟩
      · right; right; exact ⟨rfl, by omega, by simp [away, h1]; omega⟩

set_option maxHeartbeats 1000000 in
theorem roundsAway (Q : Int) (q r d : Nat) (mode : Int) (hQ : Q.natAbs = q) (hr : r ≤ 1000000000) (hm : 1 ≤ mode ∧ mode ≤ 4) (w : World) :
    Calls Tryd.prog 65 #[.int .i64 Q, .int .u64 r, .int .u64 d, .int .i64 mode] w fun e w' => e = .returned (.bool (away q r d mode)) ∧ w = w' := by
  rcases away_cases q r d mode hm with ⟨rfl, ha⟩ | ⟨rfl, h1, ha⟩ | ⟨rfl, h1, ha⟩ | ⟨rfl, h1, ha⟩ | ⟨rfl, h1, ha⟩ | ⟨rfl, h1, ha⟩ | ⟨rfl, ⟨h1, h2⟩, h3, ha⟩ | ⟨rfl, ⟨h1, h2⟩, h3, ha⟩ | ⟨rfl, h1, ha⟩
  all_goals (rw [ha]; clear ha hm)
  · clear hQ
    go_enter Tryd.func65, Tryd.ntmps65
    go_wp2
    go_ret
    exact ⟨by first | rfl | (simp; done) | (simp; omega), rfl⟩
  · clear hQ
    go_enter Tryd.func65, Tryd.ntmps65
    go_wp2
    go_ret
    exact ⟨by first | rfl | (simp; done) | (simp; omega), rfl⟩
  · clear hQ
    go_enter Tryd.func65, Tryd.ntmps65
    go_wp2
    go_ret
    exact ⟨by first | rfl | (simp; done) | (simp; omega), rfl⟩
  · clear hQ
    go_enter Tryd.func65, Tryd.ntmps65
    go_wp2
    go_ret
    exact ⟨by first | rfl | (simp; done) | (simp; omega), rfl⟩
  · clear hQ
    go_enter Tryd.func65, Tryd.ntmps65
    go_wp2
    go_ret
    exact ⟨by first | rfl | (simp; done) | (simp; omega), rfl⟩
  · clear hQ
    go_enter Tryd.func65, Tryd.ntmps65
    go_wp2
    go_ret
    exact ⟨by first | rfl | (simp; done) | (simp; omega), rfl⟩
  · have hq2 : (Q.tmod 2 != 0) = true := by
      have h4 : (Q.tmod 2).natAbs = q % 2 := by rw [Int.natAbs_tmod, hQ]; rfl
      simp; omega
    clear hQ h3
    go_enter Tryd.func65, Tryd.ntmps65
    go_wp2
    go_ret
    exact ⟨by first | rfl | (simp; done) | (simp; omega), rfl⟩
  · have hq2 : (Q.tmod 2 != 0) = false := by
      have h4 : (Q.tmod 2).natAbs = q % 2 := by rw [Int.natAbs_tmod, hQ]; rfl
      simp; omega
    clear hQ h3
    go_enter Tryd.func65, Tryd.ntmps65
    go_wp2
    go_ret
    exact ⟨by first | rfl | (simp; done) | (simp; omega), rfl⟩
  · clear hQ
    go_enter Tryd.func65, Tryd.ntmps65
    go_wp2
    go_ret
    exact ⟨by first | rfl | (simp; done) | (simp; omega), rfl⟩

set_option maxHeartbeats 2000000 in
theorem l2RoundPos (N d : Nat) (mode : Int) (hN : N ≤ 1000000000000000000) (hd0 : 1 ≤ d) (hd : d ≤ 1000000000) (hm : 1 ≤ mode ∧ mode ≤ 4) (w : World) :
    Calls Tryd.prog 49 #[.int .i64 (N), .int .i64 d, .int .i64 mode] w fun e w' => e = .returned (.int .i64 (((rndN N d mode : Nat) : Int))) ∧ ∃ m, w' = w.drewN m := by
  obtain ⟨q, hq⟩ : ∃ q, N / d = q := ⟨_, rfl⟩
  obtain ⟨r, hr⟩ : ∃ r, N % d = r := ⟨_, rfl⟩
  have hrd : r < d := by rw [← hr]; exact Nat.mod_lt _ hd0
  have hqN : q ≤ N := by rw [← hq]; exact Nat.div_le_self _ _
  have e1 : (N : Int).tdiv (d : Int) = (q : Int) := by rw [Int.tdiv_eq_ediv_of_nonneg (by omega), ← hq]; rfl
  have e2 : (N : Int).tmod (d : Int) = (r : Int) := by rw [Int.tmod_eq_emod_of_nonneg (by omega), ← hr]; rfl
  have f1 : IntKind.i64.wrap (q : Int) = (q : Int) := IntWalk.i64_in _ (by omega)
  have f2 : IntKind.i64.wrap (r : Int) = (r : Int) := IntWalk.i64_in _ (by omega)
  have hz : ¬ ((d : Int) = 0) := by omega
  have HR : Hid (rndN N d mode = q + more (away q r d mode)) := Lib.hid (by unfold rndN; rw [hq, hr])
  clear hq hr
  rcases away_cases q r d mode hm with ⟨rfl, ha⟩ | ⟨rfl, h1, ha⟩ | ⟨rfl, h1, ha⟩ | ⟨rfl, h1, ha⟩ | ⟨rfl, h1, ha⟩ | ⟨rfl, h1, ha⟩ | ⟨rfl, ⟨h1, h2⟩, h3, ha⟩ | ⟨rfl, ⟨h1, h2⟩, h3, ha⟩ | ⟨rfl, h1, ha⟩
  all_goals (rw [ha] at HR; rw [HR.out]; unfold more; clear ha hm HR)
  · go_enter Tryd.func49, Tryd.ntmps49
    go_wp2_with fail
    go_quiet (fail)
    clear e1 e2 f1 f2
    go_wp2_with fail
    go_ret
    exact ⟨ret_int (by simp), _, rfl⟩
  · go_enter Tryd.func49, Tryd.ntmps49
    go_wp2_with fail
    go_quiet (fail)
    clear e1 e2 f1 f2
    go_wp2_with fail
    go_ret
    exact ⟨ret_int (by simp), _, rfl⟩
  · go_enter Tryd.func49, Tryd.ntmps49
    go_wp2_with fail
    go_quiet (fail)
    clear e1 e2 f1 f2
    go_wp2_with fail
    go_ret
    exact ⟨ret_int (by simp), _, rfl⟩
  · go_enter Tryd.func49, Tryd.ntmps49
    go_wp2_with fail
    go_quiet (fail)
    clear e1 e2 f1 f2
    go_wp2_with fail
    go_ret
    exact ⟨ret_int (by simp), _, rfl⟩
  · go_enter Tryd.func49, Tryd.ntmps49
    go_wp2_with fail
    go_quiet (fail)
    clear e1 e2 f1 f2
    go_wp2_with fail
    go_ret
    exact ⟨ret_int (by simp), _, rfl⟩
  · go_enter Tryd.func49, Tryd.ntmps49
    go_wp2_with fail
    go_quiet (fail)
    clear e1 e2 f1 f2
    go_wp2_with fail
    go_ret
    exact ⟨ret_int (by simp), _, rfl⟩
  · have hq2 : (q : Int).tmod 2 = 1 := by rw [Int.tmod_eq_emod_of_nonneg (by omega)]; omega
    have hq3 : (q : Int) % 2 = 1 := by omega
    clear h3
    go_enter Tryd.func49, Tryd.ntmps49
    go_wp2_with fail
    go_quiet (fail)
    clear e1 e2 f1 f2
    go_wp2_with fail
    go_ret
    exact ⟨ret_int (by simp), _, rfl⟩
  · have hq2 : (q : Int).tmod 2 = 0 := by rw [Int.tmod_eq_emod_of_nonneg (by omega)]; omega
    have hq3 : (q : Int) % 2 = 0 := by omega
    clear h3
    go_enter Tryd.func49, Tryd.ntmps49
    go_wp2_with fail
    go_quiet (fail)
    clear e1 e2 f1 f2
    go_wp2_with fail
    go_ret
    exact ⟨ret_int (by simp), _, rfl⟩
  · go_enter Tryd.func49, Tryd.ntmps49
    go_wp2_with fail
    go_quiet (fail)
    clear e1 e2 f1 f2
    go_wp2_with fail
    go_ret
    exact ⟨ret_int (by simp), _, rfl⟩

set_option maxHeartbeats 2000000 in
theorem l2RoundNeg (N d : Nat) (mode : Int) (hN : N ≤ 1000000000000000000) (hd0 : 1 ≤ d) (hd : d ≤ 1000000000) (hm : 1 ≤ mode ∧ mode ≤ 4) (hneg : 0 < N) (w : World) :
    Calls Tryd.prog 49 #[.int .i64 (-(N : Int)), .int .i64 d, .int .i64 mode] w fun e w' => e = .returned (.int .i64 (-((rndN N d mode : Nat) : Int))) ∧ ∃ m, w' = w.drewN m := by
  obtain ⟨q, hq⟩ : ∃ q, N / d = q := ⟨_, rfl⟩
  obtain ⟨r, hr⟩ : ∃ r, N % d = r := ⟨_, rfl⟩
  have hrd : r < d := by rw [← hr]; exact Nat.mod_lt _ hd0
  have hqN : q ≤ N := by rw [← hq]; exact Nat.div_le_self _ _
  have e1 : (N : Int).tdiv (d : Int) = (q : Int) := by rw [Int.tdiv_eq_ediv_of_nonneg (by omega), ← hq]; rfl
  have e2 : (N : Int).tmod (d : Int) = (r : Int) := by rw [Int.tmod_eq_emod_of_nonneg (by omega), ← hr]; rfl
  have f1 : IntKind.i64.wrap (q : Int) = (q : Int) := IntWalk.i64_in _ (by omega)
  have f2 : IntKind.i64.wrap (r : Int) = (r : Int) := IntWalk.i64_in _ (by omega)
  have hz : ¬ ((d : Int) = 0) := by omega
  have HR : Hid (rndN N d mode = q + more (away q r d mode)) := Lib.hid (by unfold rndN; rw [hq, hr])
  clear hq hr
  rcases away_cases q r d mode hm with ⟨rfl, ha⟩ | ⟨rfl, h1, ha⟩ | ⟨rfl, h1, ha⟩ | ⟨rfl, h1, ha⟩ | ⟨rfl, h1, ha⟩ | ⟨rfl, h1, ha⟩ | ⟨rfl, ⟨h1, h2⟩, h3, ha⟩ | ⟨rfl, ⟨h1, h2⟩, h3, ha⟩ | ⟨rfl, h1, ha⟩
  all_goals (rw [ha] at HR; rw [HR.out]; unfold more; clear ha hm HR)
  · go_enter Tryd.func49, Tryd.ntmps49
    go_wp2_with fail
    go_quiet (fail)
    clear e1 e2 f1 f2
    go_wp2_with fail
    go_ret
    exact ⟨ret_int (by simp), _, rfl⟩
  · go_enter Tryd.func49, Tryd.ntmps49
    go_wp2_with fail
    go_quiet (fail)
    clear e1 e2 f1 f2
    go_wp2_with fail
    go_ret
    exact ⟨ret_int (by simp), _, rfl⟩
  · go_enter Tryd.func49, Tryd.ntmps49
    go_wp2_with fail
    go_quiet (fail)
    clear e1 e2 f1 f2
    go_wp2_with fail
    go_ret
    exact ⟨ret_int (by simp), _, rfl⟩
  · go_enter Tryd.func49, Tryd.ntmps49
    go_wp2_with fail
    go_quiet (fail)
    clear e1 e2 f1 f2
    go_wp2_with fail
    go_ret
    exact ⟨ret_int (by simp), _, rfl⟩
  · go_enter Tryd.func49, Tryd.ntmps49
    go_wp2_with fail
    go_quiet (fail)
    clear e1 e2 f1 f2
    go_wp2_with fail
    go_ret
    exact ⟨ret_int (by simp), _, rfl⟩
  · go_enter Tryd.func49, Tryd.ntmps49
    go_wp2_with fail
    go_quiet (fail)
    clear e1 e2 f1 f2
    go_wp2_with fail
    go_ret
    exact ⟨ret_int (by simp), _, rfl⟩
  · have hq2 : (q : Int).tmod 2 = 1 := by rw [Int.tmod_eq_emod_of_nonneg (by omega)]; omega
    have hq3 : (q : Int) % 2 = 1 := by omega
    clear h3
    go_enter Tryd.func49, Tryd.ntmps49
    go_wp2_with fail
    go_quiet (fail)
    clear e1 e2 f1 f2
    go_wp2_with fail
    go_ret
    exact ⟨ret_int (by simp), _, rfl⟩
  · have hq2 : (q : Int).tmod 2 = 0 := by rw [Int.tmod_eq_emod_of_nonneg (by omega)]; omega
    have hq3 : (q : Int) % 2 = 0 := by omega
    clear h3
    go_enter Tryd.func49, Tryd.ntmps49
    go_wp2_with fail
    go_quiet (fail)
    clear e1 e2 f1 f2
    go_wp2_with fail
    go_ret
    exact ⟨ret_int (by simp), _, rfl⟩
  · go_enter Tryd.func49, Tryd.ntmps49
    go_wp2_with fail
    go_quiet (fail)
    clear e1 e2 f1 f2
    go_wp2_with fail
    go_ret
    exact ⟨ret_int (by simp), _, rfl⟩

set_option maxHeartbeats 2000000 in
theorem quotPos (N d : Nat) (mode : Int) (hN : N ≤ 1000000000000000000) (hd0 : 1 ≤ d) (hd : d ≤ 1000000000) (hm : 1 ≤ mode ∧ mode ≤ 4) (w : World) :
    Calls Tryd.prog 45 #[.int .i64 (N), .int .i64 d, .int .i64 mode] w fun e w' => e = .returned (.tuple #[.int .i64 (((rndN N d mode : Nat) : Int)), .bool true]) ∧ w = w' := by
  obtain ⟨q, hq⟩ : ∃ q, N / d = q := ⟨_, rfl⟩
  obtain ⟨r, hr⟩ : ∃ r, N % d = r := ⟨_, rfl⟩
  have hrd : r < d := by rw [← hr]; exact Nat.mod_lt _ hd0
  have hqN : q ≤ N := by rw [← hq]; exact Nat.div_le_self _ _
  have e1 : ((N : Int)).tdiv (d : Int) = (q : Int) := by rw [Int.tdiv_eq_ediv_of_nonneg (by omega), ← hq]; rfl
  have e2 : ((N : Int)).tmod (d : Int) = (r : Int) := by rw [Int.tmod_eq_emod_of_nonneg (by omega), ← hr]; rfl
  have hz : ¬ ((d : Int) = 0) := by omega
  have HR : Hid (rndN N d mode = q + more (away q r d mode)) := Lib.hid (by unfold rndN; rw [hq, hr])
  have HM := Lib.hid hm
  obtain ⟨hm1, hm4⟩ := hm
  clear hq hr
  obtain ⟨b, hb⟩ : ∃ b, away q r d mode = b := ⟨_, rfl⟩
  rw [hb] at HR
  have HA : Hid (∀ Q : Int, Q.natAbs = q → ∀ w, Calls Tryd.prog 65 #[.int .i64 Q, .int .u64 r, .int .u64 d, .int .i64 mode] w fun e w' => e = .returned (.bool b) ∧ w = w') := Lib.hid (fun Q hQ w => by
    rw [← hb]; exact roundsAway Q q r d mode hQ (by omega) HM.out w)
  rw [HR.out]
  clear hb HR
  unfold more
  cases b
  · go_enter Tryd.func45, Tryd.ntmps45
    go_wp2_with (first
      | (go_at_call 66; refine (magnitude _ (by omega) (by omega) _).mono ?_; rintro e w' ⟨rfl, rfl⟩)
      | (go_at_call 65; refine (HA.out _ (by omega) _).mono ?_; rintro e w' ⟨rfl, rfl⟩))
    go_ret2
    exact ⟨by simp <;> omega, rfl⟩
  · go_enter Tryd.func45, Tryd.ntmps45
    go_wp2_with (first
      | (go_at_call 66; refine (magnitude _ (by omega) (by omega) _).mono ?_; rintro e w' ⟨rfl, rfl⟩)
      | (go_at_call 65; refine (HA.out _ (by omega) _).mono ?_; rintro e w' ⟨rfl, rfl⟩))
    go_ret2
    exact ⟨by simp <;> omega, rfl⟩

set_option maxHeartbeats 2000000 in
theorem quotNeg (N d : Nat) (mode : Int) (hN : N ≤ 1000000000000000000) (hd0 : 1 ≤ d) (hd : d ≤ 1000000000) (hm : 1 ≤ mode ∧ mode ≤ 4) (hneg : 0 < N) (w : World) :
    Calls Tryd.prog 45 #[.int .i64 (-(N : Int)), .int .i64 d, .int .i64 mode] w fun e w' => e = .returned (.tuple #[.int .i64 (-((rndN N d mode : Nat) : Int)), .bool true]) ∧ w = w' := by
  obtain ⟨q, hq⟩ : ∃ q, N / d = q := ⟨_, rfl⟩
  obtain ⟨r, hr⟩ : ∃ r, N % d = r := ⟨_, rfl⟩
  have hrd : r < d := by rw [← hr]; exact Nat.mod_lt _ hd0
  have hqN : q ≤ N := by rw [← hq]; exact Nat.div_le_self _ _
  have e1 : (-(N : Int)).tdiv (d : Int) = -(q : Int) := by rw [Int.neg_tdiv, Int.tdiv_eq_ediv_of_nonneg (by omega), ← hq]; rfl
  have e2 : (-(N : Int)).tmod (d : Int) = -(r : Int) := by rw [Int.neg_tmod, Int.tmod_eq_emod_of_nonneg (by omega), ← hr]; rfl
  have hz : ¬ ((d : Int) = 0) := by omega
  have HR : Hid (rndN N d mode = q + more (away q r d mode)) := Lib.hid (by unfold rndN; rw [hq, hr])
  have HM := Lib.hid hm
  obtain ⟨hm1, hm4⟩ := hm
  clear hq hr
  obtain ⟨b, hb⟩ : ∃ b, away q r d mode = b := ⟨_, rfl⟩
  rw [hb] at HR
  have HA : Hid (∀ Q : Int, Q.natAbs = q → ∀ w, Calls Tryd.prog 65 #[.int .i64 Q, .int .u64 r, .int .u64 d, .int .i64 mode] w fun e w' => e = .returned (.bool b) ∧ w = w') := Lib.hid (fun Q hQ w => by
    rw [← hb]; exact roundsAway Q q r d mode hQ (by omega) HM.out w)
  rw [HR.out]
  clear hb HR
  unfold more
  cases b
  · go_enter Tryd.func45, Tryd.ntmps45
    go_wp2_with (first
      | (go_at_call 66; refine (magnitude _ (by omega) (by omega) _).mono ?_; rintro e w' ⟨rfl, rfl⟩)
      | (go_at_call 65; refine (HA.out _ (by omega) _).mono ?_; rintro e w' ⟨rfl, rfl⟩))
    go_ret2
    exact ⟨by simp <;> omega, rfl⟩
  · go_enter Tryd.func45, Tryd.ntmps45
    go_wp2_with (first
      | (go_at_call 66; refine (magnitude _ (by omega) (by omega) _).mono ?_; rintro e w' ⟨rfl, rfl⟩)
      | (go_at_call 65; refine (HA.out _ (by omega) _).mono ?_; rintro e w' ⟨rfl, rfl⟩))
    go_ret2
    exact ⟨by simp <;> omega, rfl⟩

end Go.Proofs.YthobejaiapdanaaDoor.Round
