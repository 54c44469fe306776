/-
  Plain facts on dates: lengths of months, days before a month and before a year, the date of a day. No program stands in it.
-/
import Derived.WalkKit
namespace Go.Proofs.Ytomloodakabcbaa.Cal

/-- The number of days of a month. -/
def lenM (y m : Int) : Int := if m = 2 then (if y % 4 = 0 then 29 else 28) else if m = 4 ∨ m = 6 ∨ m = 9 ∨ m = 11 then 30 else 31
/-- The days of a common year before each month. -/
def tab : List Int := [0, 31, 59, 90, 120, 151, 181, 212, 243, 273, 304, 334, 365]
def cumM (m : Int) : Int := tab.getD (m - 1).toNat 0
/-- The days of the year before a month. -/
def bef (y m : Int) : Int := cumM m + if 2 < m ∧ y % 4 = 0 then 1 else 0
/-- The days before a year. -/
def dby (y : Int) : Int := (y - 2000) * 365 + (y - 2000 + 3) / 4
def num (y m d : Int) : Int := dby y + bef y m + d - 1
def InY (y : Int) : Prop := 2000 ≤ y ∧ y ≤ 2099
def InM (m : Int) : Prop := 1 ≤ m ∧ m ≤ 12
def Vld (y m d : Int) : Prop := InY y ∧ InM m ∧ 1 ≤ d ∧ d ≤ lenM y m
def Day (n : Int) : Prop := 0 ≤ n ∧ n ≤ 36524
instance (y : Int) : Decidable (InY y) := inferInstanceAs (Decidable (_ ∧ _))
instance (y : Int) : Decidable (InM y) := inferInstanceAs (Decidable (_ ∧ _))
instance (y m d : Int) : Decidable (Vld y m d) := inferInstanceAs (Decidable (_ ∧ _))
instance (n : Int) : Decidable (Day n) := inferInstanceAs (Decidable (_ ∧ _))

theorem months {m : Int} (h : InM m) : m = 1 ∨ m = 2 ∨ m = 3 ∨ m = 4 ∨ m = 5 ∨ m = 6 ∨ m = 7 ∨ m = 8 ∨ m = 9 ∨ m = 10 ∨ m = 11 ∨ m = 12 := by unfold InM at h; omega

theorem cum1 : cumM 1 = 0 := rfl
theorem cum2 : cumM 2 = 31 := rfl
theorem cum3 : cumM 3 = 59 := rfl
theorem cum4 : cumM 4 = 90 := rfl
theorem cum5 : cumM 5 = 120 := rfl
theorem cum6 : cumM 6 = 151 := rfl
theorem cum7 : cumM 7 = 181 := rfl
theorem cum8 : cumM 8 = 212 := rfl
theorem cum9 : cumM 9 = 243 := rfl
theorem cum10 : cumM 10 = 273 := rfl
theorem cum11 : cumM 11 = 304 := rfl
theorem cum12 : cumM 12 = 334 := rfl
theorem cum13 : cumM 13 = 365 := rfl

theorem bef_one (y : Int) : bef y 1 = 0 := by simp [bef, cum1]
theorem bef_last (y : Int) : bef y 13 = if y % 4 = 0 then 366 else 365 := by simp only [bef, cum13]; split <;> split <;> omega
theorem bef_succ (y : Int) {m : Int} (h : InM m) : bef y (m + 1) = bef y m + lenM y m := by
  rcases months h with rfl | rfl | rfl | rfl | rfl | rfl | rfl | rfl | rfl | rfl | rfl | rfl <;>
    by_cases hy : y % 4 = 0 <;> simp [bef, lenM, hy, cum1, cum2, cum3, cum4, cum5, cum6, cum7, cum8, cum9, cum10, cum11, cum12, cum13]
theorem len_bd (y m : Int) : 28 ≤ lenM y m ∧ lenM y m ≤ 31 := by unfold lenM; split <;> (try split) <;> omega
theorem cum_bd {m : Int} (h : InM m) : 0 ≤ cumM m ∧ cumM m ≤ 334 ∧ 31 ≤ cumM (m + 1) ∧ cumM (m + 1) ≤ 365 := by
  rcases months h with rfl | rfl | rfl | rfl | rfl | rfl | rfl | rfl | rfl | rfl | rfl | rfl <;> decide
theorem bef_bd (y : Int) {m : Int} (h : InM m) : 0 ≤ bef y m ∧ bef y m ≤ 335 ∧ 28 ≤ bef y (m + 1) ∧ bef y (m + 1) ≤ 366 := by
  have h1 := cum_bd h
  unfold bef
  split <;> split <;> omega
theorem bef_mono (y : Int) {m : Int} (h : InM m) : bef y (m + 1) ≤ bef y 13 ∧ 0 ≤ bef y m := by
  rw [bef_last]
  rcases months h with rfl | rfl | rfl | rfl | rfl | rfl | rfl | rfl | rfl | rfl | rfl | rfl <;>
    by_cases hy : y % 4 = 0 <;> simp [bef, hy, cum1, cum2, cum3, cum4, cum5, cum6, cum7, cum8, cum9, cum10, cum11, cum12, cum13]
theorem dby_succ (y : Int) (_h : 2000 ≤ y) : dby (y + 1) = dby y + bef y 13 := by rw [bef_last]; unfold dby; split <;> omega
theorem dby_bd {y : Int} (h : InY y) : 0 ≤ dby y ∧ dby y ≤ 36160 ∧ dby (y + 1) ≤ 36525 ∧ 365 ≤ dby (y + 1) := by unfold InY at h; unfold dby; omega
theorem dby_max : dby 2100 = 36525 := by decide
theorem dby_mono (a b : Int) (h : a ≤ b) : dby a ≤ dby b := by unfold dby; omega

theorem num_day {y m d : Int} (h : Vld y m d) : Day (num y m d) := by
  obtain ⟨hy, hm, h1, h2⟩ := h
  have a := dby_bd hy
  have b := bef_succ y hm
  have c := bef_mono y hm
  have e := dby_succ y hy.1
  unfold Day num; omega

/-- The year, the month and the day of the month of a day. -/
def yr (n : Int) : Int := 2000 + n * 4 / 1461
def moR (y r : Int) : Int := if r < bef y 2 then 1 else if r < bef y 3 then 2 else if r < bef y 4 then 3 else if r < bef y 5 then 4 else if r < bef y 6 then 5 else if r < bef y 7 then 6 else if r < bef y 8 then 7 else if r < bef y 9 then 8 else if r < bef y 10 then 9 else if r < bef y 11 then 10 else if r < bef y 12 then 11 else 12
def mo (n : Int) : Int := moR (yr n) (n - dby (yr n))
def da (n : Int) : Int := n - dby (yr n) - bef (yr n) (mo n) + 1

theorem yr_bd {n : Int} (h : Day n) : InY (yr n) ∧ dby (yr n) ≤ n ∧ n < dby (yr n + 1) := by unfold Day at h; unfold InY dby yr; omega
theorem yr_of {n y : Int} (_hy : 2000 ≤ y) (h1 : dby y ≤ n) (h2 : n < dby (y + 1)) : y = yr n := by unfold dby at h1 h2; unfold yr; omega

theorem moR_is {y r : Int} (h0 : 0 ≤ r) (h1 : r < bef y 13) : InM (moR y r) ∧ bef y (moR y r) ≤ r ∧ r < bef y (moR y r + 1) := by
  unfold moR InM
  by_cases h2 : r < bef y 2
  · rw [if_pos h2]; exact ⟨by omega, by rw [bef_one]; exact h0, h2⟩
  rw [if_neg h2]
  by_cases h3 : r < bef y 3
  · rw [if_pos h3]; exact ⟨by omega, Int.not_lt.1 h2, h3⟩
  rw [if_neg h3]
  by_cases h4 : r < bef y 4
  · rw [if_pos h4]; exact ⟨by omega, Int.not_lt.1 h3, h4⟩
  rw [if_neg h4]
  by_cases h5 : r < bef y 5
  · rw [if_pos h5]; exact ⟨by omega, Int.not_lt.1 h4, h5⟩
  rw [if_neg h5]
  by_cases h6 : r < bef y 6
  · rw [if_pos h6]; exact ⟨by omega, Int.not_lt.1 h5, h6⟩
  rw [if_neg h6]
  by_cases h7 : r < bef y 7
  · rw [if_pos h7]; exact ⟨by omega, Int.not_lt.1 h6, h7⟩
  rw [if_neg h7]
  by_cases h8 : r < bef y 8
  · rw [if_pos h8]; exact ⟨by omega, Int.not_lt.1 h7, h8⟩
  rw [if_neg h8]
  by_cases h9 : r < bef y 9
  · rw [if_pos h9]; exact ⟨by omega, Int.not_lt.1 h8, h9⟩
  rw [if_neg h9]
  by_cases h10 : r < bef y 10
  · rw [if_pos h10]; exact ⟨by omega, Int.not_lt.1 h9, h10⟩
  rw [if_neg h10]
  by_cases h11 : r < bef y 11
  · rw [if_pos h11]; exact ⟨by omega, Int.not_lt.1 h10, h11⟩
  rw [if_neg h11]
  by_cases h12 : r < bef y 12
  · rw [if_pos h12]; exact ⟨by omega, Int.not_lt.1 h11, h12⟩
  rw [if_neg h12]
  exact ⟨by omega, Int.not_lt.1 h12, h1⟩

theorem bef_le (y : Int) {a b : Int} (ha : InM a) (hb : InM b) (h : a < b) : bef y (a + 1) ≤ bef y b := by
  have key : ∀ k : Nat, ∀ c : Int, InM c → c = a + 1 + k → bef y (a + 1) ≤ bef y c := by
    intro k
    induction k with
    | zero => intro c _ e; rw [e]; simp
    | succ k ih =>
      intro c hc e
      have hc1 : InM (c - 1) := by unfold InM at *; omega
      have h1 := ih (c - 1) hc1 (by omega)
      have h2 := bef_succ y hc1
      rw [show c - 1 + 1 = c by omega] at h2
      have h3 := len_bd y (c - 1)
      omega
  exact key (b - a - 1).toNat b hb (by omega)

theorem moR_of {y r m : Int} (hm : InM m) (h1 : bef y m ≤ r) (h2 : r < bef y (m + 1)) : m = moR y r := by
  have c := bef_mono y hm
  obtain ⟨a1, a2, a3⟩ := moR_is (y := y) (r := r) (by omega) (by omega)
  rcases Int.lt_trichotomy m (moR y r) with h | h | h
  · have := bef_le y hm a1 h; omega
  · exact h
  · have := bef_le y a1 hm h; omega

theorem date_is {n : Int} (h : Day n) : Vld (yr n) (mo n) (da n) ∧ num (yr n) (mo n) (da n) = n := by
  obtain ⟨a, b, c⟩ := yr_bd h
  have d := dby_succ _ a.1
  obtain ⟨e1, e2, e3⟩ := moR_is (y := yr n) (r := n - dby (yr n)) (by omega) (by omega)
  have e4 := bef_succ (yr n) e1
  unfold Vld num da mo
  exact ⟨⟨a, e1, by omega, by omega⟩, by omega⟩

theorem date_of {y m d : Int} (h : Vld y m d) : y = yr (num y m d) ∧ m = mo (num y m d) ∧ d = da (num y m d) := by
  obtain ⟨hy, hm, h1, h2⟩ := h
  have b := bef_succ y hm
  have c := bef_mono y hm
  have e := dby_succ y hy.1
  have ey : y = yr (num y m d) := yr_of hy.1 (by unfold num; omega) (by unfold num; omega)
  have em : m = mo (num y m d) := by
    unfold mo; rw [← ey]; exact moR_of hm (by unfold num; omega) (by unfold num; omega)
  refine ⟨ey, em, ?_⟩
  unfold da; rw [← ey, ← em]; unfold num; omega

/-- Where the year's loop ends. -/
theorem yr_end {n y : Int} (h : Day n) (hy : InY y) (h1 : dby y ≤ n) (h2 : y = 2099 ∨ n < dby (y + 1)) : y = yr n := by
  refine yr_of hy.1 h1 ?_
  rcases h2 with rfl | h2
  · have := dby_max; unfold Day at h; show n < dby 2100; omega
  · exact h2
/-- .. and the month's. -/
theorem mo_end {n m : Int} (h : Day n) (hm : InM m) (h1 : dby (yr n) + bef (yr n) m ≤ n) (h2 : m = 12 ∨ n < dby (yr n) + bef (yr n) (m + 1)) : m = mo n := by
  refine moR_of hm (by omega) ?_
  rcases h2 with rfl | h2
  · obtain ⟨a, b, c⟩ := yr_bd h
    have d := dby_succ _ a.1
    show _ < bef (yr n) 13
    omega
  · omega

/-- The days of all months up to one. -/
theorem num_first (y : Int) : num y 1 1 = dby y := by unfold num; rw [bef_one]; omega
theorem num_month (y m : Int) : num y m 1 = dby y + bef y m := by unfold num; omega

end Go.Proofs.Ytomloodakabcbaa.Cal
