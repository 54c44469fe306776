/-
  The days of a time by their years, in plain facts.
-/
import Derived.Test.YtlpblipgehlniaaDoorBiz
namespace Go.Proofs.YtlpblipgehlniaaDoor.Yrs
open Go.Proofs.YtlpblipgehlniaaDoor.Cal Go.Proofs.YtlpblipgehlniaaDoor.Biz

/-- What one day of a year counts. -/
def wgt (y : Int) : Int := if y % 4 = 0 then 365 else 366
def clamp (x L : Int) : Int := min (max x 0) L
/-- The days before d in the first k years, each by what it counts. -/
def W : Nat → Int → Int
  | 0, _ => 0
  | k + 1, d => W k d + wgt (2000 + k) * clamp (d - dby (2000 + k)) (bef (2000 + k) 13)

theorem term (a b s L : Int) (h : a ≤ b) (hL : 0 ≤ L) : max (min b (s + L) - max a s) 0 = clamp (b - s) L - clamp (a - s) L := by unfold clamp; omega
theorem term_bd (a b s L : Int) (h : a ≤ b) (hL : 0 ≤ L) : 0 ≤ clamp (b - s) L - clamp (a - s) L ∧ clamp (b - s) L - clamp (a - s) L ≤ L := by unfold clamp; omega

theorem bef13 (y : Int) : (y % 4 = 0 → bef y 13 = 366) ∧ (¬ y % 4 = 0 → bef y 13 = 365) := by rw [bef_last]; constructor <;> intro h <;> simp [h]

/-- One more year. -/
theorem W_leap {a b : Int} {k : Nat} (h : a ≤ b) (hy : (2000 + (k : Int)) % 4 = 0) : W (k + 1) b - W (k + 1) a = W k b - W k a + max (min b (dby (2000 + k) + 366) - max a (dby (2000 + k))) 0 * 365 := by
  rw [term a b _ 366 h (by omega)]
  simp only [W, (bef13 _).1 hy, wgt, hy, if_true]
  omega
theorem W_other {a b : Int} {k : Nat} (h : a ≤ b) (hy : ¬ (2000 + (k : Int)) % 4 = 0) : W (k + 1) b - W (k + 1) a = W k b - W k a + max (min b (dby (2000 + k) + 365) - max a (dby (2000 + k))) 0 * 366 := by
  rw [term a b _ 365 h (by omega)]
  simp only [W, (bef13 _).2 hy, wgt, hy, if_false]
  omega

theorem W_bd {a b : Int} (h : a ≤ b) : ∀ k : Nat, 0 ≤ W k b - W k a ∧ W k b - W k a ≤ 134000 * k := by
  intro k
  induction k with
  | zero => simp [W]
  | succ k ih =>
    by_cases hy : (2000 + (k : Int)) % 4 = 0
    · rw [W_leap h hy, term a b _ 366 h (by omega)]
      have := term_bd a b (dby (2000 + k)) 366 h (by omega)
      omega
    · rw [W_other h hy, term a b _ 365 h (by omega)]
      have := term_bd a b (dby (2000 + k)) 365 h (by omega)
      omega

theorem clamp_full {x L : Int} (h : L ≤ x) (hL : 0 ≤ L) : clamp x L = L := by unfold clamp; omega
theorem clamp_none {x L : Int} (h : x ≤ 0) (hL : 0 ≤ L) : clamp x L = 0 := by unfold clamp; omega
theorem clamp_in {x L : Int} (h0 : 0 ≤ x) (h1 : x ≤ L) : clamp x L = x := by unfold clamp; omega
theorem len_pos (y : Int) : 0 ≤ bef y 13 := by rw [bef_last]; split <;> omega

theorem W_before {a b : Int} {j : Nat} (ha : dby (2000 + j) ≤ a) (hb : dby (2000 + j) ≤ b) : ∀ k : Nat, k ≤ j → W k b = W k a := by
  intro k
  induction k with
  | zero => intro _; rfl
  | succ k ih =>
    intro hk
    have h1 := dby_succ (2000 + k) (by omega)
    have h2 := dby_mono (2000 + k + 1) (2000 + j) (by omega)
    have hl := len_pos (2000 + k)
    simp only [W]
    rw [ih (by omega), clamp_full (by omega) hl, clamp_full (by omega) hl]

theorem W_after {a b : Int} {j : Nat} (ha0 : dby (2000 + j) ≤ a) (hab : a ≤ b) (hb : b ≤ dby (2000 + j + 1)) : ∀ k : Nat, j < k → W k b - W k a = wgt (2000 + j) * (b - a) := by
  intro k
  induction k with
  | zero => intro h; omega
  | succ k ih =>
    intro hk
    have hs := dby_succ (2000 + k) (by omega)
    have hl := len_pos (2000 + k)
    simp only [W]
    by_cases e : k = j
    · subst e
      rw [W_before (j := k) ha0 (by omega) k (Nat.le_refl _), clamp_in (by omega) (by omega), clamp_in (x := a - _) (by omega) (by omega)]
      have : wgt (2000 + k) * (b - dby (2000 + k)) - wgt (2000 + k) * (a - dby (2000 + k)) = wgt (2000 + k) * (b - a) := by rw [← Int.mul_sub]; congr 1; omega
      omega
    · have h2 := dby_mono (2000 + j + 1) (2000 + k) (by omega)
      rw [clamp_none (by omega) hl, clamp_none (x := a - _) (by omega) hl]
      have := ih (by omega)
      omega

/-- Within one year. -/
theorem W_year {y a b : Int} (hy : InY y) (ha : dby y ≤ a) (hab : a ≤ b) (hb : b ≤ dby (y + 1)) : W 100 b - W 100 a = wgt y * (b - a) := by
  obtain ⟨j, hj⟩ : ∃ j : Nat, y = 2000 + (j : Int) := ⟨(y - 2000).toNat, by unfold InY at hy; omega⟩
  subst hj
  exact W_after ha hab hb 100 (by unfold InY at hy; omega)

/-- A day's place where all months have 30 days. -/
def bank (n : Int) : Int := 360 * yr n + 30 * mo n + min (da n) 30
theorem year_end (y : Int) : num y 12 31 + 1 = dby (y + 1) - (dby (y + 1) - dby y - bef y 13) := by
  have := bef_succ y (m := 12) ⟨by omega, by omega⟩
  unfold num
  have e : lenM y 12 = 31 := by simp [lenM]
  rw [e] at this
  have e2 : bef y (12 + 1) = bef y 13 := rfl
  omega
theorem year_last {y : Int} (hy : InY y) : num y 12 31 + 1 = dby (y + 1) := by
  rw [year_end, dby_succ y hy.1]; omega

theorem bank_bd {n : Int} (h : Day n) : 720000 ≤ bank n ∧ bank n ≤ 760000 := by
  obtain ⟨⟨hy, hm, d1, d2⟩, _⟩ := date_is h
  unfold InY at hy; unfold InM at hm
  unfold bank; omega

/-- The day count as a quotient. -/
def dcN (a b c : Int) : Int := if c = 1 then b - a else if c = 2 then b - a else if c = 3 then bank b - bank a else W 100 b - W 100 a
def dcD (c : Int) : Int := if c = 1 then 360 else if c = 2 then 365 else if c = 3 then 360 else 133590
def DcOk (a b c : Int) : Prop := Day a ∧ Day b ∧ a ≤ b ∧ 1 ≤ c ∧ c ≤ 4
instance (a b c : Int) : Decidable (DcOk a b c) := inferInstanceAs (Decidable (_ ∧ _ ∧ _ ∧ _ ∧ _))

end Go.Proofs.YtlpblipgehlniaaDoor.Yrs
