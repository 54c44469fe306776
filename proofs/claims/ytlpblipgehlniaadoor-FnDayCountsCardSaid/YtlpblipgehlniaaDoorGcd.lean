/-
  Plain facts on greatest common divisors by halving and on fractions in lowest terms. No program stands in it.
-/
import Derived.WalkKit
import Derived.Lib.TrailingZeros
namespace Go.Proofs.YtlpblipgehlniaaDoor.Gcd

theorem ctz_spec (x : Nat) (h0 : x ≠ 0) (h : x < 18446744073709551616) : ∃ m, x = 2 ^ Lib.ctz 64 x * (2 * m + 1) ∧ Lib.ctz 64 x < 64 := by
  have e : Lib.ctz 64 x = Lib.ctzFrom 64 x := by simp [Lib.ctz, h0]
  rw [e]
  exact Lib.ctzFrom_spec 64 x (by omega) h

theorem pow_pos (k : Nat) : 0 < 2 ^ k := Nat.pow_pos (by omega)

/-- What is left of x when its trailing zeros are cut off. -/
def cut (x : Nat) : Nat := x / 2 ^ Lib.ctz 64 x

theorem cut_odd (x : Nat) (h0 : x ≠ 0) (h : x < 18446744073709551616) : cut x % 2 = 1 ∧ x = 2 ^ Lib.ctz 64 x * cut x := by
  obtain ⟨m, hm, _⟩ := ctz_spec x h0 h
  have e : cut x = 2 * m + 1 := by
    unfold cut
    conv => lhs; arg 1; rw [hm]
    exact Nat.mul_div_cancel_left _ (pow_pos _)
  rw [e]
  exact ⟨by omega, hm⟩

theorem cut_le (x : Nat) : cut x ≤ x := Nat.div_le_self _ _

theorem coprime_two (a : Nat) (ha : a % 2 = 1) (k : Nat) : Nat.Coprime (2 ^ k) a := by
  induction k with
  | zero => simp [Nat.Coprime]
  | succ k ih =>
    rw [Nat.pow_succ]
    refine ih.mul_left ?_
    unfold Nat.Coprime
    rw [Nat.gcd_rec, ha, Nat.gcd_one_left]

theorem gcd_cut (a x k : Nat) (ha : a % 2 = 1) : Nat.gcd a (2 ^ k * x) = Nat.gcd a x :=
  (coprime_two a ha k).gcd_mul_left_cancel_right x

theorem or_cut (a b t : Nat) (h : (a ||| b) % 2 ^ t = 0) : a = 2 ^ t * (a / 2 ^ t) ∧ b = 2 ^ t * (b / 2 ^ t) := by
  rw [Nat.or_mod_two_pow, Nat.or_eq_zero_iff] at h
  exact ⟨(Nat.mul_div_cancel' (Nat.dvd_of_mod_eq_zero h.1)).symm, (Nat.mul_div_cancel' (Nat.dvd_of_mod_eq_zero h.2)).symm⟩

/-- The first step: the common power of two is put aside. -/
theorem start (a b : Nat) (ha : a ≠ 0) (ha' : a < 18446744073709551616) (hb' : b < 18446744073709551616) :
    Nat.gcd a b = 2 ^ Lib.ctz 64 (a ||| b) * Nat.gcd (cut a) b := by
  have hor : (a ||| b) ≠ 0 := fun h => ha (Nat.or_eq_zero_iff.1 h).1
  have hlt : (a ||| b) < 18446744073709551616 := Nat.or_lt_two_pow (n := 64) ha' hb'
  obtain ⟨m, hm, _⟩ := ctz_spec (a ||| b) hor hlt
  generalize Lib.ctz 64 (a ||| b) = t at hm
  have hmod : (a ||| b) % 2 ^ t = 0 := by rw [hm]; exact Nat.mul_mod_right _ _
  obtain ⟨e1, e2⟩ := or_cut a b t hmod
  have hodd : (a / 2 ^ t ||| b / 2 ^ t) % 2 = 1 := by
    rw [← Nat.or_div_two_pow, hm, Nat.mul_div_cancel_left _ (pow_pos t)]; omega
  obtain ⟨hc, hac⟩ := cut_odd a ha ha'
  generalize hA : a / 2 ^ t = A at *
  generalize hB : b / 2 ^ t = B at *
  have h1 : Nat.gcd a b = 2 ^ t * Nat.gcd A B := by
    conv => lhs; rw [e1, e2]
    exact Nat.gcd_mul_left _ _ _
  have h2 : Nat.gcd (cut a) b = Nat.gcd (cut a) B := by
    conv => lhs; rw [e2]
    exact gcd_cut _ _ _ hc
  rw [h1, h2]
  congr 1
  -- A is a power of two times the odd part of a
  have hd : 2 ^ t ∣ 2 ^ Lib.ctz 64 a * cut a := ⟨A, by rw [← hac]; exact e1⟩
  have hd2 : 2 ^ t ∣ 2 ^ Lib.ctz 64 a := (coprime_two (cut a) hc t).dvd_of_dvd_mul_right hd
  have hle : t ≤ Lib.ctz 64 a := (Nat.pow_dvd_pow_iff_le_right (by omega)).1 hd2
  obtain ⟨s, hs⟩ : ∃ s, Lib.ctz 64 a = t + s := ⟨Lib.ctz 64 a - t, by omega⟩
  have hA2 : A = 2 ^ s * cut a := by
    have h3 : 2 ^ t * A = 2 ^ t * (2 ^ s * cut a) := by
      rw [← e1, ← Nat.mul_assoc, ← Nat.pow_add, ← hs]; exact hac
    exact Nat.eq_of_mul_eq_mul_left (pow_pos t) h3
  rcases Nat.or_mod_two_eq_one.1 hodd with h | h
  · have : s = 0 := by
      rcases Nat.eq_zero_or_pos s with h0 | h0
      · exact h0
      · exfalso
        obtain ⟨u, rfl⟩ : ∃ u, s = u + 1 := ⟨s - 1, by omega⟩
        rw [hA2, Nat.pow_succ, Nat.mul_comm (2 ^ u), Nat.mul_assoc] at h
        omega
    subst this
    rw [hA2]; simp
  · rw [hA2, Nat.gcd_comm, gcd_cut _ _ _ h, Nat.gcd_comm]

/-- A round: cut b, then subtract the smaller from the greater. -/
theorem round (a b : Nat) (ha : a % 2 = 1) (hb : b ≠ 0) (hb' : b < 18446744073709551616) :
    Nat.gcd (min a (cut b)) (max a (cut b) - min a (cut b)) = Nat.gcd a b ∧ min a (cut b) % 2 = 1 ∧ min a (cut b) + (max a (cut b) - min a (cut b)) < a + b := by
  obtain ⟨hc, hbc⟩ := cut_odd b hb hb'
  have hle := cut_le b
  have h1 : Nat.gcd a b = Nat.gcd a (cut b) := by
    conv => lhs; rw [hbc]
    exact gcd_cut _ _ _ ha
  rw [h1]
  rcases Nat.le_total a (cut b) with h | h
  · rw [Nat.min_eq_left h, Nat.max_eq_right h]
    refine ⟨?_, ha, by omega⟩
    exact Nat.gcd_sub_self_right h
  · rw [Nat.min_eq_right h, Nat.max_eq_left h]
    refine ⟨?_, hc, by omega⟩
    rw [Nat.gcd_sub_self_right h, Nat.gcd_comm]

theorem gcd_step (a b : Nat) : Nat.gcd b (a % b) = Nat.gcd a b := by
  rw [Nat.gcd_comm a b, Nat.gcd_rec b a, Nat.gcd_comm]

end Go.Proofs.YtlpblipgehlniaaDoor.Gcd
