/-
  Plain facts on the text of an amount. No program stands in it.
-/
import Derived.WalkKit
import Derived.Lib.ItoaNum
namespace Go.Proofs.YtgjihejneadadaaDoor.FmtPlain

/-- Two digits. -/
def two (k : Nat) : List UInt8 := [UInt8.ofNat (48 + k / 10), UInt8.ofNat (48 + k % 10)]

/-- The text of the amount of N minor units, without its sign. -/
def body (N : Nat) : List UInt8 := Lib.decDigits (N / 100) ++ 46 :: two (N % 100)

/-- The text of an amount. -/
def text (x : Int) : List UInt8 := if x < 0 then 45 :: body x.natAbs else body x.natAbs

theorem dec_one (k : Nat) (h : k < 10) : Lib.decDigits k = [UInt8.ofNat (48 + k)] := by
  rw [Lib.decDigits.eq_def, dif_pos h]

theorem dec_two (k : Nat) (h0 : 10 ≤ k) (h : k < 100) : Lib.decDigits k = two k := by
  rw [Lib.decDigits.eq_def, dif_neg (by omega), dec_one _ (by omega)]; rfl

theorem dec_three (k : Nat) (h : k < 100) : Lib.decDigits (100 + k) = 49 :: two k := by
  rw [Lib.decDigits.eq_def, dif_neg (by omega), dec_two _ (by omega) (by omega)]
  have e1 : (100 + k) / 10 / 10 = 1 := by omega
  have e2 : (100 + k) / 10 % 10 = k / 10 := by omega
  have e3 : (100 + k) % 10 = k % 10 := by omega
  simp only [two, e1, e2, e3]
  rfl

theorem itoa_minor (k : Nat) (h : k < 100) : Lib.itoa (100 + (k : Int)) = 49 :: two k := by
  unfold Lib.itoa
  rw [if_neg (by omega), show (100 + (k : Int)).toNat = 100 + k by omega, dec_three k h]

theorem itoa_nat (n : Nat) : Lib.itoa (n : Int) = Lib.decDigits n := by
  unfold Lib.itoa
  rw [if_neg (by omega)]; rfl

theorem dec_le (u : Nat) (h : u ≤ 100000000) : (Lib.decDigits u).length ≤ 9 := by
  have step : ∀ k u, u < 10 ^ (k + 1) → (Lib.decDigits u).length ≤ k + 1 := by
    intro k
    induction k with
    | zero => intro u h; rw [Lib.decDigits.eq_def u, dif_pos (by omega)]; simp
    | succ k ih =>
      intro u h
      rw [Lib.decDigits.eq_def u]
      split
      · simp
      · have := ih (u / 10) (by rw [Nat.pow_succ] at h; omega)
        simp; omega
  exact step 8 u (by omega)

theorem cat (a b : List UInt8) : (⟨a.toArray⟩ : ByteArray) ++ (⟨b.toArray⟩ : ByteArray) = ⟨(a ++ b).toArray⟩ := by
  apply ByteArray.ext; simp [ByteArray.data_append]

theorem size (a : List UInt8) : (⟨a.toArray⟩ : ByteArray).size = a.length := by simp [ByteArray.size]

end Go.Proofs.YtgjihejneadadaaDoor.FmtPlain
