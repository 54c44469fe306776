/-
  Plain facts on the decimal text of an integer: it is read back. No program stands in it.
-/
import Derived.WalkKit
import Derived.Lib.ItoaNum
import Derived.Lib.AtoiTie
namespace Go.Proofs.YtlaogladhadliaaGreatDoor.IntText
open Go Go.Lib

theorem digitVal_digit (d : Nat) (h : d < 10) : digitVal (UInt8.ofNat (48 + d)) = some d := by
  have hd : ∀ i : Fin 10, digitVal (UInt8.ofNat (48 + i.val)) = some i.val := by decide
  exact hd ⟨d, h⟩

theorem decFrom_append (l : List UInt8) : ∀ (acc : Nat) (b : UInt8), decFrom acc (l ++ [b]) = (decFrom acc l).bind fun n => (digitVal b).map fun d => n * 10 + d := by
  induction l with
  | nil => intro acc b; simp only [List.nil_append, decFrom]; cases digitVal b <;> rfl
  | cons a t ih =>
    intro acc b
    simp only [List.cons_append, decFrom]
    cases digitVal a with
    | none => rfl
    | some d => exact ih _ _

theorem decFrom_digits (u : Nat) : decFrom 0 (decDigits u) = some u := by
  induction u using Nat.strongRecOn with
  | ind u ih =>
    rw [decDigits.eq_def u]
    split
    · rename_i h
      simp only [decFrom, digitVal_digit u h, Nat.zero_mul, Nat.zero_add]
    · rw [decFrom_append, ih (u / 10) (by omega), digitVal_digit (u % 10) (by omega)]
      simp only [Option.bind_some, Option.map_some]
      congr 1; omega

theorem digits_ne (u : Nat) : decDigits u ≠ [] := by
  rw [decDigits.eq_def u]
  split <;> simp

theorem digits_le (u : Nat) (h : u ≤ 999999) : (decDigits u).length ≤ 6 := by
  have step : ∀ k u, u < 10 ^ (k + 1) → (decDigits u).length ≤ k + 1 := by
    intro k
    induction k with
    | zero => intro u h; rw [decDigits.eq_def u, dif_pos (by omega)]; simp
    | succ k ih =>
      intro u h
      rw [decDigits.eq_def u]
      split
      · simp
      · have := ih (u / 10) (by rw [Nat.pow_succ] at h; omega)
        simp; omega
  exact step 5 u (by omega)

theorem decNat_digits (u : Nat) : decNat (decDigits u) = some u := by
  unfold decNat
  rw [if_neg (by simpa using digits_ne u), decFrom_digits]

theorem decFrom_head (a : UInt8) (t : List UInt8) (acc n : Nat) (h : decFrom acc (a :: t) = some n) : 48 ≤ a.toNat ∧ a.toNat ≤ 57 := by
  simp only [decFrom] at h
  unfold digitVal at h
  split at h
  · rename_i d hd
    split at hd
    · assumption
    · cases hd
  · cases h

theorem atoi_itoa (n : Int) : atoi (itoa n) = some n := by
  unfold itoa
  split
  · rename_i h
    simp only [atoi, beq_self_eq_true, if_true, decNat_digits, Option.map_some]
    congr 1; omega
  · rename_i h
    cases hd : decDigits n.toNat with
    | nil => exact absurd hd (digits_ne _)
    | cons a t =>
      have h1 := decFrom_digits n.toNat
      rw [hd] at h1
      obtain ⟨h2, h3⟩ := decFrom_head a t 0 _ h1
      have e1 : (a == 45) = false := by
        apply beq_eq_false_iff_ne.2; intro e; subst e; exact absurd h2 (by decide)
      have e2 : (a == 43) = false := by
        apply beq_eq_false_iff_ne.2; intro e; subst e; exact absurd h2 (by decide)
      simp only [atoi, e1, e2]
      rw [← hd, decNat_digits]
      simp; omega

theorem itoa_le (n : Int) (h0 : -999999 ≤ n) (h1 : n ≤ 999999) : (itoa n).length ≤ 7 := by
  unfold itoa
  split
  · have := digits_le n.natAbs (by omega); simp; omega
  · have := digits_le n.toNat (by omega); omega

theorem atoiAll_itoa (n : Int) (h0 : -999999 ≤ n) (h1 : n ≤ 999999) : atoiAll (itoa n) = .ok n := by
  rw [atoiAll_short _ (by have := itoa_le n h0 h1; omega), atoi_itoa]
  rfl

/-- s is the text of n, an integer of at most six digits. -/
def Is (s : ByteArray) (n : Int) : Prop := -999999 ≤ n ∧ n ≤ 999999 ∧ s = ⟨(itoa n).toArray⟩

theorem Is.atoi {s : ByteArray} {n : Int} (h : Is s n) : atoiAll s.data.toList = .ok n := by
  obtain ⟨h0, h1, rfl⟩ := h
  exact atoiAll_itoa n h0 h1

theorem decFrom_bd (l : List UInt8) : ∀ n, decFrom 0 l = some n → n < 10 ^ l.length := by
  have step : ∀ (l : List UInt8) (acc n : Nat), decFrom acc l = some n → n < (acc + 1) * 10 ^ l.length := by
    intro l
    induction l with
    | nil => intro acc n h; simp only [decFrom, Option.some.injEq] at h; simp; omega
    | cons a t ih =>
      intro acc n h
      simp only [decFrom] at h
      cases hd : digitVal a with
      | none => rw [hd] at h; cases h
      | some d =>
        rw [hd] at h
        have h1 := ih _ _ h
        have h2 : d ≤ 9 := by
          unfold digitVal at hd
          split at hd
          · injection hd with hd; omega
          · cases hd
        calc n < (acc * 10 + d + 1) * 10 ^ t.length := h1
          _ ≤ ((acc + 1) * 10) * 10 ^ t.length := Nat.mul_le_mul_right _ (by omega)
          _ = (acc + 1) * 10 ^ (a :: t).length := by rw [List.length_cons, Nat.pow_succ, Nat.mul_assoc, Nat.mul_comm 10]
  intro n h
  simpa using step l 0 n h

theorem decFrom_six {l : List UInt8} {n : Nat} (h : decFrom 0 l = some n) (hl : l.length ≤ 6) : n ≤ 999999 := by
  have h1 := decFrom_bd l n h
  have h2 : 10 ^ l.length ≤ 10 ^ 6 := Nat.pow_le_pow_right (by omega) hl
  omega

/-- One digit more. -/
theorem decFrom_step {t : ByteArray} {k n : Nat} (hk : k < t.size) (h : decFrom 0 (t.data.toList.take k) = some n) (h1 : 48 ≤ t[k].toNat) (h2 : t[k].toNat ≤ 57) :
    decFrom 0 (t.data.toList.take (k + 1)) = some (n * 10 + (t[k].toNat - 48)) := by
  have e : t.data.toList.take (k + 1) = t.data.toList.take k ++ [t[k]] := by
    rw [List.take_succ_eq_append_getElem (by simpa using hk)]; rfl
  rw [e, decFrom_append, h]
  simp [digitVal, h1, h2]

/-- A byte that is no digit. -/
theorem decFrom_stop {t : ByteArray} {k : Nat} (hk : k < t.size) (h : t[k].toNat < 48 ∨ 57 < t[k].toNat) : decFrom 0 t.data.toList = none := by
  have e : t.data.toList = t.data.toList.take k ++ (t[k] :: t.data.toList.drop (k + 1)) := by
    have := List.getElem_cons_drop (as := t.data.toList) (i := k) (by simpa using hk)
    rw [show t[k] = t.data.toList[k]'(by simpa using hk) from rfl, this, List.take_append_drop]
  rw [e]
  have key : ∀ (l r : List UInt8) (b : UInt8) (acc : Nat), digitVal b = none → decFrom acc (l ++ b :: r) = none := by
    intro l
    induction l with
    | nil => intro r b acc hb; simp [decFrom, hb]
    | cons a l ih =>
      intro r b acc hb
      simp only [List.cons_append, decFrom]
      cases digitVal a with
      | none => rfl
      | some d => exact ih _ _ _ hb
  exact key _ _ _ _ (by unfold digitVal; rw [if_neg (by omega)])

end Go.Proofs.YtlaogladhadliaaGreatDoor.IntText
