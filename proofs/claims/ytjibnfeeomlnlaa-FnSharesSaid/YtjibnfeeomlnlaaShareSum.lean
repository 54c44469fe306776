/-
  Plain facts for the law FnShares: each share is its quotient or one more, and the shares add up to the total.
-/
import Derived.Test.YtjibnfeeomlnlaaShare
namespace Go.Proofs.Ytjibnfeeomlnlaa.ShareSum
open Go.Proofs.Ytjibnfeeomlnlaa.Sums Go.Proofs.Ytjibnfeeomlnlaa.ShareMath Go.Proofs.Ytjibnfeeomlnlaa.SumW Go.Proofs.Ytjibnfeeomlnlaa.Order Go.Proofs.Ytjibnfeeomlnlaa.Share

theorem bumps_get {n : Nat} {r : Nat → Int} {o : Nat → Nat} (h : Ord n r o) (s : List Int) (hn : s.length = n) : ∀ (k : Nat), k ≤ n →
    (∀ l, l < k → (bumps o s k)[o l]! = s[o l]! + 1) ∧ ∀ l, k ≤ l → l < n → (bumps o s k)[o l]! = s[o l]!
  | 0, _ => ⟨fun l hl => by omega, fun l _ _ => rfl⟩
  | k + 1, hk => by
    have ih := bumps_get h s hn k (by omega)
    simp only [bumps]
    constructor
    · intro l hl
      by_cases e : l = k
      · subst e
        rw [List.getElem!_eq_getElem?_getD, List.getElem?_set_self (by rw [bumps_length, hn]; exact h.lt _ (by omega)), ih.2 l (Nat.le_refl _) (by omega)]; rfl
      · have hne : o k ≠ o l := fun e2 => e (h.inj (by omega) (by omega) e2).symm
        rw [List.getElem!_eq_getElem?_getD, List.getElem?_set_ne hne, ← List.getElem!_eq_getElem?_getD]
        exact ih.1 l (by omega)
    · intro l hl hln
      have hne : o k ≠ o l := fun e2 => by have := h.inj (by omega) hln e2; omega
      rw [List.getElem!_eq_getElem?_getD, List.getElem?_set_ne hne, ← List.getElem!_eq_getElem?_getD]
      exact ih.2 l (by omega) hln

theorem sum_set (s : List Int) (i : Nat) (z : Int) (hi : i < s.length) : (s.set i z).sum = s.sum - s[i] + z := by
  induction s generalizing i with
  | nil => simp at hi
  | cons a t ih =>
    cases i with
    | zero => simp; omega
    | succ i =>
      have := ih i (by simpa using hi)
      simp only [List.set_cons_succ, List.sum_cons, List.getElem_cons_succ, this]
      omega

theorem bumps_sum {n : Nat} {r : Nat → Int} {o : Nat → Nat} (h : Ord n r o) (s : List Int) (hn : s.length = n) : ∀ (k : Nat), k ≤ n → (bumps o s k).sum = s.sum + k
  | 0, _ => by simp [bumps]
  | k + 1, hk => by
    have hl : o k < (bumps o s k).length := by rw [bumps_length, hn]; exact h.lt _ (by omega)
    simp only [bumps]
    rw [sum_set _ _ _ hl, getElem!_pos (bumps o s k) (o k) hl, bumps_sum h s hn k (by omega)]
    omega

theorem ordN {t : Int} {zs : List Int} (h : Takes t zs) : 0 < zs.length ∧ Ord zs.length (fun i => (rems t zs)[i]!) (ordOf (zs.length - 1) (rems t zs)) ∧ left t zs < zs.length ∧ (left t zs : Int) = t - tot (base t zs) := by
  have hp : 0 < zs.length := by
    rcases Nat.eq_zero_or_pos zs.length with e | e
    · have : zs = [] := List.eq_nil_of_length_eq_zero e
      have h2 := h.1.2.2
      rw [this] at h2; simp [tot] at h2
    · exact e
  have ho := isOrd (zs.length - 1) (rems t zs)
  rw [show zs.length - 1 + 1 = zs.length by omega] at ho
  have hl := left_lt t zs (by rw [← tot_sum]; exact h.1.2.2)
  have e : (zs.map fun x => t * x / zs.sum).sum = tot (base t zs) := by rw [tot_sum]; unfold base; rw [tot_sum]
  rw [e] at hl
  refine ⟨hp, ho, ?_, ?_⟩
  · unfold left; omega
  · unfold left; omega

/-- The shares add up to the total. -/
theorem shares_tot {t : Int} {zs : List Int} (h : Takes t zs) : tot (shares t zs) = t := by
  obtain ⟨hp, ho, hl, he⟩ := ordN h
  unfold shares
  rw [tot_sum, bumps_sum ho (base t zs) (base_length t zs) _ (by omega), ← tot_sum, he]
  omega

/-- Each share is its quotient or one more. -/
theorem shares_near {t : Int} {zs : List Int} (h : Takes t zs) (i : Nat) (hi : i < zs.length) : (shares t zs)[i]! = t * zs[i] / tot zs ∨ (shares t zs)[i]! = t * zs[i] / tot zs + 1 := by
  obtain ⟨hp, ho, hl, he⟩ := ordN h
  obtain ⟨l, hl2, rfl⟩ := ho.all i hi
  have B := bumps_get ho (base t zs) (base_length t zs) (left t zs) (by omega)
  have e : (base t zs)[ordOf (zs.length - 1) (rems t zs) l]! = t * zs[ordOf (zs.length - 1) (rems t zs) l] / tot zs := by
    rw [getElem!_pos _ _ (by rw [base_length]; exact hi), base_get]
  unfold shares
  rw [← e]
  by_cases hc : l < left t zs
  · exact .inr (B.1 l hc)
  · exact .inl (B.2 l (by omega) hl2)

end Go.Proofs.Ytjibnfeeomlnlaa.ShareSum
