/-
  The union of two lists in plain facts: putting in order, and sorting with equal neighbours struck, give the same list.
-/
import Derived.Test.YtomloodakabcbaaBiz
import Derived.Lib.SlicesCompact
namespace Go.Proofs.Ytomloodakabcbaa.UniMath
open Go.Proofs.Ytomloodakabcbaa.Biz Go.Lib

/-- n put into its place, if it is not there. -/
def putL : List Int → Int → List Int
  | [], n => [n]
  | x :: l, n => if x < n then x :: putL l n else if x = n then x :: l else n :: x :: l

def uni (a b : List Int) : List Int := b.foldl putL a

theorem mem_putL (l : List Int) (n m : Int) : m ∈ putL l n ↔ m = n ∨ m ∈ l := by
  induction l with
  | nil => simp [putL]
  | cons x l ih =>
    unfold putL
    by_cases h : x < n
    · simp only [h, if_true, List.mem_cons, ih]; constructor
      · rintro (h | h | h) <;> simp [h]
      · rintro (h | h | h) <;> simp [h]
    · by_cases e : x = n
      · rw [if_neg h, if_pos e, List.mem_cons]; constructor
        · rintro (h | h) <;> simp [h]
        · rintro (h | h | h)
          · exact Or.inl (h.trans e.symm)
          · exact Or.inl h
          · exact Or.inr h
      · simp only [h, e, if_false, List.mem_cons]

theorem pair_putL {l : List Int} (h : l.Pairwise (· < ·)) (n : Int) : (putL l n).Pairwise (· < ·) := by
  induction l with
  | nil => simp [putL]
  | cons x l ih =>
    have h1 := List.pairwise_cons.1 h
    unfold putL
    by_cases hx : x < n
    · simp only [hx, if_true]
      refine List.pairwise_cons.2 ⟨fun m hm => ?_, ih h1.2⟩
      rcases (mem_putL l n m).1 hm with e | e
      · subst e; exact hx
      · exact h1.1 m e
    · by_cases e : x = n
      · rw [if_neg hx, if_pos e]; exact h
      · simp only [hx, e, if_false]
        refine List.pairwise_cons.2 ⟨fun m hm => ?_, h⟩
        rcases List.mem_cons.1 hm with e' | e'
        · subst e'; omega
        · have := h1.1 m e'; omega

theorem mem_uni (b : List Int) : ∀ (a : List Int) (m : Int), m ∈ uni a b ↔ m ∈ a ∨ m ∈ b := by
  induction b with
  | nil => intro a m; simp [uni]
  | cons x b ih =>
    intro a m
    have := ih (putL a x) m
    unfold uni at this ⊢
    rw [List.foldl_cons, this, mem_putL, List.mem_cons]
    constructor
    · rintro ((h | h) | h) <;> simp [h]
    · rintro (h | h | h) <;> simp [h]

theorem pair_uni (b : List Int) : ∀ {a : List Int}, a.Pairwise (· < ·) → (uni a b).Pairwise (· < ·) := by
  induction b with
  | nil => intro a h; exact h
  | cons x b ih => intro a h; exact ih (pair_putL h x)

theorem length_putL (l : List Int) (n : Int) : (putL l n).length ≤ l.length + 1 := by
  induction l with
  | nil => simp [putL]
  | cons x l ih =>
    unfold putL
    by_cases h : x < n
    · simp only [h, if_true, List.length_cons]; omega
    · by_cases e : x = n <;> simp [h, e]

theorem length_uni (b : List Int) : ∀ (a : List Int), (uni a b).length ≤ a.length + b.length := by
  induction b with
  | nil => intro a; simp [uni]
  | cons x b ih =>
    intro a
    have h1 := ih (putL a x)
    have h2 := length_putL a x
    have e : uni a (x :: b) = uni (putL a x) b := rfl
    rw [e, List.length_cons]; omega

theorem uni_snoc (a b : List Int) (x : Int) : uni a (b ++ [x]) = putL (uni a b) x := by simp [uni]

/-- Two lists that rise strictly and have the same members are one. -/
theorem eq_of_mem : ∀ {a b : List Int}, a.Pairwise (· < ·) → b.Pairwise (· < ·) → (∀ m, m ∈ a ↔ m ∈ b) → a = b := by
  intro a
  induction a with
  | nil =>
    intro b _ _ h
    cases b with
    | nil => rfl
    | cons y b => exact absurd ((h y).2 (by simp)) (by simp)
  | cons x a ih =>
    intro b ha hb h
    cases b with
    | nil => exact absurd ((h x).1 (by simp)) (by simp)
    | cons y b =>
      have h1 := List.pairwise_cons.1 ha
      have h2 := List.pairwise_cons.1 hb
      have e : x = y := by
        rcases List.mem_cons.1 ((h x).1 (by simp)) with e | e
        · exact e
        · rcases List.mem_cons.1 ((h y).2 (by simp)) with e' | e'
          · exact e'.symm
          · have := h2.1 x e; have := h1.1 y e'; omega
      subst e
      congr 1
      refine ih h1.2 h2.2 (fun m => ?_)
      constructor
      · intro hm
        rcases List.mem_cons.1 ((h m).1 (by simp [hm])) with e | e
        · have := h1.1 m hm; omega
        · exact e
      · intro hm
        rcases List.mem_cons.1 ((h m).2 (by simp [hm])) with e | e
        · have := h2.1 m hm; omega
        · exact e

/-- n's place in l. -/
theorem putL_at : ∀ (l : List Int) (n : Int) (k : Nat), k ≤ l.length → (∀ j, j < k → l.getD j 0 < n) → (k < l.length → n ≤ l.getD k 0) →
    putL l n = if k < l.length ∧ l.getD k 0 = n then l else (l.take k ++ [n]) ++ l.drop k := by
  intro l
  induction l with
  | nil =>
    intro n k hk _ _
    have : k = 0 := by simpa using hk
    subst this
    simp [putL]
  | cons x l ih =>
    intro n k hk hlo hhi
    cases k with
    | zero =>
      have h1 : n ≤ x := by simpa using hhi (by simp)
      unfold putL
      by_cases e : x = n
      · simp [e]
      · have : ¬ x < n := by omega
        simp [e, this]
    | succ k =>
      have h1 : x < n := by simpa using hlo 0 (by omega)
      have := ih n k (by simpa using hk) (fun j hj => by simpa using hlo (j + 1) (by omega)) (fun hj => by simpa using hhi (by simpa using hj))
      unfold putL
      rw [if_pos h1, this]
      by_cases c : k < l.length ∧ l.getD k 0 = n
      · have c' : k + 1 < (x :: l).length ∧ (x :: l).getD (k + 1) 0 = n := by simpa using c
        rw [if_pos c, if_pos c']
      · have c' : ¬ (k + 1 < (x :: l).length ∧ (x :: l).getD (k + 1) 0 = n) := by simpa using c
        rw [if_neg c, if_neg c']; simp

theorem get_bang (zs : List Int) {i : Nat} (h : i < zs.length) : zs.toArray[i]! = zs[i] := by simp [h]

theorem compactUp (zs : List Int) (h : zs.Pairwise (· ≤ ·)) : ∀ m, m ≤ zs.length →
    (compactUpTo zs.toArray m).Pairwise (· < ·) ∧ (∀ x, x ∈ compactUpTo zs.toArray m ↔ x ∈ zs.take m) := by
  intro m
  induction m with
  | zero => intro _; simp [compactUpTo]
  | succ m ih =>
    intro hm
    obtain ⟨h1, h2⟩ := ih (by omega)
    rw [compactUpTo_succ]
    have ht : zs.take (m + 1) = zs.take m ++ [zs[m]'(by omega)] := List.take_succ_eq_append_getElem (by omega)
    have hle : ∀ x ∈ zs.take m, x ≤ zs[m]'(by omega) := fun x hx => by
      obtain ⟨i, hi, e⟩ := List.mem_iff_getElem.1 hx
      have hi' : i < m := by simp at hi; omega
      rw [List.getElem_take] at e
      subst e
      exact List.pairwise_iff_getElem.1 h i m (by omega) (by omega) hi'
    rw [ht, get_bang zs (by omega)]
    by_cases c : keeps zs.toArray m = true
    · rw [if_pos c]
      have hlt : ∀ x ∈ zs.take m, x < zs[m]'(by omega) := fun x hx => by
        obtain ⟨i, hi, e⟩ := List.mem_iff_getElem.1 hx
        have hi' : i < m := by simp at hi; omega
        rw [List.getElem_take] at e
        subst e
        have c1 : zs[m]'(by omega) ≠ zs[m - 1]'(by omega) := by
          have c0 := of_decide_eq_true c
          rw [get_bang zs (show m < zs.length by omega), get_bang zs (show m - 1 < zs.length by omega)] at c0
          rcases c0 with c0 | c0
          · omega
          · exact c0
        have c2 := List.pairwise_iff_getElem.1 h (m - 1) m (by omega) (by omega) (by omega)
        by_cases e : i = m - 1
        · subst e; omega
        · have c3 := List.pairwise_iff_getElem.1 h i (m - 1) (by omega) (by omega) (by omega)
          omega
      refine ⟨?_, fun x => by rw [List.mem_append, List.mem_append, h2 x]⟩
      rw [List.pairwise_append]
      exact ⟨h1, by simp, fun x hx y hy => by
        have : y = zs[m]'(by omega) := by simpa using hy
        subst this; exact hlt x ((h2 x).1 hx)⟩
    · have hm0 : m ≠ 0 := fun e => c (by subst e; exact keeps_lt_one _ 0 (by omega))
      have e1 : zs[m]'(by omega) = zs[m - 1]'(by omega) := Classical.byContradiction fun e => c (keeps_pos (by
        rw [get_bang zs (show m < zs.length by omega), get_bang zs (show m - 1 < zs.length by omega)]; exact e))
      rw [if_neg c, List.append_nil]
      refine ⟨h1, fun x => ?_⟩
      rw [h2 x, List.mem_append]
      constructor
      · exact Or.inl
      · rintro (hx | hx)
        · exact hx
        · have : x = zs[m]'(by omega) := by simpa using hx
          rw [this, e1]
          exact List.mem_iff_getElem.2 ⟨m - 1, by simp; omega, by rw [List.getElem_take]⟩

/-- Sorting and striking equal neighbours gives the union. -/
theorem compact_sort (a b : List Int) (ha : a.Pairwise (· < ·)) : compact ((a ++ b).mergeSort fun x y => decide (x ≤ y)) = uni a b := by
  have hs : ((a ++ b).mergeSort fun x y => decide (x ≤ y)).Pairwise (· ≤ ·) := by
    have := List.pairwise_mergeSort (le := fun x y : Int => decide (x ≤ y)) (fun a b c h1 h2 => by simp at *; omega) (fun a b => by simp; omega) (a ++ b)
    exact this.imp (fun h => by simpa using h)
  obtain ⟨h1, h2⟩ := compactUp _ hs _ (Nat.le_refl _)
  refine eq_of_mem h1 (pair_uni b ha) (fun m => ?_)
  unfold compact
  rw [h2 m, List.take_length, List.mem_mergeSort, List.mem_append, mem_uni]

end Go.Proofs.Ytomloodakabcbaa.UniMath
