/-
  Plain facts on the sharing of an amount: the insertion sort keeps equal ones in their order; the first of the greatest of what is left is the next one of the sorted row; fewer units are left than there are shares. No program stands in it.
-/
import Derived.WalkKit
import Derived.Sort.LotA
namespace Go.Proofs.Ytjibnfeeomlnlaa.ShareMath
open Go.Sort

section
variable {α : Type} [Inhabited α] (key : α → Int) (ix : α → Nat)

/-- The greater value first. -/
def big (x y : α) : Bool := decide (key y < key x)
/-- The greater value first, and of equal ones the smaller index. -/
def bigF (x y : α) : Bool := decide (key y < key x ∨ key y = key x ∧ ix x < ix y)

theorem insInner_eq (a : Nat) : ∀ (j : Nat) (d : Array α), j < d.size → (∀ k, k < j → ix d[k]! < ix d[j]!) →
    insInner (big key) a j d = insInner (bigF key ix) a j d
  | 0, _, _, _ => rfl
  | j + 1, d, hj, h => by
    have h1 := h j (by omega)
    have e : big key d[j + 1]! d[j]! = bigF key ix d[j + 1]! d[j]! := by
      unfold big bigF; congr 1; apply propext
      constructor
      · intro h; exact Or.inl h
      · rintro (h | ⟨_, h⟩)
        · exact h
        · omega
    unfold insInner
    rw [e]
    split
    · refine insInner_eq a j (swp d (j + 1) j) (by rw [swp_size]; omega) ?_
      intro k hk
      rw [swp_get d hj (by omega), swp_get d hj (by omega)]
      simp only [if_true, show k ≠ j by omega, show k ≠ j + 1 by omega, if_false]
      exact h k (by omega)
    · rfl

theorem insInner_keeps (lt : α → α → Bool) (p : α → Prop) (a i : Nat) : ∀ (j : Nat) (d : Array α), j ≤ i → i < d.size → (∀ k, k ≤ i → p d[k]!) →
    (insInner lt a j d).size = d.size ∧ (∀ k, k ≤ i → p (insInner lt a j d)[k]!) ∧ ∀ k, i < k → (insInner lt a j d)[k]! = d[k]!
  | 0, d, _, _, h => ⟨rfl, h, fun _ _ => rfl⟩
  | j + 1, d, hj, hi, h => by
    unfold insInner
    split
    · have g := swp_get d (show j + 1 < d.size by omega) (show j < d.size by omega)
      have ih := insInner_keeps lt p a i j (swp d (j + 1) j) (by omega) (by rw [swp_size]; exact hi) (by
        intro k hk; rw [g]; split
        · exact h _ (by omega)
        · split
          · exact h _ (by omega)
          · exact h _ hk)
      refine ⟨by rw [ih.1, swp_size], ih.2.1, ?_⟩
      intro k hk
      rw [ih.2.2 k hk, g, if_neg (by omega), if_neg (by omega)]
    · exact ⟨rfl, h, fun _ _ => rfl⟩

theorem insOuter_eq (b : Nat) : ∀ (n i : Nat) (d : Array α), b - i = n → b ≤ d.size →
    (∀ k l, k < i → i ≤ l → l < b → ix d[k]! < ix d[l]!) → (∀ k l, i ≤ k → k < l → l < b → ix d[k]! < ix d[l]!) →
    insOuter (big key) 0 b i d = insOuter (bigF key ix) 0 b i d
  | 0, i, d, hn, _, _, _ => by
    rw [insOuter.eq_1 (big key), insOuter.eq_1 (bigF key ix), if_neg (by omega), if_neg (by omega)]
  | n + 1, i, d, hn, hb, h1, h2 => by
    have hi : i < b := by omega
    rw [insOuter.eq_1 (big key), insOuter.eq_1 (bigF key ix), if_pos hi, if_pos hi, insInner_eq key ix 0 i d (by omega) (fun k hk => h1 k i hk (Nat.le_refl _) hi)]
    have K := insInner_keeps (bigF key ix) (fun x => ∀ l, i < l → l < b → ix x < ix d[l]!) 0 i i d (Nat.le_refl _) (by omega) (by
      intro k hk l hl hlb
      by_cases e : k = i
      · subst e; exact h2 k l (Nat.le_refl _) hl hlb
      · exact h1 k l (by omega) (by omega) hlb)
    refine insOuter_eq b n (i + 1) _ (by omega) (by rw [K.1]; exact hb) ?_ ?_
    · intro k l hk hl hlb
      rw [K.2.2 l (by omega)]
      exact K.2.1 k (by omega) l (by omega) hlb
    · intro k l hk hkl hlb
      rw [K.2.2 l (by omega), K.2.2 k (by omega)]
      exact h2 k l (by omega) hkl hlb

omit [Inhabited α] in
theorem bigF_swo : SWO (bigF key ix) where
  irrefl x := by simp [bigF]
  trans x y z h1 h2 := by
    simp only [bigF, decide_eq_true_eq] at *
    omega
  ntrans x y z h1 h2 := by
    simp only [bigF, decide_eq_false_iff_not] at *
    omega

/-- A row with rising indices, sorted by 'the greater value first' with the insertion sort: a permutation, sorted by 'the greater value, and of equal ones the smaller index'. -/
theorem sorted (d : Array α) (h : ∀ k l, k < l → l < d.size → ix d[k]! < ix d[l]!) :
    PermIn 0 d.size d (insertionSort (big key) d 0 d.size) ∧ SortedIn (bigF key ix) 0 d.size (insertionSort (big key) d 0 d.size) := by
  have e : insertionSort (big key) d 0 d.size = insertionSort (bigF key ix) d 0 d.size := by
    unfold insertionSort
    exact insOuter_eq key ix d.size _ 1 d rfl (Nat.le_refl _) (fun k l hk hl hlb => h k l (by omega) hlb) (fun k l _ hkl hlb => h k l hkl hlb)
  rw [e]
  exact insertionSort_holds (bigF_swo key ix) d 0 d.size (Nat.zero_le _) (Nat.le_refl _)
end

/-- The order in which the left units are given: all places below n, the greater remainder first, and of equal ones the smaller place. -/
structure Ord (n : Nat) (r : Nat → Int) (o : Nat → Nat) : Prop where
  lt : ∀ k, k < n → o k < n
  all : ∀ i, i < n → ∃ k, k < n ∧ o k = i
  srt : ∀ k l, k < l → l < n → r (o l) < r (o k) ∨ r (o l) = r (o k) ∧ o k < o l

theorem Ord.inj {n : Nat} {r : Nat → Int} {o : Nat → Nat} (h : Ord n r o) {k l : Nat} (hk : k < n) (hl : l < n) (e : o k = o l) : k = l := by
  rcases Nat.lt_trichotomy k l with h1 | h1 | h1
  · have := h.srt k l h1 hl; rw [e] at this; omega
  · exact h1
  · have := h.srt l k h1 hk; rw [e] at this; omega

theorem get_fin {n : Nat} (k : Nat) (hk : k < n + 1) : ((Array.finRange (n + 1))[k]!).val = k := by
  rw [getElem!_pos _ _ (by simpa using hk)]; simp

/-- The sorted row of the places is such an order. -/
theorem ord {n : Nat} (r : Nat → Int) :
    Ord (n + 1) r (fun k => ((insertionSort (big (fun i : Fin (n + 1) => r i.val)) (Array.finRange (n + 1)) 0 (n + 1))[k]!).val) := by
  have S := sorted (fun i : Fin (n + 1) => r i.val) (fun i => i.val) (Array.finRange (n + 1)) (by
    intro k l hkl hl
    simp only [Array.size_finRange] at hl
    rw [get_fin k (by omega), get_fin l hl]; exact hkl)
  simp only [Array.size_finRange] at S
  generalize insertionSort (big (fun i : Fin (n + 1) => r i.val)) (Array.finRange (n + 1)) 0 (n + 1) = O at S
  obtain ⟨⟨hs, -, hp⟩, hS⟩ := S
  simp only [Array.size_finRange] at hs
  have eO : O.extract 0 (n + 1) = O := Array.extract_eq_self_of_le (by omega)
  have eF : (Array.finRange (n + 1)).extract 0 (n + 1) = Array.finRange (n + 1) := Array.extract_eq_self_of_le (by simp)
  have eL : (Array.finRange (n + 1)).toList = List.finRange (n + 1) := by simp [Array.finRange, List.finRange]
  rw [eO, eF, eL] at hp
  refine ⟨fun k _ => Fin.isLt _, ?_, ?_⟩
  · intro i hi
    have : (⟨i, hi⟩ : Fin (n + 1)) ∈ O.toList := hp.mem_iff.mpr (by simp)
    obtain ⟨k, hk, e⟩ := List.getElem_of_mem this
    have hk' : k < O.size := by simpa using hk
    refine ⟨k, by omega, ?_⟩
    show (O[k]!).val = i
    rw [getElem!_pos O k hk']
    have : O[k] = ⟨i, hi⟩ := by simpa using e
    rw [this]
  · intro k l hkl hl
    -- the places differ: the row has no double
    have nd : O.toList.Nodup := hp.nodup_iff.mpr (List.nodup_finRange (n + 1))
    have h1 := hS k l (Nat.zero_le _) hkl hl
    simp only [bigF, decide_eq_false_iff_not] at h1
    have hne : (O[k]!).val ≠ (O[l]!).val := by
      rw [getElem!_pos O k (by omega), getElem!_pos O l (by omega)]
      intro e
      have e2 : O.toList[k]'(by simp; omega) = O.toList[l]'(by simp; omega) := by simpa using Fin.ext e
      exact (List.pairwise_iff_getElem.mp nd) k l _ _ hkl e2
    show r (O[l]!).val < r (O[k]!).val ∨ r (O[l]!).val = r (O[k]!).val ∧ (O[k]!).val < (O[l]!).val
    omega

/-! ### The picks -/
/-- The row behind k picks: what was picked is -1. -/
def rests (o : Nat → Nat) (s : List Int) : Nat → List Int
  | 0 => s
  | k + 1 => (rests o s k).set (o k) (-1)

/-- The row behind k picks: one more for each. -/
def bumps (o : Nat → Nat) (s : List Int) : Nat → List Int
  | 0 => s
  | k + 1 => (bumps o s k).set (o k) ((bumps o s k)[o k]! + 1)

theorem rests_length (o : Nat → Nat) (s : List Int) (k : Nat) : (rests o s k).length = s.length := by
  induction k with
  | zero => rfl
  | succ k ih => simp [rests, ih]

theorem bumps_length (o : Nat → Nat) (s : List Int) (k : Nat) : (bumps o s k).length = s.length := by
  induction k with
  | zero => rfl
  | succ k ih => simp [bumps, ih]

theorem bumps_le (o : Nat → Nat) (s : List Int) (B : Int) (hs : ∀ i, i < s.length → 0 ≤ s[i]! ∧ s[i]! ≤ B) (k i : Nat) (hi : i < s.length) : 0 ≤ (bumps o s k)[i]! ∧ (bumps o s k)[i]! ≤ B + k := by
  induction k generalizing i with
  | zero => simpa [bumps] using hs i hi
  | succ k ih =>
    have h := ih i hi
    simp only [bumps]
    by_cases e : o k = i
    · subst e
      have hl : o k < (bumps o s k).length := by rw [bumps_length]; exact hi
      rw [List.getElem!_eq_getElem?_getD, List.getElem?_set_self hl]
      simp only [Option.getD_some]
      omega
    · rw [List.getElem!_eq_getElem?_getD, List.getElem?_set_ne e, ← List.getElem!_eq_getElem?_getD]
      omega

theorem rests_get {n : Nat} {r : Nat → Int} {o : Nat → Nat} (h : Ord n r o) (s : List Int) (hn : s.length = n) : ∀ (k : Nat), k ≤ n →
    (∀ l, l < k → (rests o s k)[o l]! = -1) ∧ ∀ l, k ≤ l → l < n → (rests o s k)[o l]! = s[o l]!
  | 0, _ => ⟨fun l hl => by omega, fun l _ _ => rfl⟩
  | k + 1, hk => by
    have ih := rests_get h s hn k (by omega)
    simp only [rests]
    constructor
    · intro l hl
      by_cases e : l = k
      · subst e
        rw [List.getElem!_eq_getElem?_getD, List.getElem?_set_self (by rw [rests_length, hn]; exact h.lt _ (by omega))]; rfl
      · have hne : o k ≠ o l := fun e2 => e (h.inj (by omega) (by omega) e2).symm
        rw [List.getElem!_eq_getElem?_getD, List.getElem?_set_ne hne, ← List.getElem!_eq_getElem?_getD]
        exact ih.1 l (by omega)
    · intro l hl hln
      have hne : o k ≠ o l := fun e2 => by have := h.inj (by omega) hln e2; omega
      rw [List.getElem!_eq_getElem?_getD, List.getElem?_set_ne hne, ← List.getElem!_eq_getElem?_getD]
      exact ih.2 l (by omega) hln

/-- The first of the greatest among the first m. -/
def best (t : List Int) : Nat → Nat
  | 0 => 0
  | m + 1 => if t[m]! > t[best t m]! then m else best t m

theorem best_lt (t : List Int) (m : Nat) (hm : 0 < m) : best t m < m := by
  induction m with
  | zero => omega
  | succ m ih =>
    simp only [best]
    split
    · omega
    · by_cases h : m = 0
      · subst h; simp [best]
      · have := ih (by omega); omega

theorem best_is (t : List Int) (b : Nat) : ∀ m, b < m → (∀ i, i < m → i ≠ b → t[i]! < t[b]! ∨ t[i]! = t[b]! ∧ b < i) → best t m = b
  | 0, hb, _ => by omega
  | m + 1, hb, h => by
    simp only [best]
    by_cases e : b = m
    · subst e
      by_cases h0 : b = 0
      · subst h0; simp [best]
      · have hl := best_lt t b (by omega)
        have := h (best t b) (by omega) (by omega)
        rw [if_pos (by omega)]
    · have ih := best_is t b m (by omega) (fun i hi hne => h i (by omega) hne)
      rw [ih]
      have := h m (by omega) (by omega)
      rw [if_neg (by omega)]

/-- The k-th choice is the k-th of the order. -/
theorem pick {n : Nat} {r : Nat → Int} {o : Nat → Nat} (h : Ord n r o) (s : List Int) (hn : s.length = n) (hr : ∀ i, i < n → s[i]! = r i) (h0 : ∀ i, i < n → 0 ≤ r i) (k : Nat) (hk : k < n) :
    best (rests o s k) n = o k := by
  have R := rests_get h s hn k (by omega)
  refine best_is _ _ _ (h.lt k hk) ?_
  intro i hi hne
  obtain ⟨l, hl, rfl⟩ := h.all i hi
  rw [R.2 k (Nat.le_refl _) hk, hr _ (h.lt k hk)]
  rcases Nat.lt_trichotomy l k with h1 | h1 | h1
  · rw [R.1 l h1]
    have := h0 _ (h.lt k hk)
    omega
  · subst h1; exact absurd rfl hne
  · rw [R.2 l (by omega) hl, hr _ (h.lt l hl)]
    exact h.srt k l h1 hl

/-! ### What is left -/
theorem sum_le (l : List Int) (B : Int) (h : ∀ x ∈ l, 0 ≤ x ∧ x ≤ B) : 0 ≤ l.sum ∧ l.sum ≤ B * l.length := by
  induction l with
  | nil => simp
  | cons a t ih =>
    have h1 := h a (by simp)
    have h2 := ih (fun x hx => h x (by simp [hx]))
    simp only [List.sum_cons, List.length_cons, Int.natCast_add, Int.mul_add]
    omega

theorem sum_split (W t : Int) (l : List Int) : (l.map (fun x => t * x / W)).sum * W + (l.map (fun x => t * x % W)).sum = t * l.sum := by
  induction l with
  | nil => simp
  | cons a s ih =>
    simp only [List.map_cons, List.sum_cons, Int.mul_add, Int.add_mul]
    have := Int.emod_add_mul_ediv (t * a) W
    rw [Int.mul_comm W] at this
    omega

/-- At least 0 and fewer units are left than there are shares. -/
theorem left_lt (t : Int) (l : List Int) (hW : 0 < l.sum) :
    0 ≤ t - (l.map (fun x => t * x / l.sum)).sum ∧ t - (l.map (fun x => t * x / l.sum)).sum < l.length := by
  have hl : 0 < l.length := by
    cases l with
    | nil => simp at hW
    | cons a s => simp
  have hs := sum_split l.sum t l
  have hb := sum_le (l.map (fun x => t * x % l.sum)) (l.sum - 1) (by
    intro x hx
    obtain ⟨y, -, rfl⟩ := List.mem_map.mp hx
    have := Int.emod_nonneg (t * y) (show l.sum ≠ 0 by omega)
    have := Int.emod_lt_of_pos (t * y) hW
    omega)
  rw [List.length_map] at hb
  generalize (l.map (fun x => t * x / l.sum)).sum = q at *
  generalize (l.map (fun x => t * x % l.sum)).sum = m at *
  generalize l.sum = W at *
  have e : (t - q) * W = m := by rw [Int.sub_mul]; omega
  constructor
  · rcases Int.lt_or_le (t - q) 0 with h | h
    · have : (t - q) * W ≤ (-1) * W := Int.mul_le_mul_of_nonneg_right (by omega) (by omega)
      omega
    · exact h
  · rcases Int.lt_or_le (t - q) l.length with h | h
    · exact h
    · have h1 : (l.length : Int) * W ≤ (t - q) * W := Int.mul_le_mul_of_nonneg_right h (by omega)
      have h2 : (W - 1) * (l.length : Int) = (l.length : Int) * W - l.length := by rw [Int.sub_mul, Int.mul_comm W]; omega
      omega

end Go.Proofs.Ytjibnfeeomlnlaa.ShareMath
