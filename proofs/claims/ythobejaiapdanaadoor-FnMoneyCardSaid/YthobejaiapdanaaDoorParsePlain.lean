/-
  Plain facts on reading the text of an amount back. No program stands in it.
-/
import Derived.Test.YthobejaiapdanaaDoorFmtPlain
import Derived.Test.YthobejaiapdanaaDoorIntText
import Derived.Lib.Replace
namespace Go.Proofs.YthobejaiapdanaaDoor.ParsePlain
open Go Go.Lib Go.Proofs.YthobejaiapdanaaDoor.FmtPlain Go.Proofs.YthobejaiapdanaaDoor.IntText

/-- A digit's byte. -/
def Dig (c : UInt8) : Prop := 48 ≤ c.toNat ∧ c.toNat ≤ 57
instance (c : UInt8) : Decidable (Dig c) := inferInstanceAs (Decidable (_ ∧ _))

def step (x : Nat) (c : UInt8) : Nat := if Dig c then 10 * x + (c.toNat - 48) else x
/-- The number of a text's digits, whatever stands between them. -/
def val (l : List UInt8) : Nat := l.foldl step 0

theorem val_snoc (l : List UInt8) (c : UInt8) : val (l ++ [c]) = step (val l) c := by simp [val, List.foldl_append]

theorem digit_toNat (d : Nat) (h : d < 10) : (UInt8.ofNat (48 + d)).toNat = 48 + d := by
  have hd : ∀ i : Fin 10, (UInt8.ofNat (48 + i.val)).toNat = 48 + i.val := by decide
  exact hd ⟨d, h⟩

theorem dig_digit (d : Nat) (h : d < 10) : Dig (UInt8.ofNat (48 + d)) := by
  unfold Dig; rw [digit_toNat d h]; omega

theorem step_digit (x d : Nat) (h : d < 10) : step x (UInt8.ofNat (48 + d)) = 10 * x + d := by
  unfold step
  rw [if_pos (dig_digit d h), digit_toNat d h]; omega

theorem val_dec (u : Nat) : val (decDigits u) = u := by
  induction u using Nat.strongRecOn with
  | ind u ih =>
    rw [decDigits.eq_def u]
    split
    · rename_i h
      have := val_snoc [] (UInt8.ofNat (48 + u))
      rw [List.nil_append] at this
      rw [this, step_digit _ _ h]; simp [val]
    · rw [val_snoc, ih (u / 10) (by omega), step_digit _ _ (by omega)]; omega

theorem dig_dec (u : Nat) : ∀ c ∈ decDigits u, Dig c := by
  induction u using Nat.strongRecOn with
  | ind u ih =>
    rw [decDigits.eq_def u]
    split
    · rename_i h
      intro c hc
      rw [List.mem_singleton] at hc
      subst hc; exact dig_digit u h
    · intro c hc
      rw [List.mem_append, List.mem_singleton] at hc
      rcases hc with hc | rfl
      · exact ih (u / 10) (by omega) c hc
      · exact dig_digit _ (by omega)

theorem dig_two (k : Nat) (h : k < 100) : ∀ c ∈ two k, Dig c := by
  intro c hc
  simp only [two, List.mem_cons, List.not_mem_nil, or_false] at hc
  rcases hc with rfl | rfl
  · exact dig_digit _ (by omega)
  · exact dig_digit _ (by omega)

theorem val_body (N : Nat) : val (body N) = N := by
  have e : body N = ((decDigits (N / 100) ++ [46]) ++ [UInt8.ofNat (48 + N % 100 / 10)]) ++ [UInt8.ofNat (48 + N % 100 % 10)] := by
    simp [body, two]
  rw [e, val_snoc, val_snoc, val_snoc, val_dec, step_digit _ _ (by omega), step_digit _ _ (by omega)]
  have : step (N / 100) 46 = N / 100 := rfl
  omega

theorem val_neg (l : List UInt8) : val (45 :: l) = val l := by
  unfold val; rfl

theorem val_text (x : Int) : val (text x) = x.natAbs := by
  unfold text
  split
  · rw [val_neg, val_body]
  · rw [val_body]

theorem body_cons (N : Nat) : ∃ c t, body N = c :: t ∧ Dig c := by
  unfold body
  cases h : decDigits (N / 100) with
  | nil => exact absurd h (digits_ne _)
  | cons c t => exact ⟨c, _, rfl, dig_dec (N / 100) c (by rw [h]; exact List.mem_cons_self)⟩

/-- The first byte tells the sign. -/
theorem head_text (x : Int) : ∃ c t, text x = c :: t ∧ (c = 45 ↔ x < 0) := by
  unfold text
  split
  · rename_i h; exact ⟨45, _, rfl, by simp [h]⟩
  · rename_i h
    obtain ⟨c, t, e, hc⟩ := body_cons x.natAbs
    exact ⟨c, t, e, ⟨fun h' => by subst h'; exact absurd hc (by decide), fun h' => absurd h' h⟩⟩

/-- Which byte may stand at place i. -/
def May (i : Nat) (c : UInt8) : Prop := Dig c ∨ c = 46 ∨ (c = 45 ∧ i = 0)

theorem may_body (N : Nat) : ∀ c ∈ body N, Dig c ∨ c = 46 := by
  intro c hc
  unfold body at hc
  rw [List.mem_append, List.mem_cons] at hc
  rcases hc with h | h | h
  · exact .inl (dig_dec _ c h)
  · exact .inr h
  · exact .inl (dig_two _ (by omega) c h)

theorem may_text (x : Int) (i : Nat) (h : i < (text x).length) : May i (text x)[i] := by
  unfold text at h ⊢
  split at h
  · rename_i hx
    simp only [hx, if_true]
    cases i with
    | zero => exact .inr (.inr ⟨rfl, rfl⟩)
    | succ i =>
      have := may_body x.natAbs ((45 :: body x.natAbs)[i + 1]'h) (by simp)
      rcases this with h1 | h1
      · exact .inl h1
      · exact .inr (.inl h1)
  · rename_i hx
    simp only [hx, if_false]
    rcases may_body x.natAbs ((body x.natAbs)[i]'h) (List.getElem_mem _) with h1 | h1
    · exact .inl h1
    · exact .inr (.inl h1)

theorem dec_pos (u : Nat) : 1 ≤ (decDigits u).length := by
  have := digits_ne u
  cases h : decDigits u with
  | nil => exact absurd h this
  | cons a t => simp

theorem dec_le8 (u : Nat) (h : u ≤ 10000000) : (decDigits u).length ≤ 8 := by
  have stp : ∀ k u, u < 10 ^ (k + 1) → (Lib.decDigits u).length ≤ k + 1 := by
    intro k
    induction k with
    | zero => intro u h; rw [Lib.decDigits.eq_def u, dif_pos (by omega)]; simp
    | succ k ih =>
      intro u h
      rw [Lib.decDigits.eq_def u]
      split
      · simp
      · have := ih (u / 10) (by rw [Nat.pow_succ] at h; omega)
        simp; omega
  exact stp 7 u (by omega)

theorem len_text (x : Int) (h0 : -1000000000 ≤ x) (h1 : x ≤ 1000000000) : 4 ≤ (text x).length ∧ (text x).length ≤ 12 := by
  have a := dec_pos (x.natAbs / 100)
  have b := dec_le8 (x.natAbs / 100) (by omega)
  unfold text
  split <;> simp [body, two] <;> omega

theorem val_lt (l : List UInt8) : val l < 10 ^ l.length := by
  have : ∀ n, ∀ l : List UInt8, l.length = n → val l < 10 ^ l.length := by
    intro n
    induction n with
    | zero => intro l hl; rw [List.length_eq_zero_iff] at hl; subst hl; simp [val]
    | succ n ih =>
      intro l hl
      have hne : l ≠ [] := by intro h; subst h; simp at hl
      have e := List.dropLast_concat_getLast hne
      have hlen : l.dropLast.length = n := by simp; omega
      have := ih l.dropLast hlen
      rw [← e, val_snoc, List.length_append, hlen, List.length_singleton, Nat.pow_succ]
      rw [hlen] at this
      unfold step
      split
      · rename_i hd; have := hd.2; omega
      · omega
  exact this _ l rfl

/-- The text without its point. -/
def flat (x : Int) : List UInt8 := (if x < 0 then [45] else []) ++ (decDigits (x.natAbs / 100) ++ two (x.natAbs % 100))

theorem index_at (a b : List UInt8) (ha : ∀ c ∈ a, c ≠ 46) : index (a ++ 46 :: b) [46] = (a.length : Int) := by
  induction a with
  | nil => simp [index, List.isPrefixOf]
  | cons c a ih =>
    have hc : c ≠ 46 := ha c List.mem_cons_self
    have h1 := ih (fun d hd => ha d (List.mem_cons_of_mem _ hd))
    rw [List.cons_append, index]
    have hp : ([46] : List UInt8).isPrefixOf (c :: (a ++ 46 :: b)) = false := by
      simp [List.isPrefixOf]; exact fun h => hc h.symm
    rw [hp, h1]
    have hn : ((a.length : Int) == -1) = false := by simp <;> omega
    simp [hn]

theorem replace_at (a b : List UInt8) (ha : ∀ c ∈ a, c ≠ 46) : replace (a ++ 46 :: b) [46] [] 1 = a ++ b := by
  have hi := index_at a b ha
  unfold replace
  rw [if_neg (by decide)]
  have hc : ¬ ((1 : Int) < 0 ∨ (count (a ++ 46 :: b) [46] : Int) < 1) := by
    unfold count countFrom
    rw [hi]
    have hn : ((a.length : Int) == -1) = false := by simp <;> omega
    rw [hn]
    simp; omega
  unfold replaceNum
  rw [if_neg hc, show (1 : Int).toNat = 0 + 1 from rfl, replaceK_hit [46] [] 0 _ a.length hi]
  simp [replaceK]

theorem text_split (x : Int) : ∃ a, text x = a ++ 46 :: two (x.natAbs % 100) ∧ (∀ c ∈ a, c ≠ 46) ∧ flat x = a ++ two (x.natAbs % 100) := by
  refine ⟨(if x < 0 then [45] else []) ++ decDigits (x.natAbs / 100), ?_, ?_, ?_⟩
  · unfold text body; split <;> simp
  · intro c hc
    rw [List.mem_append] at hc
    rcases hc with h | h
    · split at h
      · rw [List.mem_singleton] at h; subst h; decide
      · cases h
    · have := dig_dec _ c h
      intro e; subst e; exact absurd this (by decide)
  · unfold flat; simp

theorem replace_text (x : Int) : replace (text x) [46] [] 1 = flat x := by
  obtain ⟨a, h1, h2, h3⟩ := text_split x
  rw [h1, h3, replace_at a _ h2]

theorem decFrom_flat (N : Nat) : decFrom 0 (decDigits (N / 100) ++ two (N % 100)) = some N := by
  have e : decDigits (N / 100) ++ two (N % 100) = (decDigits (N / 100) ++ [UInt8.ofNat (48 + N % 100 / 10)]) ++ [UInt8.ofNat (48 + N % 100 % 10)] := by simp [two]
  rw [e, decFrom_append, decFrom_append, decFrom_digits, digitVal_digit _ (by omega), digitVal_digit _ (by omega)]
  simp only [Option.bind_some, Option.map_some]
  congr 1; omega

theorem decNat_flat (N : Nat) : decNat (decDigits (N / 100) ++ two (N % 100)) = some N := by
  unfold decNat
  rw [if_neg (by simp [two]), decFrom_flat]

theorem atoi_flat (x : Int) : atoi (flat x) = some x := by
  unfold flat
  split
  · rename_i h
    show atoi (45 :: (decDigits (x.natAbs / 100) ++ two (x.natAbs % 100))) = some x
    simp only [atoi, beq_self_eq_true, if_true, decNat_flat, Option.map_some]
    congr 1; omega
  · rename_i h
    rw [List.nil_append]
    cases hd : decDigits (x.natAbs / 100) ++ two (x.natAbs % 100) with
    | nil => simp [two] at hd
    | cons a t =>
      have h1 := decFrom_flat x.natAbs
      rw [hd] at h1
      obtain ⟨h2, h3⟩ := decFrom_head a t 0 _ h1
      have e1 : (a == 45) = false := by
        apply beq_eq_false_iff_ne.2; intro e; subst e; exact absurd h2 (by decide)
      have e2 : (a == 43) = false := by
        apply beq_eq_false_iff_ne.2; intro e; subst e; exact absurd h2 (by decide)
      simp only [atoi, e1, e2]
      rw [← hd, decNat_flat]
      simp; omega

theorem atoiAll_flat (x : Int) (h0 : -1000000000 ≤ x) (h1 : x ≤ 1000000000) : atoiAll (flat x) = .ok x := by
  have hl : (flat x).length ≤ 11 := by
    have b := dec_le8 (x.natAbs / 100) (by omega)
    unfold flat
    split <;> simp [two] <;> omega
  rw [atoiAll_short _ (by omega), atoi_flat]
  rfl

end Go.Proofs.YthobejaiapdanaaDoor.ParsePlain
