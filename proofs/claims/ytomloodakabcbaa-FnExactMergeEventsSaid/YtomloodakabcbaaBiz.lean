/-
  Business days in plain facts: ascending lists, the first wanted day on a way, the n-th, the count.
-/
import Derived.Test.YtomloodakabcbaaCal
namespace Go.Proofs.Ytomloodakabcbaa.Biz
open Go.Proofs.Ytomloodakabcbaa.Cal

/-- The number at place j fits behind those ahead of it. -/
def Fits (zs : List Int) (last : Int) (j : Nat) : Prop := 0 ≤ zs.getD j 0 ∧ zs.getD j 0 ≤ last ∧ (0 < j → zs.getD (j - 1) 0 < zs.getD j 0)
instance (zs : List Int) (last : Int) (j : Nat) : Decidable (Fits zs last j) := inferInstanceAs (Decidable (_ ∧ _ ∧ _))
def Up (zs : List Int) (last : Int) (k : Nat) : Prop := ∀ j, j < k → Fits zs last j
instance (zs : List Int) (last : Int) (k : Nat) : Decidable (Up zs last k) := inferInstanceAs (Decidable (∀ j, j < k → _))
/-- A strictly ascending list of at most lim numbers in 0..last. -/
def Asc (zs : List Int) (lim : Nat) (last : Int) : Prop := zs.length ≤ lim ∧ Up zs last zs.length
instance (zs : List Int) (lim : Nat) (last : Int) : Decidable (Asc zs lim last) := inferInstanceAs (Decidable (_ ∧ _))
def GoodC (we ho : List Int) : Prop := Asc we 6 6 ∧ Asc ho 40 36524
instance (we ho : List Int) : Decidable (GoodC we ho) := inferInstanceAs (Decidable (_ ∧ _))

theorem up_zero (zs : List Int) (last : Int) : Up zs last 0 := fun j h => by omega
theorem up_succ {zs : List Int} {last : Int} {k : Nat} (h : Up zs last k) (h2 : Fits zs last k) : Up zs last (k + 1) := fun j hj => by
  by_cases e : j = k
  · subst e; exact h2
  · exact h j (by omega)
theorem not_asc {zs : List Int} {lim : Nat} {last : Int} {k : Nat} (hk : k < zs.length) (h2 : ¬ Fits zs last k) : ¬ Asc zs lim last := fun h => h2 (h.2 k hk)

/-- What stood last, ahead of place k. -/
def prev (zs : List Int) (k : Nat) : Int := if k = 0 then -1 else zs.getD (k - 1) 0
theorem prev_succ (zs : List Int) (k : Nat) : prev zs (k + 1) = zs.getD k 0 := by simp [prev]
theorem fits_prev {zs : List Int} {last : Int} {k : Nat} (h : Up zs last k) : Fits zs last k ↔ prev zs k < zs.getD k 0 ∧ zs.getD k 0 ≤ last := by
  unfold Fits prev
  by_cases hk : k = 0
  · simp only [hk, if_true]; constructor
    · rintro ⟨a, b, _⟩; omega
    · rintro ⟨a, b⟩; exact ⟨by omega, b, fun h => absurd h (by omega)⟩
  · have h1 := (h (k - 1) (by omega)).1
    simp only [hk, if_false]; constructor
    · rintro ⟨a, b, c⟩; exact ⟨c (by omega), b⟩
    · rintro ⟨a, b⟩; exact ⟨by omega, b, fun _ => a⟩

theorem up_lt {zs : List Int} {last : Int} {n : Nat} (h : Up zs last n) : ∀ j, j < n → ∀ i, i < j → zs.getD i 0 < zs.getD j 0 := by
  intro j
  induction j with
  | zero => intro _ i hi; omega
  | succ j ih =>
    intro hj i hi
    have h1 := (h (j + 1) hj).2.2 (by omega)
    simp only [Nat.add_sub_cancel] at h1
    by_cases e : i = j
    · subst e; exact h1
    · have := ih (by omega) i (by omega); omega

theorem getD_get (zs : List Int) {i : Nat} (h : i < zs.length) : zs.getD i 0 = zs[i] := by simp [List.getD, h]

theorem asc_pairwise {zs : List Int} {lim : Nat} {last : Int} (h : Asc zs lim last) : zs.Pairwise (· < ·) := by
  rw [List.pairwise_iff_getElem]
  intro i j hi hj hij
  have := up_lt h.2 j hj i hij
  rwa [getD_get zs hi, getD_get zs hj] at this
theorem asc_le {zs : List Int} {lim : Nat} {last : Int} (h : Asc zs lim last) : zs.Pairwise (· ≤ ·) := (asc_pairwise h).imp (fun h => Int.le_of_lt h)
theorem asc_mem {zs : List Int} {lim : Nat} {last : Int} (h : Asc zs lim last) : ∀ z ∈ zs, 0 ≤ z ∧ z ≤ last := fun z hz => by
  obtain ⟨i, hi, rfl⟩ := List.getElem_of_mem hz
  have := h.2 i hi
  unfold Fits at this
  rw [getD_get zs hi] at this
  exact ⟨this.1, this.2.1⟩
theorem asc_of {zs : List Int} {lim : Nat} {last : Int} (h1 : zs.length ≤ lim) (h2 : ∀ z ∈ zs, 0 ≤ z ∧ z ≤ last) (h3 : zs.Pairwise (· < ·)) : Asc zs lim last := by
  refine ⟨h1, fun j hj => ?_⟩
  have := h2 _ (List.getElem_mem hj)
  unfold Fits
  rw [getD_get zs hj]
  refine ⟨this.1, this.2, fun hp => ?_⟩
  rw [getD_get zs (show j - 1 < zs.length by omega)]
  exact (List.pairwise_iff_getElem.1 h3) (j - 1) j (by omega) hj (by omega)

/-- A business day. -/
def opn (we ho : List Int) (d : Int) : Bool := !we.contains ((d + 5) % 7) && !ho.contains d

/-- The first wanted day on a way of k days. -/
def seek (p : Int → Bool) (s : Int) : Nat → Int → Option Int
  | 0, _ => none
  | k + 1, d => if p d then some d else seek p s k (d + s)

theorem seek_hit {p : Int → Bool} {s d : Int} {k : Nat} (h : p d = true) : seek p s (k + 1) d = some d := by simp [seek, h]
theorem seek_miss {p : Int → Bool} {s d : Int} {k : Nat} (h : p d = false) : seek p s (k + 1) d = seek p s k (d + s) := by simp [seek, h]

theorem seek_split (p : Int → Bool) (s : Int) : ∀ (a b : Nat) (d : Int), seek p s (a + b) d = match seek p s a d with | some x => some x | none => seek p s b (d + s * a) := by
  intro a
  induction a with
  | zero => intro b d; simp [seek]
  | succ a ih =>
    intro b d
    cases h : p d with
    | true => rw [show a + 1 + b = (a + b) + 1 by omega, seek_hit h, seek_hit h]
    | false =>
      rw [show a + 1 + b = (a + b) + 1 by omega, seek_miss h, seek_miss h, ih b (d + s)]
      have e : d + s + s * (a : Int) = d + s * ((a + 1 : Nat) : Int) := by rw [Int.natCast_add, Int.mul_add]; simp; omega
      rw [e]

theorem seek_some {p : Int → Bool} {s : Int} : ∀ {k : Nat} {d x : Int}, seek p s k d = some x → ∃ j : Nat, j < k ∧ x = d + s * j ∧ p x = true ∧ ∀ i : Nat, i < j → p (d + s * i) = false := by
  intro k
  induction k with
  | zero => intro d x h; simp [seek] at h
  | succ k ih =>
    intro d x h
    cases hp : p d with
    | true =>
      rw [seek_hit hp] at h
      injection h with h
      subst h
      exact ⟨0, by omega, by simp, hp, fun i hi => by omega⟩
    | false =>
      rw [seek_miss hp] at h
      obtain ⟨j, h1, h2, h3, h4⟩ := ih h
      refine ⟨j + 1, by omega, ?_, h3, fun i hi => ?_⟩
      · rw [h2, Int.natCast_add, Int.mul_add]; simp; omega
      · cases i with
        | zero => simpa using hp
        | succ i =>
          have := h4 i (by omega)
          rw [show d + s * ((i + 1 : Nat) : Int) = d + s + s * i by rw [Int.natCast_add, Int.mul_add]; simp; omega]
          exact this

theorem seek_none {p : Int → Bool} {s : Int} : ∀ {k : Nat} {d : Int}, seek p s k d = none → ∀ j : Nat, j < k → p (d + s * j) = false := by
  intro k
  induction k with
  | zero => intro d _ j hj; omega
  | succ k ih =>
    intro d h j hj
    cases hp : p d with
    | true => rw [seek_hit hp] at h; cases h
    | false =>
      rw [seek_miss hp] at h
      cases j with
      | zero => simpa using hp
      | succ j =>
        have := ih h j (by omega)
        rw [show d + s * ((j + 1 : Nat) : Int) = d + s + s * j by rw [Int.natCast_add, Int.mul_add]; simp; omega]
        exact this

/-- The days that are left in a direction, the day itself among them. -/
def left (s d : Int) : Nat := if s = 1 then (36525 - d).toNat else (d + 1).toNat
theorem left_up (d : Int) : left 1 d = (36525 - d).toNat := by simp [left]
theorem left_dn (d : Int) : left (-1) d = (d + 1).toNat := by simp [left]
def nxt (p : Int → Bool) (d : Int) : Option Int := seek p 1 (left 1 d) d
def lst (p : Int → Bool) (d : Int) : Option Int := seek p (-1) (left (-1) d) d

theorem nxt_ge {p : Int → Bool} {d x : Int} (hd : Day d) (h : nxt p d = some x) : d ≤ x ∧ Day x ∧ p x = true := by
  obtain ⟨j, h1, h2, h3, _⟩ := seek_some h
  rw [left_up] at h1
  unfold Day at *
  exact ⟨by omega, ⟨by omega, by omega⟩, h3⟩
theorem lst_le {p : Int → Bool} {d x : Int} (hd : Day d) (h : lst p d = some x) : x ≤ d ∧ Day x ∧ p x = true := by
  obtain ⟨j, h1, h2, h3, _⟩ := seek_some h
  rw [left_dn] at h1
  unfold Day at *
  exact ⟨by omega, ⟨by omega, by omega⟩, h3⟩

/-- The first and the last day of a day's month. -/
def fst (n : Int) : Int := dby (yr n) + bef (yr n) (mo n)
def lastD (n : Int) : Int := fst n + lenM (yr n) (mo n) - 1

theorem fst_bd {n : Int} (h : Day n) : 0 ≤ fst n ∧ fst n ≤ n ∧ n ≤ lastD n ∧ lastD n ≤ 36524 ∧ n = fst n + da n - 1 := by
  obtain ⟨⟨hy, hm, d1, d2⟩, e⟩ := date_is h
  have v : Vld (yr n) (mo n) (lenM (yr n) (mo n)) := ⟨hy, hm, by have := len_bd (yr n) (mo n); omega, by omega⟩
  have h1 := num_day v
  have v1 : Vld (yr n) (mo n) 1 := ⟨hy, hm, by omega, by have := len_bd (yr n) (mo n); omega⟩
  have h2 := num_day v1
  unfold num Day at *
  unfold lastD fst
  omega

theorem month_iff {a b : Int} (ha : Day a) (hb : Day b) : (yr a = yr b ∧ mo a = mo b) ↔ fst a ≤ b ∧ b ≤ lastD a := by
  constructor
  · rintro ⟨e1, e2⟩
    have h := fst_bd hb
    have e3 : fst a = fst b := by unfold fst; rw [e1, e2]
    have e4 : lastD a = lastD b := by unfold lastD; rw [e3, e1, e2]
    rw [e3, e4]; omega
  · rintro ⟨h1, h2⟩
    obtain ⟨⟨hy, hm, d1, d2⟩, e⟩ := date_is ha
    have v : Vld (yr a) (mo a) (b - fst a + 1) := ⟨hy, hm, by omega, by unfold lastD at h2; omega⟩
    have h3 := date_of v
    have e4 : num (yr a) (mo a) (b - fst a + 1) = b := by unfold num fst; omega
    rw [e4] at h3
    exact ⟨h3.1, h3.2.1⟩

/-- One of two. -/
def orr (a b : Option Int) : Option Int := match a with | some x => some x | none => b

/-- The modified conventions, as the model says them and as the program does. -/
theorem roll_mod {p : Int → Bool} {d : Int} (hd : Day d) :
    (∀ x, nxt p d = some x → (yr d = yr x ∧ mo d = mo x) → orr (seek p 1 (lastD d - d + 1).toNat d) (lst p d) = some x) ∧
    ((∀ x, nxt p d = some x → ¬ (yr d = yr x ∧ mo d = mo x)) → orr (seek p 1 (lastD d - d + 1).toNat d) (lst p d) = lst p d) := by
  have hb := fst_bd hd
  have hs := seek_split p 1 (lastD d - d + 1).toNat (36524 - lastD d).toNat d
  have e0 : (lastD d - d + 1).toNat + (36524 - lastD d).toNat = left 1 d := by rw [left_up]; omega
  rw [e0] at hs
  change nxt p d = _ at hs
  cases hk : seek p 1 (lastD d - d + 1).toNat d with
  | some y =>
    rw [hk] at hs
    simp only at hs
    obtain ⟨j, j1, j2, _, _⟩ := seek_some hk
    have hy := nxt_ge hd hs
    refine ⟨fun x hx _ => ?_, fun hn => ?_⟩
    · rw [hs] at hx; injection hx with hx; subst hx; rfl
    · refine absurd ?_ (hn y hs)
      exact (month_iff hd hy.2.1).2 ⟨by omega, by omega⟩
  | none =>
    rw [hk] at hs
    simp only at hs
    refine ⟨fun x hx hm => ?_, fun _ => rfl⟩
    rw [hx] at hs
    obtain ⟨j, j1, j2, _, _⟩ := seek_some hs.symm
    have hy := nxt_ge hd hx
    have := (month_iff hd hy.2.1).1 hm
    omega

theorem roll_modp {p : Int → Bool} {d : Int} (hd : Day d) :
    (∀ x, lst p d = some x → (yr d = yr x ∧ mo d = mo x) → orr (seek p (-1) (d - fst d + 1).toNat d) (nxt p d) = some x) ∧
    ((∀ x, lst p d = some x → ¬ (yr d = yr x ∧ mo d = mo x)) → orr (seek p (-1) (d - fst d + 1).toNat d) (nxt p d) = nxt p d) := by
  have hb := fst_bd hd
  have hs := seek_split p (-1) (d - fst d + 1).toNat (fst d).toNat d
  have e0 : (d - fst d + 1).toNat + (fst d).toNat = left (-1) d := by rw [left_dn]; omega
  rw [e0] at hs
  change lst p d = _ at hs
  cases hk : seek p (-1) (d - fst d + 1).toNat d with
  | some y =>
    rw [hk] at hs
    simp only at hs
    obtain ⟨j, j1, j2, _, _⟩ := seek_some hk
    have hy := lst_le hd hs
    refine ⟨fun x hx _ => ?_, fun hn => ?_⟩
    · rw [hs] at hx; injection hx with hx; subst hx; rfl
    · refine absurd ?_ (hn y hs)
      exact (month_iff hd hy.2.1).2 ⟨by omega, by omega⟩
  | none =>
    rw [hk] at hs
    simp only at hs
    refine ⟨fun x hx hm => ?_, fun _ => rfl⟩
    rw [hx] at hs
    obtain ⟨j, j1, j2, _, _⟩ := seek_some hs.symm
    have hy := lst_le hd hx
    have := (month_iff hd hy.2.1).1 hm
    omega

/-- The last business day of a month, as the model says it and as the program does. -/
theorem last_day {p : Int → Bool} {d : Int} (hd : Day d) :
    (∀ x, lst p (lastD d) = some x → (yr x = yr d ∧ mo x = mo d) → seek p (-1) (lastD d - fst d + 1).toNat (lastD d) = some x) ∧
    ((∀ x, lst p (lastD d) = some x → ¬ (yr x = yr d ∧ mo x = mo d)) → seek p (-1) (lastD d - fst d + 1).toNat (lastD d) = none) := by
  have hb := fst_bd hd
  have hl : Day (lastD d) := ⟨by omega, by omega⟩
  have hs := seek_split p (-1) (lastD d - fst d + 1).toNat (fst d).toNat (lastD d)
  have e0 : (lastD d - fst d + 1).toNat + (fst d).toNat = left (-1) (lastD d) := by rw [left_dn]; omega
  rw [e0] at hs
  change lst p (lastD d) = _ at hs
  cases hk : seek p (-1) (lastD d - fst d + 1).toNat (lastD d) with
  | some y =>
    rw [hk] at hs
    simp only at hs
    obtain ⟨j, j1, j2, _, _⟩ := seek_some hk
    have hy := lst_le hl hs
    refine ⟨fun x hx _ => ?_, fun hn => ?_⟩
    · rw [hs] at hx; injection hx with hx; subst hx; rfl
    · refine absurd ?_ (hn y hs)
      have := (month_iff hd hy.2.1).2 ⟨by omega, by omega⟩
      exact ⟨this.1.symm, this.2.symm⟩
  | none =>
    rw [hk] at hs
    simp only at hs
    refine ⟨fun x hx hm => ?_, fun _ => rfl⟩
    rw [hx] at hs
    obtain ⟨j, j1, j2, _, _⟩ := seek_some hs.symm
    have hy := lst_le hl hx
    have := (month_iff hd hy.2.1).1 ⟨hm.1.symm, hm.2.symm⟩
    omega

/-- The n-th wanted day on a way of k days. -/
def nth (p : Int → Bool) (s : Int) : Nat → Int → Nat → Option Int
  | 0, _, _ => none
  | k + 1, d, n => if p d then (if n = 1 then some d else nth p s k (d + s) (n - 1)) else nth p s k (d + s) n

/-- From one wanted day to the next, n times. -/
def hop (p : Int → Bool) (s : Int) : Nat → Int → Option Int
  | 0, d => some d
  | n + 1, d => match seek p s (left s (d + s)) (d + s) with | none => none | some x => hop p s n x

theorem nth_seek (p : Int → Bool) (s : Int) (n : Nat) (hs : s = 1 ∨ s = -1) : ∀ (k : Nat) (d : Int), k = left s d → (s = 1 → d ≤ 36525) → (s = -1 → -1 ≤ d) →
    nth p s k d (n + 1) = match seek p s k d with | none => none | some x => if n = 0 then some x else nth p s (left s (x + s)) (x + s) n := by
  intro k
  induction k with
  | zero => intro d _ _ _; simp [nth, seek]
  | succ k ih =>
    intro d hk h1 h2
    have e : k = left s (d + s) := by
      rcases hs with rfl | rfl
      · rw [left_up] at *; omega
      · rw [left_dn] at *; omega
    have b1 : s = 1 → d + s ≤ 36525 := fun hh => by subst hh; rw [left_up] at hk; omega
    have b2 : s = -1 → -1 ≤ d + s := fun hh => by subst hh; rw [left_dn] at hk; omega
    cases hp : p d with
    | true =>
      rw [seek_hit hp]
      simp only [nth, hp, if_true, Nat.add_sub_cancel]
      by_cases hn : n = 0
      · simp [hn]
      · rw [if_neg (by omega), if_neg hn, ← e]
    | false =>
      rw [seek_miss hp, ← ih (d + s) e b1 b2]
      simp [nth, hp]

theorem nth_hop (p : Int → Bool) (s : Int) (hs : s = 1 ∨ s = -1) : ∀ (n : Nat) (d : Int), (s = 1 → d ≤ 36524) → (s = -1 → 0 ≤ d) → nth p s (left s (d + s)) (d + s) (n + 1) = hop p s (n + 1) d := by
  intro n
  induction n with
  | zero =>
    intro d h1 h2
    rw [nth_seek p s 0 hs _ _ rfl (fun h => by have := h1 h; omega) (fun h => by have := h2 h; omega)]
    simp only [hop]
    split <;> rfl
  | succ n ih =>
    intro d h1 h2
    rw [nth_seek p s (n + 1) hs _ _ rfl (fun h => by have := h1 h; omega) (fun h => by have := h2 h; omega)]
    conv => rhs; unfold hop
    cases hk : seek p s (left s (d + s)) (d + s) with
    | none => rfl
    | some x =>
      simp only
      rw [if_neg (by omega)]
      obtain ⟨j, j1, j2, _, _⟩ := seek_some hk
      refine ih x (fun h => ?_) (fun h => ?_)
      · subst h; rw [left_up] at j1; omega
      · subst h; rw [left_dn] at j1; omega

/-- How many of k days are wanted. -/
def cnt (p : Int → Bool) (d : Int) : Nat → Int
  | 0 => 0
  | k + 1 => cnt p d k + if p (d + k) then 1 else 0
theorem cnt_bd (p : Int → Bool) (d : Int) : ∀ k : Nat, 0 ≤ cnt p d k ∧ cnt p d k ≤ k := by
  intro k
  induction k with
  | zero => simp [cnt]
  | succ k ih => simp only [cnt]; split <;> omega
theorem cnt_yes {p : Int → Bool} {d : Int} {k : Nat} (h : p (d + k) = true) : cnt p d (k + 1) = cnt p d k + 1 := by simp [cnt, h]
theorem cnt_no {p : Int → Bool} {d : Int} {k : Nat} (h : p (d + k) = false) : cnt p d (k + 1) = cnt p d k := by simp [cnt, h]

end Go.Proofs.Ytomloodakabcbaa.Biz
