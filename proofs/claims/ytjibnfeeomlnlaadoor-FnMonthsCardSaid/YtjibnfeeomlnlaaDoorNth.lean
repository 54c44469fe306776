/-
  NthWeekday, of the program and of the model.
-/
import Derived.Test.YtjibnfeeomlnlaaDoorDateLaw
namespace Go.Proofs.YtjibnfeeomlnlaaDoor.Nth
open Go.RowKit Go.Proofs.YtjibnfeeomlnlaaDoor.Cal Go.Proofs.YtjibnfeeomlnlaaDoor.Tab Go.Proofs.YtjibnfeeomlnlaaDoor.Wd Go.Proofs.YtjibnfeeomlnlaaDoor.Len Go.Proofs.YtjibnfeeomlnlaaDoor.Valid Go.Proofs.YtjibnfeeomlnlaaDoor.DayOf Go.Proofs.YtjibnfeeomlnlaaDoor.DateOf
set_option linter.unusedVariables false

/-- How many days behind a month's first day, S, its first weekday d lies. -/
def off (S d : Int) : Int := (d - (S + 5) % 7 + 7) % 7
/-- How many of them lie among the first k - 1 days of the month. -/
def seen (S d k : Int) : Int := (k + 5 - off S d) / 7

/-- The answer: S the month's first day, L its length. -/
def ans (S L d n : Int) : Int × Bool :=
  if n = -1 then (S + off S d + (L - 1 - off S d) / 7 * 7, true)
  else if 1 ≤ n ∧ n ≤ 5 ∧ (n = 5 → 4 ≤ (L - 1 - off S d) / 7) then (S + off S d + (n - 1) * 7, true) else (0, false)

theorem off_bd (S d : Int) : 0 ≤ off S d ∧ off S d ≤ 6 := by unfold off; omega
/-- The weekday falls on the month's k-th day just where the count rises. -/
theorem seen_step (S d k : Int) (h0 : 0 ≤ S) (hd : 0 ≤ d ∧ d ≤ 6) (hk : 1 ≤ k) : seen S d (k + 1) = seen S d k + (if (S + k - 1 + 5) % 7 = d then 1 else 0) := by
  unfold seen off
  split <;> omega

/-- What the model has found before the month's k-th day. -/
def found (S d n k : Int) : Int := if n = -1 then (if seen S d k = 0 then -1 else S + off S d + (seen S d k - 1) * 7) else if 1 ≤ n ∧ n ≤ seen S d k then S + off S d + (n - 1) * 7 else -1

theorem found_hit (S d n k : Int) (h0 : 0 ≤ S) (hd : 0 ≤ d ∧ d ≤ 6) (hk : 1 ≤ k) (hw : (S + k - 1 + 5) % 7 = d) :
    S + k - 1 = S + off S d + (seen S d k) * 7 := by
  unfold seen off; omega


theorem ans_last (S L d : Int) : ans S L d (-1) = (S + off S d + (L - 1 - off S d) / 7 * 7, true) := rfl
theorem ans_small (S L d n : Int) (h1 : 1 ≤ n) (h2 : n ≤ 4) : ans S L d n = (S + off S d + (n - 1) * 7, true) := by
  unfold ans; rw [if_neg (by omega), if_pos ⟨h1, by omega, by omega⟩]
theorem ans_five (S L d : Int) (h : 4 ≤ (L - 1 - off S d) / 7) : ans S L d 5 = (S + off S d + 28, true) := by
  unfold ans; rw [if_neg (by omega), if_pos ⟨by omega, by omega, fun _ => h⟩]; rfl
theorem ans_none (S L d n : Int) (h : n = 5 ∧ ¬ 4 ≤ (L - 1 - off S d) / 7 ∨ ¬ (n = -1 ∨ 1 ≤ n ∧ n ≤ 5)) : ans S L d n = (0, false) := by
  unfold ans; rw [if_neg (by omega), if_neg (by omega)]

set_option maxHeartbeats 2000000 in
theorem implAux (y m d n S L A B : Int) (w : World) (hT : Tab w) (hA : 0 ≤ A ∧ A ≤ 40000) (hB : 0 ≤ B ∧ B ≤ 400) (hL : 28 ≤ L ∧ L ≤ 31) (d1 : 0 ≤ d) (d2 : d < 7)
    (HL : Hid (∀ w, Tab w → Calls Tryd.prog 26 #[.int .i64 y, .int .i64 m] w fun e w' => e = .returned (.tuple #[.int .i64 L, .bool true]) ∧ w = w'))
    (HA : Hid (∀ w, Calls Tryd.prog 40 #[.int .i64 y] w fun e w' => e = .returned (.int .i64 A) ∧ w = w'))
    (HB : Hid (∀ w, Tab w → Calls Tryd.prog 41 #[.int .i64 y, .int .i64 m] w fun e w' => e = .returned (.int .i64 B) ∧ w = w')) :
    Calls Tryd.prog 28 #[.int .i64 y, .int .i64 m, .int .i64 d, .int .i64 n] w fun e w' => e = .returned (.tuple #[.int .i64 (ans (A + B) L d n).1, .bool (ans (A + B) L d n).2]) ∧ Below w.heap.size w w' := by
  have HT := Lib.hid hT
  clear hT
  have HO := Lib.hid (off_bd (A + B) d)
  have CALLS_ : True := trivial
  have hcase : Hid (n = -1 ∨ n = 5 ∨ n = 1 ∨ n = 2 ∨ n = 3 ∨ n = 4 ∨ ((n == -1) = false ∧ (n == 5) = false ∧ (n == 1) = false ∧ (n == 2) = false ∧ (n == 3) = false ∧ (n == 4) = false)) := Lib.hid (by simp only [beq_eq_false_iff_ne]; omega)
  go_enter Tryd.func28, Tryd.ntmps28
  go_wp2_with (first
    | (go_at_call 26; refine (HL.out _ HT.out).mono ?_; rintro e w2 ⟨rfl, rfl⟩)
    | (go_at_call 40; refine (HA.out _).mono ?_; rintro e w2 ⟨rfl, rfl⟩)
    | (go_at_call 41; refine (HB.out _ HT.out).mono ?_; rintro e w2 ⟨rfl, rfl⟩)
    | (go_at_call 45; refine (weekdayOf (A + B) (by omega) (by omega) _).mono ?_; rintro e w2 ⟨rfl, rfl⟩; refine Hid.out ?_))
  refine Lib.hid ?_
  rcases hcase.out with hn | hn | hn | hn | hn | hn | ⟨h1, h2, h3, h4, h5, h6⟩
  · subst hn
    go_wp2_with fail
    go_ret2
    exact ⟨by rw [ans_last]; exact ret_two (by unfold off; omega), Below.refl _ _⟩
  · subst hn
    by_cases hw : 4 ≤ (L - 1 - off (A + B) d) / 7
    · have hw2 : ¬ (A + B + L - 1 - (A + B + (d - (A + B + 5) % 7 + 7) % 7)) / 7 < 4 := by unfold off at hw; omega
      have HE := Lib.hid (ans_five (A + B) L d hw)
      clear hw
      go_wp2_with fail
      go_ret2
      exact ⟨by rw [HE.out]; exact ret_two (by unfold off; omega), Below.refl _ _⟩
    · have hw2 : (A + B + L - 1 - (A + B + (d - (A + B + 5) % 7 + 7) % 7)) / 7 < 4 := by unfold off at hw; omega
      have HE := Lib.hid (ans_none (A + B) L d 5 (.inl ⟨rfl, hw⟩))
      clear hw
      go_wp2_with fail
      go_ret2
      exact ⟨by rw [HE.out]; rfl, Below.refl _ _⟩
  iterate 4
    · subst hn
      go_wp2_with fail
      go_ret2
      exact ⟨by rw [ans_small _ _ _ _ (by omega) (by omega)]; exact ret_two (by unfold off; omega), Below.refl _ _⟩
  · have HE := Lib.hid (ans_none (A + B) L d n (.inr (by simp only [beq_eq_false_iff_ne] at h1 h2 h3 h4 h5 h6; omega)))
    go_wp2_with fail
    go_ret2
    exact ⟨by rw [HE.out]; rfl, Below.refl _ _⟩

theorem seen_one (S d : Int) : seen S d 1 = 0 := by have := off_bd S d; unfold seen; omega
theorem found_one (S d n : Int) (hn : n = -1 ∨ (1 ≤ n ∧ n ≤ 5)) : found S d n 1 = -1 := by
  unfold found; rw [seen_one]
  split
  · rfl
  · rw [if_neg (by omega)]
theorem seen_bd (S d k : Int) (h1 : 1 ≤ k) (h2 : k ≤ 32) : 0 ≤ seen S d k ∧ seen S d k ≤ 5 := by have := off_bd S d; unfold seen; omega
theorem found_step (S d n k : Int) (h0 : 0 ≤ S) (hd : 0 ≤ d ∧ d ≤ 6) (hk : 1 ≤ k) (hn : n = -1 ∨ (1 ≤ n ∧ n ≤ 5)) :
    found S d n (k + 1) = if (S + k - 1 + 5) % 7 = d ∧ (seen S d k + 1 = n ∨ n = -1) then S + k - 1 else found S d n k := by
  have hs := seen_step S d k h0 hd hk
  have ho := off_bd S d
  have hs0 : 0 ≤ seen S d k := by unfold seen; omega
  by_cases hw : (S + k - 1 + 5) % 7 = d
  · have hh := found_hit S d n k h0 hd hk hw
    rw [if_pos hw] at hs
    unfold found
    rw [hs]
    generalize seen S d k = q at *
    generalize off S d = o at *
    (repeat' split) <;> omega
  · rw [if_neg hw] at hs
    unfold found
    rw [hs]
    generalize seen S d k = q at *
    generalize off S d = o at *
    (repeat' split) <;> omega
theorem found_end (S d n L : Int) (hL : 28 ≤ L ∧ L ≤ 31) (hn : n = -1 ∨ (1 ≤ n ∧ n ≤ 5)) (h0 : 0 ≤ S) :
    (found S d n (L + 1) < 0 ∧ ans S L d n = (0, false)) ∨ (0 ≤ found S d n (L + 1) ∧ ans S L d n = (found S d n (L + 1), true)) := by
  have ho := off_bd S d
  have hs : seen S d (L + 1) = (L - 1 - off S d) / 7 + 1 := by unfold seen; omega
  unfold found ans
  rw [hs]
  by_cases h1 : n = -1
  · right
    rw [if_pos h1, if_pos h1, if_neg (by omega)]
    exact ⟨by omega, by congr 1; omega⟩
  · rw [if_neg h1, if_neg h1]
    by_cases h2 : 1 ≤ n ∧ n ≤ (L - 1 - off S d) / 7 + 1
    · right
      rw [if_pos h2, if_pos (by omega)]
      exact ⟨by omega, rfl⟩
    · left
      rw [if_neg h2, if_neg (by omega)]
      exact ⟨by omega, rfl⟩

set_option maxHeartbeats 2000000 in
theorem specAux (y m d n S L : Int) (w : World) (hS : 0 ≤ S ∧ S ≤ 40000) (hL : 28 ≤ L ∧ L ≤ 31) (y1 : 2000 ≤ y) (y2 : y ≤ 2099) (m1 : 1 ≤ m) (m2 : m ≤ 12) (d1 : 0 ≤ d) (d2 : d ≤ 6)
    (HL : Hid (∀ w, Calls Tryd.prog 53 #[.int .i64 y, .int .i64 m] w fun e w' => e = .returned (.int .i64 L) ∧ w = w'))
    (HD : Hid (∀ k w, 1 ≤ k → k ≤ 31 → Calls Tryd.prog 54 #[.agg #[.int .i64 y, .int .i64 m, .int .i64 k]] w fun e w' => e = .returned (.int .i64 (S + k - 1)) ∧ w.alloc (.cells #[.int .i64 y, .int .i64 m, .int .i64 k] 26) = w')) (hn : n = -1 ∨ (1 ≤ n ∧ n ≤ 5)) :
    Calls Tryd.prog 29 #[.int .i64 y, .int .i64 m, .int .i64 d, .int .i64 n] w fun e w' => e = .returned (.tuple #[.int .i64 (ans S L d n).1, .bool (ans S L d n).2]) ∧ Below w.heap.size w w' := by
  have HN := Lib.hid hn
  have HF : Hid (∀ k, 1 ≤ k → found S d n (k + 1) = if (S + k - 1 + 5) % 7 = d ∧ (seen S d k + 1 = n ∨ n = -1) then S + k - 1 else found S d n k) := Lib.hid fun k hk => found_step S d n k hS.1 ⟨d1, d2⟩ hk hn
  have HSE : Hid (∀ k, 1 ≤ k → seen S d (k + 1) = seen S d k + (if (S + k - 1 + 5) % 7 = d then 1 else 0)) := Lib.hid fun k hk => seen_step S d k hS.1 ⟨d1, d2⟩ hk
  have HF1 := Lib.hid (found_one S d n hn)
  have HFE := Lib.hid (found_end S d n L hL hn hS.1)
  have HB := Lib.hid (fun k hk hk2 => seen_bd S d k hk hk2)
  clear hn
  by_cases h1 : n = -1
  · subst h1
    go_enter Tryd.func29, Tryd.ntmps29
    go_wp2_with (first
      | (go_at_call 49; refine (l1In_true _ _ _ (by omega) (by omega) _).mono ?_; rintro e w2 ⟨rfl, rfl⟩))
    go_loopw [10, 11, 12] (fun f s i wr => ∃ k : Int, 1 ≤ k ∧ k ≤ L + 1 ∧ i = .int .i64 k ∧ s = .int .i64 (seen S d k) ∧ f = .int .i64 (found S d (-1) k) ∧ Hid (Below w.heap.size w wr)) (fun _ _ i _ => (L + 1 - intOf i).toNat)
    case atStart => exact ⟨1, by omega, by omega, rfl, by rw [seen_one], by rw [HF1.out], Lib.hid (Below.refl _ _)⟩
    case round =>
      obtain ⟨k, k1, k2, rfl, rfl, rfl, HW⟩ := hrel
      have hb := HB.out k k1 (by omega)
      have HE1 := Lib.hid (HF.out k k1)
      have HE2 := Lib.hid (HSE.out k k1)
      by_cases hkL : k ≤ L
      · have HW2 : Hid (Below w.heap.size w (wr.alloc (.cells #[.int .i64 y, .int .i64 m, .int .i64 k] 26))) := Lib.hid (HW.out.trans ((below1 wr _).mono HW.out.size))
        generalize seen S d k = q at *
        generalize found S d (-1) k = f at *
        by_cases hw : (S + k - 1 + 5) % 7 = d
        · have e2 : Hid (seen S d (k + 1) = q + 1) := Lib.hid (by rw [HE2.out, if_pos hw])
          have e1 : Hid (found S d (-1) (k + 1) = S + k - 1) := Lib.hid (by rw [HE1.out, if_pos ⟨hw, by simp⟩])
          have q1 : (q + 1 == -1) = false := by simp; omega
          go_wp2_with (first
            | (go_at_call 53; refine (HL.out _).mono ?_; rintro e w2 ⟨rfl, rfl⟩)
            | (go_at_call 54; refine (HD.out k _ k1 (by omega)).mono ?_; rintro e w2 ⟨rfl, rfl⟩)
            | (go_at_call 55; refine (l3Weekday (S + k - 1) (by omega) (by omega) _).mono ?_; rintro e w2 ⟨rfl, rfl⟩))
          go_roundw
          case rel => exact ⟨k + 1, by omega, by omega, rfl, by rw [e2.out], by rw [e1.out], HW2⟩
          case measure => simp [intOf]; omega
        · have e2 : Hid (seen S d (k + 1) = q) := Lib.hid (by rw [HE2.out, if_neg hw]; omega)
          have e1 : Hid (found S d (-1) (k + 1) = f) := Lib.hid (by rw [HE1.out, if_neg (fun h => hw h.1)])
          have hw' : ((S + k - 1 + 5) % 7 == d) = false := by simpa using hw
          have hw2 : ((S + k - 1 + 5) % 7 != d) = true := by simpa using hw
          clear hw
          go_wp2_with (first
            | (go_at_call 53; refine (HL.out _).mono ?_; rintro e w2 ⟨rfl, rfl⟩)
            | (go_at_call 54; refine (HD.out k _ k1 (by omega)).mono ?_; rintro e w2 ⟨rfl, rfl⟩)
            | (go_at_call 55; refine (l3Weekday (S + k - 1) (by omega) (by omega) _).mono ?_; rintro e w2 ⟨rfl, rfl⟩))
          go_roundw
          case rel => exact ⟨k + 1, by omega, by omega, rfl, by rw [e2.out], by rw [e1.out], HW2⟩
          case measure => simp [intOf]; omega
      · obtain rfl : k = L + 1 := by omega
        clear HE1 HE2 hb HF HSE HB HF1
        generalize seen S d (L + 1) = q at *
        generalize found S d (-1) (L + 1) = f at *
        rcases HFE.out with ⟨hf, ha⟩ | ⟨hf, ha⟩
        · have HA := Lib.hid ha
          clear ha
          go_wp2_with (go_at_call 53; refine (HL.out _).mono ?_; rintro e w2 ⟨rfl, rfl⟩)
          go_ret2
          exact ⟨by rw [HA.out]; rfl, HW.out⟩
        · have HA := Lib.hid ha
          clear ha
          go_wp2_with (go_at_call 53; refine (HL.out _).mono ?_; rintro e w2 ⟨rfl, rfl⟩)
          go_ret2
          exact ⟨by rw [HA.out]; rfl, HW.out⟩
  · have hn1 : 1 ≤ n := by have := HN.out; omega
    have hn2 : n ≤ 5 := by have := HN.out; omega
    have h2 : (n == -1) = false := by simpa using h1
    have h3 : (n != -1) = true := by simpa using h1
    have hm1 : ¬ n = -1 := h1
    clear h1
    go_enter Tryd.func29, Tryd.ntmps29
    go_wp2_with (first
      | (go_at_call 49; refine (l1In_true _ _ _ (by omega) (by omega) _).mono ?_; rintro e w2 ⟨rfl, rfl⟩))
    go_loopw [10, 11, 12] (fun f s i wr => ∃ k : Int, 1 ≤ k ∧ k ≤ L + 1 ∧ i = .int .i64 k ∧ s = .int .i64 (seen S d k) ∧ f = .int .i64 (found S d n k) ∧ Hid (Below w.heap.size w wr)) (fun _ _ i _ => (L + 1 - intOf i).toNat)
    case atStart => exact ⟨1, by omega, by omega, rfl, by rw [seen_one], by rw [HF1.out], Lib.hid (Below.refl _ _)⟩
    case round =>
      obtain ⟨k, k1, k2, rfl, rfl, rfl, HW⟩ := hrel
      have hb := HB.out k k1 (by omega)
      have HE1 := Lib.hid (HF.out k k1)
      have HE2 := Lib.hid (HSE.out k k1)
      by_cases hkL : k ≤ L
      · have HW2 : Hid (Below w.heap.size w (wr.alloc (.cells #[.int .i64 y, .int .i64 m, .int .i64 k] 26))) := Lib.hid (HW.out.trans ((below1 wr _).mono HW.out.size))
        generalize seen S d k = q at *
        generalize found S d n k = f at *
        by_cases hw : (S + k - 1 + 5) % 7 = d
        · have e2 : Hid (seen S d (k + 1) = q + 1) := Lib.hid (by rw [HE2.out, if_pos hw])
          by_cases hq : q + 1 = n
          · have e1 : Hid (found S d n (k + 1) = S + k - 1) := Lib.hid (by rw [HE1.out, if_pos ⟨hw, .inl hq⟩])
            have q1 : (q + 1 == n) = true := by simpa using hq
            clear hq
            go_wp2_with (first
              | (go_at_call 53; refine (HL.out _).mono ?_; rintro e w2 ⟨rfl, rfl⟩)
              | (go_at_call 54; refine (HD.out k _ k1 (by omega)).mono ?_; rintro e w2 ⟨rfl, rfl⟩)
              | (go_at_call 55; refine (l3Weekday (S + k - 1) (by omega) (by omega) _).mono ?_; rintro e w2 ⟨rfl, rfl⟩))
            go_roundw
            case rel => exact ⟨k + 1, by omega, by omega, rfl, by rw [e2.out], by rw [e1.out], HW2⟩
            case measure => simp [intOf]; omega
          · have e1 : Hid (found S d n (k + 1) = f) := Lib.hid (by rw [HE1.out, if_neg (fun h => h.2.elim hq hm1)])
            have q1 : (q + 1 == n) = false := by simpa using hq
            clear hq
            go_wp2_with (first
              | (go_at_call 53; refine (HL.out _).mono ?_; rintro e w2 ⟨rfl, rfl⟩)
              | (go_at_call 54; refine (HD.out k _ k1 (by omega)).mono ?_; rintro e w2 ⟨rfl, rfl⟩)
              | (go_at_call 55; refine (l3Weekday (S + k - 1) (by omega) (by omega) _).mono ?_; rintro e w2 ⟨rfl, rfl⟩))
            go_roundw
            case rel => exact ⟨k + 1, by omega, by omega, rfl, by rw [e2.out], by rw [e1.out], HW2⟩
            case measure => simp [intOf]; omega
        · have e2 : Hid (seen S d (k + 1) = q) := Lib.hid (by rw [HE2.out, if_neg hw]; omega)
          have e1 : Hid (found S d n (k + 1) = f) := Lib.hid (by rw [HE1.out, if_neg (fun h => hw h.1)])
          have hw' : ((S + k - 1 + 5) % 7 == d) = false := by simpa using hw
          have hw2 : ((S + k - 1 + 5) % 7 != d) = true := by simpa using hw
          clear hw
          go_wp2_with (first
            | (go_at_call 53; refine (HL.out _).mono ?_; rintro e w2 ⟨rfl, rfl⟩)
            | (go_at_call 54; refine (HD.out k _ k1 (by omega)).mono ?_; rintro e w2 ⟨rfl, rfl⟩)
            | (go_at_call 55; refine (l3Weekday (S + k - 1) (by omega) (by omega) _).mono ?_; rintro e w2 ⟨rfl, rfl⟩))
          go_roundw
          case rel => exact ⟨k + 1, by omega, by omega, rfl, by rw [e2.out], by rw [e1.out], HW2⟩
          case measure => simp [intOf]; omega
      · obtain rfl : k = L + 1 := by omega
        clear HE1 HE2 hb HF HSE HB HF1
        generalize seen S d (L + 1) = q at *
        generalize found S d n (L + 1) = f at *
        rcases HFE.out with ⟨hf, ha⟩ | ⟨hf, ha⟩
        · have HA := Lib.hid ha
          clear ha
          go_wp2_with (go_at_call 53; refine (HL.out _).mono ?_; rintro e w2 ⟨rfl, rfl⟩)
          go_ret2
          exact ⟨by rw [HA.out]; rfl, HW.out⟩
        · have HA := Lib.hid ha
          clear ha
          go_wp2_with (go_at_call 53; refine (HL.out _).mono ?_; rintro e w2 ⟨rfl, rfl⟩)
          go_ret2
          exact ⟨by rw [HA.out]; rfl, HW.out⟩

theorem implNo (y m d n : Int) (w : World) (hT : Tab w) (h : ¬ (InY y ∧ InM m) ∨ d < 0 ∨ 6 < d) :
    Calls Tryd.prog 28 #[.int .i64 y, .int .i64 m, .int .i64 d, .int .i64 n] w fun e w' => e = .returned (.tuple #[.int .i64 0, .bool false]) ∧ Below w.heap.size w w' := by
  have HT := Lib.hid hT
  clear hT
  by_cases h1 : InY y ∧ InM m
  · have HL := Lib.hid (fun w hw => lenYes y m h1.1 h1.2 w hw)
    have hd : d < 0 ∨ 7 ≤ d := h.elim (fun h => absurd h1 h) (fun h => by omega)
    clear h h1
    by_cases h2 : d < 0
    · clear hd
      go_enter Tryd.func28, Tryd.ntmps28
      go_wp2_with (go_at_call 26; refine (HL.out _ HT.out).mono ?_; rintro e w2 ⟨rfl, rfl⟩)
      go_ret2
      exact ⟨rfl, Below.refl _ _⟩
    · have h3 : 7 ≤ d := by omega
      clear hd
      go_enter Tryd.func28, Tryd.ntmps28
      go_wp2_with (go_at_call 26; refine (HL.out _ HT.out).mono ?_; rintro e w2 ⟨rfl, rfl⟩)
      go_ret2
      exact ⟨rfl, Below.refl _ _⟩
  · have HL := Lib.hid (fun w => lenNo y m h1 w)
    clear h h1
    go_enter Tryd.func28, Tryd.ntmps28
    go_wp2_with (go_at_call 26; refine (HL.out _).mono ?_; rintro e w2 ⟨rfl, rfl⟩)
    go_ret2
    exact ⟨rfl, Below.refl _ _⟩

theorem specNo (y m d n : Int) (w : World) (h : ¬ InY y ∨ ¬ InM m ∨ (d < 0 ∨ 6 < d) ∨ ¬ (n = -1 ∨ 1 ≤ n ∧ n ≤ 5)) :
    Calls Tryd.prog 29 #[.int .i64 y, .int .i64 m, .int .i64 d, .int .i64 n] w fun e w' => e = .returned (.tuple #[.int .i64 0, .bool false]) ∧ Below w.heap.size w w' := by
  by_cases h1 : InY y
  · have y1 : 2000 ≤ y := h1.1
    have y2 : y ≤ 2099 := h1.2
    by_cases h2 : InM m
    · have m1 : 1 ≤ m := h2.1
      have m2 : m ≤ 12 := h2.2
      by_cases h3 : d < 0 ∨ 6 < d
      · have H3 := Lib.hid h3
        clear h h1 h2 h3
        go_enter Tryd.func29, Tryd.ntmps29
        go_wp2_with (first
          | (go_at_call 49; (with_reducible refine (l1In_true y 2000 2099 y1 y2 _).mono ?_); rintro e w2 ⟨rfl, rfl⟩)
          | (go_at_call 49; (with_reducible refine (l1In_true m 1 12 m1 m2 _).mono ?_); rintro e w2 ⟨rfl, rfl⟩)
          | (go_at_call 49; (with_reducible refine (l1In_false d 0 6 H3.out _).mono ?_); rintro e w2 ⟨rfl, rfl⟩))
        go_ret2
        exact ⟨rfl, Below.refl _ _⟩
      · have d1 : 0 ≤ d := by omega
        have d2 : d ≤ 6 := by omega
        have h4 : n ≠ -1 ∧ (n < 1 ∨ 5 < n) := h.elim (fun h => absurd h1 h) fun h => h.elim (fun h => absurd h2 h) fun h => h.elim (fun h => absurd h h3) fun h => by omega
        have h5 : (n == -1) = false := by simpa using h4.1
        have h6 : (n != -1) = true := by simpa using h4.1
        have H4 := Lib.hid h4.2
        clear h h1 h2 h3 h4
        go_enter Tryd.func29, Tryd.ntmps29
        go_wp2_with (first
          | (go_at_call 49; (with_reducible refine (l1In_true y 2000 2099 y1 y2 _).mono ?_); rintro e w2 ⟨rfl, rfl⟩)
          | (go_at_call 49; (with_reducible refine (l1In_true m 1 12 m1 m2 _).mono ?_); rintro e w2 ⟨rfl, rfl⟩)
          | (go_at_call 49; (with_reducible refine (l1In_true d 0 6 d1 d2 _).mono ?_); rintro e w2 ⟨rfl, rfl⟩)
          | (go_at_call 49; (with_reducible refine (l1In_false n 1 5 H4.out _).mono ?_); rintro e w2 ⟨rfl, rfl⟩))
        go_ret2
        exact ⟨rfl, Below.refl _ _⟩
    · have H2 : Hid (m < 1 ∨ 12 < m) := Lib.hid (by unfold InM at h2; omega)
      clear h h1 h2
      go_enter Tryd.func29, Tryd.ntmps29
      go_wp2_with (first
        | (go_at_call 49; (with_reducible refine (l1In_true y 2000 2099 y1 y2 _).mono ?_); rintro e w2 ⟨rfl, rfl⟩)
        | (go_at_call 49; (with_reducible refine (l1In_false m 1 12 H2.out _).mono ?_); rintro e w2 ⟨rfl, rfl⟩))
      go_ret2
      exact ⟨rfl, Below.refl _ _⟩
  · have H1 : Hid (y < 2000 ∨ 2099 < y) := Lib.hid (by unfold InY at h1; omega)
    clear h h1
    go_enter Tryd.func29, Tryd.ntmps29
    go_wp2_with (go_at_call 49; refine (l1In_false y 2000 2099 H1.out _).mono ?_; rintro e w2 ⟨rfl, rfl⟩)
    go_ret2
    exact ⟨rfl, Below.refl _ _⟩

/-- What NthWeekday answers. -/
def full (y m d n : Int) : Int × Bool := if InY y ∧ InM m ∧ 0 ≤ d ∧ d ≤ 6 then ans (dby y + bef y m) (lenM y m) d n else (0, false)

theorem impl (y m d n : Int) (w : World) (hT : Tab w) :
    Calls Tryd.prog 28 #[.int .i64 y, .int .i64 m, .int .i64 d, .int .i64 n] w fun e w' => e = .returned (.tuple #[.int .i64 (full y m d n).1, .bool (full y m d n).2]) ∧ Below w.heap.size w w' := by
  unfold full
  by_cases h : InY y ∧ InM m ∧ 0 ≤ d ∧ d ≤ 6
  · rw [if_pos h]
    obtain ⟨hy, hm, d1, d2⟩ := h
    have a := dby_bd hy
    have b := bef_bd y hm
    exact implAux y m d n 0 (lenM y m) (dby y) (bef y m) w hT (by omega) (by omega) (len_bd y m) d1 (by omega) (Lib.hid fun w hw => lenYes y m hy hm w hw) (Lib.hid fun w => befY y hy w) (Lib.hid fun w hw => befM y m hy hm.1 (by have := hm.2; omega) w hw)
  · rw [if_neg h]
    refine implNo y m d n w hT ?_
    by_cases h1 : InY y ∧ InM m
    · right
      have : ¬ (0 ≤ d ∧ d ≤ 6) := fun h2 => h ⟨h1.1, h1.2, h2⟩
      omega
    · exact .inl h1

theorem spec (y m d n : Int) (w : World) :
    Calls Tryd.prog 29 #[.int .i64 y, .int .i64 m, .int .i64 d, .int .i64 n] w fun e w' => e = .returned (.tuple #[.int .i64 (full y m d n).1, .bool (full y m d n).2]) ∧ Below w.heap.size w w' := by
  unfold full
  by_cases h : InY y ∧ InM m ∧ 0 ≤ d ∧ d ≤ 6
  · rw [if_pos h]
    obtain ⟨hy, hm, d1, d2⟩ := h
    have a := dby_bd hy
    have b := bef_bd y hm
    by_cases hn : n = -1 ∨ (1 ≤ n ∧ n ≤ 5)
    · refine specAux y m d n (dby y + bef y m) (lenM y m) w (by omega) (len_bd y m) hy.1 hy.2 hm.1 hm.2 d1 d2 (Lib.hid fun w => l3Length y m (by have := hy.1; omega) w) (Lib.hid fun k w k1 k2 => ?_) hn
      exact l3Day y m k hy hm (by omega) (by omega) w
    · rw [ans_none _ _ _ _ (.inr hn)]
      exact specNo y m d n w (.inr (.inr (.inr hn)))
  · rw [if_neg h]
    refine specNo y m d n w ?_
    by_cases h1 : InY y
    · by_cases h2 : InM m
      · right; right; left
        have : ¬ (0 ≤ d ∧ d ≤ 6) := fun h3 => h ⟨h1, h2, h3⟩
        omega
      · exact .inr (.inl h2)
    · exact .inl h1

set_option maxHeartbeats 1000000 in
theorem walkAux (y m d n R : Int) (b : Bool) (w : World) (hT : Tab w)
    (HS : Hid (∀ w, Calls Tryd.prog 29 #[.int .i64 y, .int .i64 m, .int .i64 d, .int .i64 n] w fun e w' => e = .returned (.tuple #[.int .i64 R, .bool b]) ∧ Below w.heap.size w w'))
    (HI : Hid (∀ w, Tab w → Calls Tryd.prog 28 #[.int .i64 y, .int .i64 m, .int .i64 d, .int .i64 n] w fun e w' => e = .returned (.tuple #[.int .i64 R, .bool b]) ∧ Below w.heap.size w w')) :
    Calls Tryd.prog 11 #[.int .i64 y, .int .i64 m, .int .i64 d, .int .i64 n] w fun e w' => e = .returned (.bool true) ∧ Below w.heap.size w w' := by
  have HT := Lib.hid hT
  clear hT
  go_enter Tryd.func11, Tryd.ntmps11
  go_wp2_with (go_at_call 29; refine (HS.out _).mono ?_; rintro e w1 ⟨rfl, hb1⟩; refine Hid.out ?_)
  refine Lib.hid ?_
  have HW1 := Lib.hid hb1
  have HT1 : Hid (Tab w1) := Lib.hid (HT.out.below hb1)
  clear hb1
  go_wp2_with (go_at_call 28; refine (HI.out _ HT1.out).mono ?_; rintro e w2 ⟨rfl, hb2⟩; refine Hid.out ?_)
  refine Lib.hid ?_
  have HW2 : Hid (Below w.heap.size w w2) := Lib.hid (HW1.out.trans (hb2.mono HW1.out.size))
  clear hb2
  cases b
  all_goals
    go_wp2_with fail
    go_ret
    exact ⟨rfl, HW2.out⟩

theorem walk (y m d n : Int) (w : World) (hT : Tab w) :
    Calls Tryd.prog 11 #[.int .i64 y, .int .i64 m, .int .i64 d, .int .i64 n] w fun e w' => e = .returned (.bool true) ∧ Below w.heap.size w w' :=
  walkAux y m d n _ _ w hT (Lib.hid fun w => spec y m d n w) (Lib.hid fun w hw => impl y m d n w hw)

end Go.Proofs.YtjibnfeeomlnlaaDoor.Nth
