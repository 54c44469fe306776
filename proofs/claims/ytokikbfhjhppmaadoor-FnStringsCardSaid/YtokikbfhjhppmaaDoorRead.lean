/-
  What the model's l1Read returns, at every string.
-/
import Derived.Test.YtokikbfhjhppmaaDoorFmt
import Derived.Test.YtokikbfhjhppmaaDoorIntText
namespace Go.Proofs.YtokikbfhjhppmaaDoor.Read
open Go.RowKit Go.Proofs.YtokikbfhjhppmaaDoor.Plain Go.Proofs.YtokikbfhjhppmaaDoor.Num Go.Proofs.YtokikbfhjhppmaaDoor.Fmt Go.Proofs.YtokikbfhjhppmaaDoor.IntText

def readAns (s : ByteArray) (w : World) (e : Ending) (w' : World) : Prop :=
  (∃ m, w' = w.drewN m) ∧ ((∃ n, Is s n ∧ e = .returned (.tuple #[.int .i64 n, .bool true])) ∨ ((∀ n, ¬ Is s n) ∧ e = .returned (.tuple #[.int .i64 0, .bool false])))

/-- A text without a sign is that of a number that is not negative. -/
theorem is_plain {s : ByteArray} {n : Int} (h : Is s n) (hs : ∀ h1 : 1 < s.size, s[0].toNat ≠ 45) : 0 ≤ n ∧ s.data.toList = Lib.decDigits n.toNat := by
  obtain ⟨_, _, rfl⟩ := h
  by_cases hn : n < 0
  · exfalso
    have hne := List.length_pos_iff.2 (digits_ne n.natAbs)
    have e : Lib.itoa n = 45 :: Lib.decDigits n.natAbs := by unfold Lib.itoa; rw [if_pos hn]
    have h1 : 1 < (⟨(Lib.itoa n).toArray⟩ : ByteArray).size := by
      show 1 < (Lib.itoa n).toArray.size
      rw [e]; simp; omega
    have h2 := hs h1
    apply h2
    show ((Lib.itoa n).toArray[0]'(by show 0 < (Lib.itoa n).toArray.size; exact Nat.lt_trans Nat.zero_lt_one h1)).toNat = 45
    simp [e]
  · refine ⟨by omega, ?_⟩
    unfold Lib.itoa
    rw [if_neg hn]

/-- A text with a sign is that of a negative number. -/
theorem is_signed {s : ByteArray} {n : Int} (h : Is s n) (h1 : 1 < s.size) (hs : s[0].toNat = 45) : n < 0 ∧ (s.extract 1 s.size).data.toList = Lib.decDigits n.natAbs := by
  obtain ⟨_, _, rfl⟩ := h
  by_cases hn : n < 0
  · refine ⟨hn, ?_⟩
    have e : Lib.itoa n = 45 :: Lib.decDigits n.natAbs := by unfold Lib.itoa; rw [if_pos hn]
    rw [e, ByteArray.extract_mk]
    simp [ByteArray.size]
  · exfalso
    have e : Lib.itoa n = Lib.decDigits n.toNat := by unfold Lib.itoa; rw [if_neg hn]
    have h3 := decFrom_digits n.toNat
    cases hd : Lib.decDigits n.toNat with
    | nil => exact digits_ne _ hd
    | cons a t =>
      rw [hd] at h3
      have h4 := (decFrom_head a t 0 _ h3).1
      have h5 : a.toNat = 45 := by
        rw [← hs]
        show a.toNat = ((Lib.itoa n).toArray[0]'(by show 0 < (Lib.itoa n).toArray.size; exact Nat.lt_trans Nat.zero_lt_one h1)).toNat
        simp [e, hd]
      omega

theorem size_len (s : ByteArray) : s.size = s.data.toList.length := (Array.length_toList (xs := s.data)).symm

theorem ne_text {s : ByteArray} {l : List UInt8} (h : ¬ s = ⟨l.toArray⟩) : (!l == s.toList) = true := by
  rw [Bool.not_eq_true', beq_eq_false_iff_ne]
  intro e
  apply h
  rw [e, ByteArray.toList_eq]

set_option maxHeartbeats 1000000 in
theorem short1 (s : ByteArray) (w : World) (hs : s.size ≤ maxLen) (h1 : s.size ≤ 1) (h0 : 1 ≤ s.size) : Calls Tryd.prog 29 #[.string s] w (readAns s w) := by
    unfold maxLen at hs
    go_enter Tryd.func29, Tryd.ntmps29
    go_wp2_with (go_at_call 24; refine (l1In_true _ _ _ (by omega) (by omega) _).mono ?_; rintro e w' ⟨rfl, rfl⟩)
    go_loop [5, 6] (fun n i => ∃ k m : Nat, k ≤ s.size ∧ i = .int .i64 k ∧ n = .int .i64 m ∧ Lib.decFrom 0 (s.data.toList.take k) = some m) (fun _ i => s.size - (intOf i).toNat)
    case atStart => exact ⟨0, 0, Nat.zero_le _, rfl, rfl, rfl⟩
    case round =>
      obtain ⟨k, m, hk, rfl, rfl, hm⟩ := hrel
      have hm6 : m ≤ 999999 := decFrom_six hm (by have := List.length_take_le k s.data.toList; omega)
      have HM := Lib.hid hm
      clear hm
      by_cases hlt : k < s.size
      · by_cases h48 : s[k].toNat < 48
        · have HN := Lib.hid (decFrom_stop hlt (.inl h48))
          have h48' : ((s[k].toNat : Int)) < 48 := by omega
          go_wp2_with fail
          go_ret2
          exact ⟨⟨0, rfl⟩, .inr ⟨fun n hn => absurd HN.out (by rw [(is_plain hn (fun h => by omega)).2, decFrom_digits]; simp), rfl⟩⟩
        · by_cases h57 : 57 < s[k].toNat
          · have HN := Lib.hid (decFrom_stop hlt (.inr h57))
            go_wp2_with fail
            go_ret2
            exact ⟨⟨0, rfl⟩, .inr ⟨fun n hn => absurd HN.out (by rw [(is_plain hn (fun h => by omega)).2, decFrom_digits]; simp), rfl⟩⟩
          · have HS := Lib.hid (decFrom_step hlt HM.out (by omega) (by omega))
            go_wp2_with fail
            go_round
            case rel => exact ⟨k + 1, m * 10 + (s[k].toNat - 48), by omega, by go_num, by go_num, HS.out⟩
            case measure => simp [intOf]; omega
      · have HE : Hid (Lib.decFrom 0 s.data.toList = some m) := Lib.hid (by have := HM.out; rwa [take_all s k (by omega)] at this)
        by_cases hx : s = ⟨(Lib.itoa (m : Int)).toArray⟩
        · have HX := Lib.hid hx
          have hq : (!Lib.itoa (m : Int) == s.toList) = false := by rw [hx]; simp
          clear hx
          go_wp2_with (go_at_call 25; refine (l1Num (m : Int) _ (by omega) (by omega)).mono ?_; rintro e w' ⟨rfl, q, rfl⟩)
          go_ret2
          exact ⟨⟨_, rfl⟩, .inl ⟨_, ⟨by omega, by omega, HX.out⟩, rfl⟩⟩
        · have HX := Lib.hid hx
          have hq : (!Lib.itoa (m : Int) == s.toList) = true := ne_text hx
          clear hx
          go_wp2_with (go_at_call 25; refine (l1Num (m : Int) _ (by omega) (by omega)).mono ?_; rintro e w' ⟨rfl, q, rfl⟩)
          go_ret2
          exact ⟨⟨_, rfl⟩, .inr ⟨fun n hn => HX.out (by have h1 := (is_plain hn (fun h => by omega)).2; have h2 := HE.out; rw [h1, decFrom_digits] at h2; injection h2 with h2; have h3 := (is_plain hn (fun h => by omega)).1; have h4 := hn.2.2; rw [h4]; congr 3; omega), rfl⟩⟩

set_option maxHeartbeats 1000000 in
theorem short0 (s : ByteArray) (w : World) (hs : s.size ≤ maxLen) (h1 : s.size ≤ 0) : Calls Tryd.prog 29 #[.string s] w (readAns s w) := by
    unfold maxLen at hs
    go_enter Tryd.func29, Tryd.ntmps29
    go_wp2_with (go_at_call 24; refine (l1In_false _ _ _ (by omega) _).mono ?_; rintro e w' ⟨rfl, rfl⟩)
    go_ret2
    exact ⟨⟨0, rfl⟩, .inr ⟨fun n hn => by have h1 := (is_plain hn (fun h => by omega)).2; have h2 := digits_le n.toNat (by have := hn.2.1; omega); have h3 := List.length_pos_iff.2 (digits_ne n.toNat); have h4 := size_len s; rw [← h1] at h2 h3; omega, rfl⟩⟩

set_option maxHeartbeats 1000000 in
theorem plainIn (s : ByteArray) (w : World) (hs : s.size ≤ maxLen) (h1 : 1 < s.size) (h6 : s.size ≤ 6) (hc : s[0].toNat ≠ 45) : Calls Tryd.prog 29 #[.string s] w (readAns s w) := by
    unfold maxLen at hs
    have H0 := Lib.hid hc
    have hc' : ((s[0].toNat : Int) == 45) = false := by simp; omega
    clear hc
    have hpos : 0 < s.size := by omega
    go_enter Tryd.func29, Tryd.ntmps29
    go_wp2_with (go_at_call 24; refine (l1In_true _ _ _ (by omega) (by omega) _).mono ?_; rintro e w' ⟨rfl, rfl⟩)
    go_loop [5, 6] (fun n i => ∃ k m : Nat, k ≤ s.size ∧ i = .int .i64 k ∧ n = .int .i64 m ∧ Lib.decFrom 0 (s.data.toList.take k) = some m) (fun _ i => s.size - (intOf i).toNat)
    case atStart => exact ⟨0, 0, Nat.zero_le _, rfl, rfl, rfl⟩
    case round =>
      obtain ⟨k, m, hk, rfl, rfl, hm⟩ := hrel
      have hm6 : m ≤ 999999 := decFrom_six hm (by have := List.length_take_le k s.data.toList; omega)
      have HM := Lib.hid hm
      clear hm
      by_cases hlt : k < s.size
      · by_cases h48 : s[k].toNat < 48
        · have HN := Lib.hid (decFrom_stop hlt (.inl h48))
          have h48' : ((s[k].toNat : Int)) < 48 := by omega
          go_wp2_with fail
          go_ret2
          exact ⟨⟨0, rfl⟩, .inr ⟨fun n hn => absurd HN.out (by rw [(is_plain hn (fun _ => H0.out)).2, decFrom_digits]; simp), rfl⟩⟩
        · by_cases h57 : 57 < s[k].toNat
          · have HN := Lib.hid (decFrom_stop hlt (.inr h57))
            go_wp2_with fail
            go_ret2
            exact ⟨⟨0, rfl⟩, .inr ⟨fun n hn => absurd HN.out (by rw [(is_plain hn (fun _ => H0.out)).2, decFrom_digits]; simp), rfl⟩⟩
          · have HS := Lib.hid (decFrom_step hlt HM.out (by omega) (by omega))
            go_wp2_with fail
            go_round
            case rel => exact ⟨k + 1, m * 10 + (s[k].toNat - 48), by omega, by go_num, by go_num, HS.out⟩
            case measure => simp [intOf]; omega
      · have HE : Hid (Lib.decFrom 0 s.data.toList = some m) := Lib.hid (by have := HM.out; rwa [take_all s k (by omega)] at this)
        by_cases hx : s = ⟨(Lib.itoa (m : Int)).toArray⟩
        · have HX := Lib.hid hx
          have hq : (!Lib.itoa (m : Int) == s.toList) = false := by rw [hx]; simp
          clear hx
          go_wp2_with (go_at_call 25; refine (l1Num (m : Int) _ (by omega) (by omega)).mono ?_; rintro e w' ⟨rfl, q, rfl⟩)
          go_ret2
          exact ⟨⟨_, rfl⟩, .inl ⟨_, ⟨by omega, by omega, HX.out⟩, rfl⟩⟩
        · have HX := Lib.hid hx
          have hq : (!Lib.itoa (m : Int) == s.toList) = true := ne_text hx
          clear hx
          go_wp2_with (go_at_call 25; refine (l1Num (m : Int) _ (by omega) (by omega)).mono ?_; rintro e w' ⟨rfl, q, rfl⟩)
          go_ret2
          exact ⟨⟨_, rfl⟩, .inr ⟨fun n hn => HX.out (by have h1 := (is_plain hn (fun _ => H0.out)).2; have h2 := HE.out; rw [h1, decFrom_digits] at h2; injection h2 with h2; have h3 := (is_plain hn (fun _ => H0.out)).1; have h4 := hn.2.2; rw [h4]; congr 3; omega), rfl⟩⟩

set_option maxHeartbeats 1000000 in
theorem plainOut (s : ByteArray) (w : World) (hs : s.size ≤ maxLen) (h1 : 1 < s.size) (h6 : 6 < s.size) (hc : s[0].toNat ≠ 45) : Calls Tryd.prog 29 #[.string s] w (readAns s w) := by
    unfold maxLen at hs
    have H0 := Lib.hid hc
    have hc' : ((s[0].toNat : Int) == 45) = false := by simp; omega
    clear hc
    have hpos : 0 < s.size := by omega
    go_enter Tryd.func29, Tryd.ntmps29
    go_wp2_with (go_at_call 24; refine (l1In_false _ _ _ (by omega) _).mono ?_; rintro e w' ⟨rfl, rfl⟩)
    go_ret2
    exact ⟨⟨0, rfl⟩, .inr ⟨fun n hn => by have h1 := (is_plain hn (fun _ => H0.out)).2; have h2 := digits_le n.toNat (by have := hn.2.1; omega); have h3 := List.length_pos_iff.2 (digits_ne n.toNat); have h4 := size_len s; rw [← h1] at h2 h3; omega, rfl⟩⟩

set_option maxHeartbeats 1000000 in
theorem signIn (s : ByteArray) (w : World) (hs : s.size ≤ maxLen) (h1 : 1 < s.size) (h6 : s.size ≤ 7) (hc : s[0].toNat = 45) : Calls Tryd.prog 29 #[.string s] w (readAns s w) := by
    unfold maxLen at hs
    have H0 := Lib.hid hc
    have hc' : ((s[0].toNat : Int) == 45) = true := by simp; omega
    clear hc
    have hpos : 0 < s.size := by omega
    obtain ⟨t, ht⟩ : ∃ t, t = s.extract 1 s.size := ⟨_, rfl⟩
    have hsl : ∀ w, (Instr.slice 9 (.string s) (some (.int .i64 1)) none none).run Tryd.prog w = .ok (.string t) w := fun w => by
      rw [ht]; simp [go_sem, Tryd.underlying9]; omega
    have hts : t.size = s.size - 1 := by rw [ht]; simp
    have HT := Lib.hid ht
    clear ht
    have ht1 : t.size < s.size := by omega
    have ht2 : s.size ≤ t.size + 1 := by omega
    clear hts
    go_enter Tryd.func29, Tryd.ntmps29
    go_wp2_with (go_at_call 24; refine (l1In_true _ _ _ (by omega) (by omega) _).mono ?_; rintro e w' ⟨rfl, rfl⟩)
    go_loop [5, 6] (fun n i => ∃ k m : Nat, k ≤ t.size ∧ i = .int .i64 k ∧ n = .int .i64 m ∧ Lib.decFrom 0 (t.data.toList.take k) = some m) (fun _ i => t.size - (intOf i).toNat)
    case atStart => exact ⟨0, 0, Nat.zero_le _, rfl, rfl, rfl⟩
    case round =>
      obtain ⟨k, m, hk, rfl, rfl, hm⟩ := hrel
      have hm6 : m ≤ 999999 := decFrom_six hm (by have := List.length_take_le k t.data.toList; omega)
      have HM := Lib.hid hm
      clear hm
      by_cases hlt : k < t.size
      · by_cases h48 : t[k].toNat < 48
        · have HN := Lib.hid (decFrom_stop hlt (.inl h48))
          have h48' : ((t[k].toNat : Int)) < 48 := by omega
          go_wp2_with fail
          go_ret2
          exact ⟨⟨0, rfl⟩, .inr ⟨fun n hn => absurd HN.out (by rw [HT.out, (is_signed hn h1 H0.out).2, decFrom_digits]; simp), rfl⟩⟩
        · by_cases h57 : 57 < t[k].toNat
          · have HN := Lib.hid (decFrom_stop hlt (.inr h57))
            go_wp2_with fail
            go_ret2
            exact ⟨⟨0, rfl⟩, .inr ⟨fun n hn => absurd HN.out (by rw [HT.out, (is_signed hn h1 H0.out).2, decFrom_digits]; simp), rfl⟩⟩
          · have HS := Lib.hid (decFrom_step hlt HM.out (by omega) (by omega))
            go_wp2_with fail
            go_round
            case rel => exact ⟨k + 1, m * 10 + (t[k].toNat - 48), by omega, by go_num, by go_num, HS.out⟩
            case measure => simp [intOf]; omega
      · have HE : Hid (Lib.decFrom 0 t.data.toList = some m) := Lib.hid (by have := HM.out; rwa [take_all t k (by omega)] at this)
        by_cases hx : s = ⟨(Lib.itoa (-(m : Int))).toArray⟩
        · have HX := Lib.hid hx
          have hq : (!Lib.itoa (-(m : Int)) == s.toList) = false := by rw [hx]; simp
          clear hx
          go_wp2_with (go_at_call 25; refine (l1Num (-(m : Int)) _ (by omega) (by omega)).mono ?_; rintro e w' ⟨rfl, q, rfl⟩)
          go_ret2
          exact ⟨⟨_, rfl⟩, .inl ⟨_, ⟨by omega, by omega, HX.out⟩, rfl⟩⟩
        · have HX := Lib.hid hx
          have hq : (!Lib.itoa (-(m : Int)) == s.toList) = true := ne_text hx
          clear hx
          go_wp2_with (go_at_call 25; refine (l1Num (-(m : Int)) _ (by omega) (by omega)).mono ?_; rintro e w' ⟨rfl, q, rfl⟩)
          go_ret2
          exact ⟨⟨_, rfl⟩, .inr ⟨fun n hn => HX.out (by have h1 := (is_signed hn h1 H0.out); have h2 := HE.out; rw [HT.out, h1.2, decFrom_digits] at h2; injection h2 with h2; have h4 := hn.2.2; rw [h4]; congr 3; omega), rfl⟩⟩

set_option maxHeartbeats 1000000 in
theorem signOut (s : ByteArray) (w : World) (hs : s.size ≤ maxLen) (h1 : 1 < s.size) (h6 : 7 < s.size) (hc : s[0].toNat = 45) : Calls Tryd.prog 29 #[.string s] w (readAns s w) := by
    unfold maxLen at hs
    have H0 := Lib.hid hc
    have hc' : ((s[0].toNat : Int) == 45) = true := by simp; omega
    clear hc
    have hpos : 0 < s.size := by omega
    obtain ⟨t, ht⟩ : ∃ t, t = s.extract 1 s.size := ⟨_, rfl⟩
    have hsl : ∀ w, (Instr.slice 9 (.string s) (some (.int .i64 1)) none none).run Tryd.prog w = .ok (.string t) w := fun w => by
      rw [ht]; simp [go_sem, Tryd.underlying9]; omega
    have hts : t.size = s.size - 1 := by rw [ht]; simp
    have HT := Lib.hid ht
    clear ht
    have ht1 : t.size < s.size := by omega
    have ht2 : s.size ≤ t.size + 1 := by omega
    clear hts
    go_enter Tryd.func29, Tryd.ntmps29
    go_wp2_with (go_at_call 24; refine (l1In_false _ _ _ (by omega) _).mono ?_; rintro e w' ⟨rfl, rfl⟩)
    go_ret2
    exact ⟨⟨0, rfl⟩, .inr ⟨fun n hn => by have h5 := (is_signed hn h1 H0.out); have h2 := digits_le n.natAbs (by have := hn.1; omega); have h4 := size_len t; rw [← h5.2, ← HT.out] at h2; omega, rfl⟩⟩

theorem l1Read (s : ByteArray) (w : World) (hs : s.size ≤ maxLen) : Calls Tryd.prog 29 #[.string s] w (readAns s w) := by
  by_cases h0 : s.size ≤ 0
  · exact short0 s w hs h0
  · by_cases h1 : s.size ≤ 1
    · exact short1 s w hs h1 (by omega)
    · have h1' : 1 < s.size := by omega
      by_cases hc : s[0].toNat = 45
      · by_cases h7 : s.size ≤ 7
        · exact signIn s w hs h1' h7 hc
        · exact signOut s w hs h1' (by omega) hc
      · by_cases h6 : s.size ≤ 6
        · exact plainIn s w hs h1' h6 hc
        · exact plainOut s w hs h1' (by omega) hc

end Go.Proofs.YtokikbfhjhppmaaDoor.Read
