/-
  What AppendChecksum returns, of the model and of the program, at every string.
-/
import Derived.Test.YtokikbfhjhppmaaDoorSeal
namespace Go.Proofs.YtokikbfhjhppmaaDoor.Seal
open Go.RowKit Go.Proofs.YtokikbfhjhppmaaDoor.Plain Go.Proofs.YtokikbfhjhppmaaDoor.Num Go.Proofs.YtokikbfhjhppmaaDoor.Fmt Go.Proofs.YtokikbfhjhppmaaDoor.Sum Go.Proofs.YtokikbfhjhppmaaDoor.IntText

theorem chkLong (s : ByteArray) (h : 4000 < s.size) (w : World) (hs : s.size ≤ maxLen) :
    Calls Tryd.prog 31 #[.string s] w fun e w' => e = .returned (.tuple #[.int .i64 0, .bool false]) ∧ w = w' :=
  (implChecksum s w hs).mono fun e w' ⟨hw, hh⟩ => by
    rcases hh with ⟨_, rfl⟩ | ⟨h2, _⟩
    · exact ⟨rfl, hw⟩
    · omega

theorem chkShort (s : ByteArray) (h : s.size ≤ 4000) (w : World) (hs : s.size ≤ maxLen) :
    Calls Tryd.prog 31 #[.string s] w fun e w' => e = .returned (.tuple #[.int .i64 (sumL s.data.toList), .bool true]) ∧ w = w' :=
  (implChecksum s w hs).mono fun e w' ⟨hw, hh⟩ => by
    rcases hh with ⟨h2, _⟩ | ⟨_, rfl⟩
    · omega
    · exact ⟨rfl, hw⟩

theorem specLong (s : ByteArray) (hlim : 4000 < s.size) (w : World) (hs : s.size ≤ maxLen) :
    Calls Tryd.prog 17 #[.string s] w fun e w' => e = .returned (.tuple #[.string ⟨#[]⟩, .bool false]) ∧ ∃ m, w' = w.drewN m := by
  have HM := Lib.hid hs
  unfold maxLen at hs
  go_enter Tryd.func17, Tryd.ntmps17
  go_wp2_with (first
    | (go_at_call 33; refine (standsNo s 35 _ rfl (by assumption) _ HM.out).mono ?_; rintro e w' ⟨rfl, rfl⟩)
    | (go_at_call 34; refine (l1Seal s (by omega) _).mono ?_; rintro e w' ⟨rfl, q, rfl⟩))
  all_goals go_ret2
  all_goals exact ⟨rfl, by first | exact ⟨0, rfl⟩ | exact ⟨_, rfl⟩ | exact ⟨_, World.drewN_drewN _ _ _⟩⟩

theorem specMark (s : ByteArray) (hlim : s.size ≤ 4000) (hi : In 35 s) (w : World) (hs : s.size ≤ maxLen) :
    Calls Tryd.prog 17 #[.string s] w fun e w' => e = .returned (.tuple #[.string ⟨#[]⟩, .bool false]) ∧ ∃ m, w' = w.drewN m := by
  have HM := Lib.hid hs
  unfold maxLen at hs
  have HI := Lib.hid hi
  clear hi
  go_enter Tryd.func17, Tryd.ntmps17
  go_wp2_with (first
    | (go_at_call 33; refine (standsYes s 35 _ rfl HI.out _ HM.out).mono ?_; rintro e w' ⟨rfl, rfl⟩)
    | (go_at_call 34; refine (l1Seal s (by omega) _).mono ?_; rintro e w' ⟨rfl, q, rfl⟩))
  all_goals go_ret2
  all_goals exact ⟨rfl, by first | exact ⟨0, rfl⟩ | exact ⟨_, rfl⟩ | exact ⟨_, World.drewN_drewN _ _ _⟩⟩

theorem specWide (s : ByteArray) (hlim : s.size ≤ 4000) (hi : ¬ In 35 s) (hw : 4000 < (sealS s).size) (w : World) (hs : s.size ≤ maxLen) :
    Calls Tryd.prog 17 #[.string s] w fun e w' => e = .returned (.tuple #[.string ⟨#[]⟩, .bool false]) ∧ ∃ m, w' = w.drewN m := by
  have HM := Lib.hid hs
  unfold maxLen at hs
  have HI := Lib.hid hi
  clear hi
  go_enter Tryd.func17, Tryd.ntmps17
  go_wp2_with (first
    | (go_at_call 33; refine (standsNo s 35 _ rfl HI.out _ HM.out).mono ?_; rintro e w' ⟨rfl, rfl⟩)
    | (go_at_call 34; refine (l1Seal s (by omega) _).mono ?_; rintro e w' ⟨rfl, q, rfl⟩))
  all_goals go_ret2
  all_goals exact ⟨rfl, by first | exact ⟨0, rfl⟩ | exact ⟨_, rfl⟩ | exact ⟨_, World.drewN_drewN _ _ _⟩⟩

theorem specFits (s : ByteArray) (hlim : s.size ≤ 4000) (hi : ¬ In 35 s) (hw : (sealS s).size ≤ 4000) (w : World) (hs : s.size ≤ maxLen) :
    Calls Tryd.prog 17 #[.string s] w fun e w' => e = .returned (.tuple #[.string (sealS s), .bool true]) ∧ ∃ m, w' = w.drewN m := by
  have HM := Lib.hid hs
  unfold maxLen at hs
  have HI := Lib.hid hi
  clear hi
  go_enter Tryd.func17, Tryd.ntmps17
  go_wp2_with (first
    | (go_at_call 33; refine (standsNo s 35 _ rfl HI.out _ HM.out).mono ?_; rintro e w' ⟨rfl, rfl⟩)
    | (go_at_call 34; refine (l1Seal s (by omega) _).mono ?_; rintro e w' ⟨rfl, q, rfl⟩))
  all_goals go_ret2
  all_goals exact ⟨rfl, by first | exact ⟨0, rfl⟩ | exact ⟨_, rfl⟩ | exact ⟨_, World.drewN_drewN _ _ _⟩⟩

theorem implLong (s : ByteArray) (hlim : 4000 < s.size) (w : World) (hs : s.size ≤ maxLen) (ht0 : Lib.TabIs Tryd.prog w "internal/strconv.uint64pow10" .u64 Lib.pow10Tab) :
    Calls Tryd.prog 16 #[.string s] w fun e w' => e = .returned (.tuple #[.string ⟨#[]⟩, .bool false]) ∧ Below w.heap.size w w' := by
  have HM := Lib.hid hs
  unfold maxLen at hs
  have HT := Lib.hid ht0
  clear ht0
  obtain ⟨hb0, hb1⟩ := sum_le s
  have hdl := digits_bd s
  go_enter Tryd.func16, Tryd.ntmps16
  go_wp2_with (first
    | (go_at_call 31; refine (chkLong s hlim _ HM.out).mono ?_; rintro e w' ⟨rfl, rfl⟩)
    | (go_at_call 32; refine (containsNo s 35 (by assumption) _).mono ?_; rintro e w' ⟨rfl, rfl⟩)
    | (go_at_call 10; refine (implIn _ hb0 hb1 _ HT.out).mono ?_; rintro e w' ⟨rfl, hb⟩))
  all_goals go_ret2
  all_goals exact ⟨rfl, by first | exact Below.refl _ _ | exact hb⟩

theorem implMark (s : ByteArray) (hlim : s.size ≤ 4000) (hi : In 35 s) (w : World) (hs : s.size ≤ maxLen) (ht0 : Lib.TabIs Tryd.prog w "internal/strconv.uint64pow10" .u64 Lib.pow10Tab) :
    Calls Tryd.prog 16 #[.string s] w fun e w' => e = .returned (.tuple #[.string ⟨#[]⟩, .bool false]) ∧ Below w.heap.size w w' := by
  have HM := Lib.hid hs
  unfold maxLen at hs
  have HT := Lib.hid ht0
  clear ht0
  have HI := Lib.hid hi
  clear hi
  obtain ⟨hb0, hb1⟩ := sum_le s
  have hdl := digits_bd s
  go_enter Tryd.func16, Tryd.ntmps16
  go_wp2_with (first
    | (go_at_call 31; refine (chkShort s hlim _ HM.out).mono ?_; rintro e w' ⟨rfl, rfl⟩)
    | (go_at_call 32; refine (containsYes s 35 HI.out _).mono ?_; rintro e w' ⟨rfl, rfl⟩)
    | (go_at_call 10; refine (implIn _ hb0 hb1 _ HT.out).mono ?_; rintro e w' ⟨rfl, hb⟩))
  all_goals go_ret2
  all_goals exact ⟨rfl, by first | exact Below.refl _ _ | exact hb⟩

theorem implWide (s : ByteArray) (hlim : s.size ≤ 4000) (hi : ¬ In 35 s) (hw : 4000 < s.size + 1 + (Lib.itoa (sumL s.data.toList)).length) (w : World) (hs : s.size ≤ maxLen) (ht0 : Lib.TabIs Tryd.prog w "internal/strconv.uint64pow10" .u64 Lib.pow10Tab) :
    Calls Tryd.prog 16 #[.string s] w fun e w' => e = .returned (.tuple #[.string ⟨#[]⟩, .bool false]) ∧ Below w.heap.size w w' := by
  have HM := Lib.hid hs
  unfold maxLen at hs
  have HT := Lib.hid ht0
  clear ht0
  have HI := Lib.hid hi
  clear hi
  obtain ⟨hb0, hb1⟩ := sum_le s
  have hdl := digits_bd s
  go_enter Tryd.func16, Tryd.ntmps16
  go_wp2_with (first
    | (go_at_call 31; refine (chkShort s hlim _ HM.out).mono ?_; rintro e w' ⟨rfl, rfl⟩)
    | (go_at_call 32; refine (containsNo s 35 HI.out _).mono ?_; rintro e w' ⟨rfl, rfl⟩)
    | (go_at_call 10; refine (implIn _ hb0 hb1 _ HT.out).mono ?_; rintro e w' ⟨rfl, hb⟩))
  all_goals go_ret2
  all_goals exact ⟨rfl, by first | exact Below.refl _ _ | exact hb⟩

theorem implFits (s : ByteArray) (hlim : s.size ≤ 4000) (hi : ¬ In 35 s) (hw : s.size + 1 + (Lib.itoa (sumL s.data.toList)).length ≤ 4000) (w : World) (hs : s.size ≤ maxLen) (ht0 : Lib.TabIs Tryd.prog w "internal/strconv.uint64pow10" .u64 Lib.pow10Tab) :
    Calls Tryd.prog 16 #[.string s] w fun e w' => e = .returned (.tuple #[.string (sealS s), .bool true]) ∧ Below w.heap.size w w' := by
  have HM := Lib.hid hs
  unfold maxLen at hs
  have HT := Lib.hid ht0
  clear ht0
  have HI := Lib.hid hi
  clear hi
  obtain ⟨hb0, hb1⟩ := sum_le s
  have hdl := digits_bd s
  have h1 := addMark s (by omega)
  have h2 := addSum s (by omega)
  go_enter Tryd.func16, Tryd.ntmps16
  go_wp2_with (first
    | (go_at_call 31; refine (chkShort s hlim _ HM.out).mono ?_; rintro e w' ⟨rfl, rfl⟩)
    | (go_at_call 32; refine (containsNo s 35 HI.out _).mono ?_; rintro e w' ⟨rfl, rfl⟩)
    | (go_at_call 10; refine (implIn _ hb0 hb1 _ HT.out).mono ?_; rintro e w' ⟨rfl, hb⟩))
  all_goals go_ret2
  all_goals exact ⟨rfl, by first | exact Below.refl _ _ | exact hb⟩

theorem specYes (s : ByteArray) (h : Fits s) (w : World) (hs : s.size ≤ maxLen) :
    Calls Tryd.prog 17 #[.string s] w fun e w' => e = .returned (.tuple #[.string (sealS s), .bool true]) ∧ ∃ m, w' = w.drewN m :=
  specFits s (by have := h.2; omega) h.1 (by rw [sealS_size]; exact h.2) w hs

theorem specNo (s : ByteArray) (h : ¬ Fits s) (w : World) (hs : s.size ≤ maxLen) :
    Calls Tryd.prog 17 #[.string s] w fun e w' => e = .returned (.tuple #[.string ⟨#[]⟩, .bool false]) ∧ ∃ m, w' = w.drewN m := by
  by_cases h1 : 4000 < s.size
  · exact specLong s h1 w hs
  · by_cases h2 : In 35 s
    · exact specMark s (by omega) h2 w hs
    · exact specWide s (by omega) h2 (by rw [sealS_size]; apply Nat.lt_of_not_le; intro h3; exact h ⟨h2, h3⟩) w hs

theorem implYes (s : ByteArray) (h : Fits s) (w : World) (hs : s.size ≤ maxLen) (ht0 : Lib.TabIs Tryd.prog w "internal/strconv.uint64pow10" .u64 Lib.pow10Tab) :
    Calls Tryd.prog 16 #[.string s] w fun e w' => e = .returned (.tuple #[.string (sealS s), .bool true]) ∧ Below w.heap.size w w' :=
  implFits s (by have := h.2; omega) h.1 h.2 w hs ht0

theorem implNo (s : ByteArray) (h : ¬ Fits s) (w : World) (hs : s.size ≤ maxLen) (ht0 : Lib.TabIs Tryd.prog w "internal/strconv.uint64pow10" .u64 Lib.pow10Tab) :
    Calls Tryd.prog 16 #[.string s] w fun e w' => e = .returned (.tuple #[.string ⟨#[]⟩, .bool false]) ∧ Below w.heap.size w w' := by
  by_cases h1 : 4000 < s.size
  · exact implLong s h1 w hs ht0
  · by_cases h2 : In 35 s
    · exact implMark s (by omega) h2 w hs ht0
    · exact implWide s (by omega) h2 (by apply Nat.lt_of_not_le; intro h3; exact h ⟨h2, h3⟩) w hs ht0

end Go.Proofs.YtokikbfhjhppmaaDoor.Seal
