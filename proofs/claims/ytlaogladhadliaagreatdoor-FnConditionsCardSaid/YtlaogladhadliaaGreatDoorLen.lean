/-
  The days before a year and a month, the length of a month: what the program's and the model's functions return.
-/
import Derived.Test.YtlaogladhadliaaGreatDoorTab
import Derived.Test.YtlaogladhadliaaGreatDoorWd
import Derived.Deep.QuietTactic
import Derived.BigQuiet
namespace Go.Proofs.YtlaogladhadliaaGreatDoor.Len
open Go.RowKit Go.Proofs.YtlaogladhadliaaGreatDoor.Cal Go.Proofs.YtlaogladhadliaaGreatDoor.Tab Go.Proofs.YtlaogladhadliaaGreatDoor.Wd

theorem ret_int {k : IntKind} {a b : Int} (h : a = b) : Ending.returned (.int k a) = .returned (.int k b) := by rw [h]
theorem ret_two {a b : Int} {c : Value} (h : a = b) : Ending.returned (.tuple #[.int .i64 a, c]) = .returned (.tuple #[.int .i64 b, c]) := by rw [h]

theorem leapYes (y : Int) (h0 : 0 ≤ y) (h : y % 4 = 0) (w : World) :
    Calls Tryz.prog 77 #[.int .i64 y] w fun e w' => e = .returned (.bool true) ∧ w = w' := by
  have h1 : (y % 4 == 0) = true := by simpa using h
  clear h
  go_enter Tryz.func77, Tryz.ntmps77
  go_wp2
  go_ret
  exact ⟨by simp_all, rfl⟩

theorem leapNo (y : Int) (h0 : 0 ≤ y) (h : ¬ y % 4 = 0) (w : World) :
    Calls Tryz.prog 77 #[.int .i64 y] w fun e w' => e = .returned (.bool false) ∧ w = w' := by
  have h1 : (y % 4 == 0) = false := by simpa using h
  clear h
  go_enter Tryz.func77, Tryz.ntmps77
  go_wp2
  go_ret
  exact ⟨by simp_all, rfl⟩

theorem cum13 {m : Int} (h1 : 1 ≤ m) (h2 : m ≤ 13) : 0 ≤ cumM m ∧ cumM m ≤ 365 := by
  by_cases h : m = 13
  · subst h; decide
  · have := cum_bd (m := m) ⟨h1, by omega⟩; omega

theorem befM (y m : Int) (hy : InY y) (h1 : 1 ≤ m) (h2 : m ≤ 13) (w : World) (hT : Tab w) :
    Calls Tryz.prog 72 #[.int .i64 y, .int .i64 m] w fun e w' => e = .returned (.int .i64 (bef y m)) ∧ w = w' := by
  have hc := hT.cell m h1 h2
  obtain ⟨b1, b2⟩ := cum13 h1 h2
  obtain ⟨y1, y2⟩ := hy
  have i0 : 0 ≤ m - 1 := by omega
  have i1 : m - 1 < 13 := by omega
  clear hT
  by_cases hm : 2 < m
  · by_cases hl : y % 4 = 0
    · have e : Hid (cumM m + 1 = bef y m) := Lib.hid (by unfold bef; rw [if_pos ⟨hm, hl⟩])
      have HL := Lib.hid hl
      clear hl
      generalize cumM m = c at *
      go_enter Tryz.func72, Tryz.ntmps72
      go_wp2_with (go_at_call 77; refine (leapYes y (by omega) HL.out _).mono ?_; rintro e w' ⟨rfl, rfl⟩)
      go_ret
      exact ⟨ret_int e.out, rfl⟩
    · have e : Hid (cumM m = bef y m) := Lib.hid (by unfold bef; rw [if_neg (fun h => hl h.2)]; omega)
      have HL := Lib.hid hl
      clear hl
      generalize cumM m = c at *
      go_enter Tryz.func72, Tryz.ntmps72
      go_wp2_with (go_at_call 77; refine (leapNo y (by omega) HL.out _).mono ?_; rintro e w' ⟨rfl, rfl⟩)
      go_ret
      exact ⟨ret_int e.out, rfl⟩
  · have e : Hid (cumM m = bef y m) := Lib.hid (by unfold bef; rw [if_neg (fun h => hm h.1)]; omega)
    generalize cumM m = c at *
    go_enter Tryz.func72, Tryz.ntmps72
    go_wp2_with fail
    go_ret
    exact ⟨ret_int e.out, rfl⟩

theorem befY (y : Int) (hy : InY y) (w : World) :
    Calls Tryz.prog 71 #[.int .i64 y] w fun e w' => e = .returned (.int .i64 (dby y)) ∧ w = w' := by
  have e : Hid ((y - 2000) * 365 + (y - 2000 + 3) / 4 = dby y) := Lib.hid rfl
  obtain ⟨y1, y2⟩ := hy
  go_enter Tryz.func71, Tryz.ntmps71
  go_wp2
  go_ret
  exact ⟨ret_int e.out, rfl⟩

theorem lenYes (y m : Int) (hy : InY y) (hm : InM m) (w : World) (hT : Tab w) :
    Calls Tryz.prog 92 #[.int .i64 y, .int .i64 m] w fun e w' => e = .returned (.tuple #[.int .i64 (lenM y m), .bool true]) ∧ w = w' := by
  have HT := Lib.hid hT
  have HY := Lib.hid hy
  have e : Hid (bef y (m + 1) - bef y m = lenM y m) := Lib.hid (by have := bef_succ y hm; omega)
  obtain ⟨b1, b2, b3, b4⟩ := bef_bd y hm
  obtain ⟨y1, y2⟩ := hy
  obtain ⟨m1, m2⟩ := hm
  clear hT
  go_enter Tryz.func92, Tryz.ntmps92
  go_wp2_with (go_at_call 72; refine (befM y _ HY.out (by omega) (by omega) _ HT.out).mono ?_; rintro e w' ⟨rfl, rfl⟩)
  go_ret2
  exact ⟨ret_two e.out, rfl⟩

theorem lenNo (y m : Int) (h : ¬ (InY y ∧ InM m)) (w : World) :
    Calls Tryz.prog 92 #[.int .i64 y, .int .i64 m] w fun e w' => e = .returned (.tuple #[.int .i64 0, .bool false]) ∧ w = w' := by
  unfold InY InM at h
  by_cases h1 : y < 2000
  · clear h
    go_enter Tryz.func92, Tryz.ntmps92
    go_wp2_with fail
    go_ret2
    exact ⟨rfl, rfl⟩
  · by_cases h2 : 2099 < y
    · clear h
      go_enter Tryz.func92, Tryz.ntmps92
      go_wp2_with fail
      go_ret2
      exact ⟨rfl, rfl⟩
    · by_cases h3 : m < 1
      · clear h
        go_enter Tryz.func92, Tryz.ntmps92
        go_wp2_with fail
        go_ret2
        exact ⟨rfl, rfl⟩
      · have h4 : 12 < m := by omega
        clear h
        go_enter Tryz.func92, Tryz.ntmps92
        go_wp2_with fail
        go_ret2
        exact ⟨rfl, rfl⟩

end Go.Proofs.YtlaogladhadliaaGreatDoor.Len
