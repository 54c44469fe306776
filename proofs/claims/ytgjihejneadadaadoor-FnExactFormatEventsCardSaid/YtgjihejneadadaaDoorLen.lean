/-
  The days before a year and a month, the length of a month: what the program's and the model's functions return.
-/
import Derived.Test.YtgjihejneadadaaDoorTab
import Derived.Test.YtgjihejneadadaaDoorWd
import Derived.Deep.QuietTactic
import Derived.BigQuiet
namespace Go.Proofs.YtgjihejneadadaaDoor.Len
open Go.RowKit Go.Proofs.YtgjihejneadadaaDoor.Cal Go.Proofs.YtgjihejneadadaaDoor.Tab Go.Proofs.YtgjihejneadadaaDoor.Wd

theorem ret_int {k : IntKind} {a b : Int} (h : a = b) : Ending.returned (.int k a) = .returned (.int k b) := by rw [h]
theorem ret_two {a b : Int} {c : Value} (h : a = b) : Ending.returned (.tuple #[.int .i64 a, c]) = .returned (.tuple #[.int .i64 b, c]) := by rw [h]

theorem leapYes (y : Int) (h0 : 0 ≤ y) (h : y % 4 = 0) (w : World) :
    Calls Tryd.prog 69 #[.int .i64 y] w fun e w' => e = .returned (.bool true) ∧ w = w' := by
  have h1 : (y % 4 == 0) = true := by simpa using h
  clear h
  go_enter Tryd.func69, Tryd.ntmps69
  go_wp2
  go_ret
  exact ⟨by simp_all, rfl⟩

theorem leapNo (y : Int) (h0 : 0 ≤ y) (h : ¬ y % 4 = 0) (w : World) :
    Calls Tryd.prog 69 #[.int .i64 y] w fun e w' => e = .returned (.bool false) ∧ w = w' := by
  have h1 : (y % 4 == 0) = false := by simpa using h
  clear h
  go_enter Tryd.func69, Tryd.ntmps69
  go_wp2
  go_ret
  exact ⟨by simp_all, rfl⟩

theorem cum13 {m : Int} (h1 : 1 ≤ m) (h2 : m ≤ 13) : 0 ≤ cumM m ∧ cumM m ≤ 365 := by
  by_cases h : m = 13
  · subst h; decide
  · have := cum_bd (m := m) ⟨h1, by omega⟩; omega

theorem befM (y m : Int) (hy : InY y) (h1 : 1 ≤ m) (h2 : m ≤ 13) (w : World) (hT : Tab w) :
    Calls Tryd.prog 64 #[.int .i64 y, .int .i64 m] w fun e w' => e = .returned (.int .i64 (bef y m)) ∧ w = w' := by
  have hc := hT.cell m h1 h2
  obtain ⟨b1, b2⟩ := cum13 h1 h2
  obtain ⟨y1, y2⟩ := hy
  have i0 : 0 ≤ m - 1 := by omega
  have i1 : m - 1 < 13 := by omega
  clear hT
  by_cases hm : 2 < m
  · by_cases hl : y % 4 = 0
    · have e : Hid (cumM m + 1 = bef y m) := Lib.hid (by unfold bef; rw [if_pos ⟨hm, hl⟩])
      have HL := Lib.hid hl
      clear hl
      generalize cumM m = c at *
      go_enter Tryd.func64, Tryd.ntmps64
      go_wp2_with (go_at_call 69; refine (leapYes y (by omega) HL.out _).mono ?_; rintro e w' ⟨rfl, rfl⟩)
      go_ret
      exact ⟨ret_int e.out, rfl⟩
    · have e : Hid (cumM m = bef y m) := Lib.hid (by unfold bef; rw [if_neg (fun h => hl h.2)]; omega)
      have HL := Lib.hid hl
      clear hl
      generalize cumM m = c at *
      go_enter Tryd.func64, Tryd.ntmps64
      go_wp2_with (go_at_call 69; refine (leapNo y (by omega) HL.out _).mono ?_; rintro e w' ⟨rfl, rfl⟩)
      go_ret
      exact ⟨ret_int e.out, rfl⟩
  · have e : Hid (cumM m = bef y m) := Lib.hid (by unfold bef; rw [if_neg (fun h => hm h.1)]; omega)
    generalize cumM m = c at *
    go_enter Tryd.func64, Tryd.ntmps64
    go_wp2_with fail
    go_ret
    exact ⟨ret_int e.out, rfl⟩

theorem befY (y : Int) (hy : InY y) (w : World) :
    Calls Tryd.prog 63 #[.int .i64 y] w fun e w' => e = .returned (.int .i64 (dby y)) ∧ w = w' := by
  have e : Hid ((y - 2000) * 365 + (y - 2000 + 3) / 4 = dby y) := Lib.hid rfl
  obtain ⟨y1, y2⟩ := hy
  go_enter Tryd.func63, Tryd.ntmps63
  go_wp2
  go_ret
  exact ⟨ret_int e.out, rfl⟩

theorem l3Length (y m : Int) (h0 : 0 ≤ y) (w : World) :
    Calls Tryd.prog 68 #[.int .i64 y, .int .i64 m] w fun e w' => e = .returned (.int .i64 (lenM y m)) ∧ w = w' := by
  by_cases h4 : m = 4
  · subst h4
    go_enter Tryd.func68, Tryd.ntmps68
    go_wp2
    go_ret
    exact ⟨rfl, rfl⟩
  · by_cases h6 : m = 6
    · subst h6
      go_enter Tryd.func68, Tryd.ntmps68
      go_wp2
      go_ret
      exact ⟨rfl, rfl⟩
    · by_cases h9 : m = 9
      · subst h9
        go_enter Tryd.func68, Tryd.ntmps68
        go_wp2
        go_ret
        exact ⟨rfl, rfl⟩
      · by_cases h11 : m = 11
        · subst h11
          go_enter Tryd.func68, Tryd.ntmps68
          go_wp2
          go_ret
          exact ⟨rfl, rfl⟩
        · by_cases h2 : m = 2
          · subst h2
            by_cases hl : y % 4 = 0
            · have hl' : (y % 4 == 0) = true := by simpa using hl
              have e : Hid (29 = lenM y 2) := Lib.hid (by simp [lenM, hl])
              clear hl h4 h6 h9 h11
              go_enter Tryd.func68, Tryd.ntmps68
              go_wp2
              go_ret
              exact ⟨ret_int e.out, rfl⟩
            · have hl' : (y % 4 == 0) = false := by simpa using hl
              have e : Hid (28 = lenM y 2) := Lib.hid (by simp [lenM, hl])
              clear hl h4 h6 h9 h11
              go_enter Tryd.func68, Tryd.ntmps68
              go_wp2
              go_ret
              exact ⟨ret_int e.out, rfl⟩
          · have e : Hid (31 = lenM y m) := Lib.hid (by simp [lenM, h2, h4, h6, h9, h11])
            have g2 : (m == 2) = false := by simpa using h2
            have g4 : (m == 4) = false := by simpa using h4
            have g6 : (m == 6) = false := by simpa using h6
            have g9 : (m == 9) = false := by simpa using h9
            have g11 : (m == 11) = false := by simpa using h11
            clear h2 h4 h6 h9 h11
            go_enter Tryd.func68, Tryd.ntmps68
            go_wp2
            go_ret
            exact ⟨ret_int e.out, rfl⟩

end Go.Proofs.YtgjihejneadadaaDoor.Len
