/-
  The days before a year and a month, the length of a month: what the program's and the model's functions return.
-/
import Derived.Test.YtglpkanegehcbaaTab
import Derived.Test.YtglpkanegehcbaaWd
import Derived.Deep.QuietTactic
import Derived.BigQuiet
namespace Go.Proofs.Ytglpkanegehcbaa.Len
open Go.RowKit Go.Proofs.Ytglpkanegehcbaa.Cal Go.Proofs.Ytglpkanegehcbaa.Tab Go.Proofs.Ytglpkanegehcbaa.Wd

theorem ret_int {k : IntKind} {a b : Int} (h : a = b) : Ending.returned (.int k a) = .returned (.int k b) := by rw [h]
theorem ret_two {a b : Int} {c : Value} (h : a = b) : Ending.returned (.tuple #[.int .i64 a, c]) = .returned (.tuple #[.int .i64 b, c]) := by rw [h]

theorem cum13 {m : Int} (h1 : 1 ≤ m) (h2 : m ≤ 13) : 0 ≤ cumM m ∧ cumM m ≤ 365 := by
  by_cases h : m = 13
  · subst h; decide
  · have := cum_bd (m := m) ⟨h1, by omega⟩; omega

theorem l3Length (y m : Int) (h0 : 0 ≤ y) (w : World) :
    Calls Try.prog 59 #[.int .i64 y, .int .i64 m] w fun e w' => e = .returned (.int .i64 (lenM y m)) ∧ w = w' := by
  by_cases h4 : m = 4
  · subst h4
    go_enter Try.func59, Try.ntmps59
    go_wp2
    go_ret
    exact ⟨rfl, rfl⟩
  · by_cases h6 : m = 6
    · subst h6
      go_enter Try.func59, Try.ntmps59
      go_wp2
      go_ret
      exact ⟨rfl, rfl⟩
    · by_cases h9 : m = 9
      · subst h9
        go_enter Try.func59, Try.ntmps59
        go_wp2
        go_ret
        exact ⟨rfl, rfl⟩
      · by_cases h11 : m = 11
        · subst h11
          go_enter Try.func59, Try.ntmps59
          go_wp2
          go_ret
          exact ⟨rfl, rfl⟩
        · by_cases h2 : m = 2
          · subst h2
            by_cases hl : y % 4 = 0
            · have hl' : (y % 4 == 0) = true := by simpa using hl
              have e : Hid (29 = lenM y 2) := Lib.hid (by simp [lenM, hl])
              clear hl h4 h6 h9 h11
              go_enter Try.func59, Try.ntmps59
              go_wp2
              go_ret
              exact ⟨ret_int e.out, rfl⟩
            · have hl' : (y % 4 == 0) = false := by simpa using hl
              have e : Hid (28 = lenM y 2) := Lib.hid (by simp [lenM, hl])
              clear hl h4 h6 h9 h11
              go_enter Try.func59, Try.ntmps59
              go_wp2
              go_ret
              exact ⟨ret_int e.out, rfl⟩
          · have e : Hid (31 = lenM y m) := Lib.hid (by simp [lenM, h2, h4, h6, h9, h11])
            have g2 : (m == 2) = false := by simpa using h2
            have g4 : (m == 4) = false := by simpa using h4
            have g6 : (m == 6) = false := by simpa using h6
            have g9 : (m == 9) = false := by simpa using h9
            have g11 : (m == 11) = false := by simpa using h11
            clear h2 h4 h6 h9 h11
            go_enter Try.func59, Try.ntmps59
            go_wp2
            go_ret
            exact ⟨ret_int e.out, rfl⟩

end Go.Proofs.Ytglpkanegehcbaa.Len
