/-
  Days and weekdays: what the model's and the program's tests return, at every int.
-/
import Derived.Test.YtglpkanegehcbaaRows
import Derived.Test.YtglpkanegehcbaaCal
import Derived.WalkKit
import Derived.ProofKit
import Derived.Lib.Hide
namespace Go.Proofs.Ytglpkanegehcbaa.Wd
open Go.RowKit Go.Proofs.Ytglpkanegehcbaa.Cal

theorem l1In_true (x a b : Int) (h1 : a ≤ x) (h2 : x ≤ b) (w : World) :
    Calls Try.prog 35 #[.int .i64 x, .int .i64 a, .int .i64 b] w fun e w' => e = .returned (.bool true) ∧ w = w' := by
  go_enter Try.func35, Try.ntmps35
  go_wp2
  go_ret
  exact ⟨by simp, rfl⟩

theorem l1In_false (x a b : Int) (h : x < a ∨ b < x) (w : World) :
    Calls Try.prog 35 #[.int .i64 x, .int .i64 a, .int .i64 b] w fun e w' => e = .returned (.bool false) ∧ w = w' := by
  by_cases ha : x < a
  · go_enter Try.func35, Try.ntmps35
    go_wp2
    go_ret
    exact ⟨rfl, rfl⟩
  · have hb : b < x := by omega
    have ha' : a ≤ x := by omega
    clear ha h
    go_enter Try.func35, Try.ntmps35
    go_wp2
    go_ret
    exact ⟨by simp [hb], rfl⟩

theorem goodYes (x : Int) (h : Day x) (w : World) :
    Calls Try.prog 34 #[.int .i64 x] w fun e w' => e = .returned (.bool true) ∧ w = w' := by
  obtain ⟨h0, h1⟩ := h
  go_enter Try.func34, Try.ntmps34
  go_wp2_with (go_at_call 35; refine (l1In_true _ _ _ (by omega) (by omega) _).mono ?_; rintro e w' ⟨rfl, rfl⟩)
  go_ret
  exact ⟨rfl, rfl⟩

theorem goodNo (x : Int) (h : ¬ Day x) (w : World) :
    Calls Try.prog 34 #[.int .i64 x] w fun e w' => e = .returned (.bool false) ∧ w = w' := by
  have h' : x < 0 ∨ 36524 < x := by unfold Day at h; omega
  clear h
  go_enter Try.func34, Try.ntmps34
  go_wp2_with (go_at_call 35; refine (l1In_false _ _ _ h' _).mono ?_; rintro e w' ⟨rfl, rfl⟩)
  go_ret
  exact ⟨rfl, rfl⟩

theorem isDayYes (x : Int) (h : Day x) (w : World) :
    Calls Try.prog 30 #[.int .i64 x] w fun e w' => e = .returned (.bool true) ∧ w = w' := by
  obtain ⟨h0, h1⟩ := h
  go_enter Try.func30, Try.ntmps30
  go_wp2
  go_ret
  exact ⟨by simp, rfl⟩

theorem isDayNo (x : Int) (h : ¬ Day x) (w : World) :
    Calls Try.prog 30 #[.int .i64 x] w fun e w' => e = .returned (.bool false) ∧ w = w' := by
  by_cases ha : x < 0
  · clear h
    go_enter Try.func30, Try.ntmps30
    go_wp2
    go_ret
    exact ⟨rfl, rfl⟩
  · have hb : 36524 < x := by unfold Day at h; omega
    have ha' : 0 ≤ x := by omega
    clear ha h
    go_enter Try.func30, Try.ntmps30
    go_wp2
    go_ret
    exact ⟨by simp [hb], rfl⟩

theorem l3Weekday (x : Int) (h0 : 0 ≤ x) (h1 : x ≤ 100000) (w : World) :
    Calls Try.prog 70 #[.int .i64 x] w fun e w' => e = .returned (.int .i64 ((x + 5) % 7)) ∧ w = w' := by
  go_enter Try.func70, Try.ntmps70
  go_wp2
  go_ret
  exact ⟨rfl, rfl⟩

theorem weekdayOf (x : Int) (h0 : 0 ≤ x) (h1 : x ≤ 100000) (w : World) :
    Calls Try.prog 55 #[.int .i64 x] w fun e w' => e = .returned (.int .i64 ((x + 5) % 7)) ∧ w = w' := by
  go_enter Try.func55, Try.ntmps55
  go_wp2
  go_ret
  exact ⟨rfl, rfl⟩

end Go.Proofs.Ytglpkanegehcbaa.Wd
