/-
  The walk of the law FnExactWeekday.
-/
import Derived.Test.YtjibnfeeomlnlaaWd
namespace Go.Proofs.Ytjibnfeeomlnlaa.WdLaw
open Go.RowKit Go.Proofs.Ytjibnfeeomlnlaa.Cal Go.Proofs.Ytjibnfeeomlnlaa.Wd

theorem walk (x : Int) (w : World) :
    Calls Try.prog 4 #[.int .i64 x] w fun e w' => e = .returned (.bool true) ∧ Below w.heap.size w w' := by
  by_cases h : Day x
  · have HD := Lib.hid h
    clear h
    go_enter Try.func4, Try.ntmps4
    go_wp2_with (first
      | (go_at_call 9; refine (specYes x HD.out _).mono ?_; rintro e w' ⟨rfl, rfl⟩)
      | (go_at_call 10; refine (implYes x HD.out _).mono ?_; rintro e w' ⟨rfl, rfl⟩))
    go_ret
    exact ⟨rfl, Below.refl _ _⟩
  · have HD := Lib.hid h
    clear h
    go_enter Try.func4, Try.ntmps4
    go_wp2_with (first
      | (go_at_call 9; refine (specNo x HD.out _).mono ?_; rintro e w' ⟨rfl, rfl⟩)
      | (go_at_call 10; refine (implNo x HD.out _).mono ?_; rintro e w' ⟨rfl, rfl⟩))
    go_ret
    exact ⟨rfl, Below.refl _ _⟩

end Go.Proofs.Ytjibnfeeomlnlaa.WdLaw
