/-
  The forms of conditions: l5Form of the model, hasForm of the program.
-/
import Derived.Test.YtomloodakabcbaaNmI
import Derived.Test.YtomloodakabcbaaCoTo
namespace Go.Proofs.Ytomloodakabcbaa.Cond
open Go.RowKit

theorem isDay (d : Int) (w : World) : Calls Try.prog 42 #[.int .i64 d] w fun e w' => e = .returned (.bool (isDy d)) ∧ w = w' := by
  unfold isDy
  go_enter Try.func42, Try.ntmps42
  go_wp2
  all_goals go_ret
  all_goals refine ⟨?_, rfl⟩
  all_goals (first | (simp; done) | (simp; omega) | (simp; rw [Bool.eq_iff_iff]; simp; omega))
theorem l3Good (d : Int) (w : World) : Calls Try.prog 39 #[.int .i64 d] w fun e w' => e = .returned (.bool (isDy d)) ∧ w = w' := by
  have H := Lib.hid (l1In d 0 36524 w)
  unfold isDy
  go_enter Try.func39, Try.ntmps39
  go_wp2_with (go_at_call 28; refine H.out.mono ?_; rintro e w' ⟨rfl, rfl⟩)
  go_ret
  exact ⟨rfl, rfl⟩

theorem tl0 (s : ByteArray) : (s.toList = []) = (s.size = 0) := by
  rw [Go.ByteArray.toList_eq, Array.toList_eq_nil_iff]
  exact propext ⟨fun h => by simp [ByteArray.size, h], fun h => Array.eq_empty_of_size_eq_zero h⟩

end Go.Proofs.Ytomloodakabcbaa.Cond
