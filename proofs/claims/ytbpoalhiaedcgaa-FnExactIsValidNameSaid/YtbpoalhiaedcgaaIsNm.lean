/-
  The walk of the law FnExactIsValidName.
-/
import Derived.Test.YtbpoalhiaedcgaaNmI
namespace Go.Proofs.Ytbpoalhiaedcgaa.IsNm
open Go.RowKit Go.Proofs.Ytbpoalhiaedcgaa.Cond

set_option maxHeartbeats 1000000 in
theorem walk (s : ByteArray) (hs : s.size ≤ maxLen) (w : World) :
    Calls Try.prog 3 #[.string s] w fun e w' => e = .returned (.bool true) ∧ Below w.heap.size w w' := by
  have HI := Lib.hid (isValidName s hs w)
  have HS := Lib.hid (l5Name s w)
  unfold maxLen at hs
  have HSp : Hid (Calls Try.prog 10 #[.string s] w fun e w' => e = .returned (.bool (isNm s)) ∧ w = w') := Lib.hid (by
    go_enter Try.func10, Try.ntmps10
    go_wp2_with (go_at_call 34; refine HS.out.mono ?_; rintro e w' ⟨rfl, rfl⟩)
    go_ret
    exact ⟨rfl, rfl⟩)
  generalize isNm s = q at *
  by_cases h : 1048576 < s.size
  · go_enter Try.func3, Try.ntmps3
    go_wp2_with fail
    go_ret
    exact ⟨rfl, Below.refl _ _⟩
  · go_enter Try.func3, Try.ntmps3
    go_wp2_with (first | (go_at_call 10; refine HSp.out.mono ?_; rintro e w' ⟨rfl, rfl⟩) | (go_at_call 11; refine HI.out.mono ?_; rintro e w' ⟨rfl, rfl⟩))
    go_ret
    exact ⟨rfl, Below.refl _ _⟩

end Go.Proofs.Ytbpoalhiaedcgaa.IsNm
