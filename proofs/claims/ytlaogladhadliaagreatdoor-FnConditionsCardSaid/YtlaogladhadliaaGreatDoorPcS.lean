/-
  l5Starts of the model.
-/
import Derived.Test.YtlaogladhadliaaGreatDoorPcM
namespace Go.Proofs.YtlaogladhadliaaGreatDoor.Cond
open Go.RowKit
set_option linter.unusedVariables false
set_option linter.unusedSimpArgs false

theorem ext_list (s : ByteArray) (a b : Nat) : (s.extract a b).toList = (s.data.toList.drop a).take (b - a) := by
  rw [Go.ByteArray.toList_eq, ByteArray.data_extract, Array.toList_extract, List.extract_eq_take_drop]
theorem ext_of {s : ByteArray} {a b : Nat} {l : List UInt8} (h : (s.data.toList.drop a).take (b - a) = l) : s.extract a b = ba l := by
  have h1 := ext_list s a b
  rw [h, Go.ByteArray.toList_eq] at h1
  cases hx : s.extract a b with
  | mk d => rw [hx] at h1; simp only at h1; rw [← h1]

end Go.Proofs.YtlaogladhadliaaGreatDoor.Cond
