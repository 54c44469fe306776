/-
  What the laws' helper toStringS returns: a copy of the strings in new memory.
-/
import Derived.Test.YtomloodakabcbaaRow
namespace Go.Proofs.Ytomloodakabcbaa.Row
open Go.RowKit Go.Proofs.Ytomloodakabcbaa.Plain

theorem made (n : Nat) : (madeCells (Value.string ByteArray.empty).cells (n * 1)).toList = List.replicate n (.string ByteArray.empty) := by
  rw [show (Value.string ByteArray.empty).cells = #[.string ByteArray.empty] from rfl, Nat.mul_one, toList_madeCells_one]

end Go.Proofs.Ytomloodakabcbaa.Row
