/-
  What the laws' helper toStringS returns: a copy of the strings in new memory.
-/
import Derived.Test.YtlpeaamjpcpfcaaRow
namespace Go.Proofs.Ytlpeaamjpcpfcaa.Row
open Go.RowKit Go.Proofs.Ytlpeaamjpcpfcaa.Plain

theorem made (n : Nat) : (madeCells (Value.string ByteArray.empty).cells (n * 1)).toList = List.replicate n (.string ByteArray.empty) := by
  rw [show (Value.string ByteArray.empty).cells = #[.string ByteArray.empty] from rfl, Nat.mul_one, toList_madeCells_one]

end Go.Proofs.Ytlpeaamjpcpfcaa.Row
