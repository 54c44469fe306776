/-
  slices.Sort and slices.Compact of rows that a call owns: of strings and of ints.
-/
import Derived.Test.YtomloodakabcbaaUniS
import Derived.Test.YtomloodakabcbaaUniT
import Derived.Test.YtomloodakabcbaaShelfSo
import Derived.Lib.OwnBridge
import Derived.Lib.RowBridge
import Derived.Sort.OwnSortedInts
import Derived.Sort.OwnSorted
namespace Go.Proofs.Ytomloodakabcbaa.SrtR
open Go.RowKit Go.Sort Go.Lib
set_option linter.unusedVariables false

abbrev srtI (D : List Int) : List Int := D.mergeSort fun x y => decide (x ≤ y)
abbrev srtT (D : List (List UInt8)) : List (List UInt8) := D.mergeSort fun x y => decide (x ≤ y)

theorem grown_putRow {α : Type} [Inhabited α] {enc : α → Value} {w : World} {g q : Nat} {d : Array α} : w.grownBy (putRow enc (Sort.ahead w q) g 0 d) (some g) := by
  refine ⟨rfl, rfl, rfl, by simp [putRow, mapBlock, Sort.ahead], fun k hk hne => ?_⟩
  have : g ≠ k := fun e => hne (by rw [e])
  simp [putRow, mapBlock, Sort.ahead, Array.getElem?_modify, this]

end Go.Proofs.Ytomloodakabcbaa.SrtR
