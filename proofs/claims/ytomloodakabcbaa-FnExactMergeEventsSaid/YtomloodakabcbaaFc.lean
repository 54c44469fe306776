/-
  Fact lists: isFactList of the program, l5Facts and l5Has of the model.
-/
import Derived.Test.YtomloodakabcbaaNmI
import Derived.Test.YtomloodakabcbaaRow
import Derived.Laws.Cover1
namespace Go.Proofs.Ytomloodakabcbaa.Cond
open Go.RowKit

/-- Strings by their bytes: less. -/
def sl (a b : ByteArray) : Bool := Op.bytesLess a.toList b.toList
/-- Element j of a fact list is a name, greater than the one before. -/
def fAt (ss : List ByteArray) (j : Nat) : Prop := ∀ h : j < ss.length, isNm ss[j] = true ∧ (0 < j → sl (ss[j - 1]'(by omega)) ss[j] = true)
/-- A fact list. -/
def FOk (ss : List ByteArray) : Prop := ss.length ≤ 16 ∧ ∀ j, j < ss.length → fAt ss j

theorem fAt_of {ss : List ByteArray} {k : Nat} (hk : k < ss.length) {p : ByteArray} (hp : p = ss[k]) (h1 : isNm p = true) (h2 : ∀ h : 0 < k, sl (ss[k - 1]'(by omega)) p = true) : fAt ss k := fun h => by
  subst hp
  exact ⟨h1, h2⟩

end Go.Proofs.Ytomloodakabcbaa.Cond
