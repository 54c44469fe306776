/-
  The marks that the laws write into a result: what markText returns.
-/
import Derived.Test.YtlionlbihmldlaaRows
import Derived.Test.YtlionlbihmldlaaPlain
import Derived.WalkKit
import Derived.ProofKit
import Derived.Lib.Hide
import Derived.WalkSmall
import Derived.Laws.IdiomStrings
import Derived.Maps.AppendAt
import Derived.OwnWalk
namespace Go.Proofs.Ytlionlbihmldlaa.Mark
open Go.RowKit Go.Proofs.Ytlionlbihmldlaa.Plain
set_option linter.unusedVariables false

/-- The digits of a number; none of 0. -/
def digs (k : Nat) : List UInt8 := if h : k = 0 then [] else digs (k / 10) ++ [UInt8.ofNat (48 + k % 10)]
termination_by k
decreasing_by omega

theorem digs_step {k : Nat} (h : 1 ≤ k) : digs k = digs (k / 10) ++ [UInt8.ofNat (48 + k % 10)] := by
  rw [digs.eq_def k, dif_neg (by omega)]

theorem digs_zero : digs 0 = [] := by rw [digs.eq_def, dif_pos rfl]

def mt (k : Nat) : ByteArray := ⟨((109 : UInt8) :: digs k).toArray⟩

end Go.Proofs.Ytlionlbihmldlaa.Mark
