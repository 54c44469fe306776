/-
  The marks of clauses read back: heldClauseS.
-/
import Derived.Test.YtomloodakabcbabGreatClMk
import Derived.Deep.RegionHeld3
namespace Go.Proofs.YtomloodakabcbabGreat.Cl
open Go.RowKit Go.Proofs.YtomloodakabcbabGreat.Cond Go.Proofs.YtomloodakabcbabGreat.Gx Go.Proofs.YtomloodakabcbabGreat.Mark
set_option linter.unusedVariables false
set_option linter.unusedSimpArgs false

theorem mkM_cells (m : M) (t : Nat) : (mkM m t).cells = [.string (mt t), .int .i64 ((t + 1 : Nat) : Int), .int .i64 ((t + 2 : Nat) : Int), .string (mt (t + 3)), .int .i64 ((t + 4 : Nat) : Int), .int .i64 ((t + 5 : Nat) : Int), .int .i64 ((t + 6 : Nat) : Int), .string (mt (t + 7)), .int .i64 ((t + 8 : Nat) : Int), .slice m.k.A m.k.ps.length m.k.cap, .int .i64 ((t + 6 + 3 * m.k.cond.size : Nat) : Int), .string (mt (t + 6 + 3 * m.k.cond.size + 1))] := by
  rw [show t + 6 + 3 * m.k.cond.size + 1 = t + 7 + 3 * m.k.cond.size by omega]
  unfold M.cells mkM
  cases hk : m.k with
  | mk op' nm' day' A' cap' qs => simp only [mkK, K.op, K.nm, K.day, K.A, K.cap, K.ps, mkL_length]

end Go.Proofs.YtomloodakabcbabGreat.Cl
