/-
  The walk of the law FnExactLastBusinessDay, at every calendar.
-/
import Derived.Test.YtlpblipgehlniaaDoorLastBusinessDayW
import Derived.Test.YtlpblipgehlniaaDoorRollI
import Derived.Test.YtlpblipgehlniaaDoorLastS
namespace Go.Proofs.YtlpblipgehlniaaDoor.LastBusinessDayX
open Go.RowKit Go.Proofs.YtlpblipgehlniaaDoor.IRow Go.Proofs.YtlpblipgehlniaaDoor.Cal Go.Proofs.YtlpblipgehlniaaDoor.Biz Go.Proofs.YtlpblipgehlniaaDoor.Asc Go.Proofs.YtlpblipgehlniaaDoor.CalLaw Go.Proofs.YtlpblipgehlniaaDoor.RollI Go.Proofs.YtlpblipgehlniaaDoor.LastS

theorem walk (A1 A2 : Option Addr) (n1 c1 n2 c2 : Nat) (x0 : Int) (we ho : List Int) (w : World) (hT : Tab.Tab w) (h1 : n1 = we.length) (q1 : n1 ≤ maxLen) (r1 : Is w w.heap.size A1 we) (h2 : n2 = ho.length) (q2 : n2 ≤ maxLen) (r2 : Is w w.heap.size A2 ho) :
    Calls Tryd.prog 6 #[.agg #[.slice A1 n1 c1, .slice A2 n2 c2], .int .i64 x0] w fun e w' => e = .returned (.bool true) ∧ Below w.heap.size w w' := by
  by_cases hm : n1 + n2 ≤ 1048576
  · exact LastBusinessDayW.walkAux A1 A2 n1 c1 n2 c2 x0 we ho (lastV we ho x0) (lastF we ho x0) w hT h1 h2 hm r1 r2 (Lib.hid fun B1 B2 w h => lastS B1 B2 n1 n1 n2 n2 we ho x0 w h) (Lib.hid fun B1 B2 w hT h => lastI B1 B2 n1 n1 n2 n2 we ho x0 w hT h)
  · exact LastBusinessDayW.over A1 A2 n1 c1 n2 c2 x0 q1 q2 (by omega) w

end Go.Proofs.YtlpblipgehlniaaDoor.LastBusinessDayX
