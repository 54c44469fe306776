/-
  The walk of the law FnExactAddBusinessDays, at every calendar.
-/
import Derived.Test.YtlpblipgehlniaaAddBusinessDaysW
import Derived.Test.YtlpblipgehlniaaSeekS
import Derived.Test.YtlpblipgehlniaaAddI
namespace Go.Proofs.Ytlpblipgehlniaa.AddBusinessDaysX
open Go.RowKit Go.Proofs.Ytlpblipgehlniaa.IRow Go.Proofs.Ytlpblipgehlniaa.Cal Go.Proofs.Ytlpblipgehlniaa.Biz Go.Proofs.Ytlpblipgehlniaa.Asc Go.Proofs.Ytlpblipgehlniaa.CalLaw Go.Proofs.Ytlpblipgehlniaa.SeekS Go.Proofs.Ytlpblipgehlniaa.AddI

theorem walk (A1 A2 : Option Addr) (n1 c1 n2 c2 : Nat) (x0 x1 : Int) (we ho : List Int) (w : World) (h1 : n1 = we.length) (q1 : n1 ≤ maxLen) (r1 : Is w w.heap.size A1 we) (h2 : n2 = ho.length) (q2 : n2 ≤ maxLen) (r2 : Is w w.heap.size A2 ho) :
    Calls Try.prog 6 #[.agg #[.slice A1 n1 c1, .slice A2 n2 c2], .int .i64 x0, .int .i64 x1] w fun e w' => e = .returned (.bool true) ∧ Below w.heap.size w w' := by
  by_cases hm : n1 + n2 ≤ 1048576
  · exact AddBusinessDaysW.walkAux A1 A2 n1 c1 n2 c2 x0 x1 we ho (addV we ho x0 x1) (addF we ho x0 x1) w h1 h2 hm r1 r2 (Lib.hid fun B1 B2 w h => addS B1 B2 n1 n1 n2 n2 we ho x0 x1 w h) (Lib.hid fun B1 B2 w h => addI B1 B2 n1 n1 n2 n2 we ho x0 x1 w h)
  · exact AddBusinessDaysW.over A1 A2 n1 c1 n2 c2 x0 x1 q1 q2 (by omega) w

end Go.Proofs.Ytlpblipgehlniaa.AddBusinessDaysX
