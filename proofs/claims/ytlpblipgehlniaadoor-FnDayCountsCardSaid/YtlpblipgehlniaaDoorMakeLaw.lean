/-
  The walk of the law FnExactMakeFraction; what the laws' helpers do with fractions.
-/
import Derived.Test.YtlpblipgehlniaaDoorMake
namespace Go.Proofs.YtlpblipgehlniaaDoor.MakeLaw
open Go.RowKit Go.Proofs.YtlpblipgehlniaaDoor.Gcd Go.Proofs.YtlpblipgehlniaaDoor.Tz Go.Proofs.YtlpblipgehlniaaDoor.Common Go.Proofs.YtlpblipgehlniaaDoor.Red Go.Proofs.YtlpblipgehlniaaDoor.Frac Go.Proofs.YtlpblipgehlniaaDoor.Make

set_option maxHeartbeats 400000 in
theorem eqF (n d : Int) (w : World) :
    Calls Tryd.prog 26 #[.agg #[.int .i64 n, .int .i64 d], .agg #[.int .i64 n, .int .i64 d]] w fun e w' =>
      e = .returned (.bool true) ∧ w' = (w.alloc (.cells #[.int .i64 n, .int .i64 d] 36)).alloc (.cells #[.int .i64 n, .int .i64 d] 36) := by
  go_enter Tryd.func26, Tryd.ntmps26
  go_wp2
  go_ret
  exact ⟨rfl, rfl⟩

theorem mkAt {P : Program} {f : FuncId} {args : Array Value} {n d : Int} {w : World} (h : Calls P f args w (mkAns n d w)) {rN rD : Int} {rB : Bool} (e1 : rN = mkN n d) (e2 : rD = mkD n d) (e3 : rB = mkB n d) :
    Calls P f args w fun e w' => e = .returned (.tuple #[.agg #[.int .i64 rN, .int .i64 rD], .bool rB]) ∧ Below w.heap.size w w' := by
  subst e1 e2 e3; exact h

end Go.Proofs.YtlpblipgehlniaaDoor.MakeLaw
