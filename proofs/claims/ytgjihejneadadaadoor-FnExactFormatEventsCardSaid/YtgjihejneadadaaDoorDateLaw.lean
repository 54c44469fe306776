/-
  DateOf of the model; the walk of the law FnExactDateOf; IsMonthEnd, of the program and of the model, and the walk of its law.
-/
import Derived.Test.YtgjihejneadadaaDoorDateOf
namespace Go.Proofs.YtgjihejneadadaaDoor.DateLaw
open Go.RowKit Go.Proofs.YtgjihejneadadaaDoor.Cal Go.Proofs.YtgjihejneadadaaDoor.Tab Go.Proofs.YtgjihejneadadaaDoor.Wd Go.Proofs.YtgjihejneadadaaDoor.Len Go.Proofs.YtgjihejneadadaaDoor.Valid Go.Proofs.YtgjihejneadadaaDoor.DayOf Go.Proofs.YtgjihejneadadaaDoor.DateOf

theorem beqDec (a b : Int) : (a == b) = decide (a = b) := by by_cases h : a = b <;> simp [h]

theorem implYes (n : Int) (h : Day n) (w : World) (hT : Tab w) :
    Calls Tryd.prog 55 #[.int .i64 n] w fun e w' => e = .returned (.tuple #[.agg #[.int .i64 ((yr n)), .int .i64 ((mo n)), .int .i64 ((da n))], .bool true]) ∧ Below w.heap.size w w' := DateOf.implYes n h w hT
theorem implNo (n : Int) (h : ¬ Day n) (w : World) :
    Calls Tryd.prog 55 #[.int .i64 n] w fun e w' => e = .returned (.tuple #[.agg #[.int .i64 0, .int .i64 0, .int .i64 0], .bool false]) ∧ Below w.heap.size w w' := DateOf.implNo n h w

end Go.Proofs.YtgjihejneadadaaDoor.DateLaw
