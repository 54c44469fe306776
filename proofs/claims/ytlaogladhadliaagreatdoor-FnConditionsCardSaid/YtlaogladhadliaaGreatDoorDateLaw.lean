/-
  DateOf of the model; the walk of the law FnExactDateOf; IsMonthEnd, of the program and of the model, and the walk of its law.
-/
import Derived.Test.YtlaogladhadliaaGreatDoorDateOf
namespace Go.Proofs.YtlaogladhadliaaGreatDoor.DateLaw
open Go.RowKit Go.Proofs.YtlaogladhadliaaGreatDoor.Cal Go.Proofs.YtlaogladhadliaaGreatDoor.Tab Go.Proofs.YtlaogladhadliaaGreatDoor.Wd Go.Proofs.YtlaogladhadliaaGreatDoor.Len Go.Proofs.YtlaogladhadliaaGreatDoor.Valid Go.Proofs.YtlaogladhadliaaGreatDoor.DayOf Go.Proofs.YtlaogladhadliaaGreatDoor.DateOf

theorem beqDec (a b : Int) : (a == b) = decide (a = b) := by by_cases h : a = b <;> simp [h]

theorem implYes (n : Int) (h : Day n) (w : World) (hT : Tab w) :
    Calls Tryz.prog 65 #[.int .i64 n] w fun e w' => e = .returned (.tuple #[.agg #[.int .i64 ((yr n)), .int .i64 ((mo n)), .int .i64 ((da n))], .bool true]) ∧ Below w.heap.size w w' := DateOf.implYes n h w hT
theorem implNo (n : Int) (h : ¬ Day n) (w : World) :
    Calls Tryz.prog 65 #[.int .i64 n] w fun e w' => e = .returned (.tuple #[.agg #[.int .i64 0, .int .i64 0, .int .i64 0], .bool false]) ∧ Below w.heap.size w w' := DateOf.implNo n h w

end Go.Proofs.YtlaogladhadliaaGreatDoor.DateLaw
