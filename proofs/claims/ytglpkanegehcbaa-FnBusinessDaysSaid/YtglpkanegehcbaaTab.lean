/-
  The program's table of the days before each month, out of the row's list; how it reads before and behind a call.
-/
import Derived.Test.YtglpkanegehcbaaRows
import Derived.Test.YtglpkanegehcbaaCal
import Derived.WalkKit
import Derived.ProofKit
import Derived.Lib.Hide
import Derived.Lib.LaidTab
import Derived.WalkSmall
import Derived.ChangeVars
import Derived.ChangeReads
import Derived.Stop.LaidErr
namespace Go.Proofs.Ytglpkanegehcbaa.Tab
open Go.RowKit Go.ChangeShapes Go.Proofs.Ytglpkanegehcbaa.Cal

/-- The variable's own cells hold the table. -/
def Tab (w : World) : Prop := Lib.TabIs Try.prog w "loop.example/g00902/impl.daysBefore" .i64 Cal.tab

theorem cellsInt : Try.prog.cellsOf 3 = 1 := by kernel_rfl

/-- The table, as data. -/
def datum {H : Type} : DataW H := .agg [.lit (.int .i64 0), .lit (.int .i64 31), .lit (.int .i64 59), .lit (.int .i64 90), .lit (.int .i64 120), .lit (.int .i64 151), .lit (.int .i64 181), .lit (.int .i64 212), .lit (.int .i64 243), .lit (.int .i64 273), .lit (.int .i64 304), .lit (.int .i64 334), .lit (.int .i64 365)]

end Go.Proofs.Ytglpkanegehcbaa.Tab
