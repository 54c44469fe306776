/-
  The program's table of the days before each month, out of the row's list; how it reads before and behind a call.
-/
import Derived.Test.YtgjihejneadadaaDoorRows
import Derived.Test.YtgjihejneadadaaDoorCal
import Derived.WalkKit
import Derived.ProofKit
import Derived.Lib.Hide
import Derived.Lib.LaidTab
import Derived.WalkSmall
import Derived.ChangeVars
import Derived.ChangeReads
import Derived.Stop.LaidErr
namespace Go.Proofs.YtgjihejneadadaaDoor.Tab
open Go.RowKit Go.ChangeShapes Go.Proofs.YtgjihejneadadaaDoor.Cal

/-- The variable's own cells hold the table. -/
def Tab (w : World) : Prop := Lib.TabIs Tryd.prog w "loop.example/g00902/impl.daysBefore" .i64 Cal.tab

theorem gDays : Tryd.prog.globalNamed "loop.example/g00902/impl.daysBefore" = some 0 := by kernel_rfl
theorem gDaysType : (Tryd.prog.globals[0]?).map (·.type) = some 92 := by kernel_rfl
theorem cellsArr : Tryd.prog.cellsOf 92 = 13 := by kernel_rfl
theorem cellsInt : Tryd.prog.cellsOf 3 = 1 := by kernel_rfl

theorem first {W : World} {rest : List (String × DataW Unit)} (h : laidMet Tryd.prog (("loop.example/g00902/impl.daysBefore", Rows.laid_loop_example_g00902_impl_daysBefore) :: rest) W) : Tab W :=
  Lib.tabIs_of_head (rest := rest) gDays gDaysType Tryd.underlying92 Tryd.underlying3 cellsInt cellsArr h

theorem Tab.below {w w' : World} (h : Tab w) (hb : Below w.heap.size w w') : Tab w' := by
  unfold Tab Lib.TabIs at *
  have hg : 0 < w.heap.size := by
    have h2 := h
    unfold World.var? at h2
    rw [gDays] at h2
    simp only [Option.bind_some] at h2
    rcases Nat.lt_or_ge 0 w.heap.size with h' | h'
    · exact h'
    · rw [Array.getElem?_eq_none h'] at h2; cases h2
  exact var?_below hb gDays hg h

theorem Tab.alloc {w : World} (h : Tab w) (o : Obj) : Tab (w.alloc o) := Tab.below h ((Below.refl _ _).alloc (Nat.le_refl _) _)
theorem Tab.drew {w : World} (h : Tab w) (n : Nat) : Tab (w.drewN n) := Tab.below h (below_drewN (Below.refl _ _) n)

theorem Tab.cell {w : World} (h : Tab w) (m : Int) (h1 : 1 ≤ m) (h2 : m ≤ 13) : w.cell? ⟨0, m.toNat - 1, none⟩ = some (.int .i64 (cumM m)) := by
  have hc := Lib.TabIs.cell h gDays (m - 1).toNat (by show _ < 13; omega)
  rw [show (m - 1).toNat = m.toNat - 1 by omega] at hc
  unfold cumM
  rw [show (m - 1).toNat = m.toNat - 1 by omega]
  exact hc

/-- The table, as data. -/
def datum {H : Type} : DataW H := .agg [.lit (.int .i64 0), .lit (.int .i64 31), .lit (.int .i64 59), .lit (.int .i64 90), .lit (.int .i64 120), .lit (.int .i64 151), .lit (.int .i64 181), .lit (.int .i64 212), .lit (.int .i64 243), .lit (.int .i64 273), .lit (.int .i64 304), .lit (.int .i64 334), .lit (.int .i64 365)]

theorem reads {H : Type} (enc : TypeId × Value → H) (w : World) (sp : Nat → Bool) :
    DataW.trod enc Tryd.prog w 0 sp true 3 92 ((Cal.tab.map fun z => Value.int .i64 z).toArray).toList = some (datum, []) := by kernel_rfl

theorem vars {H : Type} (enc : TypeId × Value → H) {w : World} (h : Tab w) (sp : Nat → Bool) :
    DataW.TrodVars enc Tryd.prog w sp ["loop.example/g00902/impl.daysBefore"] [datum] (MemPlace.row ⟨0, 0, none⟩ 13 ++ []) :=
  trodVars_mk1 gDays gDaysType h (reads enc w sp)

end Go.Proofs.YtgjihejneadadaaDoor.Tab
