/-
  DERIVED. GIVEN WITH THE SEED: THE CARDS: each row of YtlpblipgehlniaaDoorRows.lean that lists a variable, with what it lists TIED to the program's text (the seventh form; the later family's looks); each row that meets fmt, with fmt's text TOLD by the authors' own Lean function (tested against real Go, not proved from fmt's source: count such statements apart). THE CARD IS WHAT COUNTS. Prove the row's statement (the work); the ties are given (YtlpblipgehlniaaDoorTie.lean); close each card by the builder's one call (the guide's Derived/Test/ToyasCard.lean, 'card_holds'). Laid BY PROGRAM, IN A SANDBOX (cutbox-door.mjs). By AI agents, Wed Nov 11 2026. No macro, syntax, notation, axiom, sorry.
-/
import Derived.Test.YtlpblipgehlniaaDoorRows
import GoSem.ClaimSeven
namespace Go.Proofs.YtlpblipgehlniaaDoor
namespace Rows

/-- THE TIED CARD OF 'laws.FnRolling'. -/
def fnRollingCard : Claim7 := { stood := { row := fnRollingRow, standIns := [], harness := (true, "31f15c80d539b558bf5992bee2f6f66fb8e5fa283a3e7634057daa01785a14f9"), looks := false }, kinds := [], alts := [], laidByText := true, laidKinds := [.data], laidTests := true, laidLooks := .later }
def FnRollingCardSaid : Prop := Claim7.holds Tryd.pinned (.plain (OpenSpec.ofChange fnRollingSpec)) fnRollingCard

/-- THE TIED CARD OF 'laws.FnDayCounts'. -/
def fnDayCountsCard : Claim7 := { stood := { row := fnDayCountsRow, standIns := [], harness := (true, "31f15c80d539b558bf5992bee2f6f66fb8e5fa283a3e7634057daa01785a14f9"), looks := false }, kinds := [], alts := [], laidByText := true, laidKinds := [.data, .data], laidTests := true, laidLooks := .later }
def FnDayCountsCardSaid : Prop := Claim7.holds Tryd.pinned (.plain (OpenSpec.ofChange fnDayCountsSpec)) fnDayCountsCard

/-- THE TIED CARD OF 'laws.FnExactRollDay'. -/
def fnExactRollDayCard : Claim7 := { stood := { row := fnExactRollDayRow, standIns := [], harness := (true, "31f15c80d539b558bf5992bee2f6f66fb8e5fa283a3e7634057daa01785a14f9"), looks := false }, kinds := [], alts := [], laidByText := true, laidKinds := [.data], laidTests := true, laidLooks := .later }
def FnExactRollDayCardSaid : Prop := Claim7.holds Tryd.pinned (.plain (OpenSpec.ofChange fnExactRollDaySpec)) fnExactRollDayCard

/-- THE TIED CARD OF 'laws.FnExactLastBusinessDay'. -/
def fnExactLastBusinessDayCard : Claim7 := { stood := { row := fnExactLastBusinessDayRow, standIns := [], harness := (true, "31f15c80d539b558bf5992bee2f6f66fb8e5fa283a3e7634057daa01785a14f9"), looks := false }, kinds := [], alts := [], laidByText := true, laidKinds := [.data], laidTests := true, laidLooks := .later }
def FnExactLastBusinessDayCardSaid : Prop := Claim7.holds Tryd.pinned (.plain (OpenSpec.ofChange fnExactLastBusinessDaySpec)) fnExactLastBusinessDayCard

/-- THE TIED CARD OF 'laws.FnExactDayCount'. -/
def fnExactDayCountCard : Claim7 := { stood := { row := fnExactDayCountRow, standIns := [], harness := (true, "31f15c80d539b558bf5992bee2f6f66fb8e5fa283a3e7634057daa01785a14f9"), looks := false }, kinds := [], alts := [], laidByText := true, laidKinds := [.data, .data], laidTests := true, laidLooks := .later }
def FnExactDayCountCardSaid : Prop := Claim7.holds Tryd.pinned (.plain (OpenSpec.ofChange fnExactDayCountSpec)) fnExactDayCountCard

/-- THE SECOND FORM's CARD OF 'laws.FnRolling'. -/
def fnRollingUptoCard : Claim7 := { stood := { row := fnRollingUptoRow, standIns := [], harness := (true, "31f15c80d539b558bf5992bee2f6f66fb8e5fa283a3e7634057daa01785a14f9"), looks := false }, kinds := [], alts := [], laidByText := true, laidKinds := [.data], laidTests := true, laidLooks := .later }
def FnRollingUptoCardSaid : Prop := Claim7.holds Tryd.pinned (.plain (OpenSpec.upto fnRollingSpec)) fnRollingUptoCard

/-- THE SECOND FORM's CARD OF 'laws.FnDayCounts'. -/
def fnDayCountsUptoCard : Claim7 := { stood := { row := fnDayCountsUptoRow, standIns := [], harness := (true, "31f15c80d539b558bf5992bee2f6f66fb8e5fa283a3e7634057daa01785a14f9"), looks := false }, kinds := [], alts := [], laidByText := true, laidKinds := [.data, .data], laidTests := true, laidLooks := .later }
def FnDayCountsUptoCardSaid : Prop := Claim7.holds Tryd.pinned (.plain (OpenSpec.upto fnDayCountsSpec)) fnDayCountsUptoCard

/-- THE SECOND FORM's CARD OF 'laws.FnExactRollDay'. -/
def fnExactRollDayUptoCard : Claim7 := { stood := { row := fnExactRollDayUptoRow, standIns := [], harness := (true, "31f15c80d539b558bf5992bee2f6f66fb8e5fa283a3e7634057daa01785a14f9"), looks := false }, kinds := [], alts := [], laidByText := true, laidKinds := [.data], laidTests := true, laidLooks := .later }
def FnExactRollDayUptoCardSaid : Prop := Claim7.holds Tryd.pinned (.plain (OpenSpec.upto fnExactRollDaySpec)) fnExactRollDayUptoCard

/-- THE SECOND FORM's CARD OF 'laws.FnExactLastBusinessDay'. -/
def fnExactLastBusinessDayUptoCard : Claim7 := { stood := { row := fnExactLastBusinessDayUptoRow, standIns := [], harness := (true, "31f15c80d539b558bf5992bee2f6f66fb8e5fa283a3e7634057daa01785a14f9"), looks := false }, kinds := [], alts := [], laidByText := true, laidKinds := [.data], laidTests := true, laidLooks := .later }
def FnExactLastBusinessDayUptoCardSaid : Prop := Claim7.holds Tryd.pinned (.plain (OpenSpec.upto fnExactLastBusinessDaySpec)) fnExactLastBusinessDayUptoCard

/-- THE SECOND FORM's CARD OF 'laws.FnExactDayCount'. -/
def fnExactDayCountUptoCard : Claim7 := { stood := { row := fnExactDayCountUptoRow, standIns := [], harness := (true, "31f15c80d539b558bf5992bee2f6f66fb8e5fa283a3e7634057daa01785a14f9"), looks := false }, kinds := [], alts := [], laidByText := true, laidKinds := [.data, .data], laidTests := true, laidLooks := .later }
def FnExactDayCountUptoCardSaid : Prop := Claim7.holds Tryd.pinned (.plain (OpenSpec.upto fnExactDayCountSpec)) fnExactDayCountUptoCard
end Rows
end Go.Proofs.YtlpblipgehlniaaDoor
