/-
  DERIVED. GIVEN WITH THE SEED: THE CARDS: each row of YthdiiocgemomoaaDoorRows.lean that lists a variable, with what it lists TIED to the program's text (the seventh form; the later family's looks); each row that meets fmt, with fmt's text TOLD by the authors' own Lean function (tested against real Go, not proved from fmt's source: count such statements apart). THE CARD IS WHAT COUNTS. Prove the row's statement (the work); the ties are given (YthdiiocgemomoaaDoorTie.lean); close each card by the builder's one call (the guide's Derived/Test/ToyasCard.lean, 'card_holds'). Laid BY PROGRAM, IN A SANDBOX (cutbox-door.mjs). By AI agents, Wed Nov 11 2026. No macro, syntax, notation, axiom, sorry.
-/
import Derived.Test.YthdiiocgemomoaaDoorRows
import GoSem.ClaimSeven
namespace Go.Proofs.YthdiiocgemomoaaDoor
namespace Rows

/-- THE TIED CARD OF 'laws.FnExactParseCondition'. -/
def fnExactParseConditionCard : Claim7 := { stood := { row := fnExactParseConditionRow, standIns := [], harness := (true, "2fd0bda487d9f9188341fef8f631bd0dfde8ad5d3510706347ebcf5b2e20694e"), looks := true }, kinds := [], alts := [], laidByText := true, laidKinds := [.data, .data, .data, .sentinel, .sentinel, .data], laidTests := true, laidLooks := .later }
def FnExactParseConditionCardSaid : Prop := Claim7.holds Tryd.pinned (.plain (OpenSpec.ofChange fnExactParseConditionSpec)) fnExactParseConditionCard

/-- THE SECOND FORM's CARD OF 'laws.FnExactParseCondition'. -/
def fnExactParseConditionUptoCard : Claim7 := { stood := { row := fnExactParseConditionUptoRow, standIns := [], harness := (true, "2fd0bda487d9f9188341fef8f631bd0dfde8ad5d3510706347ebcf5b2e20694e"), looks := true }, kinds := [], alts := [], laidByText := true, laidKinds := [.data, .data, .data, .sentinel, .sentinel, .data], laidTests := true, laidLooks := .later }
def FnExactParseConditionUptoCardSaid : Prop := Claim7.holds Tryd.pinned (.plain (OpenSpec.upto fnExactParseConditionSpec)) fnExactParseConditionUptoCard
end Rows
end Go.Proofs.YthdiiocgemomoaaDoor
