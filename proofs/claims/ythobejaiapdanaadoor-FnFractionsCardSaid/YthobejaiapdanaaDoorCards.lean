/-
  DERIVED. GIVEN WITH THE SEED: THE CARDS: each row of YthobejaiapdanaaDoorRows.lean that lists a variable, with what it lists TIED to the program's text (the seventh form; the later family's looks); each row that meets fmt, with fmt's text TOLD by the authors' own Lean function (tested against real Go, not proved from fmt's source: count such statements apart). THE CARD IS WHAT COUNTS. Prove the row's statement (the work); the ties are given (YthobejaiapdanaaDoorTie.lean); close each card by the builder's one call (the guide's Derived/Test/ToyasCard.lean, 'card_holds'). Laid BY PROGRAM, IN A SANDBOX (cutbox-door.mjs). By AI agents, Wed Nov 11 2026. No macro, syntax, notation, axiom, sorry.
-/
import Derived.Test.YthobejaiapdanaaDoorRows
import GoSem.ClaimSeven
namespace Go.Proofs.YthobejaiapdanaaDoor
namespace Rows

/-- THE TIED CARD OF 'laws.FnMoney'. -/
def fnMoneyCard : Claim7 := { stood := { row := fnMoneyRow, standIns := [], harness := (true, "f37cc8332f919e6a04c41150d4d825bc9caa12f29d765cbed75b375a0e1b750e"), looks := true }, kinds := [], alts := [], laidByText := true, laidKinds := [.data, .data, .data, .data, .sentinel, .sentinel, .pinned], laidTests := true, laidLooks := .later }
def FnMoneyCardSaid : Prop := Claim7.holds Tryd.pinned (.plain (OpenSpec.ofChange fnMoneySpec)) fnMoneyCard

/-- THE TIED CARD OF 'laws.FnFractions'. -/
def fnFractionsCard : Claim7 := { stood := { row := fnFractionsRow, standIns := [], harness := (true, "f37cc8332f919e6a04c41150d4d825bc9caa12f29d765cbed75b375a0e1b750e"), looks := true }, kinds := [], alts := [], laidByText := true, laidKinds := [.data], laidTests := true, laidLooks := .later }
def FnFractionsCardSaid : Prop := Claim7.holds Tryd.pinned (.plain (OpenSpec.ofChange fnFractionsSpec)) fnFractionsCard

/-- THE TIED CARD OF 'laws.FnExactScaleAmount'. -/
def fnExactScaleAmountCard : Claim7 := { stood := { row := fnExactScaleAmountRow, standIns := [], harness := (true, "f37cc8332f919e6a04c41150d4d825bc9caa12f29d765cbed75b375a0e1b750e"), looks := true }, kinds := [], alts := [], laidByText := true, laidKinds := [.data], laidTests := true, laidLooks := .later }
def FnExactScaleAmountCardSaid : Prop := Claim7.holds Tryd.pinned (.plain (OpenSpec.ofChange fnExactScaleAmountSpec)) fnExactScaleAmountCard

/-- THE TIED CARD OF 'laws.FnExactFormatAmount'. -/
def fnExactFormatAmountCard : Claim7 := { stood := { row := fnExactFormatAmountRow, standIns := [], harness := (true, "f37cc8332f919e6a04c41150d4d825bc9caa12f29d765cbed75b375a0e1b750e"), looks := true }, kinds := [], alts := [], laidByText := true, laidKinds := [.data, .data, .data], laidTests := true, laidLooks := .later }
def FnExactFormatAmountCardSaid : Prop := Claim7.holds Tryd.pinned (.plain (OpenSpec.ofChange fnExactFormatAmountSpec)) fnExactFormatAmountCard

/-- THE TIED CARD OF 'laws.FnExactParseAmount'. -/
def fnExactParseAmountCard : Claim7 := { stood := { row := fnExactParseAmountRow, standIns := [], harness := (true, "f37cc8332f919e6a04c41150d4d825bc9caa12f29d765cbed75b375a0e1b750e"), looks := true }, kinds := [], alts := [], laidByText := true, laidKinds := [.data, .data, .data, .data, .sentinel, .sentinel, .pinned], laidTests := true, laidLooks := .later }
def FnExactParseAmountCardSaid : Prop := Claim7.holds Tryd.pinned (.plain (OpenSpec.ofChange fnExactParseAmountSpec)) fnExactParseAmountCard

/-- THE TIED CARD OF 'laws.FnExactMakeFraction'. -/
def fnExactMakeFractionCard : Claim7 := { stood := { row := fnExactMakeFractionRow, standIns := [], harness := (true, "f37cc8332f919e6a04c41150d4d825bc9caa12f29d765cbed75b375a0e1b750e"), looks := true }, kinds := [], alts := [], laidByText := true, laidKinds := [.data], laidTests := true, laidLooks := .later }
def FnExactMakeFractionCardSaid : Prop := Claim7.holds Tryd.pinned (.plain (OpenSpec.ofChange fnExactMakeFractionSpec)) fnExactMakeFractionCard

/-- THE TIED CARD OF 'laws.FnExactAddFractions'. -/
def fnExactAddFractionsCard : Claim7 := { stood := { row := fnExactAddFractionsRow, standIns := [], harness := (true, "f37cc8332f919e6a04c41150d4d825bc9caa12f29d765cbed75b375a0e1b750e"), looks := true }, kinds := [], alts := [], laidByText := true, laidKinds := [.data], laidTests := true, laidLooks := .later }
def FnExactAddFractionsCardSaid : Prop := Claim7.holds Tryd.pinned (.plain (OpenSpec.ofChange fnExactAddFractionsSpec)) fnExactAddFractionsCard

/-- THE TIED CARD OF 'laws.FnExactMultiplyFractions'. -/
def fnExactMultiplyFractionsCard : Claim7 := { stood := { row := fnExactMultiplyFractionsRow, standIns := [], harness := (true, "f37cc8332f919e6a04c41150d4d825bc9caa12f29d765cbed75b375a0e1b750e"), looks := true }, kinds := [], alts := [], laidByText := true, laidKinds := [.data], laidTests := true, laidLooks := .later }
def FnExactMultiplyFractionsCardSaid : Prop := Claim7.holds Tryd.pinned (.plain (OpenSpec.ofChange fnExactMultiplyFractionsSpec)) fnExactMultiplyFractionsCard

/-- THE TIED CARD OF 'laws.FnExactCompareFractions'. -/
def fnExactCompareFractionsCard : Claim7 := { stood := { row := fnExactCompareFractionsRow, standIns := [], harness := (true, "f37cc8332f919e6a04c41150d4d825bc9caa12f29d765cbed75b375a0e1b750e"), looks := true }, kinds := [], alts := [], laidByText := true, laidKinds := [.data], laidTests := true, laidLooks := .later }
def FnExactCompareFractionsCardSaid : Prop := Claim7.holds Tryd.pinned (.plain (OpenSpec.ofChange fnExactCompareFractionsSpec)) fnExactCompareFractionsCard

/-- THE SECOND FORM's CARD OF 'laws.FnMoney'. -/
def fnMoneyUptoCard : Claim7 := { stood := { row := fnMoneyUptoRow, standIns := [], harness := (true, "f37cc8332f919e6a04c41150d4d825bc9caa12f29d765cbed75b375a0e1b750e"), looks := true }, kinds := [], alts := [], laidByText := true, laidKinds := [.data, .data, .data, .data, .sentinel, .sentinel, .pinned], laidTests := true, laidLooks := .later }
def FnMoneyUptoCardSaid : Prop := Claim7.holds Tryd.pinned (.plain (OpenSpec.upto fnMoneySpec)) fnMoneyUptoCard

/-- THE SECOND FORM's CARD OF 'laws.FnFractions'. -/
def fnFractionsUptoCard : Claim7 := { stood := { row := fnFractionsUptoRow, standIns := [], harness := (true, "f37cc8332f919e6a04c41150d4d825bc9caa12f29d765cbed75b375a0e1b750e"), looks := true }, kinds := [], alts := [], laidByText := true, laidKinds := [.data], laidTests := true, laidLooks := .later }
def FnFractionsUptoCardSaid : Prop := Claim7.holds Tryd.pinned (.plain (OpenSpec.upto fnFractionsSpec)) fnFractionsUptoCard

/-- THE SECOND FORM's CARD OF 'laws.FnExactScaleAmount'. -/
def fnExactScaleAmountUptoCard : Claim7 := { stood := { row := fnExactScaleAmountUptoRow, standIns := [], harness := (true, "f37cc8332f919e6a04c41150d4d825bc9caa12f29d765cbed75b375a0e1b750e"), looks := true }, kinds := [], alts := [], laidByText := true, laidKinds := [.data], laidTests := true, laidLooks := .later }
def FnExactScaleAmountUptoCardSaid : Prop := Claim7.holds Tryd.pinned (.plain (OpenSpec.upto fnExactScaleAmountSpec)) fnExactScaleAmountUptoCard

/-- THE SECOND FORM's CARD OF 'laws.FnExactFormatAmount'. -/
def fnExactFormatAmountUptoCard : Claim7 := { stood := { row := fnExactFormatAmountUptoRow, standIns := [], harness := (true, "f37cc8332f919e6a04c41150d4d825bc9caa12f29d765cbed75b375a0e1b750e"), looks := true }, kinds := [], alts := [], laidByText := true, laidKinds := [.data, .data, .data], laidTests := true, laidLooks := .later }
def FnExactFormatAmountUptoCardSaid : Prop := Claim7.holds Tryd.pinned (.plain (OpenSpec.upto fnExactFormatAmountSpec)) fnExactFormatAmountUptoCard

/-- THE SECOND FORM's CARD OF 'laws.FnExactParseAmount'. -/
def fnExactParseAmountUptoCard : Claim7 := { stood := { row := fnExactParseAmountUptoRow, standIns := [], harness := (true, "f37cc8332f919e6a04c41150d4d825bc9caa12f29d765cbed75b375a0e1b750e"), looks := true }, kinds := [], alts := [], laidByText := true, laidKinds := [.data, .data, .data, .data, .sentinel, .sentinel, .pinned], laidTests := true, laidLooks := .later }
def FnExactParseAmountUptoCardSaid : Prop := Claim7.holds Tryd.pinned (.plain (OpenSpec.upto fnExactParseAmountSpec)) fnExactParseAmountUptoCard

/-- THE SECOND FORM's CARD OF 'laws.FnExactMakeFraction'. -/
def fnExactMakeFractionUptoCard : Claim7 := { stood := { row := fnExactMakeFractionUptoRow, standIns := [], harness := (true, "f37cc8332f919e6a04c41150d4d825bc9caa12f29d765cbed75b375a0e1b750e"), looks := true }, kinds := [], alts := [], laidByText := true, laidKinds := [.data], laidTests := true, laidLooks := .later }
def FnExactMakeFractionUptoCardSaid : Prop := Claim7.holds Tryd.pinned (.plain (OpenSpec.upto fnExactMakeFractionSpec)) fnExactMakeFractionUptoCard

/-- THE SECOND FORM's CARD OF 'laws.FnExactAddFractions'. -/
def fnExactAddFractionsUptoCard : Claim7 := { stood := { row := fnExactAddFractionsUptoRow, standIns := [], harness := (true, "f37cc8332f919e6a04c41150d4d825bc9caa12f29d765cbed75b375a0e1b750e"), looks := true }, kinds := [], alts := [], laidByText := true, laidKinds := [.data], laidTests := true, laidLooks := .later }
def FnExactAddFractionsUptoCardSaid : Prop := Claim7.holds Tryd.pinned (.plain (OpenSpec.upto fnExactAddFractionsSpec)) fnExactAddFractionsUptoCard

/-- THE SECOND FORM's CARD OF 'laws.FnExactMultiplyFractions'. -/
def fnExactMultiplyFractionsUptoCard : Claim7 := { stood := { row := fnExactMultiplyFractionsUptoRow, standIns := [], harness := (true, "f37cc8332f919e6a04c41150d4d825bc9caa12f29d765cbed75b375a0e1b750e"), looks := true }, kinds := [], alts := [], laidByText := true, laidKinds := [.data], laidTests := true, laidLooks := .later }
def FnExactMultiplyFractionsUptoCardSaid : Prop := Claim7.holds Tryd.pinned (.plain (OpenSpec.upto fnExactMultiplyFractionsSpec)) fnExactMultiplyFractionsUptoCard

/-- THE SECOND FORM's CARD OF 'laws.FnExactCompareFractions'. -/
def fnExactCompareFractionsUptoCard : Claim7 := { stood := { row := fnExactCompareFractionsUptoRow, standIns := [], harness := (true, "f37cc8332f919e6a04c41150d4d825bc9caa12f29d765cbed75b375a0e1b750e"), looks := true }, kinds := [], alts := [], laidByText := true, laidKinds := [.data], laidTests := true, laidLooks := .later }
def FnExactCompareFractionsUptoCardSaid : Prop := Claim7.holds Tryd.pinned (.plain (OpenSpec.upto fnExactCompareFractionsSpec)) fnExactCompareFractionsUptoCard
end Rows
end Go.Proofs.YthobejaiapdanaaDoor
