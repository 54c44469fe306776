/-
  No cell of these rows narrows 'for every input' (looked for: loops, veiled, ifaces, maps, wideKeys, modest, calm, conditions, laid).
  DERIVED. THE GIVEN ROWS OF THIS SEAT. 9 by the template 'for every input the law returns true; each argument reads behind the call as it read before'; 0 by the template 'total and deterministic' (their statements: YtlpeaamjpcpfcaaTotals.lean).
  GIVEN WITH THE SEED: the statements are not yours to turn. If you find one false, say at which input.
  Laid BY PROGRAM, IN A SANDBOX (cutbox-rows.mjs): the forced cells as the released guide's own fill.sh prints them over the translation 5228ba66bfc008a9… (all of the seat's roots in one cut). By AI agents, Wed Nov 11 2026. No macro, syntax, notation, axiom, sorry.
-/
import Derived.Test.YtlpeaamjpcpfcaaChecked
import GoSem.Claim
import GoSem.ClaimJoined
import GoSem.ClaimMapViews
import Derived.JoinedTies
import Derived.KernelRfl
namespace Go.Proofs.Ytlpeaamjpcpfcaa
/- THE CELL 'sum', in the pinned program and in every row, IS THE sha256 OF THE DUMP (.gsa) THAT YtlpeaamjpcpfcaaProg.lean LOADS. Nothing in Lean hashes anything: it is a label: what it is worth is what the hold of that sum in a sandbox is worth. -/
noncomputable def Try.pinned : Pinned := { name := "ytlpeaamjpcpfcaa", sum := "5228ba66bfc008a92ac04a3174c7c0da4cbb895aab5c59f44c394b5a28545e8c", checked := Try.checked }
namespace Rows
def none {H : Type} : Left H := { results := [], args := [] }

/-- 'laws.FnEvents': WHATEVER THE INPUT: true; the input reads as it did. -/
def fnEventsSpec : ChangeSpec := { name := "fnEvents", fn := fun _ => fun
  | [d] => { results := [.lit (.bool true)], args := [d] }
  | _ => none }
def fnEventsRow : OpenClaim := { program := "ytlpeaamjpcpfcaa", sum := "5228ba66bfc008a92ac04a3174c7c0da4cbb895aab5c59f44c394b5a28545e8c", func := "loop.example/g00902/laws.FnEvents", spec := "fnEvents", unfollowed := true, recurses := true, apart := false }
def FnEventsSaid : Prop := fnEventsRow.holds Try.pinned (OpenSpec.ofChange fnEventsSpec)

/-- ITS FALSE NEIGHBOUR: 'it returns false'. Refute it at one input. -/
def fnEventsWrong : ChangeSpec := { name := "fnEvents", fn := fun _ => fun
  | [d] => { results := [.lit (.bool false)], args := [d] }
  | _ => none }
def FnEventsWrongFalsely : Prop := fnEventsRow.holds Try.pinned (OpenSpec.ofChange fnEventsWrong)

/-- 'laws.FnExactIsValidEvents': WHATEVER THE INPUT: true; the input reads as it did. -/
def fnExactIsValidEventsSpec : ChangeSpec := { name := "fnExactIsValidEvents", fn := fun _ => fun
  | [d1, d2] => { results := [.lit (.bool true)], args := [d1, d2] }
  | _ => none }
def fnExactIsValidEventsRow : OpenClaim := { program := "ytlpeaamjpcpfcaa", sum := "5228ba66bfc008a92ac04a3174c7c0da4cbb895aab5c59f44c394b5a28545e8c", func := "loop.example/g00902/laws.FnExactIsValidEvents", spec := "fnExactIsValidEvents", unfollowed := true, recurses := true, apart := false }
def FnExactIsValidEventsSaid : Prop := fnExactIsValidEventsRow.holds Try.pinned (OpenSpec.ofChange fnExactIsValidEventsSpec)

/-- ITS FALSE NEIGHBOUR: 'it returns false'. Refute it at one input. -/
def fnExactIsValidEventsWrong : ChangeSpec := { name := "fnExactIsValidEvents", fn := fun _ => fun
  | [d1, d2] => { results := [.lit (.bool false)], args := [d1, d2] }
  | _ => none }
def FnExactIsValidEventsWrongFalsely : Prop := fnExactIsValidEventsRow.holds Try.pinned (OpenSpec.ofChange fnExactIsValidEventsWrong)

/-- 'laws.FnExactCompareEvents': WHATEVER THE INPUT: true; the input reads as it did. -/
def fnExactCompareEventsSpec : ChangeSpec := { name := "fnExactCompareEvents", fn := fun _ => fun
  | [d1, d2] => { results := [.lit (.bool true)], args := [d1, d2] }
  | _ => none }
def fnExactCompareEventsRow : OpenClaim := { program := "ytlpeaamjpcpfcaa", sum := "5228ba66bfc008a92ac04a3174c7c0da4cbb895aab5c59f44c394b5a28545e8c", func := "loop.example/g00902/laws.FnExactCompareEvents", spec := "fnExactCompareEvents", apart := false }
def FnExactCompareEventsSaid : Prop := fnExactCompareEventsRow.holds Try.pinned (OpenSpec.ofChange fnExactCompareEventsSpec)

/-- ITS FALSE NEIGHBOUR: 'it returns false'. Refute it at one input. -/
def fnExactCompareEventsWrong : ChangeSpec := { name := "fnExactCompareEvents", fn := fun _ => fun
  | [d1, d2] => { results := [.lit (.bool false)], args := [d1, d2] }
  | _ => none }
def FnExactCompareEventsWrongFalsely : Prop := fnExactCompareEventsRow.holds Try.pinned (OpenSpec.ofChange fnExactCompareEventsWrong)

/-- 'laws.FnExactSortEvents': WHATEVER THE INPUT: true; the input reads as it did. -/
def fnExactSortEventsSpec : ChangeSpec := { name := "fnExactSortEvents", fn := fun _ => fun
  | [d1, d2] => { results := [.lit (.bool true)], args := [d1, d2] }
  | _ => none }
def fnExactSortEventsRow : OpenClaim := { program := "ytlpeaamjpcpfcaa", sum := "5228ba66bfc008a92ac04a3174c7c0da4cbb895aab5c59f44c394b5a28545e8c", func := "loop.example/g00902/laws.FnExactSortEvents", spec := "fnExactSortEvents", unfollowed := true, recurses := true, apart := false }
def FnExactSortEventsSaid : Prop := fnExactSortEventsRow.holds Try.pinned (OpenSpec.ofChange fnExactSortEventsSpec)

/-- ITS FALSE NEIGHBOUR: 'it returns false'. Refute it at one input. -/
def fnExactSortEventsWrong : ChangeSpec := { name := "fnExactSortEvents", fn := fun _ => fun
  | [d1, d2] => { results := [.lit (.bool false)], args := [d1, d2] }
  | _ => none }
def FnExactSortEventsWrongFalsely : Prop := fnExactSortEventsRow.holds Try.pinned (OpenSpec.ofChange fnExactSortEventsWrong)

/-- 'laws.FnExactMergeEvents': WHATEVER THE INPUT: true; the input reads as it did. -/
def fnExactMergeEventsSpec : ChangeSpec := { name := "fnExactMergeEvents", fn := fun _ => fun
  | [d1, d2, d3] => { results := [.lit (.bool true)], args := [d1, d2, d3] }
  | _ => none }
def fnExactMergeEventsRow : OpenClaim := { program := "ytlpeaamjpcpfcaa", sum := "5228ba66bfc008a92ac04a3174c7c0da4cbb895aab5c59f44c394b5a28545e8c", func := "loop.example/g00902/laws.FnExactMergeEvents", spec := "fnExactMergeEvents", unfollowed := true, recurses := true, apart := false }
def FnExactMergeEventsSaid : Prop := fnExactMergeEventsRow.holds Try.pinned (OpenSpec.ofChange fnExactMergeEventsSpec)

/-- ITS FALSE NEIGHBOUR: 'it returns false'. Refute it at one input. -/
def fnExactMergeEventsWrong : ChangeSpec := { name := "fnExactMergeEvents", fn := fun _ => fun
  | [d1, d2, d3] => { results := [.lit (.bool false)], args := [d1, d2, d3] }
  | _ => none }
def FnExactMergeEventsWrongFalsely : Prop := fnExactMergeEventsRow.holds Try.pinned (OpenSpec.ofChange fnExactMergeEventsWrong)

/-- 'laws.FnExactEventsBetween': WHATEVER THE INPUT: true; the input reads as it did. -/
def fnExactEventsBetweenSpec : ChangeSpec := { name := "fnExactEventsBetween", fn := fun _ => fun
  | [d1, d2, d3, d4] => { results := [.lit (.bool true)], args := [d1, d2, d3, d4] }
  | _ => none }
def fnExactEventsBetweenRow : OpenClaim := { program := "ytlpeaamjpcpfcaa", sum := "5228ba66bfc008a92ac04a3174c7c0da4cbb895aab5c59f44c394b5a28545e8c", func := "loop.example/g00902/laws.FnExactEventsBetween", spec := "fnExactEventsBetween", unfollowed := true, recurses := true, apart := false }
def FnExactEventsBetweenSaid : Prop := fnExactEventsBetweenRow.holds Try.pinned (OpenSpec.ofChange fnExactEventsBetweenSpec)

/-- ITS FALSE NEIGHBOUR: 'it returns false'. Refute it at one input. -/
def fnExactEventsBetweenWrong : ChangeSpec := { name := "fnExactEventsBetween", fn := fun _ => fun
  | [d1, d2, d3, d4] => { results := [.lit (.bool false)], args := [d1, d2, d3, d4] }
  | _ => none }
def FnExactEventsBetweenWrongFalsely : Prop := fnExactEventsBetweenRow.holds Try.pinned (OpenSpec.ofChange fnExactEventsBetweenWrong)

/-- 'laws.FnExactShiftEvents': WHATEVER THE INPUT: true; the input reads as it did. -/
def fnExactShiftEventsSpec : ChangeSpec := { name := "fnExactShiftEvents", fn := fun _ => fun
  | [d1, d2, d3] => { results := [.lit (.bool true)], args := [d1, d2, d3] }
  | _ => none }
def fnExactShiftEventsRow : OpenClaim := { program := "ytlpeaamjpcpfcaa", sum := "5228ba66bfc008a92ac04a3174c7c0da4cbb895aab5c59f44c394b5a28545e8c", func := "loop.example/g00902/laws.FnExactShiftEvents", spec := "fnExactShiftEvents", unfollowed := true, recurses := true, apart := false }
def FnExactShiftEventsSaid : Prop := fnExactShiftEventsRow.holds Try.pinned (OpenSpec.ofChange fnExactShiftEventsSpec)

/-- ITS FALSE NEIGHBOUR: 'it returns false'. Refute it at one input. -/
def fnExactShiftEventsWrong : ChangeSpec := { name := "fnExactShiftEvents", fn := fun _ => fun
  | [d1, d2, d3] => { results := [.lit (.bool false)], args := [d1, d2, d3] }
  | _ => none }
def FnExactShiftEventsWrongFalsely : Prop := fnExactShiftEventsRow.holds Try.pinned (OpenSpec.ofChange fnExactShiftEventsWrong)

/-- 'laws.FnExactCountActions': WHATEVER THE INPUT: true; the input reads as it did. -/
def fnExactCountActionsSpec : ChangeSpec := { name := "fnExactCountActions", fn := fun _ => fun
  | [d1, d2, d3, d4] => { results := [.lit (.bool true)], args := [d1, d2, d3, d4] }
  | _ => none }
def fnExactCountActionsRow : OpenClaim := { program := "ytlpeaamjpcpfcaa", sum := "5228ba66bfc008a92ac04a3174c7c0da4cbb895aab5c59f44c394b5a28545e8c", func := "loop.example/g00902/laws.FnExactCountActions", spec := "fnExactCountActions", unfollowed := true, recurses := true, apart := false }
def FnExactCountActionsSaid : Prop := fnExactCountActionsRow.holds Try.pinned (OpenSpec.ofChange fnExactCountActionsSpec)

/-- ITS FALSE NEIGHBOUR: 'it returns false'. Refute it at one input. -/
def fnExactCountActionsWrong : ChangeSpec := { name := "fnExactCountActions", fn := fun _ => fun
  | [d1, d2, d3, d4] => { results := [.lit (.bool false)], args := [d1, d2, d3, d4] }
  | _ => none }
def FnExactCountActionsWrongFalsely : Prop := fnExactCountActionsRow.holds Try.pinned (OpenSpec.ofChange fnExactCountActionsWrong)

/-- 'laws.FnExactEventDays': WHATEVER THE INPUT: true; the input reads as it did. -/
def fnExactEventDaysSpec : ChangeSpec := { name := "fnExactEventDays", fn := fun _ => fun
  | [d1, d2] => { results := [.lit (.bool true)], args := [d1, d2] }
  | _ => none }
def fnExactEventDaysRow : OpenClaim := { program := "ytlpeaamjpcpfcaa", sum := "5228ba66bfc008a92ac04a3174c7c0da4cbb895aab5c59f44c394b5a28545e8c", func := "loop.example/g00902/laws.FnExactEventDays", spec := "fnExactEventDays", unfollowed := true, recurses := true, apart := false }
def FnExactEventDaysSaid : Prop := fnExactEventDaysRow.holds Try.pinned (OpenSpec.ofChange fnExactEventDaysSpec)

/-- ITS FALSE NEIGHBOUR: 'it returns false'. Refute it at one input. -/
def fnExactEventDaysWrong : ChangeSpec := { name := "fnExactEventDays", fn := fun _ => fun
  | [d1, d2] => { results := [.lit (.bool false)], args := [d1, d2] }
  | _ => none }
def FnExactEventDaysWrongFalsely : Prop := fnExactEventDaysRow.holds Try.pinned (OpenSpec.ofChange fnExactEventDaysWrong)

/- THE SECOND FORM. 'bulk': how many values and letters a reading holds, each counted each time it is reached (what is shared counts as often as it is met; a slice's spare places count too). A statement '..UptoSaid' is the law's where the arguments, and the package variables that the reading takes, are together of bulk at most 1048576: NARROWER than '..Said'. Prove '..Said' where nothing that the law and all that it calls make is longer than what came in: it says more and counts as full. Else prove '..UptoSaid'. A law counts once. -/
mutual
def uptoBulk {H : Type} : DataW H → Nat
  | .lit (.string bytes) => bytes.length + 1
  | .lit _ => 1
  | .nil => 1
  | .ptr d => uptoBulk d + 1
  | .slice elems spare => uptoBulkAll elems + uptoBulkAll spare + 1
  | .agg parts => uptoBulkAll parts + 1
  | .iface _ d => uptoBulk d + 1
  | .map entries => uptoBulkEntries entries + 1
  | .held _ => 1
def uptoBulkAll {H : Type} : List (DataW H) → Nat
  | [] => 0
  | d :: r => uptoBulk d + uptoBulkAll r
def uptoBulkEntries {H : Type} : List (Lit × DataW H) → Nat
  | [] => 0
  | x :: r => uptoBulkEntry x + uptoBulkEntries r
def uptoBulkEntry {H : Type} : Lit × DataW H → Nat
  | (.string bytes, d) => bytes.length + uptoBulk d + 1
  | (_, d) => uptoBulk d + 1
 end
def uptoSmall : (H : Type) → List (DataW H) → Bool := fun _ ds => decide (uptoBulkAll ds ≤ 1048576)
def OpenSpec.upto (s : _root_.Go.ChangeSpec) : _root_.Go.OpenSpec := { _root_.Go.OpenSpec.ofChange s with cond := some uptoSmall }

/-- 'laws.FnEvents', WHERE WHAT IT READS IS OF BULK AT MOST 1048576: true; the input reads as it did. -/
def fnEventsUptoRow : OpenClaim := { program := "ytlpeaamjpcpfcaa", sum := "5228ba66bfc008a92ac04a3174c7c0da4cbb895aab5c59f44c394b5a28545e8c", func := "loop.example/g00902/laws.FnEvents", spec := "fnEvents", unfollowed := true, recurses := true, apart := false, narrowed := true }
def FnEventsUptoSaid : Prop := fnEventsUptoRow.holds Try.pinned (OpenSpec.upto fnEventsSpec)

/-- 'laws.FnExactIsValidEvents', WHERE WHAT IT READS IS OF BULK AT MOST 1048576: true; the input reads as it did. -/
def fnExactIsValidEventsUptoRow : OpenClaim := { program := "ytlpeaamjpcpfcaa", sum := "5228ba66bfc008a92ac04a3174c7c0da4cbb895aab5c59f44c394b5a28545e8c", func := "loop.example/g00902/laws.FnExactIsValidEvents", spec := "fnExactIsValidEvents", unfollowed := true, recurses := true, apart := false, narrowed := true }
def FnExactIsValidEventsUptoSaid : Prop := fnExactIsValidEventsUptoRow.holds Try.pinned (OpenSpec.upto fnExactIsValidEventsSpec)

/-- 'laws.FnExactCompareEvents', WHERE WHAT IT READS IS OF BULK AT MOST 1048576: true; the input reads as it did. -/
def fnExactCompareEventsUptoRow : OpenClaim := { program := "ytlpeaamjpcpfcaa", sum := "5228ba66bfc008a92ac04a3174c7c0da4cbb895aab5c59f44c394b5a28545e8c", func := "loop.example/g00902/laws.FnExactCompareEvents", spec := "fnExactCompareEvents", apart := false, narrowed := true }
def FnExactCompareEventsUptoSaid : Prop := fnExactCompareEventsUptoRow.holds Try.pinned (OpenSpec.upto fnExactCompareEventsSpec)

/-- 'laws.FnExactSortEvents', WHERE WHAT IT READS IS OF BULK AT MOST 1048576: true; the input reads as it did. -/
def fnExactSortEventsUptoRow : OpenClaim := { program := "ytlpeaamjpcpfcaa", sum := "5228ba66bfc008a92ac04a3174c7c0da4cbb895aab5c59f44c394b5a28545e8c", func := "loop.example/g00902/laws.FnExactSortEvents", spec := "fnExactSortEvents", unfollowed := true, recurses := true, apart := false, narrowed := true }
def FnExactSortEventsUptoSaid : Prop := fnExactSortEventsUptoRow.holds Try.pinned (OpenSpec.upto fnExactSortEventsSpec)

/-- 'laws.FnExactMergeEvents', WHERE WHAT IT READS IS OF BULK AT MOST 1048576: true; the input reads as it did. -/
def fnExactMergeEventsUptoRow : OpenClaim := { program := "ytlpeaamjpcpfcaa", sum := "5228ba66bfc008a92ac04a3174c7c0da4cbb895aab5c59f44c394b5a28545e8c", func := "loop.example/g00902/laws.FnExactMergeEvents", spec := "fnExactMergeEvents", unfollowed := true, recurses := true, apart := false, narrowed := true }
def FnExactMergeEventsUptoSaid : Prop := fnExactMergeEventsUptoRow.holds Try.pinned (OpenSpec.upto fnExactMergeEventsSpec)

/-- 'laws.FnExactEventsBetween', WHERE WHAT IT READS IS OF BULK AT MOST 1048576: true; the input reads as it did. -/
def fnExactEventsBetweenUptoRow : OpenClaim := { program := "ytlpeaamjpcpfcaa", sum := "5228ba66bfc008a92ac04a3174c7c0da4cbb895aab5c59f44c394b5a28545e8c", func := "loop.example/g00902/laws.FnExactEventsBetween", spec := "fnExactEventsBetween", unfollowed := true, recurses := true, apart := false, narrowed := true }
def FnExactEventsBetweenUptoSaid : Prop := fnExactEventsBetweenUptoRow.holds Try.pinned (OpenSpec.upto fnExactEventsBetweenSpec)

/-- 'laws.FnExactShiftEvents', WHERE WHAT IT READS IS OF BULK AT MOST 1048576: true; the input reads as it did. -/
def fnExactShiftEventsUptoRow : OpenClaim := { program := "ytlpeaamjpcpfcaa", sum := "5228ba66bfc008a92ac04a3174c7c0da4cbb895aab5c59f44c394b5a28545e8c", func := "loop.example/g00902/laws.FnExactShiftEvents", spec := "fnExactShiftEvents", unfollowed := true, recurses := true, apart := false, narrowed := true }
def FnExactShiftEventsUptoSaid : Prop := fnExactShiftEventsUptoRow.holds Try.pinned (OpenSpec.upto fnExactShiftEventsSpec)

/-- 'laws.FnExactCountActions', WHERE WHAT IT READS IS OF BULK AT MOST 1048576: true; the input reads as it did. -/
def fnExactCountActionsUptoRow : OpenClaim := { program := "ytlpeaamjpcpfcaa", sum := "5228ba66bfc008a92ac04a3174c7c0da4cbb895aab5c59f44c394b5a28545e8c", func := "loop.example/g00902/laws.FnExactCountActions", spec := "fnExactCountActions", unfollowed := true, recurses := true, apart := false, narrowed := true }
def FnExactCountActionsUptoSaid : Prop := fnExactCountActionsUptoRow.holds Try.pinned (OpenSpec.upto fnExactCountActionsSpec)

/-- 'laws.FnExactEventDays', WHERE WHAT IT READS IS OF BULK AT MOST 1048576: true; the input reads as it did. -/
def fnExactEventDaysUptoRow : OpenClaim := { program := "ytlpeaamjpcpfcaa", sum := "5228ba66bfc008a92ac04a3174c7c0da4cbb895aab5c59f44c394b5a28545e8c", func := "loop.example/g00902/laws.FnExactEventDays", spec := "fnExactEventDays", unfollowed := true, recurses := true, apart := false, narrowed := true }
def FnExactEventDaysUptoSaid : Prop := fnExactEventDaysUptoRow.holds Try.pinned (OpenSpec.upto fnExactEventDaysSpec)

end Rows
end Go.Proofs.Ytlpeaamjpcpfcaa
