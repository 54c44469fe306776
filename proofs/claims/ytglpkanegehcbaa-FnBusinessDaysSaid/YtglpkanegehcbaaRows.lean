/-
  No cell of these rows narrows 'for every input' (looked for: loops, veiled, ifaces, maps, wideKeys, modest, calm, conditions, laid).
  DERIVED. THE GIVEN ROWS OF THIS SEAT. 6 by the template 'for every input the law returns true; each argument reads behind the call as it read before'; 0 by the template 'total and deterministic' (their statements: YtglpkanegehcbaaTotals.lean).
  GIVEN WITH THE SEED: the statements are not yours to turn. If you find one false, say at which input.
  Laid BY PROGRAM, IN A SANDBOX (cutbox-rows.mjs): the forced cells as the released guide's own fill.sh prints them over the translation 86fb2a821cf70993… (all of the seat's roots in one cut). By AI agents, Wed Nov 11 2026. No macro, syntax, notation, axiom, sorry.
-/
import Derived.Test.YtglpkanegehcbaaChecked
import GoSem.Claim
import GoSem.ClaimJoined
import GoSem.ClaimMapViews
import Derived.JoinedTies
import Derived.KernelRfl
namespace Go.Proofs.Ytglpkanegehcbaa
/- THE CELL 'sum', in the pinned program and in every row, IS THE sha256 OF THE DUMP (.gsa) THAT YtglpkanegehcbaaProg.lean LOADS. Nothing in Lean hashes anything: it is a label: what it is worth is what the hold of that sum in a sandbox is worth. -/
noncomputable def Try.pinned : Pinned := { name := "ytglpkanegehcbaa", sum := "86fb2a821cf70993f25751359695ecde4d160faeed7b58f8fe5f8dc1ff0f2f8b", checked := Try.checked }
namespace Rows
def none {H : Type} : Left H := { results := [], args := [] }

/-- 'laws.FnBusinessDays': WHATEVER THE INPUT: true; the input reads as it did. -/
def fnBusinessDaysSpec : ChangeSpec := { name := "fnBusinessDays", fn := fun _ => fun
  | [d] => { results := [.lit (.bool true)], args := [d] }
  | _ => none }
def fnBusinessDaysRow : OpenClaim := { program := "ytglpkanegehcbaa", sum := "86fb2a821cf70993f25751359695ecde4d160faeed7b58f8fe5f8dc1ff0f2f8b", func := "loop.example/g00902/laws.FnBusinessDays", spec := "fnBusinessDays", unfollowed := true, recurses := true, apart := false }
def FnBusinessDaysSaid : Prop := fnBusinessDaysRow.holds Try.pinned (OpenSpec.ofChange fnBusinessDaysSpec)

/-- ITS FALSE NEIGHBOUR: 'it returns false'. Refute it at one input. -/
def fnBusinessDaysWrong : ChangeSpec := { name := "fnBusinessDays", fn := fun _ => fun
  | [d] => { results := [.lit (.bool false)], args := [d] }
  | _ => none }
def FnBusinessDaysWrongFalsely : Prop := fnBusinessDaysRow.holds Try.pinned (OpenSpec.ofChange fnBusinessDaysWrong)

/-- 'laws.FnExactIsValidCalendar': WHATEVER THE INPUT: true; the input reads as it did. -/
def fnExactIsValidCalendarSpec : ChangeSpec := { name := "fnExactIsValidCalendar", fn := fun _ => fun
  | [d] => { results := [.lit (.bool true)], args := [d] }
  | _ => none }
def fnExactIsValidCalendarRow : OpenClaim := { program := "ytglpkanegehcbaa", sum := "86fb2a821cf70993f25751359695ecde4d160faeed7b58f8fe5f8dc1ff0f2f8b", func := "loop.example/g00902/laws.FnExactIsValidCalendar", spec := "fnExactIsValidCalendar", apart := false }
def FnExactIsValidCalendarSaid : Prop := fnExactIsValidCalendarRow.holds Try.pinned (OpenSpec.ofChange fnExactIsValidCalendarSpec)

/-- ITS FALSE NEIGHBOUR: 'it returns false'. Refute it at one input. -/
def fnExactIsValidCalendarWrong : ChangeSpec := { name := "fnExactIsValidCalendar", fn := fun _ => fun
  | [d] => { results := [.lit (.bool false)], args := [d] }
  | _ => none }
def FnExactIsValidCalendarWrongFalsely : Prop := fnExactIsValidCalendarRow.holds Try.pinned (OpenSpec.ofChange fnExactIsValidCalendarWrong)

/-- 'laws.FnExactIsBusinessDay': WHATEVER THE INPUT: true; the input reads as it did. -/
def fnExactIsBusinessDaySpec : ChangeSpec := { name := "fnExactIsBusinessDay", fn := fun _ => fun
  | [d1, d2] => { results := [.lit (.bool true)], args := [d1, d2] }
  | _ => none }
def fnExactIsBusinessDayRow : OpenClaim := { program := "ytglpkanegehcbaa", sum := "86fb2a821cf70993f25751359695ecde4d160faeed7b58f8fe5f8dc1ff0f2f8b", func := "loop.example/g00902/laws.FnExactIsBusinessDay", spec := "fnExactIsBusinessDay", apart := false }
def FnExactIsBusinessDaySaid : Prop := fnExactIsBusinessDayRow.holds Try.pinned (OpenSpec.ofChange fnExactIsBusinessDaySpec)

/-- ITS FALSE NEIGHBOUR: 'it returns false'. Refute it at one input. -/
def fnExactIsBusinessDayWrong : ChangeSpec := { name := "fnExactIsBusinessDay", fn := fun _ => fun
  | [d1, d2] => { results := [.lit (.bool false)], args := [d1, d2] }
  | _ => none }
def FnExactIsBusinessDayWrongFalsely : Prop := fnExactIsBusinessDayRow.holds Try.pinned (OpenSpec.ofChange fnExactIsBusinessDayWrong)

/-- 'laws.FnExactAddBusinessDays': WHATEVER THE INPUT: true; the input reads as it did. -/
def fnExactAddBusinessDaysSpec : ChangeSpec := { name := "fnExactAddBusinessDays", fn := fun _ => fun
  | [d1, d2, d3] => { results := [.lit (.bool true)], args := [d1, d2, d3] }
  | _ => none }
def fnExactAddBusinessDaysRow : OpenClaim := { program := "ytglpkanegehcbaa", sum := "86fb2a821cf70993f25751359695ecde4d160faeed7b58f8fe5f8dc1ff0f2f8b", func := "loop.example/g00902/laws.FnExactAddBusinessDays", spec := "fnExactAddBusinessDays", unfollowed := true, recurses := true, apart := false }
def FnExactAddBusinessDaysSaid : Prop := fnExactAddBusinessDaysRow.holds Try.pinned (OpenSpec.ofChange fnExactAddBusinessDaysSpec)

/-- ITS FALSE NEIGHBOUR: 'it returns false'. Refute it at one input. -/
def fnExactAddBusinessDaysWrong : ChangeSpec := { name := "fnExactAddBusinessDays", fn := fun _ => fun
  | [d1, d2, d3] => { results := [.lit (.bool false)], args := [d1, d2, d3] }
  | _ => none }
def FnExactAddBusinessDaysWrongFalsely : Prop := fnExactAddBusinessDaysRow.holds Try.pinned (OpenSpec.ofChange fnExactAddBusinessDaysWrong)

/-- 'laws.FnExactCountBusinessDays': WHATEVER THE INPUT: true; the input reads as it did. -/
def fnExactCountBusinessDaysSpec : ChangeSpec := { name := "fnExactCountBusinessDays", fn := fun _ => fun
  | [d1, d2, d3] => { results := [.lit (.bool true)], args := [d1, d2, d3] }
  | _ => none }
def fnExactCountBusinessDaysRow : OpenClaim := { program := "ytglpkanegehcbaa", sum := "86fb2a821cf70993f25751359695ecde4d160faeed7b58f8fe5f8dc1ff0f2f8b", func := "loop.example/g00902/laws.FnExactCountBusinessDays", spec := "fnExactCountBusinessDays", apart := false }
def FnExactCountBusinessDaysSaid : Prop := fnExactCountBusinessDaysRow.holds Try.pinned (OpenSpec.ofChange fnExactCountBusinessDaysSpec)

/-- ITS FALSE NEIGHBOUR: 'it returns false'. Refute it at one input. -/
def fnExactCountBusinessDaysWrong : ChangeSpec := { name := "fnExactCountBusinessDays", fn := fun _ => fun
  | [d1, d2, d3] => { results := [.lit (.bool false)], args := [d1, d2, d3] }
  | _ => none }
def FnExactCountBusinessDaysWrongFalsely : Prop := fnExactCountBusinessDaysRow.holds Try.pinned (OpenSpec.ofChange fnExactCountBusinessDaysWrong)

/-- 'laws.FnExactJoinCalendars': WHATEVER THE INPUT: true; the input reads as it did. -/
def fnExactJoinCalendarsSpec : ChangeSpec := { name := "fnExactJoinCalendars", fn := fun _ => fun
  | [d1, d2] => { results := [.lit (.bool true)], args := [d1, d2] }
  | _ => none }
def fnExactJoinCalendarsRow : OpenClaim := { program := "ytglpkanegehcbaa", sum := "86fb2a821cf70993f25751359695ecde4d160faeed7b58f8fe5f8dc1ff0f2f8b", func := "loop.example/g00902/laws.FnExactJoinCalendars", spec := "fnExactJoinCalendars", recurses := true, apart := false }
def FnExactJoinCalendarsSaid : Prop := fnExactJoinCalendarsRow.holds Try.pinned (OpenSpec.ofChange fnExactJoinCalendarsSpec)

/-- ITS FALSE NEIGHBOUR: 'it returns false'. Refute it at one input. -/
def fnExactJoinCalendarsWrong : ChangeSpec := { name := "fnExactJoinCalendars", fn := fun _ => fun
  | [d1, d2] => { results := [.lit (.bool false)], args := [d1, d2] }
  | _ => none }
def FnExactJoinCalendarsWrongFalsely : Prop := fnExactJoinCalendarsRow.holds Try.pinned (OpenSpec.ofChange fnExactJoinCalendarsWrong)

/- THE SECOND FORM. 'bulk': how many values and letters a reading holds, each counted each time it is reached (what is shared counts as often as it is met; a slice's spare places count too). A statement '..UptoSaid' is the law's where the arguments, and the package variables that the reading takes, are together of bulk at most 1048576: NARROWER than '..Said'. Prove '..Said' where nothing that the law and all that it calls make is longer than what came in: it says more and counts as full. Else prove '..UptoSaid'. A law counts once. -/
mutual
def uptoBulk {H : Type} : DataW H → Nat
  | .lit (.string bytes) => bytes.length + 1
  | .lit _ => 1
  | .nil => 1
  | .ptr d => uptoBulk d + 1
  | .slice elems spare => uptoBulkAll elems + uptoBulkAll spare + 1
  | .agg parts => uptoBulkAll parts + 1
  | .iface _ d => uptoBulk d + 1
  | .map entries => uptoBulkEntries entries + 1
  | .held _ => 1
def uptoBulkAll {H : Type} : List (DataW H) → Nat
  | [] => 0
  | d :: r => uptoBulk d + uptoBulkAll r
def uptoBulkEntries {H : Type} : List (Lit × DataW H) → Nat
  | [] => 0
  | x :: r => uptoBulkEntry x + uptoBulkEntries r
def uptoBulkEntry {H : Type} : Lit × DataW H → Nat
  | (.string bytes, d) => bytes.length + uptoBulk d + 1
  | (_, d) => uptoBulk d + 1
 end
def uptoSmall : (H : Type) → List (DataW H) → Bool := fun _ ds => decide (uptoBulkAll ds ≤ 1048576)
def OpenSpec.upto (s : _root_.Go.ChangeSpec) : _root_.Go.OpenSpec := { _root_.Go.OpenSpec.ofChange s with cond := some uptoSmall }

/-- 'laws.FnBusinessDays', WHERE WHAT IT READS IS OF BULK AT MOST 1048576: true; the input reads as it did. -/
def fnBusinessDaysUptoRow : OpenClaim := { program := "ytglpkanegehcbaa", sum := "86fb2a821cf70993f25751359695ecde4d160faeed7b58f8fe5f8dc1ff0f2f8b", func := "loop.example/g00902/laws.FnBusinessDays", spec := "fnBusinessDays", unfollowed := true, recurses := true, apart := false, narrowed := true }
def FnBusinessDaysUptoSaid : Prop := fnBusinessDaysUptoRow.holds Try.pinned (OpenSpec.upto fnBusinessDaysSpec)

/-- 'laws.FnExactIsValidCalendar', WHERE WHAT IT READS IS OF BULK AT MOST 1048576: true; the input reads as it did. -/
def fnExactIsValidCalendarUptoRow : OpenClaim := { program := "ytglpkanegehcbaa", sum := "86fb2a821cf70993f25751359695ecde4d160faeed7b58f8fe5f8dc1ff0f2f8b", func := "loop.example/g00902/laws.FnExactIsValidCalendar", spec := "fnExactIsValidCalendar", apart := false, narrowed := true }
def FnExactIsValidCalendarUptoSaid : Prop := fnExactIsValidCalendarUptoRow.holds Try.pinned (OpenSpec.upto fnExactIsValidCalendarSpec)

/-- 'laws.FnExactIsBusinessDay', WHERE WHAT IT READS IS OF BULK AT MOST 1048576: true; the input reads as it did. -/
def fnExactIsBusinessDayUptoRow : OpenClaim := { program := "ytglpkanegehcbaa", sum := "86fb2a821cf70993f25751359695ecde4d160faeed7b58f8fe5f8dc1ff0f2f8b", func := "loop.example/g00902/laws.FnExactIsBusinessDay", spec := "fnExactIsBusinessDay", apart := false, narrowed := true }
def FnExactIsBusinessDayUptoSaid : Prop := fnExactIsBusinessDayUptoRow.holds Try.pinned (OpenSpec.upto fnExactIsBusinessDaySpec)

/-- 'laws.FnExactAddBusinessDays', WHERE WHAT IT READS IS OF BULK AT MOST 1048576: true; the input reads as it did. -/
def fnExactAddBusinessDaysUptoRow : OpenClaim := { program := "ytglpkanegehcbaa", sum := "86fb2a821cf70993f25751359695ecde4d160faeed7b58f8fe5f8dc1ff0f2f8b", func := "loop.example/g00902/laws.FnExactAddBusinessDays", spec := "fnExactAddBusinessDays", unfollowed := true, recurses := true, apart := false, narrowed := true }
def FnExactAddBusinessDaysUptoSaid : Prop := fnExactAddBusinessDaysUptoRow.holds Try.pinned (OpenSpec.upto fnExactAddBusinessDaysSpec)

/-- 'laws.FnExactCountBusinessDays', WHERE WHAT IT READS IS OF BULK AT MOST 1048576: true; the input reads as it did. -/
def fnExactCountBusinessDaysUptoRow : OpenClaim := { program := "ytglpkanegehcbaa", sum := "86fb2a821cf70993f25751359695ecde4d160faeed7b58f8fe5f8dc1ff0f2f8b", func := "loop.example/g00902/laws.FnExactCountBusinessDays", spec := "fnExactCountBusinessDays", apart := false, narrowed := true }
def FnExactCountBusinessDaysUptoSaid : Prop := fnExactCountBusinessDaysUptoRow.holds Try.pinned (OpenSpec.upto fnExactCountBusinessDaysSpec)

/-- 'laws.FnExactJoinCalendars', WHERE WHAT IT READS IS OF BULK AT MOST 1048576: true; the input reads as it did. -/
def fnExactJoinCalendarsUptoRow : OpenClaim := { program := "ytglpkanegehcbaa", sum := "86fb2a821cf70993f25751359695ecde4d160faeed7b58f8fe5f8dc1ff0f2f8b", func := "loop.example/g00902/laws.FnExactJoinCalendars", spec := "fnExactJoinCalendars", recurses := true, apart := false, narrowed := true }
def FnExactJoinCalendarsUptoSaid : Prop := fnExactJoinCalendarsUptoRow.holds Try.pinned (OpenSpec.upto fnExactJoinCalendarsSpec)

end Rows
end Go.Proofs.Ytglpkanegehcbaa
