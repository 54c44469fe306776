/-
  NARROWER THAN 'FOR EVERY INPUT', by the rows' own cells (each row's printed sentence says how): FnDates: laid · FnMonths: laid · FnExactIsValidDate: laid · FnExactDayOf: laid · FnExactDateOf: laid · FnExactDaysInMonth: laid · FnExactAddMonths: laid · FnExactIsMonthEnd: laid · FnExactNthWeekday: laid · FnExactFormatDate: laid.
  DERIVED. THE GIVEN ROWS OF THIS SEAT. 10 by the template 'for every input the law returns true; each argument reads behind the call as it read before'; 0 by the template 'total and deterministic' (their statements: YtjibnfeeomlnlaaDoorTotals.lean).
  GIVEN WITH THE SEED: the statements are not yours to turn. If you find one false, say at which input.
  Laid BY PROGRAM, IN A SANDBOX (cutbox-rows.mjs): the forced cells as the released guide's own fill.sh prints them over the translation 77d6a6d2d0575560… (all of the seat's roots in one cut). By AI agents, Wed Nov 11 2026. No macro, syntax, notation, axiom, sorry.
-/
import Derived.Test.YtjibnfeeomlnlaaDoorChecked
import GoSem.Claim
import GoSem.ClaimJoined
import GoSem.ClaimMapViews
import Derived.JoinedTies
import Derived.KernelRfl
namespace Go.Proofs.YtjibnfeeomlnlaaDoor
/- THE CELL 'sum', in the pinned program and in every row, IS THE sha256 OF THE DUMP (.gsa) THAT YtjibnfeeomlnlaaDoorProg.lean LOADS. Nothing in Lean hashes anything: it is a label: what it is worth is what the hold of that sum in a sandbox is worth. -/
noncomputable def Tryd.pinned : Pinned := { name := "ytjibnfeeomlnlaadoor", sum := "77d6a6d2d057556094c6e3ea7e39cca9ec283b1193f02fa46f670c4af0a7eb27", checked := Tryd.checked }
namespace Rows
def none {H : Type} : Left H := { results := [], args := [] }

/- WHAT THE LISTED PACKAGE-LEVEL VARIABLES READ AS WHEN THE CALL BEGINS. Each datum BY PROGRAM (the guide's laid-datum.mjs) off the statement by which the dump's own 'gosem.cut.vars' lays the variable. In a bare row this is a premise. The card (YtjibnfeeomlnlaaDoorCards.lean) ties it to the program's text. -/
def laid_math_bits_deBruijn32tab {H : Type} : DataW H := .agg [.lit (.int .u8 0), .lit (.int .u8 1), .lit (.int .u8 28), .lit (.int .u8 2), .lit (.int .u8 29), .lit (.int .u8 14), .lit (.int .u8 24), .lit (.int .u8 3), .lit (.int .u8 30), .lit (.int .u8 22), .lit (.int .u8 20), .lit (.int .u8 15), .lit (.int .u8 25), .lit (.int .u8 17), .lit (.int .u8 4), .lit (.int .u8 8), .lit (.int .u8 31), .lit (.int .u8 27), .lit (.int .u8 13), .lit (.int .u8 23), .lit (.int .u8 21), .lit (.int .u8 19), .lit (.int .u8 16), .lit (.int .u8 7), .lit (.int .u8 26), .lit (.int .u8 12), .lit (.int .u8 18), .lit (.int .u8 6), .lit (.int .u8 11), .lit (.int .u8 5), .lit (.int .u8 10), .lit (.int .u8 9)]
def laid_math_bits_deBruijn64tab {H : Type} : DataW H := .agg [.lit (.int .u8 0), .lit (.int .u8 1), .lit (.int .u8 56), .lit (.int .u8 2), .lit (.int .u8 57), .lit (.int .u8 49), .lit (.int .u8 28), .lit (.int .u8 3), .lit (.int .u8 61), .lit (.int .u8 58), .lit (.int .u8 42), .lit (.int .u8 50), .lit (.int .u8 38), .lit (.int .u8 29), .lit (.int .u8 17), .lit (.int .u8 4), .lit (.int .u8 62), .lit (.int .u8 47), .lit (.int .u8 59), .lit (.int .u8 36), .lit (.int .u8 45), .lit (.int .u8 43), .lit (.int .u8 51), .lit (.int .u8 22), .lit (.int .u8 53), .lit (.int .u8 39), .lit (.int .u8 33), .lit (.int .u8 30), .lit (.int .u8 24), .lit (.int .u8 18), .lit (.int .u8 12), .lit (.int .u8 5), .lit (.int .u8 63), .lit (.int .u8 55), .lit (.int .u8 48), .lit (.int .u8 27), .lit (.int .u8 60), .lit (.int .u8 41), .lit (.int .u8 37), .lit (.int .u8 16), .lit (.int .u8 46), .lit (.int .u8 35), .lit (.int .u8 44), .lit (.int .u8 21), .lit (.int .u8 52), .lit (.int .u8 32), .lit (.int .u8 23), .lit (.int .u8 11), .lit (.int .u8 54), .lit (.int .u8 26), .lit (.int .u8 40), .lit (.int .u8 15), .lit (.int .u8 34), .lit (.int .u8 20), .lit (.int .u8 31), .lit (.int .u8 10), .lit (.int .u8 25), .lit (.int .u8 14), .lit (.int .u8 19), .lit (.int .u8 9), .lit (.int .u8 13), .lit (.int .u8 8), .lit (.int .u8 7), .lit (.int .u8 6)]
def laid_internal_strconv_uint64pow10 {H : Type} : DataW H := .agg [.lit (.int .u64 1), .lit (.int .u64 10), .lit (.int .u64 100), .lit (.int .u64 1000), .lit (.int .u64 10000), .lit (.int .u64 100000), .lit (.int .u64 1000000), .lit (.int .u64 10000000), .lit (.int .u64 100000000), .lit (.int .u64 1000000000), .lit (.int .u64 10000000000), .lit (.int .u64 100000000000), .lit (.int .u64 1000000000000), .lit (.int .u64 10000000000000), .lit (.int .u64 100000000000000), .lit (.int .u64 1000000000000000), .lit (.int .u64 10000000000000000), .lit (.int .u64 100000000000000000), .lit (.int .u64 1000000000000000000), .lit (.int .u64 10000000000000000000)]
def laid_strconv_ErrRange {H : Type} : DataW H := .iface "*errors.errorString" (.ptr (.agg [.lit (.string [118, 97, 108, 117, 101, 32, 111, 117, 116, 32, 111, 102, 32, 114, 97, 110, 103, 101])]))
def laid_strconv_ErrSyntax {H : Type} : DataW H := .iface "*errors.errorString" (.ptr (.agg [.lit (.string [105, 110, 118, 97, 108, 105, 100, 32, 115, 121, 110, 116, 97, 120])]))
def laid_loop_example_g00902_impl_daysBefore {H : Type} : DataW H := .agg [.lit (.int .i64 0), .lit (.int .i64 31), .lit (.int .i64 59), .lit (.int .i64 90), .lit (.int .i64 120), .lit (.int .i64 151), .lit (.int .i64 181), .lit (.int .i64 212), .lit (.int .i64 243), .lit (.int .i64 273), .lit (.int .i64 304), .lit (.int .i64 334), .lit (.int .i64 365)]

/-- 'laws.FnDates': WHATEVER THE INPUT: true; the input reads as it did. -/
def fnDatesSpec : ChangeSpec := { name := "fnDates", vars := ["loop.example/g00902/impl.daysBefore"], fn := fun _ => fun
  | [d, g1] => { results := [.lit (.bool true)], args := [d], vars := [g1] }
  | _ => none }
def fnDatesRow : OpenClaim := { program := "ytjibnfeeomlnlaadoor", sum := "77d6a6d2d057556094c6e3ea7e39cca9ec283b1193f02fa46f670c4af0a7eb27", func := "loop.example/g00902/laws.FnDates", spec := "fnDates", named := ["loop.example/g00902/impl.daysBefore", "internal/strconv.uint64pow10", "math/bits.deBruijn32tab", "math/bits.deBruijn64tab", "strconv.ErrSyntax", "strconv.ErrRange"], apart := false, laid := [("math/bits.deBruijn32tab", laid_math_bits_deBruijn32tab), ("math/bits.deBruijn64tab", laid_math_bits_deBruijn64tab), ("internal/strconv.uint64pow10", laid_internal_strconv_uint64pow10), ("strconv.ErrRange", laid_strconv_ErrRange), ("strconv.ErrSyntax", laid_strconv_ErrSyntax), ("loop.example/g00902/impl.daysBefore", laid_loop_example_g00902_impl_daysBefore)] }
def FnDatesSaid : Prop := fnDatesRow.holds Tryd.pinned (OpenSpec.ofChange fnDatesSpec)

/-- ITS FALSE NEIGHBOUR: 'it returns false'. Refute it at one input. -/
def fnDatesWrong : ChangeSpec := { name := "fnDates", vars := ["loop.example/g00902/impl.daysBefore"], fn := fun _ => fun
  | [d, g1] => { results := [.lit (.bool false)], args := [d], vars := [g1] }
  | _ => none }
def FnDatesWrongFalsely : Prop := fnDatesRow.holds Tryd.pinned (OpenSpec.ofChange fnDatesWrong)

/-- 'laws.FnMonths': WHATEVER THE INPUT: true; the input reads as it did. -/
def fnMonthsSpec : ChangeSpec := { name := "fnMonths", vars := ["loop.example/g00902/impl.daysBefore"], fn := fun _ => fun
  | [d, g1] => { results := [.lit (.bool true)], args := [d], vars := [g1] }
  | _ => none }
def fnMonthsRow : OpenClaim := { program := "ytjibnfeeomlnlaadoor", sum := "77d6a6d2d057556094c6e3ea7e39cca9ec283b1193f02fa46f670c4af0a7eb27", func := "loop.example/g00902/laws.FnMonths", spec := "fnMonths", named := ["loop.example/g00902/impl.daysBefore"], apart := false, laid := [("loop.example/g00902/impl.daysBefore", laid_loop_example_g00902_impl_daysBefore)] }
def FnMonthsSaid : Prop := fnMonthsRow.holds Tryd.pinned (OpenSpec.ofChange fnMonthsSpec)

/-- ITS FALSE NEIGHBOUR: 'it returns false'. Refute it at one input. -/
def fnMonthsWrong : ChangeSpec := { name := "fnMonths", vars := ["loop.example/g00902/impl.daysBefore"], fn := fun _ => fun
  | [d, g1] => { results := [.lit (.bool false)], args := [d], vars := [g1] }
  | _ => none }
def FnMonthsWrongFalsely : Prop := fnMonthsRow.holds Tryd.pinned (OpenSpec.ofChange fnMonthsWrong)

/-- 'laws.FnExactIsValidDate': WHATEVER THE INPUT: true; the input reads as it did. -/
def fnExactIsValidDateSpec : ChangeSpec := { name := "fnExactIsValidDate", vars := ["loop.example/g00902/impl.daysBefore"], fn := fun _ => fun
  | [d, g1] => { results := [.lit (.bool true)], args := [d], vars := [g1] }
  | _ => none }
def fnExactIsValidDateRow : OpenClaim := { program := "ytjibnfeeomlnlaadoor", sum := "77d6a6d2d057556094c6e3ea7e39cca9ec283b1193f02fa46f670c4af0a7eb27", func := "loop.example/g00902/laws.FnExactIsValidDate", spec := "fnExactIsValidDate", named := ["loop.example/g00902/impl.daysBefore"], apart := false, laid := [("loop.example/g00902/impl.daysBefore", laid_loop_example_g00902_impl_daysBefore)] }
def FnExactIsValidDateSaid : Prop := fnExactIsValidDateRow.holds Tryd.pinned (OpenSpec.ofChange fnExactIsValidDateSpec)

/-- ITS FALSE NEIGHBOUR: 'it returns false'. Refute it at one input. -/
def fnExactIsValidDateWrong : ChangeSpec := { name := "fnExactIsValidDate", vars := ["loop.example/g00902/impl.daysBefore"], fn := fun _ => fun
  | [d, g1] => { results := [.lit (.bool false)], args := [d], vars := [g1] }
  | _ => none }
def FnExactIsValidDateWrongFalsely : Prop := fnExactIsValidDateRow.holds Tryd.pinned (OpenSpec.ofChange fnExactIsValidDateWrong)

/-- 'laws.FnExactDayOf': WHATEVER THE INPUT: true; the input reads as it did. -/
def fnExactDayOfSpec : ChangeSpec := { name := "fnExactDayOf", vars := ["loop.example/g00902/impl.daysBefore"], fn := fun _ => fun
  | [d, g1] => { results := [.lit (.bool true)], args := [d], vars := [g1] }
  | _ => none }
def fnExactDayOfRow : OpenClaim := { program := "ytjibnfeeomlnlaadoor", sum := "77d6a6d2d057556094c6e3ea7e39cca9ec283b1193f02fa46f670c4af0a7eb27", func := "loop.example/g00902/laws.FnExactDayOf", spec := "fnExactDayOf", named := ["loop.example/g00902/impl.daysBefore"], apart := false, laid := [("loop.example/g00902/impl.daysBefore", laid_loop_example_g00902_impl_daysBefore)] }
def FnExactDayOfSaid : Prop := fnExactDayOfRow.holds Tryd.pinned (OpenSpec.ofChange fnExactDayOfSpec)

/-- ITS FALSE NEIGHBOUR: 'it returns false'. Refute it at one input. -/
def fnExactDayOfWrong : ChangeSpec := { name := "fnExactDayOf", vars := ["loop.example/g00902/impl.daysBefore"], fn := fun _ => fun
  | [d, g1] => { results := [.lit (.bool false)], args := [d], vars := [g1] }
  | _ => none }
def FnExactDayOfWrongFalsely : Prop := fnExactDayOfRow.holds Tryd.pinned (OpenSpec.ofChange fnExactDayOfWrong)

/-- 'laws.FnExactDateOf': WHATEVER THE INPUT: true; the input reads as it did. -/
def fnExactDateOfSpec : ChangeSpec := { name := "fnExactDateOf", vars := ["loop.example/g00902/impl.daysBefore"], fn := fun _ => fun
  | [d, g1] => { results := [.lit (.bool true)], args := [d], vars := [g1] }
  | _ => none }
def fnExactDateOfRow : OpenClaim := { program := "ytjibnfeeomlnlaadoor", sum := "77d6a6d2d057556094c6e3ea7e39cca9ec283b1193f02fa46f670c4af0a7eb27", func := "loop.example/g00902/laws.FnExactDateOf", spec := "fnExactDateOf", named := ["loop.example/g00902/impl.daysBefore"], apart := false, laid := [("loop.example/g00902/impl.daysBefore", laid_loop_example_g00902_impl_daysBefore)] }
def FnExactDateOfSaid : Prop := fnExactDateOfRow.holds Tryd.pinned (OpenSpec.ofChange fnExactDateOfSpec)

/-- ITS FALSE NEIGHBOUR: 'it returns false'. Refute it at one input. -/
def fnExactDateOfWrong : ChangeSpec := { name := "fnExactDateOf", vars := ["loop.example/g00902/impl.daysBefore"], fn := fun _ => fun
  | [d, g1] => { results := [.lit (.bool false)], args := [d], vars := [g1] }
  | _ => none }
def FnExactDateOfWrongFalsely : Prop := fnExactDateOfRow.holds Tryd.pinned (OpenSpec.ofChange fnExactDateOfWrong)

/-- 'laws.FnExactDaysInMonth': WHATEVER THE INPUT: true; the input reads as it did. -/
def fnExactDaysInMonthSpec : ChangeSpec := { name := "fnExactDaysInMonth", vars := ["loop.example/g00902/impl.daysBefore"], fn := fun _ => fun
  | [d1, d2, g1] => { results := [.lit (.bool true)], args := [d1, d2], vars := [g1] }
  | _ => none }
def fnExactDaysInMonthRow : OpenClaim := { program := "ytjibnfeeomlnlaadoor", sum := "77d6a6d2d057556094c6e3ea7e39cca9ec283b1193f02fa46f670c4af0a7eb27", func := "loop.example/g00902/laws.FnExactDaysInMonth", spec := "fnExactDaysInMonth", named := ["loop.example/g00902/impl.daysBefore"], apart := false, laid := [("loop.example/g00902/impl.daysBefore", laid_loop_example_g00902_impl_daysBefore)] }
def FnExactDaysInMonthSaid : Prop := fnExactDaysInMonthRow.holds Tryd.pinned (OpenSpec.ofChange fnExactDaysInMonthSpec)

/-- ITS FALSE NEIGHBOUR: 'it returns false'. Refute it at one input. -/
def fnExactDaysInMonthWrong : ChangeSpec := { name := "fnExactDaysInMonth", vars := ["loop.example/g00902/impl.daysBefore"], fn := fun _ => fun
  | [d1, d2, g1] => { results := [.lit (.bool false)], args := [d1, d2], vars := [g1] }
  | _ => none }
def FnExactDaysInMonthWrongFalsely : Prop := fnExactDaysInMonthRow.holds Tryd.pinned (OpenSpec.ofChange fnExactDaysInMonthWrong)

/-- 'laws.FnExactAddMonths': WHATEVER THE INPUT: true; the input reads as it did. -/
def fnExactAddMonthsSpec : ChangeSpec := { name := "fnExactAddMonths", vars := ["loop.example/g00902/impl.daysBefore"], fn := fun _ => fun
  | [d1, d2, g1] => { results := [.lit (.bool true)], args := [d1, d2], vars := [g1] }
  | _ => none }
def fnExactAddMonthsRow : OpenClaim := { program := "ytjibnfeeomlnlaadoor", sum := "77d6a6d2d057556094c6e3ea7e39cca9ec283b1193f02fa46f670c4af0a7eb27", func := "loop.example/g00902/laws.FnExactAddMonths", spec := "fnExactAddMonths", named := ["loop.example/g00902/impl.daysBefore"], apart := false, laid := [("loop.example/g00902/impl.daysBefore", laid_loop_example_g00902_impl_daysBefore)] }
def FnExactAddMonthsSaid : Prop := fnExactAddMonthsRow.holds Tryd.pinned (OpenSpec.ofChange fnExactAddMonthsSpec)

/-- ITS FALSE NEIGHBOUR: 'it returns false'. Refute it at one input. -/
def fnExactAddMonthsWrong : ChangeSpec := { name := "fnExactAddMonths", vars := ["loop.example/g00902/impl.daysBefore"], fn := fun _ => fun
  | [d1, d2, g1] => { results := [.lit (.bool false)], args := [d1, d2], vars := [g1] }
  | _ => none }
def FnExactAddMonthsWrongFalsely : Prop := fnExactAddMonthsRow.holds Tryd.pinned (OpenSpec.ofChange fnExactAddMonthsWrong)

/-- 'laws.FnExactIsMonthEnd': WHATEVER THE INPUT: true; the input reads as it did. -/
def fnExactIsMonthEndSpec : ChangeSpec := { name := "fnExactIsMonthEnd", vars := ["loop.example/g00902/impl.daysBefore"], fn := fun _ => fun
  | [d, g1] => { results := [.lit (.bool true)], args := [d], vars := [g1] }
  | _ => none }
def fnExactIsMonthEndRow : OpenClaim := { program := "ytjibnfeeomlnlaadoor", sum := "77d6a6d2d057556094c6e3ea7e39cca9ec283b1193f02fa46f670c4af0a7eb27", func := "loop.example/g00902/laws.FnExactIsMonthEnd", spec := "fnExactIsMonthEnd", named := ["loop.example/g00902/impl.daysBefore"], apart := false, laid := [("loop.example/g00902/impl.daysBefore", laid_loop_example_g00902_impl_daysBefore)] }
def FnExactIsMonthEndSaid : Prop := fnExactIsMonthEndRow.holds Tryd.pinned (OpenSpec.ofChange fnExactIsMonthEndSpec)

/-- ITS FALSE NEIGHBOUR: 'it returns false'. Refute it at one input. -/
def fnExactIsMonthEndWrong : ChangeSpec := { name := "fnExactIsMonthEnd", vars := ["loop.example/g00902/impl.daysBefore"], fn := fun _ => fun
  | [d, g1] => { results := [.lit (.bool false)], args := [d], vars := [g1] }
  | _ => none }
def FnExactIsMonthEndWrongFalsely : Prop := fnExactIsMonthEndRow.holds Tryd.pinned (OpenSpec.ofChange fnExactIsMonthEndWrong)

/-- 'laws.FnExactNthWeekday': WHATEVER THE INPUT: true; the input reads as it did. -/
def fnExactNthWeekdaySpec : ChangeSpec := { name := "fnExactNthWeekday", vars := ["loop.example/g00902/impl.daysBefore"], fn := fun _ => fun
  | [d1, d2, d3, d4, g1] => { results := [.lit (.bool true)], args := [d1, d2, d3, d4], vars := [g1] }
  | _ => none }
def fnExactNthWeekdayRow : OpenClaim := { program := "ytjibnfeeomlnlaadoor", sum := "77d6a6d2d057556094c6e3ea7e39cca9ec283b1193f02fa46f670c4af0a7eb27", func := "loop.example/g00902/laws.FnExactNthWeekday", spec := "fnExactNthWeekday", named := ["loop.example/g00902/impl.daysBefore"], apart := false, laid := [("loop.example/g00902/impl.daysBefore", laid_loop_example_g00902_impl_daysBefore)] }
def FnExactNthWeekdaySaid : Prop := fnExactNthWeekdayRow.holds Tryd.pinned (OpenSpec.ofChange fnExactNthWeekdaySpec)

/-- ITS FALSE NEIGHBOUR: 'it returns false'. Refute it at one input. -/
def fnExactNthWeekdayWrong : ChangeSpec := { name := "fnExactNthWeekday", vars := ["loop.example/g00902/impl.daysBefore"], fn := fun _ => fun
  | [d1, d2, d3, d4, g1] => { results := [.lit (.bool false)], args := [d1, d2, d3, d4], vars := [g1] }
  | _ => none }
def FnExactNthWeekdayWrongFalsely : Prop := fnExactNthWeekdayRow.holds Tryd.pinned (OpenSpec.ofChange fnExactNthWeekdayWrong)

/-- 'laws.FnExactFormatDate': WHATEVER THE INPUT: true; the input reads as it did. -/
def fnExactFormatDateSpec : ChangeSpec := { name := "fnExactFormatDate", vars := ["loop.example/g00902/impl.daysBefore"], fn := fun _ => fun
  | [d, g1] => { results := [.lit (.bool true)], args := [d], vars := [g1] }
  | _ => none }
def fnExactFormatDateRow : OpenClaim := { program := "ytjibnfeeomlnlaadoor", sum := "77d6a6d2d057556094c6e3ea7e39cca9ec283b1193f02fa46f670c4af0a7eb27", func := "loop.example/g00902/laws.FnExactFormatDate", spec := "fnExactFormatDate", recurses := true, named := ["loop.example/g00902/impl.daysBefore", "internal/strconv.uint64pow10", "math/bits.deBruijn32tab", "math/bits.deBruijn64tab"], apart := false, laid := [("math/bits.deBruijn32tab", laid_math_bits_deBruijn32tab), ("math/bits.deBruijn64tab", laid_math_bits_deBruijn64tab), ("internal/strconv.uint64pow10", laid_internal_strconv_uint64pow10), ("loop.example/g00902/impl.daysBefore", laid_loop_example_g00902_impl_daysBefore)] }
def FnExactFormatDateSaid : Prop := fnExactFormatDateRow.holds Tryd.pinned (OpenSpec.ofChange fnExactFormatDateSpec)

/-- ITS FALSE NEIGHBOUR: 'it returns false'. Refute it at one input. -/
def fnExactFormatDateWrong : ChangeSpec := { name := "fnExactFormatDate", vars := ["loop.example/g00902/impl.daysBefore"], fn := fun _ => fun
  | [d, g1] => { results := [.lit (.bool false)], args := [d], vars := [g1] }
  | _ => none }
def FnExactFormatDateWrongFalsely : Prop := fnExactFormatDateRow.holds Tryd.pinned (OpenSpec.ofChange fnExactFormatDateWrong)

/- THE SECOND FORM. 'bulk': how many values and letters a reading holds, each counted each time it is reached (what is shared counts as often as it is met; a slice's spare places count too). A statement '..UptoSaid' is the law's where the arguments, and the package variables that the reading takes, are together of bulk at most 1048576: NARROWER than '..Said'. Prove '..Said' where nothing that the law and all that it calls make is longer than what came in: it says more and counts as full. Else prove '..UptoSaid'. A law counts once. -/
mutual
def uptoBulk {H : Type} : DataW H → Nat
  | .lit (.string bytes) => bytes.length + 1
  | .lit _ => 1
  | .nil => 1
  | .ptr d => uptoBulk d + 1
  | .slice elems spare => uptoBulkAll elems + uptoBulkAll spare + 1
  | .agg parts => uptoBulkAll parts + 1
  | .iface _ d => uptoBulk d + 1
  | .map entries => uptoBulkEntries entries + 1
  | .held _ => 1
def uptoBulkAll {H : Type} : List (DataW H) → Nat
  | [] => 0
  | d :: r => uptoBulk d + uptoBulkAll r
def uptoBulkEntries {H : Type} : List (Lit × DataW H) → Nat
  | [] => 0
  | x :: r => uptoBulkEntry x + uptoBulkEntries r
def uptoBulkEntry {H : Type} : Lit × DataW H → Nat
  | (.string bytes, d) => bytes.length + uptoBulk d + 1
  | (_, d) => uptoBulk d + 1
 end
def uptoSmall : (H : Type) → List (DataW H) → Bool := fun _ ds => decide (uptoBulkAll ds ≤ 1048576)
def OpenSpec.upto (s : _root_.Go.ChangeSpec) : _root_.Go.OpenSpec := { _root_.Go.OpenSpec.ofChange s with cond := some uptoSmall }

/-- 'laws.FnDates', WHERE WHAT IT READS IS OF BULK AT MOST 1048576: true; the input reads as it did. -/
def fnDatesUptoRow : OpenClaim := { program := "ytjibnfeeomlnlaadoor", sum := "77d6a6d2d057556094c6e3ea7e39cca9ec283b1193f02fa46f670c4af0a7eb27", func := "loop.example/g00902/laws.FnDates", spec := "fnDates", named := ["loop.example/g00902/impl.daysBefore", "internal/strconv.uint64pow10", "math/bits.deBruijn32tab", "math/bits.deBruijn64tab", "strconv.ErrSyntax", "strconv.ErrRange"], apart := false, laid := [("math/bits.deBruijn32tab", laid_math_bits_deBruijn32tab), ("math/bits.deBruijn64tab", laid_math_bits_deBruijn64tab), ("internal/strconv.uint64pow10", laid_internal_strconv_uint64pow10), ("strconv.ErrRange", laid_strconv_ErrRange), ("strconv.ErrSyntax", laid_strconv_ErrSyntax), ("loop.example/g00902/impl.daysBefore", laid_loop_example_g00902_impl_daysBefore)], narrowed := true }
def FnDatesUptoSaid : Prop := fnDatesUptoRow.holds Tryd.pinned (OpenSpec.upto fnDatesSpec)

/-- 'laws.FnMonths', WHERE WHAT IT READS IS OF BULK AT MOST 1048576: true; the input reads as it did. -/
def fnMonthsUptoRow : OpenClaim := { program := "ytjibnfeeomlnlaadoor", sum := "77d6a6d2d057556094c6e3ea7e39cca9ec283b1193f02fa46f670c4af0a7eb27", func := "loop.example/g00902/laws.FnMonths", spec := "fnMonths", named := ["loop.example/g00902/impl.daysBefore"], apart := false, laid := [("loop.example/g00902/impl.daysBefore", laid_loop_example_g00902_impl_daysBefore)], narrowed := true }
def FnMonthsUptoSaid : Prop := fnMonthsUptoRow.holds Tryd.pinned (OpenSpec.upto fnMonthsSpec)

/-- 'laws.FnExactIsValidDate', WHERE WHAT IT READS IS OF BULK AT MOST 1048576: true; the input reads as it did. -/
def fnExactIsValidDateUptoRow : OpenClaim := { program := "ytjibnfeeomlnlaadoor", sum := "77d6a6d2d057556094c6e3ea7e39cca9ec283b1193f02fa46f670c4af0a7eb27", func := "loop.example/g00902/laws.FnExactIsValidDate", spec := "fnExactIsValidDate", named := ["loop.example/g00902/impl.daysBefore"], apart := false, laid := [("loop.example/g00902/impl.daysBefore", laid_loop_example_g00902_impl_daysBefore)], narrowed := true }
def FnExactIsValidDateUptoSaid : Prop := fnExactIsValidDateUptoRow.holds Tryd.pinned (OpenSpec.upto fnExactIsValidDateSpec)

/-- 'laws.FnExactDayOf', WHERE WHAT IT READS IS OF BULK AT MOST 1048576: true; the input reads as it did. -/
def fnExactDayOfUptoRow : OpenClaim := { program := "ytjibnfeeomlnlaadoor", sum := "77d6a6d2d057556094c6e3ea7e39cca9ec283b1193f02fa46f670c4af0a7eb27", func := "loop.example/g00902/laws.FnExactDayOf", spec := "fnExactDayOf", named := ["loop.example/g00902/impl.daysBefore"], apart := false, laid := [("loop.example/g00902/impl.daysBefore", laid_loop_example_g00902_impl_daysBefore)], narrowed := true }
def FnExactDayOfUptoSaid : Prop := fnExactDayOfUptoRow.holds Tryd.pinned (OpenSpec.upto fnExactDayOfSpec)

/-- 'laws.FnExactDateOf', WHERE WHAT IT READS IS OF BULK AT MOST 1048576: true; the input reads as it did. -/
def fnExactDateOfUptoRow : OpenClaim := { program := "ytjibnfeeomlnlaadoor", sum := "77d6a6d2d057556094c6e3ea7e39cca9ec283b1193f02fa46f670c4af0a7eb27", func := "loop.example/g00902/laws.FnExactDateOf", spec := "fnExactDateOf", named := ["loop.example/g00902/impl.daysBefore"], apart := false, laid := [("loop.example/g00902/impl.daysBefore", laid_loop_example_g00902_impl_daysBefore)], narrowed := true }
def FnExactDateOfUptoSaid : Prop := fnExactDateOfUptoRow.holds Tryd.pinned (OpenSpec.upto fnExactDateOfSpec)

/-- 'laws.FnExactDaysInMonth', WHERE WHAT IT READS IS OF BULK AT MOST 1048576: true; the input reads as it did. -/
def fnExactDaysInMonthUptoRow : OpenClaim := { program := "ytjibnfeeomlnlaadoor", sum := "77d6a6d2d057556094c6e3ea7e39cca9ec283b1193f02fa46f670c4af0a7eb27", func := "loop.example/g00902/laws.FnExactDaysInMonth", spec := "fnExactDaysInMonth", named := ["loop.example/g00902/impl.daysBefore"], apart := false, laid := [("loop.example/g00902/impl.daysBefore", laid_loop_example_g00902_impl_daysBefore)], narrowed := true }
def FnExactDaysInMonthUptoSaid : Prop := fnExactDaysInMonthUptoRow.holds Tryd.pinned (OpenSpec.upto fnExactDaysInMonthSpec)

/-- 'laws.FnExactAddMonths', WHERE WHAT IT READS IS OF BULK AT MOST 1048576: true; the input reads as it did. -/
def fnExactAddMonthsUptoRow : OpenClaim := { program := "ytjibnfeeomlnlaadoor", sum := "77d6a6d2d057556094c6e3ea7e39cca9ec283b1193f02fa46f670c4af0a7eb27", func := "loop.example/g00902/laws.FnExactAddMonths", spec := "fnExactAddMonths", named := ["loop.example/g00902/impl.daysBefore"], apart := false, laid := [("loop.example/g00902/impl.daysBefore", laid_loop_example_g00902_impl_daysBefore)], narrowed := true }
def FnExactAddMonthsUptoSaid : Prop := fnExactAddMonthsUptoRow.holds Tryd.pinned (OpenSpec.upto fnExactAddMonthsSpec)

/-- 'laws.FnExactIsMonthEnd', WHERE WHAT IT READS IS OF BULK AT MOST 1048576: true; the input reads as it did. -/
def fnExactIsMonthEndUptoRow : OpenClaim := { program := "ytjibnfeeomlnlaadoor", sum := "77d6a6d2d057556094c6e3ea7e39cca9ec283b1193f02fa46f670c4af0a7eb27", func := "loop.example/g00902/laws.FnExactIsMonthEnd", spec := "fnExactIsMonthEnd", named := ["loop.example/g00902/impl.daysBefore"], apart := false, laid := [("loop.example/g00902/impl.daysBefore", laid_loop_example_g00902_impl_daysBefore)], narrowed := true }
def FnExactIsMonthEndUptoSaid : Prop := fnExactIsMonthEndUptoRow.holds Tryd.pinned (OpenSpec.upto fnExactIsMonthEndSpec)

/-- 'laws.FnExactNthWeekday', WHERE WHAT IT READS IS OF BULK AT MOST 1048576: true; the input reads as it did. -/
def fnExactNthWeekdayUptoRow : OpenClaim := { program := "ytjibnfeeomlnlaadoor", sum := "77d6a6d2d057556094c6e3ea7e39cca9ec283b1193f02fa46f670c4af0a7eb27", func := "loop.example/g00902/laws.FnExactNthWeekday", spec := "fnExactNthWeekday", named := ["loop.example/g00902/impl.daysBefore"], apart := false, laid := [("loop.example/g00902/impl.daysBefore", laid_loop_example_g00902_impl_daysBefore)], narrowed := true }
def FnExactNthWeekdayUptoSaid : Prop := fnExactNthWeekdayUptoRow.holds Tryd.pinned (OpenSpec.upto fnExactNthWeekdaySpec)

/-- 'laws.FnExactFormatDate', WHERE WHAT IT READS IS OF BULK AT MOST 1048576: true; the input reads as it did. -/
def fnExactFormatDateUptoRow : OpenClaim := { program := "ytjibnfeeomlnlaadoor", sum := "77d6a6d2d057556094c6e3ea7e39cca9ec283b1193f02fa46f670c4af0a7eb27", func := "loop.example/g00902/laws.FnExactFormatDate", spec := "fnExactFormatDate", recurses := true, named := ["loop.example/g00902/impl.daysBefore", "internal/strconv.uint64pow10", "math/bits.deBruijn32tab", "math/bits.deBruijn64tab"], apart := false, laid := [("math/bits.deBruijn32tab", laid_math_bits_deBruijn32tab), ("math/bits.deBruijn64tab", laid_math_bits_deBruijn64tab), ("internal/strconv.uint64pow10", laid_internal_strconv_uint64pow10), ("loop.example/g00902/impl.daysBefore", laid_loop_example_g00902_impl_daysBefore)], narrowed := true }
def FnExactFormatDateUptoSaid : Prop := fnExactFormatDateUptoRow.holds Tryd.pinned (OpenSpec.upto fnExactFormatDateSpec)

end Rows
end Go.Proofs.YtjibnfeeomlnlaaDoor
