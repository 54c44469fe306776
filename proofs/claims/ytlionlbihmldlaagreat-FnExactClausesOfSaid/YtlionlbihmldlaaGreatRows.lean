/-
  NARROWER THAN 'FOR EVERY INPUT', by the rows' own cells (each row's printed sentence says how): FnExactDependentClauses: loops · FnExactClausesOf: loops · FnExactFactNames: loops · FnExactRepairChain: loops.
  DERIVED. THE GIVEN ROWS OF THIS SEAT. 4 by the template 'for every input the law returns true; each argument reads behind the call as it read before'; 0 by the template 'total and deterministic' (their statements: YtlionlbihmldlaaGreatTotals.lean).
  GIVEN WITH THE SEED: the statements are not yours to turn. If you find one false, say at which input.
  Laid BY PROGRAM, IN A SANDBOX (cutbox-rows.mjs): the forced cells as the released guide's own fill.sh prints them over the translation 3fda3ef65a478e04… (all of the seat's roots in one cut). By AI agents, Wed Nov 11 2026. No macro, syntax, notation, axiom, sorry.
-/
import Derived.Test.YtlionlbihmldlaaGreatChecked
import GoSem.Claim
import GoSem.ClaimJoined
import GoSem.ClaimMapViews
import Derived.JoinedTies
import Derived.KernelRfl
namespace Go.Proofs.YtlionlbihmldlaaGreat
/- THE CELL 'sum', in the pinned program and in every row, IS THE sha256 OF THE DUMP (.gsa) THAT YtlionlbihmldlaaGreatProg.lean LOADS. Nothing in Lean hashes anything: it is a label: what it is worth is what the hold of that sum in a sandbox is worth. -/
noncomputable def Tryz.pinned : Pinned := { name := "ytlionlbihmldlaagreat", sum := "3fda3ef65a478e0454b506335e7fa9d3747025e94df85f04832af78e524b3f47", checked := Tryz.checked }
namespace Rows
def none {H : Type} : Left H := { results := [], args := [] }

/-- 'laws.FnExactDependentClauses': WHATEVER THE INPUT: true; the input reads as it did. -/
def fnExactDependentClausesSpec : ChangeSpec := { name := "fnExactDependentClauses", fn := fun _ => fun
  | [d] => { results := [.lit (.bool true)], args := [d] }
  | _ => none }
def fnExactDependentClausesRow : OpenClaim := { program := "ytlionlbihmldlaagreat", sum := "3fda3ef65a478e0454b506335e7fa9d3747025e94df85f04832af78e524b3f47", func := "loop.example/g00902/laws.FnExactDependentClauses", spec := "fnExactDependentClauses", unfollowed := true, recurses := true, loops := true, apart := false }
def FnExactDependentClausesSaid : Prop := fnExactDependentClausesRow.holds Tryz.pinned (OpenSpec.ofChange fnExactDependentClausesSpec)

/-- ITS FALSE NEIGHBOUR: 'it returns false'. Refute it at one input. -/
def fnExactDependentClausesWrong : ChangeSpec := { name := "fnExactDependentClauses", fn := fun _ => fun
  | [d] => { results := [.lit (.bool false)], args := [d] }
  | _ => none }
def FnExactDependentClausesWrongFalsely : Prop := fnExactDependentClausesRow.holds Tryz.pinned (OpenSpec.ofChange fnExactDependentClausesWrong)

/-- 'laws.FnExactClausesOf': WHATEVER THE INPUT: true; the input reads as it did. -/
def fnExactClausesOfSpec : ChangeSpec := { name := "fnExactClausesOf", fn := fun _ => fun
  | [d1, d2, d3] => { results := [.lit (.bool true)], args := [d1, d2, d3] }
  | _ => none }
def fnExactClausesOfRow : OpenClaim := { program := "ytlionlbihmldlaagreat", sum := "3fda3ef65a478e0454b506335e7fa9d3747025e94df85f04832af78e524b3f47", func := "loop.example/g00902/laws.FnExactClausesOf", spec := "fnExactClausesOf", unfollowed := true, recurses := true, loops := true, apart := false }
def FnExactClausesOfSaid : Prop := fnExactClausesOfRow.holds Tryz.pinned (OpenSpec.ofChange fnExactClausesOfSpec)

/-- ITS FALSE NEIGHBOUR: 'it returns false'. Refute it at one input. -/
def fnExactClausesOfWrong : ChangeSpec := { name := "fnExactClausesOf", fn := fun _ => fun
  | [d1, d2, d3] => { results := [.lit (.bool false)], args := [d1, d2, d3] }
  | _ => none }
def FnExactClausesOfWrongFalsely : Prop := fnExactClausesOfRow.holds Tryz.pinned (OpenSpec.ofChange fnExactClausesOfWrong)

/-- 'laws.FnExactFactNames': WHATEVER THE INPUT: true; the input reads as it did. -/
def fnExactFactNamesSpec : ChangeSpec := { name := "fnExactFactNames", fn := fun _ => fun
  | [d] => { results := [.lit (.bool true)], args := [d] }
  | _ => none }
def fnExactFactNamesRow : OpenClaim := { program := "ytlionlbihmldlaagreat", sum := "3fda3ef65a478e0454b506335e7fa9d3747025e94df85f04832af78e524b3f47", func := "loop.example/g00902/laws.FnExactFactNames", spec := "fnExactFactNames", unfollowed := true, recurses := true, loops := true, apart := false }
def FnExactFactNamesSaid : Prop := fnExactFactNamesRow.holds Tryz.pinned (OpenSpec.ofChange fnExactFactNamesSpec)

/-- ITS FALSE NEIGHBOUR: 'it returns false'. Refute it at one input. -/
def fnExactFactNamesWrong : ChangeSpec := { name := "fnExactFactNames", fn := fun _ => fun
  | [d] => { results := [.lit (.bool false)], args := [d] }
  | _ => none }
def FnExactFactNamesWrongFalsely : Prop := fnExactFactNamesRow.holds Tryz.pinned (OpenSpec.ofChange fnExactFactNamesWrong)

/-- 'laws.FnExactRepairChain': WHATEVER THE INPUT: true; the input reads as it did. -/
def fnExactRepairChainSpec : ChangeSpec := { name := "fnExactRepairChain", fn := fun _ => fun
  | [d1, d2] => { results := [.lit (.bool true)], args := [d1, d2] }
  | _ => none }
def fnExactRepairChainRow : OpenClaim := { program := "ytlionlbihmldlaagreat", sum := "3fda3ef65a478e0454b506335e7fa9d3747025e94df85f04832af78e524b3f47", func := "loop.example/g00902/laws.FnExactRepairChain", spec := "fnExactRepairChain", unfollowed := true, recurses := true, loops := true, apart := false }
def FnExactRepairChainSaid : Prop := fnExactRepairChainRow.holds Tryz.pinned (OpenSpec.ofChange fnExactRepairChainSpec)

/-- ITS FALSE NEIGHBOUR: 'it returns false'. Refute it at one input. -/
def fnExactRepairChainWrong : ChangeSpec := { name := "fnExactRepairChain", fn := fun _ => fun
  | [d1, d2] => { results := [.lit (.bool false)], args := [d1, d2] }
  | _ => none }
def FnExactRepairChainWrongFalsely : Prop := fnExactRepairChainRow.holds Tryz.pinned (OpenSpec.ofChange fnExactRepairChainWrong)

/- THE SECOND FORM. 'bulk': how many values and letters a reading holds, each counted each time it is reached (what is shared counts as often as it is met; a slice's spare places count too). A statement '..UptoSaid' is the law's where the arguments, and the package variables that the reading takes, are together of bulk at most 1048576: NARROWER than '..Said'. Prove '..Said' where nothing that the law and all that it calls make is longer than what came in: it says more and counts as full. Else prove '..UptoSaid'. A law counts once. -/
mutual
def uptoBulk {H : Type} : DataW H → Nat
  | .lit (.string bytes) => bytes.length + 1
  | .lit _ => 1
  | .nil => 1
  | .ptr d => uptoBulk d + 1
  | .slice elems spare => uptoBulkAll elems + uptoBulkAll spare + 1
  | .agg parts => uptoBulkAll parts + 1
  | .iface _ d => uptoBulk d + 1
  | .map entries => uptoBulkEntries entries + 1
  | .held _ => 1
def uptoBulkAll {H : Type} : List (DataW H) → Nat
  | [] => 0
  | d :: r => uptoBulk d + uptoBulkAll r
def uptoBulkEntries {H : Type} : List (Lit × DataW H) → Nat
  | [] => 0
  | x :: r => uptoBulkEntry x + uptoBulkEntries r
def uptoBulkEntry {H : Type} : Lit × DataW H → Nat
  | (.string bytes, d) => bytes.length + uptoBulk d + 1
  | (_, d) => uptoBulk d + 1
 end
def uptoSmall : (H : Type) → List (DataW H) → Bool := fun _ ds => decide (uptoBulkAll ds ≤ 1048576)
def OpenSpec.upto (s : _root_.Go.ChangeSpec) : _root_.Go.OpenSpec := { _root_.Go.OpenSpec.ofChange s with cond := some uptoSmall }

/-- 'laws.FnExactDependentClauses', WHERE WHAT IT READS IS OF BULK AT MOST 1048576: true; the input reads as it did. -/
def fnExactDependentClausesUptoRow : OpenClaim := { program := "ytlionlbihmldlaagreat", sum := "3fda3ef65a478e0454b506335e7fa9d3747025e94df85f04832af78e524b3f47", func := "loop.example/g00902/laws.FnExactDependentClauses", spec := "fnExactDependentClauses", unfollowed := true, recurses := true, loops := true, apart := false, narrowed := true }
def FnExactDependentClausesUptoSaid : Prop := fnExactDependentClausesUptoRow.holds Tryz.pinned (OpenSpec.upto fnExactDependentClausesSpec)

/-- 'laws.FnExactClausesOf', WHERE WHAT IT READS IS OF BULK AT MOST 1048576: true; the input reads as it did. -/
def fnExactClausesOfUptoRow : OpenClaim := { program := "ytlionlbihmldlaagreat", sum := "3fda3ef65a478e0454b506335e7fa9d3747025e94df85f04832af78e524b3f47", func := "loop.example/g00902/laws.FnExactClausesOf", spec := "fnExactClausesOf", unfollowed := true, recurses := true, loops := true, apart := false, narrowed := true }
def FnExactClausesOfUptoSaid : Prop := fnExactClausesOfUptoRow.holds Tryz.pinned (OpenSpec.upto fnExactClausesOfSpec)

/-- 'laws.FnExactFactNames', WHERE WHAT IT READS IS OF BULK AT MOST 1048576: true; the input reads as it did. -/
def fnExactFactNamesUptoRow : OpenClaim := { program := "ytlionlbihmldlaagreat", sum := "3fda3ef65a478e0454b506335e7fa9d3747025e94df85f04832af78e524b3f47", func := "loop.example/g00902/laws.FnExactFactNames", spec := "fnExactFactNames", unfollowed := true, recurses := true, loops := true, apart := false, narrowed := true }
def FnExactFactNamesUptoSaid : Prop := fnExactFactNamesUptoRow.holds Tryz.pinned (OpenSpec.upto fnExactFactNamesSpec)

/-- 'laws.FnExactRepairChain', WHERE WHAT IT READS IS OF BULK AT MOST 1048576: true; the input reads as it did. -/
def fnExactRepairChainUptoRow : OpenClaim := { program := "ytlionlbihmldlaagreat", sum := "3fda3ef65a478e0454b506335e7fa9d3747025e94df85f04832af78e524b3f47", func := "loop.example/g00902/laws.FnExactRepairChain", spec := "fnExactRepairChain", unfollowed := true, recurses := true, loops := true, apart := false, narrowed := true }
def FnExactRepairChainUptoSaid : Prop := fnExactRepairChainUptoRow.holds Tryz.pinned (OpenSpec.upto fnExactRepairChainSpec)

end Rows
end Go.Proofs.YtlionlbihmldlaaGreat
