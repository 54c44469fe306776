/-
  Valid contracts in plain facts.
-/
import Derived.Test.YtomloodakabcbabGreatCl
import Derived.Test.YtomloodakabcbabGreatHold
import Derived.Test.YtomloodakabcbabGreatNdS
namespace Go.Proofs.YtomloodakabcbabGreat.Cl
open Go.RowKit Go.Proofs.YtomloodakabcbabGreat.Cond Go.Proofs.YtomloodakabcbabGreat.Gx Go.Proofs.YtomloodakabcbabGreat.NdS
set_option linter.unusedVariables false

/-- Whether a clause has this Id. -/
def hasId (id : ByteArray) (x : L) : Bool := decide (x.id.toList = id.toList)
/-- The first clause with this Id, or the number of clauses. -/
def fnd (ls : List L) (id : ByteArray) : Nat := ls.findIdx (hasId id)
theorem fnd_le (ls : List L) (id : ByteArray) : fnd ls id ≤ ls.length := List.findIdx_le_length
def fndI (ls : List L) (id : ByteArray) : Int := if fnd ls id < ls.length then (fnd ls id : Int) else -1
theorem fnd_at {ls : List L} {id : ByteArray} {k : Nat} (hk : k < ls.length) (h0 : ∀ j, ∀ h : j < k, hasId id (ls[j]'(by omega)) = false) (h1 : hasId id ls[k] = true) : fnd ls id = k := by
  unfold fnd
  rw [List.findIdx_eq hk]
  exact ⟨h1, fun j hj => by have := h0 j hj; simp [this]⟩
theorem fnd_no {ls : List L} {id : ByteArray} (h0 : ∀ j, ∀ h : j < ls.length, hasId id ls[j] = false) : fnd ls id = ls.length := by
  unfold fnd
  rw [List.findIdx_eq_length]
  intro x hx
  obtain ⟨i, hi, rfl⟩ := List.getElem_of_mem hx
  exact h0 i hi

/-- A clause without regard to the others; np parties. -/
def okC (np : Nat) (x : L) : Bool :=
  isNm x.id && isNm x.act && (decide (1 ≤ x.kind) && decide (x.kind ≤ 4)) && (decide (0 ≤ x.party) && decide (x.party ≤ (np : Int) - 1)) && (decide (0 ≤ x.other) && decide (x.other ≤ (np : Int) - 1)) && !decide (x.party = x.other) && x.c.good
def okA (x : L) : Bool := (decide (0 ≤ x.amt) && decide (x.amt ≤ 1000000)) && (decide (0 ≤ x.within) && decide (x.within ≤ 400)) && (decide (x.kind = 1) || (decide (x.amt = 0) && decide (x.within = 0)))
/-- The Repair of clause i. -/
def kindAt (ls : List L) (k : Nat) : Int := if h : k < ls.length then ls[k].kind else 0
def okR (ls : List L) (i : Nat) (x : L) : Bool :=
  decide (x.rep.toList = []) || (decide (fnd ls x.rep < ls.length) && !decide (fnd ls x.rep = i) && decide (kindAt ls (fnd ls x.rep) = 1) && !decide (x.kind = 3))
def okL (np : Nat) (ls : List L) (i : Nat) (x : L) : Bool := okC np x && okA x && okR ls i x
/-- Clause i has an Id of its own and is valid. -/
def okI (np : Nat) (ls : List L) (i : Nat) (x : L) : Bool := decide (fnd ls x.id = i) && okL np ls i x
def okAll (np : Nat) (ls : List L) : Bool := decide (∀ i, ∀ h : i < ls.length, okI np ls i ls[i] = true)
def okN (ss : List ByteArray) : Bool := decide (∀ i, ∀ h : i < ss.length, isNm ss[i] = true ∧ has (ss.take i) ss[i] = false)
/-- All names of actions and facts, in order. -/
def nmsC (ls : List L) : List (List UInt8) := ls.flatMap fun x => x.act.toList :: nms x.c
def names (ls : List L) : List (List UInt8) := UniTM.uni [] (nmsC ls)
def Ct.good (x : Ct) : Bool := decide (1 ≤ x.ls.length) && decide (x.ls.length ≤ 12) && (okN x.ss && (decide (2 ≤ x.ss.length) && decide (x.ss.length ≤ 4))) && okAll x.ss.length x.ls && decide ((names x.ls).length ≤ 16)

theorem uni_app (a b c : List (List UInt8)) : UniTM.uni a (b ++ c) = UniTM.uni (UniTM.uni a b) c := by simp [UniTM.uni]
theorem nmsC_snoc (ls : List L) (x : L) : nmsC (ls ++ [x]) = nmsC ls ++ (x.act.toList :: nms x.c) := by simp [nmsC]
theorem names_step {ls : List L} {i : Nat} (hi : i < ls.length) : names (ls.take (i + 1)) = UniTM.uni (UniTM.putL (names (ls.take i)) ls[i].act.toList) (nms ls[i].c) := by
  unfold names
  rw [List.take_succ_eq_append_getElem hi, nmsC_snoc, uni_app]
  rfl
theorem good_len {x : Ct} (h : x.good = true) : 1 ≤ x.ls.length ∧ x.ls.length ≤ 12 ∧ 2 ≤ x.ss.length ∧ x.ss.length ≤ 4 := by
  simp only [Ct.good, Bool.and_eq_true, decide_eq_true_eq] at h
  exact ⟨h.1.1.1.1, h.1.1.1.2, h.1.1.2.2.1, h.1.1.2.2.2⟩
theorem good_all {x : Ct} (h : x.good = true) : ∀ i, ∀ hi : i < x.ls.length, okI x.ss.length x.ls i x.ls[i] = true := by
  simp only [Ct.good, okAll, Bool.and_eq_true, decide_eq_true_eq] at h
  exact h.1.2
theorem okL_c {np : Nat} {ls : List L} {i : Nat} {x : L} (h : okL np ls i x = true) : x.c.good = true := by
  simp only [okL, okC, Bool.and_eq_true] at h
  exact h.1.1.2

end Go.Proofs.YtomloodakabcbabGreat.Cl
