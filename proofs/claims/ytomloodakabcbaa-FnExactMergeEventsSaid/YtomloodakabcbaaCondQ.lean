/-
  Valid conditions: the six forms as a tree of their own; a condition is valid exactly if it is one of them.
-/
import Derived.Test.YtomloodakabcbaaCond
namespace Go.Proofs.Ytomloodakabcbaa.Cond
open Go.RowKit

/-- A lower-case letter or a digit. -/
def sgn (b : Nat) : Bool := (97 ≤ b && b ≤ 122) || (48 ≤ b && b ≤ 57)
/-- A byte of a string. -/
def bAt (s : ByteArray) (i : Nat) : Nat := if h : i < s.size then s[i].toNat else 0
/-- The words that are no names. -/
def isWd (s : ByteArray) : Bool := decide (s.toList = [116, 114, 117, 101]) || decide (s.toList = [102, 114, 111, 109]) || decide (s.toList = [110, 111, 116]) || decide (s.toList = [97, 110, 100]) || decide (s.toList = [111, 114]) || decide (s.toList = [98, 111, 116, 104]) || decide (s.toList = [101, 105, 116, 104, 101, 114]) || decide (s.toList = [105, 116]) || decide (s.toList = [105, 110])
def isNm (s : ByteArray) : Bool := decide (1 ≤ s.size) && decide (s.size ≤ 8) && decide (97 ≤ bAt s 0) && decide (bAt s 0 ≤ 122) && decide (∀ i, i < s.size → sgn (bAt s i) = true) && !isWd s
def isDy (d : Int) : Bool := decide (0 ≤ d) && decide (d ≤ 36524)

def form (op : Int) (nm : ByteArray) (day : Int) (n : Nat) : Bool :=
  if op = 1 then nm.size == 0 && day == 0 && n == 0
  else if op = 2 then isNm nm && day == 0 && n == 0
  else if op = 3 then nm.size == 0 && isDy day && n == 0
  else if op = 4 then nm.size == 0 && day == 0 && n == 1
  else if op = 5 ∨ op = 6 then nm.size == 0 && day == 0 && n == 2
  else false

mutual
def C.forms : C → Bool
  | .mk op nm day ps => form op nm day ps.length && allForms ps
def allForms : List C → Bool
  | [] => true
  | p :: ps => p.forms && allForms ps
end
def C.good (c : C) : Bool := c.forms && decide (c.size ≤ 15)

theorem allForms_all (ps : List C) : allForms ps = ps.all C.forms := by
  induction ps with
  | nil => rfl
  | cons p ps ih => simp [allForms, ih]

/-- A valid condition. -/
inductive Q where
  | tru | fact (s : ByteArray) | frm (d : Int) | neg (a : Q) | and (a b : Q) | or (a b : Q)
def Q.c : Q → C
  | .tru => .mk 1 .empty 0 []
  | .fact s => .mk 2 s 0 []
  | .frm d => .mk 3 .empty d []
  | .neg a => .mk 4 .empty 0 [a.c]
  | .and a b => .mk 5 .empty 0 [a.c, b.c]
  | .or a b => .mk 6 .empty 0 [a.c, b.c]
def Q.ok : Q → Prop
  | .tru => True
  | .fact s => isNm s = true
  | .frm d => isDy d = true
  | .neg a => a.ok
  | .and a b => a.ok ∧ b.ok
  | .or a b => a.ok ∧ b.ok
def Q.size : Q → Nat
  | .tru => 1
  | .fact _ => 1
  | .frm _ => 1
  | .neg a => 1 + a.size
  | .and a b => 1 + (a.size + b.size)
  | .or a b => 1 + (a.size + b.size)

theorem Q.size_c (q : Q) : q.c.size = q.size := by
  induction q with
  | tru => rfl
  | fact s => rfl
  | frm d => rfl
  | neg a ih => simp [Q.c, C.size, sizes, Q.size, ih]
  | and a b iha ihb => simp [Q.c, C.size, sizes, Q.size, iha, ihb]
  | or a b iha ihb => simp [Q.c, C.size, sizes, Q.size, iha, ihb]

theorem empty_of_size {s : ByteArray} (h : s.size = 0) : s = .empty := by
  cases s with
  | mk d => cases d with
    | mk l =>
      have : l = [] := List.eq_nil_of_length_eq_zero h
      subst this; rfl

theorem Q.forms_c (q : Q) (h : q.ok) : q.c.forms = true := by
  induction q with
  | tru => rfl
  | fact s => simpa [Q.c, C.forms, allForms, form, Q.ok] using h
  | frm d => simpa [Q.c, C.forms, allForms, form, Q.ok] using h
  | neg a ih => simp [Q.c, C.forms, allForms, form, ih h]
  | and a b iha ihb => simp [Q.c, C.forms, allForms, form, iha h.1, ihb h.2]
  | or a b iha ihb => simp [Q.c, C.forms, allForms, form, iha h.1, ihb h.2]

theorem form_cases {op : Int} {nm : ByteArray} {day : Int} {ps : List C} (h : form op nm day ps.length = true) :
    (op = 1 ∧ nm = .empty ∧ day = 0 ∧ ps = []) ∨ (op = 2 ∧ isNm nm = true ∧ day = 0 ∧ ps = []) ∨ (op = 3 ∧ nm = .empty ∧ isDy day = true ∧ ps = []) ∨
    (op = 4 ∧ nm = .empty ∧ day = 0 ∧ ∃ a, ps = [a]) ∨ ((op = 5 ∨ op = 6) ∧ nm = .empty ∧ day = 0 ∧ ∃ a b, ps = [a, b]) := by
  unfold form at h
  have two : ∀ l : List C, l.length = 2 → ∃ a b, l = [a, b] := fun l hl => by
    match l, hl with
    | [a, b], _ => exact ⟨a, b, rfl⟩
  have one : ∀ l : List C, l.length = 1 → ∃ a, l = [a] := fun l hl => by
    match l, hl with
    | [a], _ => exact ⟨a, rfl⟩
  split at h
  · rename_i e
    simp only [Bool.and_eq_true, beq_iff_eq, List.length_eq_zero_iff] at h
    exact .inl ⟨e, empty_of_size h.1.1, h.1.2, h.2⟩
  split at h
  · rename_i e
    simp only [Bool.and_eq_true, beq_iff_eq, List.length_eq_zero_iff] at h
    exact .inr (.inl ⟨e, h.1.1, h.1.2, h.2⟩)
  split at h
  · rename_i e
    simp only [Bool.and_eq_true, beq_iff_eq, List.length_eq_zero_iff] at h
    exact .inr (.inr (.inl ⟨e, empty_of_size h.1.1, h.1.2, h.2⟩))
  split at h
  · rename_i e
    simp only [Bool.and_eq_true, beq_iff_eq] at h
    exact .inr (.inr (.inr (.inl ⟨e, empty_of_size h.1.1, h.1.2, one _ h.2⟩)))
  split at h
  · rename_i e
    simp only [Bool.and_eq_true, beq_iff_eq] at h
    exact .inr (.inr (.inr (.inr ⟨e, empty_of_size h.1.1, h.1.2, two _ h.2⟩)))
  · cases h

theorem forms_q (c : C) (h : c.forms = true) : ∃ q : Q, c = q.c ∧ q.ok := by
  induction c using C.ind with
  | h op nm day ps ih =>
    simp only [C.forms, Bool.and_eq_true, allForms_all, List.all_eq_true] at h
    obtain ⟨hf, ha⟩ := h
    rcases form_cases hf with ⟨rfl, rfl, rfl, rfl⟩ | ⟨rfl, hn, rfl, rfl⟩ | ⟨rfl, rfl, hd, rfl⟩ | ⟨rfl, rfl, rfl, a, rfl⟩ | ⟨ho, rfl, rfl, a, b, rfl⟩
    · exact ⟨.tru, rfl, trivial⟩
    · exact ⟨.fact nm, rfl, hn⟩
    · exact ⟨.frm day, rfl, hd⟩
    · obtain ⟨q, rfl, hq⟩ := ih a (by simp) (ha a (by simp))
      exact ⟨.neg q, rfl, hq⟩
    · obtain ⟨q, rfl, hq⟩ := ih a (by simp) (ha a (by simp))
      obtain ⟨r, rfl, hr⟩ := ih b (by simp) (ha b (by simp))
      rcases ho with rfl | rfl
      · exact ⟨.and q r, rfl, hq, hr⟩
      · exact ⟨.or q r, rfl, hq, hr⟩

theorem good_q {c : C} (h : c.good = true) : ∃ q : Q, c = q.c ∧ q.ok ∧ q.size ≤ 15 := by
  simp only [C.good, Bool.and_eq_true, decide_eq_true_eq] at h
  obtain ⟨q, rfl, hq⟩ := forms_q c h.1
  exact ⟨q, rfl, hq, by rw [← Q.size_c]; exact h.2⟩
theorem q_good {q : Q} (h : q.ok) (hs : q.size ≤ 15) : q.c.good = true := by
  simp only [C.good, Bool.and_eq_true, decide_eq_true_eq]
  exact ⟨q.forms_c h, by rw [Q.size_c]; exact hs⟩

/-- In memory: the parts of a valid condition. -/
theorem K.leaf {k : K} {op : Int} {nm : ByteArray} {day : Int} (h : k.cond = .mk op nm day []) : ∃ A cap, k = .mk op nm day A cap [] := by
  cases k with
  | mk op' nm' day' A cap ps =>
    simp only [K.cond, conds_map, C.mk.injEq, List.map_eq_nil_iff] at h
    obtain ⟨rfl, rfl, rfl, rfl⟩ := h
    exact ⟨A, cap, rfl⟩
theorem K.one {k : K} {op : Int} {nm : ByteArray} {day : Int} {a : C} (h : k.cond = .mk op nm day [a]) : ∃ A cap p, k = .mk op nm day A cap [p] ∧ p.cond = a := by
  cases k with
  | mk op' nm' day' A cap ps =>
    simp only [K.cond, conds_map, C.mk.injEq] at h
    obtain ⟨rfl, rfl, rfl, h⟩ := h
    match ps, h with
    | [p], h =>
      simp at h
      exact ⟨A, cap, p, rfl, h⟩
theorem K.two {k : K} {op : Int} {nm : ByteArray} {day : Int} {a b : C} (h : k.cond = .mk op nm day [a, b]) : ∃ A cap p q, k = .mk op nm day A cap [p, q] ∧ p.cond = a ∧ q.cond = b := by
  cases k with
  | mk op' nm' day' A cap ps =>
    simp only [K.cond, conds_map, C.mk.injEq] at h
    obtain ⟨rfl, rfl, rfl, h⟩ := h
    match ps, h with
    | [p, q], h =>
      simp at h
      exact ⟨A, cap, p, q, rfl, h⟩

end Go.Proofs.Ytomloodakabcbaa.Cond
