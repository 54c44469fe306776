/-
  Conditions in plain facts: the condition as a tree, its size, its weight, its form; valid conditions; conditions as they lie in memory.
-/
import Derived.Test.YtomloodakabcbaaRows
import Derived.WalkKit
import Derived.ProofKit
import Derived.Lib.Hide
namespace Go.Proofs.Ytomloodakabcbaa.Cond
open Go.RowKit

/-- A condition. -/
inductive C where
  | mk (op : Int) (nm : ByteArray) (day : Int) (ps : List C)

/-- A condition as it lies in memory: the address and the capacity of its parts beside it. -/
inductive K where
  | mk (op : Int) (nm : ByteArray) (day : Int) (A : Option Addr) (cap : Nat) (ps : List K)

theorem C.ind {P : C → Prop} (h : ∀ op nm day ps, (∀ p ∈ ps, P p) → P (.mk op nm day ps)) (c : C) : P c :=
  C.rec (motive_1 := P) (motive_2 := fun l => ∀ p ∈ l, P p) (fun op nm day ps ih => h op nm day ps ih) (fun p hp => by simp at hp)
    (fun a l ha hl p hp => by
      rcases List.mem_cons.1 hp with rfl | hp
      · exact ha
      · exact hl p hp) c
theorem K.ind {P : K → Prop} (h : ∀ op nm day A cap ps, (∀ p ∈ ps, P p) → P (.mk op nm day A cap ps)) (c : K) : P c :=
  K.rec (motive_1 := P) (motive_2 := fun l => ∀ p ∈ l, P p) (fun op nm day A cap ps ih => h op nm day A cap ps ih) (fun p hp => by simp at hp)
    (fun a l ha hl p hp => by
      rcases List.mem_cons.1 hp with rfl | hp
      · exact ha
      · exact hl p hp) c

mutual
def C.size : C → Nat
  | .mk _ _ _ ps => 1 + sizes ps
def sizes : List C → Nat
  | [] => 0
  | p :: ps => p.size + sizes ps
end

mutual
/-- What szCondition takes away. -/
def C.wt : C → Nat
  | .mk _ nm _ ps => nm.size + wts ps
def wts : List C → Nat
  | [] => 0
  | p :: ps => 1 + p.wt + wts ps
end

mutual
def K.cond : K → C
  | .mk op nm day _ _ ps => .mk op nm day (conds ps)
def conds : List K → List C
  | [] => []
  | p :: ps => p.cond :: conds ps
end

mutual
/-- The blocks in which the parts lie. -/
def K.blocks : K → List Nat
  | .mk _ _ _ A _ ps => (match A, ps with | some a, _ :: _ => [a.block] | _, _ => []) ++ blocks ps
def blocks : List K → List Nat
  | [] => []
  | p :: ps => p.blocks ++ blocks ps
end

def K.op : K → Int | .mk op _ _ _ _ _ => op
def K.nm : K → ByteArray | .mk _ nm _ _ _ _ => nm
def K.day : K → Int | .mk _ _ day _ _ _ => day
def K.A : K → Option Addr | .mk _ _ _ A _ _ => A
def K.cap : K → Nat | .mk _ _ _ _ cap _ => cap
def K.ps : K → List K | .mk _ _ _ _ _ ps => ps
abbrev K.val (k : K) : Value := .agg #[.int .i64 k.op, .string k.nm, .int .i64 k.day, .slice k.A k.ps.length k.cap]
/-- Four cells hold the condition. -/
structure El (w : World) (b o : Nat) (k : K) : Prop where
  c0 : w.cell? ⟨b, o, none⟩ = some (.int .i64 k.op)
  c1 : w.cell? ⟨b, o + 1, none⟩ = some (.string k.nm)
  c2 : w.cell? ⟨b, o + 2, none⟩ = some (.int .i64 k.day)
  c3 : w.cell? ⟨b, o + 3, none⟩ = some (.slice k.A k.ps.length k.cap)

mutual
/-- The condition lies in memory, with all its parts. -/
def K.In (w : World) : K → Prop
  | .mk _ nm _ A cap ps => (0 < ps.length → ∃ b o, A = some ⟨b, o, none⟩ ∧ ∀ i, ∀ h : i < ps.length, El w b (o + i * 4) ps[i]) ∧ (nm.size ≤ maxLen ∧ ps.length ≤ cap ∧ cap ≤ maxLen) ∧ Ins w ps
def Ins (w : World) : List K → Prop
  | [] => True
  | p :: ps => p.In w ∧ Ins w ps
end

theorem conds_map (ps : List K) : conds ps = ps.map K.cond := by
  induction ps with
  | nil => rfl
  | cons p ps ih => simp [conds, ih]
theorem ins_mem {w : World} {ps : List K} : Ins w ps ↔ ∀ p ∈ ps, p.In w := by
  induction ps with
  | nil => simp [Ins]
  | cons p ps ih => simp [Ins, ih]
theorem blocks_mem {ps : List K} {b : Nat} : b ∈ blocks ps ↔ ∃ p ∈ ps, b ∈ p.blocks := by
  induction ps with
  | nil => simp [blocks]
  | cons p ps ih => simp [blocks, ih]

/-- The blocks in which a condition lies are the same in both worlds. -/
def Alike (w w' : World) (bs : List Nat) : Prop := ∀ b ∈ bs, w'.heap[b]? = w.heap[b]?

theorem El.alike {w w' : World} {b o : Nat} {k : K} (h : El w b o k) (hb : w'.heap[b]? = w.heap[b]?) : El w' b o k :=
  ⟨(World.cell?_of_block (a := ⟨b, o, none⟩) hb).trans h.c0, (World.cell?_of_block (a := ⟨b, o + 1, none⟩) hb).trans h.c1,
   (World.cell?_of_block (a := ⟨b, o + 2, none⟩) hb).trans h.c2, (World.cell?_of_block (a := ⟨b, o + 3, none⟩) hb).trans h.c3⟩

theorem K.In.alike {w w' : World} {k : K} (h : k.In w) (hb : Alike w w' k.blocks) : k.In w' := by
  induction k using K.ind with
  | h op nm day A cap ps ih =>
    obtain ⟨h1, hc, h2⟩ := h
    refine ⟨fun hp => ?_, hc, ins_mem.2 fun p hp => ih p hp (ins_mem.1 h2 p hp) fun b hb' => hb b ?_⟩
    · obtain ⟨b, o, rfl, he⟩ := h1 hp
      refine ⟨b, o, rfl, fun i hi => (he i hi).alike (hb b ?_)⟩
      cases ps with
      | nil => simp at hp
      | cons p ps => simp [K.blocks]
    · simp only [K.blocks, List.mem_append]
      exact .inr (blocks_mem.2 ⟨p, hp, hb'⟩)

theorem K.In.part {w : World} {op : Int} {nm : ByteArray} {day : Int} {A : Option Addr} {cap : Nat} {ps : List K} (h : (K.mk op nm day A cap ps).In w) {p : K} (hp : p ∈ ps) : p.In w := by
  obtain ⟨_, _, h2⟩ := h
  exact ins_mem.1 h2 p hp

theorem part_blocks {op : Int} {nm : ByteArray} {day : Int} {A : Option Addr} {cap : Nat} {ps : List K} {p : K} (hp : p ∈ ps) {b : Nat} (hb : b ∈ p.blocks) : b ∈ (K.mk op nm day A cap ps).blocks := by
  simp only [K.blocks, List.mem_append]
  exact .inr (blocks_mem.2 ⟨p, hp, hb⟩)

theorem wt_part {ps : List C} {i : Nat} (hi : i < ps.length) : wts (ps.take (i + 1)) = wts (ps.take i) + 1 + ps[i].wt := by
  induction ps generalizing i with
  | nil => simp at hi
  | cons p ps ih =>
    cases i with
    | zero => simp [wts]
    | succ i =>
      have := ih (i := i) (by simpa using hi)
      simp only [List.take_succ_cons, wts, List.getElem_cons_succ]
      omega
theorem wts_take_le (ps : List C) (i : Nat) : wts (ps.take i) ≤ wts ps := by
  induction ps generalizing i with
  | nil => simp [wts]
  | cons p ps ih =>
    cases i with
    | zero => simp [wts]
    | succ i => have := ih i; simp only [List.take_succ_cons, wts]; omega
theorem wts_len (ps : List C) (i : Nat) (hi : i ≤ ps.length) : ps.length + wts (ps.take i) ≤ i + wts ps := by
  induction ps generalizing i with
  | nil => simp [wts]
  | cons p ps ih =>
    cases i with
    | zero => have := ih 0 (by omega); simp only [List.take_zero, wts, List.length_cons] at this ⊢; omega
    | succ i => have := ih i (by simpa using hi); simp only [List.take_succ_cons, wts, List.length_cons]; omega
theorem size_part {ps : List C} {i : Nat} (hi : i < ps.length) : sizes (ps.take (i + 1)) = sizes (ps.take i) + ps[i].size := by
  induction ps generalizing i with
  | nil => simp at hi
  | cons p ps ih =>
    cases i with
    | zero => simp [sizes]
    | succ i =>
      have := ih (i := i) (by simpa using hi)
      simp only [List.take_succ_cons, sizes, List.getElem_cons_succ]
      omega
theorem sizes_take_le (ps : List C) (i : Nat) : sizes (ps.take i) ≤ sizes ps := by
  induction ps generalizing i with
  | nil => simp [sizes]
  | cons p ps ih =>
    cases i with
    | zero => simp [sizes]
    | succ i => have := ih i; simp only [List.take_succ_cons, sizes]; omega
theorem C.size_pos (c : C) : 1 ≤ c.size := by cases c; simp [C.size]

mutual
theorem C.size_le : ∀ c : C, c.size ≤ c.wt + 1
  | .mk _ _ _ ps => by have := sizes_le ps; simp only [C.size, C.wt]; omega
theorem sizes_le : ∀ ps : List C, sizes ps ≤ wts ps
  | [] => by simp [sizes, wts]
  | p :: ps => by have := C.size_le p; have := sizes_le ps; simp only [sizes, wts]; omega
end

end Go.Proofs.Ytomloodakabcbaa.Cond
