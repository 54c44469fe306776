/-
  What the laws' helper szCondition takes away.
-/
import Derived.Test.YtomloodakabcbaaCondQ
import Derived.WalkSmall
import Derived.Deep.QuietTactic
import Derived.BigQuiet
namespace Go.Proofs.Ytomloodakabcbaa.Cond
open Go.RowKit

theorem below1 (w : World) (o : Obj) : Below w.heap.size w (w.alloc o) := (Below.refl _ _).alloc (Nat.le_refl _) _

def szRes (m t : Nat) : Int := if m < t then -1 else ((m - t : Nat) : Int)
/-- The parts of a slice of conditions lie at A, below block B. -/
def At (w : World) (B : Nat) (A : Option Addr) (ps : List K) : Prop :=
  0 < ps.length → ∃ b o, A = some ⟨b, o, none⟩ ∧ b < B ∧ ∀ i, ∀ h : i < ps.length, El w b (o + i * 4) ps[i]
theorem At.below {w w' : World} {B : Nat} {A : Option Addr} {ps : List K} (h : At w B A ps) (hb : Below B w w') : At w' B A ps := fun hp => by
  obtain ⟨b, o, e, hB, hc⟩ := h hp
  exact ⟨b, o, e, hB, fun i hi => (hc i hi).alike (hb.block b hB)⟩
theorem At.more {w : World} {B B' : Nat} {A : Option Addr} {ps : List K} (h : At w B A ps) (hB : B ≤ B') : At w B' A ps := fun hp => by
  obtain ⟨b, o, e, hB', hc⟩ := h hp
  exact ⟨b, o, e, by omega, hc⟩
/-- A condition lies below block B. -/
structure Lies (w : World) (B : Nat) (k : K) : Prop where
  has : k.In w
  lt : ∀ b ∈ k.blocks, b < B
theorem Lies.below {w w' : World} {B : Nat} {k : K} (h : Lies w B k) (hb : Below B w w') : Lies w' B k := ⟨h.has.alike fun b hb' => hb.block b (h.lt b hb'), h.lt⟩
theorem Lies.more {w : World} {B B' : Nat} {k : K} (h : Lies w B k) (hB : B ≤ B') : Lies w B' k := ⟨h.has, fun b hb => Nat.lt_of_lt_of_le (h.lt b hb) hB⟩
theorem Lies.on {w w' : World} {k : K} (h : Lies w w.heap.size k) (hb : Below w.heap.size w w') : Lies w' w'.heap.size k := (h.below hb).more hb.size
theorem Lies.part {w : World} {B : Nat} {op : Int} {nm : ByteArray} {day : Int} {A : Option Addr} {cap : Nat} {ps : List K} (h : Lies w B (.mk op nm day A cap ps)) {p : K} (hp : p ∈ ps) : Lies w B p :=
  ⟨h.has.part hp, fun b hb => h.lt b (part_blocks hp hb)⟩
theorem Lies.at {w : World} {B : Nat} {op : Int} {nm : ByteArray} {day : Int} {A : Option Addr} {cap : Nat} {ps : List K} (h : Lies w B (.mk op nm day A cap ps)) : At w B A ps := fun hp => by
  obtain ⟨⟨h1, _, _⟩, lt⟩ := h
  obtain ⟨b, o, rfl, he⟩ := h1 hp
  refine ⟨b, o, rfl, lt b ?_, he⟩
  cases ps with
  | nil => simp at hp
  | cons p ps => simp [K.blocks]
theorem Lies.sz {w : World} {B : Nat} {op : Int} {nm : ByteArray} {day : Int} {A : Option Addr} {cap : Nat} {ps : List K} (h : Lies w B (.mk op nm day A cap ps)) : nm.size ≤ maxLen ∧ ps.length ≤ maxLen := by
  obtain ⟨⟨_, ⟨h1, h2, h3⟩, _⟩, _⟩ := h
  exact ⟨h1, by omega⟩

end Go.Proofs.Ytomloodakabcbaa.Cond
