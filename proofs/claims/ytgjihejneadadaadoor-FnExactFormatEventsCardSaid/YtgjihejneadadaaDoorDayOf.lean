/-
  DayOf and DateOf: what the program's and the model's functions return.
-/
import Derived.Test.YtgjihejneadadaaDoorValid
namespace Go.Proofs.YtgjihejneadadaaDoor.DayOf
open Go.RowKit Go.Proofs.YtgjihejneadadaaDoor.Cal Go.Proofs.YtgjihejneadadaaDoor.Tab Go.Proofs.YtgjihejneadadaaDoor.Wd Go.Proofs.YtgjihejneadadaaDoor.Len Go.Proofs.YtgjihejneadadaaDoor.Valid

/-- Block k holds a date that may be written. -/
structure Box (k : Nat) (w : World) (a b c : Int) : Prop where
  lt : k < w.heap.size
  c0 : w.cell? ⟨k, 0, none⟩ = some (.int .i64 a)
  c1 : w.cell? ⟨k, 1, none⟩ = some (.int .i64 b)
  c2 : w.cell? ⟨k, 2, none⟩ = some (.int .i64 c)
  f0 : w.frozen? ⟨k, 0, none⟩ = false
  f1 : w.frozen? ⟨k, 1, none⟩ = false
  f2 : w.frozen? ⟨k, 2, none⟩ = false

theorem Box.below {k : Nat} {w w' : World} {a b c : Int} (h : Box k w a b c) (hb : Below w.heap.size w w') : Box k w' a b c :=
  ⟨Nat.lt_of_lt_of_le h.lt hb.size, (hb.cell (p := ⟨k, 0, none⟩) h.lt).trans h.c0, (hb.cell (p := ⟨k, 1, none⟩) h.lt).trans h.c1, (hb.cell (p := ⟨k, 2, none⟩) h.lt).trans h.c2,
    (hb.frozen (p := ⟨k, 0, none⟩) h.lt).trans h.f0, (hb.frozen (p := ⟨k, 1, none⟩) h.lt).trans h.f1, (hb.frozen (p := ⟨k, 2, none⟩) h.lt).trans h.f2⟩

theorem Box.new (w : World) (a b c : Int) (T : TypeId) : Box w.heap.size (w.alloc (.cells #[.int .i64 a, .int .i64 b, .int .i64 c] T)) a b c :=
  ⟨by simp, by simp, by simp, by simp, by simp, by simp, by simp⟩

theorem Box.alloc {k : Nat} {w : World} {a b c : Int} (h : Box k w a b c) (o : Obj) : Box k (w.alloc o) a b c :=
  h.below ((Below.refl _ _).alloc (Nat.le_refl _) _)

theorem below1 (w : World) (o : Obj) : Below w.heap.size w (w.alloc o) := (Below.refl _ _).alloc (Nat.le_refl _) _
theorem below2 (w : World) (o o' : Obj) : Below w.heap.size w ((w.alloc o).alloc o') := ((Below.refl _ _).alloc (Nat.le_refl _) _).alloc (by simp) _
theorem below3 (w : World) (a b c : Obj) : Below w.heap.size w (((w.alloc a).alloc b).alloc c) := (((Below.refl _ _).alloc (Nat.le_refl _) _).alloc (by simp) _).alloc (by simp; omega) _

end Go.Proofs.YtgjihejneadadaaDoor.DayOf
