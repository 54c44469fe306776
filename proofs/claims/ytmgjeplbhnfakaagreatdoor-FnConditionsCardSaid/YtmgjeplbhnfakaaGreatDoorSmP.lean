/-
  l5Simple of the model.
-/
import Derived.Test.YtmgjeplbhnfakaaGreatDoorSmS
import Derived.Deep.RegionHeld3
namespace Go.Proofs.YtmgjeplbhnfakaaGreatDoor.Cond
open Go.RowKit
set_option linter.unusedVariables false
set_option linter.unusedSimpArgs false

theorem res_b4 {w : World} {S kb : Nat} {q : Q} {v : World} {r : K} {x0 x1 x2 x3 : Value} (hb : Below w.heap.size w v) (hr : r.cond = q.c) (hw : Wr v r) (hs : ∀ x ∈ r.blocks, S ≤ x) (hk : kb ∉ r.blocks) (hkb : w.heap.size ≤ kb) : Res S q w (.returned r.val) (put4 v kb 0 x0 x1 x2 x3) :=
  ⟨r, rfl, hr, put_wr hw hk, hs, put4_below hb hkb⟩

theorem Two' {w : World} {B : Nat} {op : Int} {nm : ByteArray} {day : Int} {A : Option Addr} {cap : Nat} {p q : K} (h : Lies w B (.mk op nm day A cap [p, q])) : ∃ b o, A = some ⟨b, o, none⟩ ∧ b < B ∧ El w b o p ∧ El w b (o + 4) q := by
  obtain ⟨b, o, rfl, hb, he⟩ := h.at (by simp)
  exact ⟨b, o, rfl, hb, by simpa using he 0 (by simp), by simpa using he 1 (by simp)⟩

theorem mk_op (op : Int) (nm : ByteArray) (day : Int) (A : Option Addr) (cap : Nat) (ps : List K) : (K.mk op nm day A cap ps).op = op := rfl
theorem mk_nm (op : Int) (nm : ByteArray) (day : Int) (A : Option Addr) (cap : Nat) (ps : List K) : (K.mk op nm day A cap ps).nm = nm := rfl
theorem mk_day (op : Int) (nm : ByteArray) (day : Int) (A : Option Addr) (cap : Nat) (ps : List K) : (K.mk op nm day A cap ps).day = day := rfl
theorem mk_A (op : Int) (nm : ByteArray) (day : Int) (A : Option Addr) (cap : Nat) (ps : List K) : (K.mk op nm day A cap ps).A = A := rfl
theorem mk_cap (op : Int) (nm : ByteArray) (day : Int) (A : Option Addr) (cap : Nat) (ps : List K) : (K.mk op nm day A cap ps).cap = cap := rfl
theorem mk_ps (op : Int) (nm : ByteArray) (day : Int) (A : Option Addr) (cap : Nat) (ps : List K) : (K.mk op nm day A cap ps).ps = ps := rfl
theorem mk_val (op : Int) (nm : ByteArray) (day : Int) (A : Option Addr) (cap : Nat) (ps : List K) : (K.mk op nm day A cap ps).val = .agg #[.int .i64 op, .string nm, .int .i64 day, .slice A ps.length cap] := rfl

/-- The parts of a condition that may be written may be written. -/
theorem Wr.part {w : World} {op : Int} {nm : ByteArray} {day : Int} {A : Option Addr} {cap : Nat} {p : K} (h : Wr w (.mk op nm day A cap [p])) : Wr w p := by
  have hnd := h.nd
  have hp : p ∈ [p] := by simp
  refine ⟨h.has.part hp, fun x hx => h.lt x (part_blocks hp hx), ?_, fun x hx => h.fz x (part_blocks hp hx)⟩
  simp only [K.blocks, blocks, List.append_nil] at hnd
  exact (List.nodup_append.1 hnd).2.1

end Go.Proofs.YtmgjeplbhnfakaaGreatDoor.Cond
