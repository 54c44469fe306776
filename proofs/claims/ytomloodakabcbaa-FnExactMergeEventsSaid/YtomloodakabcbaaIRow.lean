/-
  Slices of ints in memory, and what the laws' helpers toIntS and eqIntS do with them.
-/
import Derived.Test.YtomloodakabcbaaRows
import Derived.WalkKit
import Derived.ProofKit
import Derived.Lib.Hide
import Derived.WalkSmall
import Derived.Deep.QuietTactic
import Derived.BigQuiet
namespace Go.Proofs.Ytomloodakabcbaa.IRow
open Go.RowKit

theorem block_add (a : Addr) (n : Nat) : (a.add n).block = a.block := by unfold Addr.add; split <;> rfl

/-- The slice that begins at A holds the ints zs, below block B. -/
def Is (w : World) (B : Nat) (A : Option Addr) (zs : List Int) : Prop :=
  0 < zs.length → ∃ ad, A = some ad ∧ ad.block < B ∧ ∀ j, ∀ h : j < zs.length, w.cell? (ad.add j) = some (.int .i64 zs[j])

theorem Is.below {w w' : World} {B : Nat} {A : Option Addr} {zs : List Int} (h : Is w B A zs) (hb : Below B w w') : Is w' B A zs := fun hp => by
  obtain ⟨ad, e, hB, hc⟩ := h hp
  exact ⟨ad, e, hB, fun j hj => (hb.cell (by rw [block_add]; exact hB)).trans (hc j hj)⟩

theorem Is.more {w : World} {B B' : Nat} {A : Option Addr} {zs : List Int} (h : Is w B A zs) (hB : B ≤ B') : Is w B' A zs := fun hp => by
  obtain ⟨ad, e, hB', hc⟩ := h hp
  exact ⟨ad, e, by omega, hc⟩

theorem Is.of_own {w : World} {base n cap : Nat} {A : Option Addr} {zs : List Int} (h : w.ownsRow base 3 1 (.slice A n cap) n (zs.map (Value.int .i64))) (hn : n = zs.length) : Is w w.heap.size A zs := fun hp => by
  subst hn
  rcases h.2 with ⟨hv, h0⟩ | ⟨g, c, cur, hv, _, hh, _⟩
  · omega
  · injection hv with h1 h2 h3
    subst h1; subst h3
    refine ⟨_, rfl, (Array.getElem?_eq_some_iff.1 hh).1, fun j hj => ?_⟩
    have := h.cells (g := g) rfl j (.int .i64 zs[j]) (by simp [hj])
    exact this

theorem infoInt : (Try.prog.info? 3).map (fun i => (i.zero, i.size, i.bytes)) = some (some (.int .i64 0), 1, 8) := by kernel_rfl

/-- A row of n ints: the first k are told, the others are 0. -/
def upTo (zs : List Int) (n k : Nat) : List Value := (zs.take k).map (Value.int .i64) ++ List.replicate (n - k) (.int .i64 0)

theorem upTo_set {zs : List Int} {n k : Nat} (hn : n = zs.length) (hk : k < n) : (upTo zs n k).set k (.int .i64 (zs[k]'(by omega))) = upTo zs n (k + 1) := by
  subst hn
  unfold upTo
  have hl : ((zs.take k).map (Value.int .i64)).length = k := by simp; omega
  rw [List.set_append_right _ _ (by omega), hl, Nat.sub_self, List.take_succ_eq_append_getElem hk, List.map_append,
    show zs.length - k = (zs.length - (k + 1)) + 1 by omega, List.replicate_succ, List.set_cons_zero]
  simp

theorem made (n : Nat) : (madeCells (Value.int .i64 0).cells (n * 1)).toList = List.replicate n (.int .i64 0) := by
  rw [show (Value.int .i64 0).cells = #[.int .i64 0] from rfl, Nat.mul_one, toList_madeCells_one]

end Go.Proofs.Ytomloodakabcbaa.IRow
