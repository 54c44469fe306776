/-
  Slices of ints in memory, and what the laws' helpers toIntS and eqIntS do with them.
-/
import Derived.Test.YtomloodakabcbabGreatRows
import Derived.WalkKit
import Derived.ProofKit
import Derived.Lib.Hide
import Derived.WalkSmall
import Derived.Deep.QuietTactic
import Derived.BigQuiet
namespace Go.Proofs.YtomloodakabcbabGreat.IRow
open Go.RowKit

theorem block_add (a : Addr) (n : Nat) : (a.add n).block = a.block := by unfold Addr.add; split <;> rfl

/-- The slice that begins at A holds the ints zs, below block B. -/
def Is (w : World) (B : Nat) (A : Option Addr) (zs : List Int) : Prop :=
  0 < zs.length → ∃ ad, A = some ad ∧ ad.block < B ∧ ∀ j, ∀ h : j < zs.length, w.cell? (ad.add j) = some (.int .i64 zs[j])

theorem Is.below {w w' : World} {B : Nat} {A : Option Addr} {zs : List Int} (h : Is w B A zs) (hb : Below B w w') : Is w' B A zs := fun hp => by
  obtain ⟨ad, e, hB, hc⟩ := h hp
  exact ⟨ad, e, hB, fun j hj => (hb.cell (by rw [block_add]; exact hB)).trans (hc j hj)⟩

theorem Is.more {w : World} {B B' : Nat} {A : Option Addr} {zs : List Int} (h : Is w B A zs) (hB : B ≤ B') : Is w B' A zs := fun hp => by
  obtain ⟨ad, e, hB', hc⟩ := h hp
  exact ⟨ad, e, by omega, hc⟩

theorem Is.of_own {w : World} {base n cap : Nat} {A : Option Addr} {zs : List Int} (h : w.ownsRow base 3 1 (.slice A n cap) n (zs.map (Value.int .i64))) (hn : n = zs.length) : Is w w.heap.size A zs := fun hp => by
  subst hn
  rcases h.2 with ⟨hv, h0⟩ | ⟨g, c, cur, hv, _, hh, _⟩
  · omega
  · injection hv with h1 h2 h3
    subst h1; subst h3
    refine ⟨_, rfl, (Array.getElem?_eq_some_iff.1 hh).1, fun j hj => ?_⟩
    have := h.cells (g := g) rfl j (.int .i64 zs[j]) (by simp [hj])
    exact this

theorem infoInt : (Tryz.prog.info? 3).map (fun i => (i.zero, i.size, i.bytes)) = some (some (.int .i64 0), 1, 8) := by kernel_rfl

/-- A row of n ints: the first k are told, the others are 0. -/
def upTo (zs : List Int) (n k : Nat) : List Value := (zs.take k).map (Value.int .i64) ++ List.replicate (n - k) (.int .i64 0)

theorem upTo_set {zs : List Int} {n k : Nat} (hn : n = zs.length) (hk : k < n) : (upTo zs n k).set k (.int .i64 (zs[k]'(by omega))) = upTo zs n (k + 1) := by
  subst hn
  unfold upTo
  have hl : ((zs.take k).map (Value.int .i64)).length = k := by simp; omega
  rw [List.set_append_right _ _ (by omega), hl, Nat.sub_self, List.take_succ_eq_append_getElem hk, List.map_append,
    show zs.length - k = (zs.length - (k + 1)) + 1 by omega, List.replicate_succ, List.set_cons_zero]
  simp

theorem made (n : Nat) : (madeCells (Value.int .i64 0).cells (n * 1)).toList = List.replicate n (.int .i64 0) := by
  rw [show (Value.int .i64 0).cells = #[.int .i64 0] from rfl, Nat.mul_one, toList_madeCells_one]

set_option maxHeartbeats 1000000 in
theorem eqI (A1 A2 : Option Addr) (n c1 c2 B : Nat) (zs : List Int) (w : World) (hn : n = zs.length) (hm : n ≤ 3000000) (hA1 : Is w B A1 zs) (hA2 : Is w B A2 zs) :
    Calls Tryz.prog 8 #[.slice A1 n c1, .slice A2 n c2] w fun e w' => e = .returned (.bool true) ∧ ∃ m, w' = w.drewN m := by
  have HN := Lib.hid hn
  clear hn
  go_enter Tryz.func8, Tryz.ntmps8
  go_wp2_with fail
  go_loopw [5] (fun i wr => ∃ k m : Nat, k ≤ n ∧ i = .int .i64 k ∧ wr = w.drewN m) (fun i _ => n - (intOf i).toNat)
  case atStart => exact ⟨0, 0, Nat.zero_le _, rfl, rfl⟩
  case round =>
    obtain ⟨k, m, hk, rfl, rfl⟩ := hrel
    by_cases hlt : k < n
    · have hk' : k < zs.length := by have := HN.out; omega
      obtain ⟨ad, rfl, hB, hc⟩ := hA1 (by omega)
      obtain ⟨ae, rfl, hB2, hc2⟩ := hA2 (by omega)
      obtain ⟨p, hp⟩ : ∃ p, p = zs[k] := ⟨_, rfl⟩
      have hcell : w.cell? (ad.add k) = some (.int .i64 p) := by rw [hp]; exact hc k hk'
      have hcell2 : w.cell? (ae.add k) = some (.int .i64 p) := by rw [hp]; exact hc2 k hk'
      clear hp hc hc2
      have h0 : (0 : Int) ≤ (k : Int) := by omega
      have h1 : (k : Int) < (n : Int) := by omega
      go_wp2_with fail
      go_quiet (fail)
      go_wp2_with fail
      go_roundw
      case rel => exact ⟨k + 1, _, by omega, by go_num, rfl⟩
      case measure => simp [intOf]; omega
    · go_wp2_with fail
      go_ret
      exact ⟨rfl, _, rfl⟩

end Go.Proofs.YtomloodakabcbabGreat.IRow
