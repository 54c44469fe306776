/-
  Slices of strings in memory, and what the laws' helpers szStringS, toStringS and eqStringS do with them.
-/
import Derived.Test.YtomloodakabcbaaRows
import Derived.Test.YtomloodakabcbaaPlain
import Derived.WalkKit
import Derived.ProofKit
import Derived.Lib.Hide
import Derived.WalkSmall
import Derived.Deep.QuietTactic
import Derived.BigQuiet
namespace Go.Proofs.Ytomloodakabcbaa.Row
open Go.RowKit Go.Proofs.Ytomloodakabcbaa.Plain

theorem block_add (a : Addr) (n : Nat) : (a.add n).block = a.block := by unfold Addr.add; split <;> rfl

/-- The slice that begins at A holds the strings ss, below block B. -/
def Is (w : World) (B : Nat) (A : Option Addr) (ss : List ByteArray) : Prop :=
  0 < ss.length → ∃ ad, A = some ad ∧ ad.block < B ∧ ∀ j, ∀ h : j < ss.length, w.cell? (ad.add j) = some (.string ss[j])

theorem Is.below {w w' : World} {B : Nat} {A : Option Addr} {ss : List ByteArray} (h : Is w B A ss) (hb : Below B w w') : Is w' B A ss := fun hp => by
  obtain ⟨ad, e, hB, hc⟩ := h hp
  exact ⟨ad, e, hB, fun j hj => (hb.cell (by rw [block_add]; exact hB)).trans (hc j hj)⟩

theorem Is.more {w : World} {B B' : Nat} {A : Option Addr} {ss : List ByteArray} (h : Is w B A ss) (hB : B ≤ B') : Is w B' A ss := fun hp => by
  obtain ⟨ad, e, hB', hc⟩ := h hp
  exact ⟨ad, e, by omega, hc⟩

theorem Is.of_own {w : World} {base n cap : Nat} {A : Option Addr} {ss : List ByteArray} (h : w.ownsRow base 9 1 (.slice A n cap) n (ss.map Value.string)) (hn : n = ss.length) : Is w w.heap.size A ss := fun hp => by
  subst hn
  rcases h.2 with ⟨hv, h0⟩ | ⟨g, c, cur, hv, _, hh, _⟩
  · omega
  · injection hv with h1 h2 h3
    subst h1; subst h3
    refine ⟨_, rfl, (Array.getElem?_eq_some_iff.1 hh).1, fun j hj => ?_⟩
    have := h.cells (g := g) rfl j (.string ss[j]) (by simp [hj])
    exact this

/-- The letters and elements of some strings. -/
def sizes (ss : List ByteArray) : Nat := (ss.map (·.size)).sum

theorem sizes_step {ss : List ByteArray} {k : Nat} (hk : k < ss.length) : sizes (ss.take (k + 1)) = sizes (ss.take k) + ss[k].size := by
  unfold sizes
  rw [List.take_succ_eq_append_getElem hk]
  simp only [List.map_append, List.sum_append, List.map_cons, List.map_nil, List.sum_cons, List.sum_nil, Nat.add_zero]

theorem sizes_take_le (ss : List ByteArray) (k : Nat) : sizes (ss.take k) ≤ sizes ss := by
  have e : ss = ss.take k ++ ss.drop k := (List.take_append_drop k ss).symm
  have h : sizes ss = sizes (ss.take k) + sizes (ss.drop k) := by
    conv => lhs; rw [e]
    unfold sizes; simp only [List.map_append, List.sum_append]
  omega

def szAns (ss : List ByteArray) (w : World) (e : Ending) (w' : World) : Prop :=
  w = w' ∧ ((sizes ss + ss.length ≤ 1048576 ∧ e = .returned (.int .i64 (1048576 - (sizes ss + ss.length : Nat)))) ∨ (1048576 < sizes ss + ss.length ∧ e = .returned (.int .i64 (-1))))

theorem infoStr : (Try.prog.info? 9).map (fun i => (i.zero, i.size, i.bytes)) = some (some (.string ByteArray.empty), 1, 16) := by kernel_rfl

/-- A row of n strings: the first k are told, the others are empty. -/
def upTo (ss : List ByteArray) (n k : Nat) : List Value := (ss.take k).map Value.string ++ List.replicate (n - k) (.string ByteArray.empty)

theorem upTo_set {ss : List ByteArray} {n k : Nat} (hn : n = ss.length) (hk : k < n) : (upTo ss n k).set k (.string (ss[k]'(by omega))) = upTo ss n (k + 1) := by
  subst hn
  unfold upTo
  have hl : ((ss.take k).map Value.string).length = k := by simp; omega
  rw [List.set_append_right _ _ (by omega), hl, Nat.sub_self, List.take_succ_eq_append_getElem hk, List.map_append,
    show ss.length - k = (ss.length - (k + 1)) + 1 by omega, List.replicate_succ, List.set_cons_zero]
  simp

end Go.Proofs.Ytomloodakabcbaa.Row
