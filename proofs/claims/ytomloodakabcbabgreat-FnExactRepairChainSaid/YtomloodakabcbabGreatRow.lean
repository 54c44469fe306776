/-
  Slices of strings in memory, and what the laws' helpers szStringS, toStringS and eqStringS do with them.
-/
import Derived.Test.YtomloodakabcbabGreatRows
import Derived.Test.YtomloodakabcbabGreatPlain
import Derived.WalkKit
import Derived.ProofKit
import Derived.Lib.Hide
import Derived.WalkSmall
import Derived.Deep.QuietTactic
import Derived.BigQuiet
namespace Go.Proofs.YtomloodakabcbabGreat.Row
open Go.RowKit Go.Proofs.YtomloodakabcbabGreat.Plain

theorem block_add (a : Addr) (n : Nat) : (a.add n).block = a.block := by unfold Addr.add; split <;> rfl

/-- The slice that begins at A holds the strings ss, below block B. -/
def Is (w : World) (B : Nat) (A : Option Addr) (ss : List ByteArray) : Prop :=
  0 < ss.length → ∃ ad, A = some ad ∧ ad.block < B ∧ ∀ j, ∀ h : j < ss.length, w.cell? (ad.add j) = some (.string ss[j])

theorem Is.below {w w' : World} {B : Nat} {A : Option Addr} {ss : List ByteArray} (h : Is w B A ss) (hb : Below B w w') : Is w' B A ss := fun hp => by
  obtain ⟨ad, e, hB, hc⟩ := h hp
  exact ⟨ad, e, hB, fun j hj => (hb.cell (by rw [block_add]; exact hB)).trans (hc j hj)⟩

theorem Is.more {w : World} {B B' : Nat} {A : Option Addr} {ss : List ByteArray} (h : Is w B A ss) (hB : B ≤ B') : Is w B' A ss := fun hp => by
  obtain ⟨ad, e, hB', hc⟩ := h hp
  exact ⟨ad, e, by omega, hc⟩

theorem Is.of_own {w : World} {base n cap : Nat} {A : Option Addr} {ss : List ByteArray} (h : w.ownsRow base 9 1 (.slice A n cap) n (ss.map Value.string)) (hn : n = ss.length) : Is w w.heap.size A ss := fun hp => by
  subst hn
  rcases h.2 with ⟨hv, h0⟩ | ⟨g, c, cur, hv, _, hh, _⟩
  · omega
  · injection hv with h1 h2 h3
    subst h1; subst h3
    refine ⟨_, rfl, (Array.getElem?_eq_some_iff.1 hh).1, fun j hj => ?_⟩
    have := h.cells (g := g) rfl j (.string ss[j]) (by simp [hj])
    exact this

/-- The letters and elements of some strings. -/
def sizes (ss : List ByteArray) : Nat := (ss.map (·.size)).sum

theorem sizes_step {ss : List ByteArray} {k : Nat} (hk : k < ss.length) : sizes (ss.take (k + 1)) = sizes (ss.take k) + ss[k].size := by
  unfold sizes
  rw [List.take_succ_eq_append_getElem hk]
  simp only [List.map_append, List.sum_append, List.map_cons, List.map_nil, List.sum_cons, List.sum_nil, Nat.add_zero]

theorem sizes_take_le (ss : List ByteArray) (k : Nat) : sizes (ss.take k) ≤ sizes ss := by
  have e : ss = ss.take k ++ ss.drop k := (List.take_append_drop k ss).symm
  have h : sizes ss = sizes (ss.take k) + sizes (ss.drop k) := by
    conv => lhs; rw [e]
    unfold sizes; simp only [List.map_append, List.sum_append]
  omega

def szAns (ss : List ByteArray) (w : World) (e : Ending) (w' : World) : Prop :=
  w = w' ∧ ((sizes ss + ss.length ≤ 1048576 ∧ e = .returned (.int .i64 (1048576 - (sizes ss + ss.length : Nat)))) ∨ (1048576 < sizes ss + ss.length ∧ e = .returned (.int .i64 (-1))))

set_option maxHeartbeats 1000000 in
theorem sz (A : Option Addr) (n cap : Nat) (ss : List ByteArray) (w : World) (B : Nat) (hn : n = ss.length) (hm : n ≤ maxLen) (hA : Is w B A ss) (hs : ∀ p ∈ ss, p.size ≤ maxLen) :
    Calls Tryz.prog 13 #[.slice A n cap, .int .i64 1048576] w (szAns ss w) := by
  unfold maxLen at hm
  have HN := Lib.hid hn
  by_cases hbig : 1048576 < n
  · go_enter Tryz.func13, Tryz.ntmps13
    clear hn
    go_wp2
    go_ret
    exact ⟨rfl, .inr ⟨by have := HN.out; omega, rfl⟩⟩
  · clear hn
    go_enter Tryz.func13, Tryz.ntmps13
    go_wp2
    go_loop [1, 5] (fun l i => ∃ (k t : Nat), k ≤ n ∧ i = .int .i64 k ∧ l = .int .i64 (t : Int) ∧ Hid (t + n + sizes (ss.take k) = 1048576)) (fun _ i => n - (intOf i).toNat)
    case atStart => exact ⟨0, 1048576 - n, Nat.zero_le _, rfl, by congr 1; omega, Lib.hid (by simp [sizes]; omega)⟩
    case round =>
      obtain ⟨k, t, hk, rfl, rfl, HT⟩ := hrel
      by_cases hlt : k < n
      · have hk' : k < ss.length := by have := HN.out; omega
        obtain ⟨ad, rfl, hB, hc⟩ := hA (by omega)
        obtain ⟨p, hp⟩ : ∃ p, p = ss[k] := ⟨_, rfl⟩
        have hcell : w.cell? (ad.add k) = some (.string p) := by rw [hp]; exact hc k hk'
        have hps : p.size ≤ 9223372036854775807 := by have := hs p (by rw [hp]; exact List.getElem_mem hk'); unfold maxLen at this; omega
        have HS : Hid (sizes (ss.take (k + 1)) = sizes (ss.take k) + p.size) := Lib.hid (by rw [hp]; exact sizes_step hk')
        have HLE := Lib.hid (sizes_take_le ss (k + 1))
        have htl : t ≤ 1048576 := by have := HT.out; omega
        clear hp hc
        by_cases hneg : t < p.size
        · go_wp2
          go_ret
          exact ⟨rfl, .inr ⟨by have := HT.out; have := HS.out; have := HLE.out; have := HN.out; omega, rfl⟩⟩
        · go_wp2
          go_round
          case rel => exact ⟨k + 1, t - p.size, by omega, by go_num, by congr 1; omega, Lib.hid (by have := HT.out; have := HS.out; omega)⟩
          case measure => simp [intOf]; omega
      · have HE : Hid (ss.take k = ss) := Lib.hid (List.take_of_length_le (by have := HN.out; omega))
        go_wp2
        go_ret
        refine ⟨rfl, .inl ⟨?_, ?_⟩⟩
        · have h1 := HT.out; rw [HE.out] at h1; have := HN.out; omega
        · have h1 := HT.out; rw [HE.out] at h1; have := HN.out
          show Ending.returned (.int .i64 (t : Int)) = _
          congr 2; omega

theorem infoStr : (Tryz.prog.info? 9).map (fun i => (i.zero, i.size, i.bytes)) = some (some (.string ByteArray.empty), 1, 16) := by kernel_rfl

/-- A row of n strings: the first k are told, the others are empty. -/
def upTo (ss : List ByteArray) (n k : Nat) : List Value := (ss.take k).map Value.string ++ List.replicate (n - k) (.string ByteArray.empty)

theorem upTo_set {ss : List ByteArray} {n k : Nat} (hn : n = ss.length) (hk : k < n) : (upTo ss n k).set k (.string (ss[k]'(by omega))) = upTo ss n (k + 1) := by
  subst hn
  unfold upTo
  have hl : ((ss.take k).map Value.string).length = k := by simp; omega
  rw [List.set_append_right _ _ (by omega), hl, Nat.sub_self, List.take_succ_eq_append_getElem hk, List.map_append,
    show ss.length - k = (ss.length - (k + 1)) + 1 by omega, List.replicate_succ, List.set_cons_zero]
  simp

end Go.Proofs.YtomloodakabcbabGreat.Row
