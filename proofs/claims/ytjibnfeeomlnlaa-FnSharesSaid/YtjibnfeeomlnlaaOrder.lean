/-
  largestFirst of the program: the places in the order in which the left units are given.
-/
import Derived.Test.YtjibnfeeomlnlaaStable
import Derived.Maps.AppendAt
namespace Go.Proofs.Ytjibnfeeomlnlaa.Order
open Go.RowKit Go.Sort Go.Proofs.Ytjibnfeeomlnlaa.IRow Go.Proofs.Ytjibnfeeomlnlaa.ShareMath Go.Proofs.Ytjibnfeeomlnlaa.Stable

/-- The k-th of the places in the order of the values. -/
def ordOf (m : Nat) (rs : List Int) (k : Nat) : Nat := ((insertionSort (big (key (m := m) rs)) (Array.finRange (m + 1)) 0 (m + 1))[k]!).val

theorem isOrd (m : Nat) (rs : List Int) : Ord (m + 1) (fun i => rs[i]!) (ordOf m rs) := ord (n := m) (fun i => rs[i]!)

theorem below_putRow {α : Type} [Inhabited α] {f : α → Value} {B : Nat} {a w : World} (h : Below B a w) {blk : Nat} (hB : B ≤ blk) (off : Nat) (d : Array α) : Below B a (putRow f w blk off d) where
  os := h.os
  tape := h.tape
  output := h.output
  size := by rw [size_putRow]; exact h.size
  block := fun k hk => by
    rw [← h.block k hk]
    unfold putRow mapBlock
    rw [Array.getElem?_modify, if_neg (by omega)]

def idx (n : Nat) : List Int := (List.range n).map (fun k : Nat => Int.ofNat k)
theorem idx_length (n : Nat) : (idx n).length = n := by simp [idx]
theorem idx_get (n k : Nat) (h : k < (idx n).length) : (idx n)[k] = (k : Int) := by simp [idx]

theorem holds_idx {w : World} {m n blk B : Nat} (hm : n = m + 1) (hown : w.ownsRow B 3 1 (.slice (some ⟨blk, 0, none⟩) n n) n ((idx n).map (Value.int .i64))) : Holds enc w blk 0 (Array.finRange (m + 1)) := by
  intro j hj
  rw [Array.size_finRange] at hj
  rw [Nat.zero_add]
  refine ⟨?_, hown.frozenAt j⟩
  rw [hown.cellAt j (by omega), List.getElem?_eq_getElem (by rw [List.length_map, idx_length]; omega), List.getElem_map, idx_get]
  unfold enc
  rw [get_fin j hj]

set_option maxHeartbeats 1000000 in
theorem largestFirst {m : Nat} {w : World} {A : Option Addr} {n cap : Nat} {rs : List Int} (hn : n = rs.length) (hm : n = m + 1) (h20 : n ≤ 20) (hA : Is w w.heap.size A rs) :
    Calls Try.prog 14 #[.slice A n cap] w fun e w' =>
      e = .returned (.slice (some ⟨w.heap.size + 1, 0, none⟩) n n) ∧ Below w.heap.size w w' ∧ w.heap.size + 1 < w'.heap.size ∧
      ∀ k, k < n → w'.cell? ⟨w.heap.size + 1, k, none⟩ = some (.int .i64 (ordOf m rs k)) := by
  have HN := Lib.hid hn
  have HM := Lib.hid hm
  have h0 : 0 < n := by omega
  clear hn hm
  obtain ⟨i0, hi, hz0, hz1, hz2⟩ := info_parts infoInt
  have HZ := Lib.hid hz2
  clear hz2
  go_enter Try.func14, Try.ntmps14
  go_wp2_with (at_make; refine wpList_make_full _ rfl _ _ 24 rfl w.heap.size 3 i0 (.int .i64 0) 1 Try.underlying24 hi hz0 hz1 .i64 .i64 _ _ n rfl rfl rfl rfl (by rw [HZ.out]; omega) (by unfold maxLen; omega) (by simp) ?_; intro w1 hown1 hgrow1; refine Hid.out ?_)
  refine Lib.hid ?_
  have hsz : (w.alloc (Obj.cells #[Value.slice A n cap] 24)).heap.size = w.heap.size + 1 := by simp
  have hb0 : Below w.heap.size w (w.alloc (Obj.cells #[Value.slice A n cap] 24)) := (Below.refl _ _).alloc (Nat.le_refl _) _
  have hb1 : Below (w.heap.size + 1) (w.alloc (Obj.cells #[Value.slice A n cap] 24)) w1 := (Below.refl _ _).grown hgrow1 (by rw [hsz]; exact Nat.le_refl _) (fun k hk => by cases hk)
  have hbx : w1.cell? ⟨w.heap.size, 0, none⟩ = some (.slice A n cap) := by
    rw [hb1.cell (show w.heap.size < w.heap.size + 1 by omega)]
    exact cell_one_new w (.slice A n cap) 24 0 _ rfl
  have hbw : Below w.heap.size w w1 := hb0.trans (hb1.mono (by omega))
  have hs1 : w.heap.size + 1 ≤ w1.heap.size := by have := hb1.size; omega
  have hown : w1.ownsRow w.heap.size 3 1 (.slice (some ⟨w.heap.size + 1, 0, none⟩) n n) n (upTo (idx n) n 0) := by
    rw [made, hsz] at hown1
    simpa [upTo] using hown1
  clear hown1 hgrow1 hb0 hb1 hsz
  have HBX := Lib.hid hbx
  have HBW := Lib.hid hbw
  have HS1 := Lib.hid hs1
  clear hbx hbw hs1
  go_wp2_with fail
  go_loopw [10] (fun i wr => ∃ k : Nat, k ≤ n ∧ i = .int .i64 k ∧ wr.ownsRow w.heap.size 3 1 (.slice (some ⟨w.heap.size + 1, 0, none⟩) n n) n (upTo (idx n) n k) ∧ RowKit.Below (w.heap.size + 1) w1 wr) (fun i _ => n - (intOf i).toNat)
  case atStart => exact ⟨0, Nat.zero_le _, rfl, hown, RowKit.Below.refl _ _⟩
  case round =>
    obtain ⟨k, hk, rfl, hown, hb⟩ := hrel
    by_cases hlt : k < n
    · have hk' : k < (idx n).length := by rw [idx_length]; exact hlt
      have hfz : wr.frozen? ⟨w.heap.size + 1, k, none⟩ = false := hown.frozenAt k
      obtain ⟨old, hold⟩ : ∃ old, wr.cell? ⟨w.heap.size + 1, k, none⟩ = some old := by
        rw [hown.cellAt k (by omega)]
        exact ⟨_, List.getElem?_eq_getElem (by rw [hown.1]; omega)⟩
      have R : ∀ w3, wr.setCell ⟨w.heap.size + 1, k, none⟩ (.int .i64 k) = w3 → w3.ownsRow w.heap.size 3 1 (.slice (some ⟨w.heap.size + 1, 0, none⟩) n n) n (upTo (idx n) n (k + 1)) ∧ RowKit.Below (w.heap.size + 1) w1 w3 := by
        rintro _ rfl
        refine ⟨?_, hb.setCell (Nat.le_refl _) _⟩
        have h1 := (hown.stored k (.int .i64 k)).1
        have h2 := upTo_set (zs := idx n) (n := n) (k := k) (idx_length n).symm hlt
        rw [idx_get] at h2
        rw [h2] at h1
        exact h1
      have HR := Lib.hid R
      clear R hown
      go_wp2
      go_roundw
      case rel => exact ⟨k + 1, by omega, by go_num, HR.out _ rfl⟩
      case measure => simp [intOf]; omega
    · have HE : Hid (upTo (idx n) n k = (idx n).map (Value.int .i64)) := Lib.hid (by
        unfold upTo
        rw [List.take_of_length_le (by rw [idx_length]; omega), show n - k = 0 by omega]; simp)
      have HH : Hid (Holds enc wr (w.heap.size + 1) 0 (Array.finRange (m + 1))) := Lib.hid (by
        rw [HE.out] at hown; exact holds_idx HM.out hown)
      have HRd : Hid (Rd wr A n cap rs ⟨w.heap.size, 0, none⟩ (w.heap.size + 1)) := Lib.hid {
        box := (hb.cell (show w.heap.size < w.heap.size + 1 by omega)).trans HBX.out
        bne := by show w.heap.size ≠ w.heap.size + 1; omega
        blt := by have := hb.size; have := HS1.out; show w.heap.size < _; omega
        row := ((hA.below HBW.out).below (hb.mono (by omega))).more (by have := hb.size; have := HBW.out.size; omega)
        rne := fun ad e => by
          obtain ⟨ad', e', hB, -⟩ := hA (by rw [← HN.out]; exact h0)
          rw [e] at e'; cases e'
          omega }
      have HB := Lib.hid hb
      have HS := Lib.hid (sortStable HRd.out HN.out HM.out h20 n (Array.finRange (m + 1)) (by rw [Array.size_finRange]; exact HM.out.symm) HH.out)
      have HL : Hid (w.heap.size + 1 < wr.heap.size) := Lib.hid (by
        have := (HH.out 0 (by rw [Array.size_finRange]; omega)).1
        exact World.block_lt_of_cell? wr _ this)
      clear hown hb
      go_wp2_with (go_at_call 25; refine HS.out.mono ?_; rintro e w' ⟨rfl, q, rfl⟩)
      go_ret
      refine ⟨rfl, ?_, ?_, ?_⟩
      · exact below_drewN (below_putRow (HBW.out.trans (HB.out.mono (by omega))) (by omega) _ _) q
      · show _ < (putRow enc wr _ _ _).heap.size
        rw [size_putRow]; exact HL.out
      · intro k hk
        show (putRow enc wr _ _ _).cell? _ = _
        have e1 : (insertionSort (big (key rs)) (Array.finRange (m + 1)) 0 n).size = m + 1 := by
          unfold insertionSort; rw [ins_size _ _ _ _ _ rfl, Array.size_finRange]
        have := cell?_putRow enc wr (w.heap.size + 1) 0 _ (insertionSort (big (key rs)) (Array.finRange (m + 1)) 0 n) HH.out (by rw [e1, Array.size_finRange]) k (by rw [e1, ← HM.out]; exact hk)
        rw [Nat.zero_add] at this
        rw [this]
        unfold enc ordOf
        rw [HM.out]

end Go.Proofs.Ytjibnfeeomlnlaa.Order
