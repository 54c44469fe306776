/-
  What the laws' helper toStringS returns: a copy of the strings in new memory.
-/
import Derived.Test.YtomloodakabcbabGreatRow
namespace Go.Proofs.YtomloodakabcbabGreat.Row
open Go.RowKit Go.Proofs.YtomloodakabcbabGreat.Plain

theorem made (n : Nat) : (madeCells (Value.string ByteArray.empty).cells (n * 1)).toList = List.replicate n (.string ByteArray.empty) := by
  rw [show (Value.string ByteArray.empty).cells = #[.string ByteArray.empty] from rfl, Nat.mul_one, toList_madeCells_one]

set_option maxHeartbeats 1000000 in
theorem toS (A : Option Addr) (n cap : Nat) (ss : List ByteArray) (w : World) (hn : n = ss.length) (hm : n ≤ 1048576) (hA : Is w w.heap.size A ss) :
    Calls Tryz.prog 18 #[.slice A n cap] w fun e w' =>
      e = .returned (.slice (some ⟨w.heap.size, 0, none⟩) n n) ∧ w'.ownsRow w.heap.size 9 1 (.slice (some ⟨w.heap.size, 0, none⟩) n n) n (ss.map Value.string) ∧ Below w.heap.size w w' := by
  have HN := Lib.hid hn
  clear hn
  obtain ⟨i0, hi, hz0, hz1, hz2⟩ := info_parts infoStr
  have HZ := Lib.hid hz2
  clear hz2
  go_enter Tryz.func18, Tryz.ntmps18
  go_wp2_with (at_make; refine wpList_make_full _ rfl _ _ 22 rfl w.heap.size 9 i0 (.string ByteArray.empty) 1 Tryz.underlying22 hi hz0 hz1 .i64 .i64 _ _ n rfl rfl rfl rfl (by rw [HZ.out]; omega) (by unfold maxLen; omega) (Nat.le_refl _) ?_; intro w1 hown1 hgrow1; refine Hid.out ?_)
  refine Lib.hid ?_
  have hb1 : Below w.heap.size w w1 := (Below.refl _ _).grown hgrow1 (Nat.le_refl _) (fun k hk => by cases hk)
  have hown : w1.ownsRow w.heap.size 9 1 (.slice (some ⟨w.heap.size, 0, none⟩) n n) n (upTo ss n 0) := by
    rw [made] at hown1
    simpa [upTo] using hown1
  clear hown1 hgrow1
  go_wp2_with fail
  go_loopw [4] (fun i wr => ∃ k : Nat, k ≤ n ∧ i = .int .i64 k ∧ wr.ownsRow w.heap.size 9 1 (.slice (some ⟨w.heap.size, 0, none⟩) n n) n (upTo ss n k) ∧ Below w.heap.size w wr) (fun i _ => n - (intOf i).toNat)
  case atStart => exact ⟨0, Nat.zero_le _, rfl, hown, hb1⟩
  case round =>
    obtain ⟨k, hk, rfl, hown, hb⟩ := hrel
    by_cases hlt : k < n
    · have hk' : k < ss.length := by have := HN.out; omega
      obtain ⟨ad, rfl, hB, hc⟩ := hA (by omega)
      obtain ⟨p, hp⟩ : ∃ p, p = ss[k] := ⟨_, rfl⟩
      have hcell : wr.cell? (ad.add k) = some (.string p) := by rw [hp]; exact (hb.cell (by rw [block_add]; exact hB)).trans (hc k hk')
      have hfz : wr.frozen? ⟨w.heap.size, k, none⟩ = false := hown.frozenAt k
      obtain ⟨old, hold⟩ : ∃ old, wr.cell? ⟨w.heap.size, k, none⟩ = some old := by
        rw [hown.cellAt k (by omega)]
        exact ⟨_, List.getElem?_eq_getElem (by rw [hown.1]; omega)⟩
      have R : ∀ w3, wr.setCell ⟨w.heap.size, k, none⟩ (.string p) = w3 → w3.ownsRow w.heap.size 9 1 (.slice (some ⟨w.heap.size, 0, none⟩) n n) n (upTo ss n (k + 1)) ∧ Below w.heap.size w w3 := by
        rintro _ rfl
        refine ⟨?_, hb.setCell (Nat.le_refl _) _⟩
        have h1 := (hown.stored k (.string p)).1
        rw [hp, upTo_set HN.out hlt] at h1
        rw [hp]; exact h1
      have HR := Lib.hid R
      clear R hown hp hc
      go_wp2
      go_roundw
      case rel => exact ⟨k + 1, by omega, by go_num, HR.out _ rfl⟩
      case measure => simp [intOf]; omega
    · have HE : Hid (upTo ss n k = ss.map Value.string) := Lib.hid (by
        have h1 := HN.out
        unfold upTo
        rw [List.take_of_length_le (by omega), show n - k = 0 by omega]; simp)
      go_wp2
      go_ret
      exact ⟨rfl, by rw [← HE.out]; exact hown, hb⟩

end Go.Proofs.YtomloodakabcbabGreat.Row
