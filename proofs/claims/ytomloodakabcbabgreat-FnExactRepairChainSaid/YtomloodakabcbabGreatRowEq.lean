/-
  What the laws' helper eqStringS returns of two slices that hold the same strings: true.
-/
import Derived.Test.YtomloodakabcbabGreatRow
namespace Go.Proofs.YtomloodakabcbabGreat.Row
open Go.RowKit Go.Proofs.YtomloodakabcbabGreat.Plain

set_option maxHeartbeats 1000000 in
theorem eqS (A1 A2 : Option Addr) (n c1 c2 B : Nat) (ss : List ByteArray) (w : World) (hn : n = ss.length) (hm : n ≤ 3000000) (hA1 : Is w B A1 ss) (hA2 : Is w B A2 ss) :
    Calls Tryz.prog 24 #[.slice A1 n c1, .slice A2 n c2] w fun e w' => e = .returned (.bool true) ∧ ∃ m, w' = w.drewN m := by
  have HN := Lib.hid hn
  clear hn
  go_enter Tryz.func24, Tryz.ntmps24
  go_wp2_with fail
  go_loopw [5] (fun i wr => ∃ k m : Nat, k ≤ n ∧ i = .int .i64 k ∧ wr = w.drewN m) (fun i _ => n - (intOf i).toNat)
  case atStart => exact ⟨0, 0, Nat.zero_le _, rfl, rfl⟩
  case round =>
    obtain ⟨k, m, hk, rfl, rfl⟩ := hrel
    by_cases hlt : k < n
    · have hk' : k < ss.length := by have := HN.out; omega
      obtain ⟨ad, rfl, hB, hc⟩ := hA1 (by omega)
      obtain ⟨ae, rfl, hB2, hc2⟩ := hA2 (by omega)
      obtain ⟨p, hp⟩ : ∃ p, p = ss[k] := ⟨_, rfl⟩
      have hcell : w.cell? (ad.add k) = some (.string p) := by rw [hp]; exact hc k hk'
      have hcell2 : w.cell? (ae.add k) = some (.string p) := by rw [hp]; exact hc2 k hk'
      clear hp hc hc2
      have h0 : (0 : Int) ≤ (k : Int) := by omega
      have h1 : (k : Int) < (n : Int) := by omega
      go_wp2_with fail
      go_quiet (fail)
      go_wp2_with fail
      go_roundw
      case rel => exact ⟨k + 1, _, by omega, by go_num, rfl⟩
      case measure => simp [intOf]; omega
    · go_wp2_with fail
      go_ret
      exact ⟨rfl, _, rfl⟩

end Go.Proofs.YtomloodakabcbabGreat.Row
