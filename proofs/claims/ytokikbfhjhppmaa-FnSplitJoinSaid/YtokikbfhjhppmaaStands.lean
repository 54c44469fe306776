/-
  Whether a byte stands in a text, and what the model's l1Stands returns.
-/
import Derived.Test.YtokikbfhjhppmaaRows
import Derived.Test.YtokikbfhjhppmaaPlain
import Derived.WalkKit
import Derived.ProofKit
import Derived.Lib.Hide
namespace Go.Proofs.Ytokikbfhjhppmaa.Seal
open Go.RowKit Go.Proofs.Ytokikbfhjhppmaa.Plain

theorem size_len (s : ByteArray) : s.size = s.data.toList.length := (Array.length_toList (xs := s.data)).symm

/-- The byte b stands in the text s. -/
def In (b : UInt8) (s : ByteArray) : Prop := ∃ k, ∃ h : k < s.size, s[k] = b

theorem in_iff (s : ByteArray) (b : UInt8) : In b s ↔ b ∈ s.data.toList := by
  constructor
  · rintro ⟨k, hk, rfl⟩
    exact List.getElem_mem (by rw [← size_len]; exact hk)
  · intro h
    obtain ⟨k, hk, e⟩ := List.getElem_of_mem h
    exact ⟨k, by rw [size_len]; exact hk, by rw [← e]; rfl⟩

def standsAns (b : UInt8) (s : ByteArray) (w : World) (e : Ending) (w' : World) : Prop :=
  w = w' ∧ ((In b s ∧ e = .returned (.bool true)) ∨ (¬ In b s ∧ e = .returned (.bool false)))

set_option maxHeartbeats 400000 in
theorem stands (s : ByteArray) (b : UInt8) (c : Int) (hcb : c = (b.toNat : Int)) (w : World) (hs : s.size ≤ maxLen) :
    Calls Try.prog 35 #[.string s, .int .u8 c] w (standsAns b s w) := by
  unfold maxLen at hs
  have HB := Lib.hid hcb
  clear hcb
  go_enter Try.func35, Try.ntmps35
  go_wp2
  go_loop [5] (fun i => ∃ k : Nat, k ≤ s.size ∧ i = .int .i64 k ∧ Hid (∀ j, ∀ h : j < s.size, j < k → s[j] ≠ b)) (fun i => s.size - (intOf i).toNat)
  case atStart => exact ⟨0, Nat.zero_le _, rfl, Lib.hid (fun j h hj => by omega)⟩
  case round =>
    obtain ⟨k, hk, rfl, HN⟩ := hrel
    by_cases hlt : k < s.size
    · by_cases hx : s[k] = b
      · have hq : ((s[k].toNat : Int) == c) = true := by rw [HB.out, hx]; simp
        have HX := Lib.hid hx
        clear hx
        go_wp2
        go_ret
        exact ⟨rfl, .inl ⟨⟨k, hlt, HX.out⟩, rfl⟩⟩
      · have hq : ((s[k].toNat : Int) == c) = false := by
          rw [HB.out, beq_eq_false_iff_ne]; intro e; exact hx (UInt8.toNat_inj.1 (by omega))
        have HX := Lib.hid hx
        clear hx
        go_wp2
        go_round
        case rel => exact ⟨k + 1, by omega, by go_num, Lib.hid (fun j h hj => by
          by_cases e : j = k
          · subst e; exact HX.out
          · exact HN.out j h (by omega))⟩
        case measure => simp [intOf]; omega
    · go_wp2
      go_ret
      exact ⟨rfl, .inr ⟨fun ⟨j, hj, e⟩ => HN.out j hj (by omega) e, rfl⟩⟩

theorem standsYes (s : ByteArray) (b : UInt8) (c : Int) (hcb : c = (b.toNat : Int)) (h : In b s) (w : World) (hs : s.size ≤ maxLen) :
    Calls Try.prog 35 #[.string s, .int .u8 c] w fun e w' => e = .returned (.bool true) ∧ w = w' :=
  (stands s b c hcb w hs).mono fun e w' hh => by
    rcases hh with ⟨hw, ⟨_, rfl⟩ | ⟨hn, _⟩⟩
    · exact ⟨rfl, hw⟩
    · exact absurd h hn

theorem standsNo (s : ByteArray) (b : UInt8) (c : Int) (hcb : c = (b.toNat : Int)) (h : ¬ In b s) (w : World) (hs : s.size ≤ maxLen) :
    Calls Try.prog 35 #[.string s, .int .u8 c] w fun e w' => e = .returned (.bool false) ∧ w = w' :=
  (stands s b c hcb w hs).mono fun e w' hh => by
    rcases hh with ⟨hw, ⟨hn, _⟩ | ⟨_, rfl⟩⟩
    · exact absurd hn h
    · exact ⟨rfl, hw⟩

end Go.Proofs.Ytokikbfhjhppmaa.Seal
