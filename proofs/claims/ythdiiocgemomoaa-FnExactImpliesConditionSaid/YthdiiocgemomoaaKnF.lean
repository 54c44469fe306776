/-
  The closure of findCase.
-/
import Derived.Test.YthdiiocgemomoaaHoldF
import Derived.IntWalk
namespace Go.Proofs.Ythdiiocgemomoaa.Cond
open Go.RowKit
set_option linter.unusedVariables false

theorem bit_and (a : Nat) (ha : a < 4294967296) : bits .and .i64 (a : Int) 1 = ((a % 2 : Nat) : Int) := by
  have h1 : (BitVec.ofInt 64 (a : Int)).toNat = a := by
    rw [BitVec.ofInt_natCast, BitVec.toNat_ofNat]; exact Nat.mod_eq_of_lt (by omega)
  show IntKind.i64.wrap ((BitVec.ofInt 64 (a : Int) &&& BitVec.ofInt 64 1).toNat : Int) = _
  have h2 : (BitVec.ofInt 64 1).toNat = 1 := by decide
  rw [BitVec.toNat_and, h1, h2, Nat.and_one_is_mod]
  exact IntWalk.i64_in _ ⟨by omega, by omega⟩
theorem bit_test (m i : Nat) (hm : m < 4294967296) : (bits .and .i64 ((m : Int) / 2 ^ i) 1 == 1) = m.testBit i := by
  have e : (m : Int) / 2 ^ i = ((m / 2 ^ i : Nat) : Int) := by
    rw [Int.natCast_ediv, Int.natCast_pow]; rfl
  have hl : m / 2 ^ i ≤ m := Nat.div_le_self _ _
  rw [e, bit_and _ (by omega), Nat.testBit_eq_decide_div_mod_eq, Bool.eq_iff_iff, beq_iff_eq, decide_eq_true_eq]
  omega

set_option maxHeartbeats 1000000 in
theorem knowsF (g c n p0 p1 i m : Nat) (x : ByteArray) (v : World) (hi : i ≤ 20) (hm : m ≤ 4096) (h0 : v.cell? ⟨p0, 0, none⟩ = some (.slice (some ⟨g, 0, none⟩) n c)) (h1 : v.cell? ⟨p1, 0, none⟩ = some (.int .i64 (m : Int)))
    (HB : Calls Try.prog 45 #[.slice (some ⟨g, 0, none⟩) n c, .string x] v fun e w' => (∃ y, e = .returned (.tuple #[.int .i64 (i : Int), .bool y])) ∧ ∃ q, w' = v.drewN q) :
    Calls Try.prog 44 #[.string x, .pointer (some ⟨p0, 0, none⟩), .pointer (some ⟨p1, 0, none⟩)] v fun e w' => e = .returned (.bool (m.testBit i)) ∧ Below v.heap.size v w' := by
  have HH := Lib.hid HB
  clear HB
  go_enter Try.func44, Try.ntmps44
  go_wp2_with (go_at_call 45; refine HH.out.mono ?_; rintro e w' ⟨⟨y, rfl⟩, q, rfl⟩)
  go_ret
  exact ⟨by rw [← bit_test m i (by omega)]; rfl, below_drewN (Below.refl _ _) q⟩

end Go.Proofs.Ythdiiocgemomoaa.Cond
