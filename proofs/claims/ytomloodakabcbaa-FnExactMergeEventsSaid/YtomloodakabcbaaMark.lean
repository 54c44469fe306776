/-
  The marks that the laws write into a result: what markText returns.
-/
import Derived.Test.YtomloodakabcbaaRows
import Derived.Test.YtomloodakabcbaaPlain
import Derived.WalkKit
import Derived.ProofKit
import Derived.Lib.Hide
import Derived.WalkSmall
import Derived.Laws.IdiomStrings
import Derived.Maps.AppendAt
import Derived.OwnWalk
namespace Go.Proofs.Ytomloodakabcbaa.Mark
open Go.RowKit Go.Proofs.Ytomloodakabcbaa.Plain
set_option linter.unusedVariables false

/-- The digits of a number; none of 0. -/
def digs (k : Nat) : List UInt8 := if h : k = 0 then [] else digs (k / 10) ++ [UInt8.ofNat (48 + k % 10)]
termination_by k
decreasing_by omega

theorem digs_step {k : Nat} (h : 1 ≤ k) : digs k = digs (k / 10) ++ [UInt8.ofNat (48 + k % 10)] := by
  rw [digs.eq_def k, dif_neg (by omega)]

theorem digs_zero : digs 0 = [] := by rw [digs.eq_def, dif_pos rfl]

def mt (k : Nat) : ByteArray := ⟨((109 : UInt8) :: digs k).toArray⟩

theorem one_text (w : World) (x : Int) (u : UInt8) (h : x = (u.toNat : Int)) :
    (convert 61 9 (.slice (some ⟨w.heap.size, 0, none⟩) 1 1)).run Try.prog (w.alloc (.cells #[.int .u8 x] 5)) = .ok (.string ⟨#[u]⟩) (w.alloc (.cells #[.int .u8 x] 5)) := by
  have h1 := run_convert_bytes_back (P := Try.prog) (w.alloc (.cells #[.int .u8 x] 5)) 61 9 5 ⟨w.heap.size, 0, none⟩ 1 [u] Try.underlying61 Try.underlying5 Try.underlying9 (fun j hj => by
    have hj' : j = 0 := by simpa using hj
    subst hj'
    have := cell_one_new w (.int .u8 x) 5 0 (.int .u8 x) rfl
    rw [this, h]; rfl)
  exact h1

set_option maxRecDepth 100000 in
set_option maxHeartbeats 1000000 in
theorem markText (k : Nat) (h0 : 1 ≤ k) (hk : k ≤ 100000000) (w : World) :
    Calls Try.prog 23 #[.int .i64 (k : Int)] w fun e w' => e = .returned (.string (mt k)) ∧ Below w.heap.size w w' := by
  have H0 : ¬ ((k : Int) ≤ 0) := by omega
  go_enter Try.func23, Try.ntmps23
  go_wp2_with fail
  go_loopw [0, 3] (fun k' out wr => ∃ (j : Nat) (o : ByteArray), k' = .int .i64 j ∧ out = .string o ∧ o.size + j ≤ 100000000 ∧ Hid (digs j ++ o.data.toList = digs k) ∧ Below w.heap.size w wr) (fun k' _ _ => (intOf k').toNat)
  case atStart => exact ⟨k, ByteArray.empty, rfl, rfl, by simp; omega, Lib.hid (by simp), Below.refl _ _⟩
  case round =>
    obtain ⟨j, o, rfl, rfl, ho, HD, hb⟩ := hrel
    by_cases hj : 1 ≤ j
    · have e1 : (j : Int).tdiv 10 = ((j / 10 : Nat) : Int) := by rw [Int.tdiv_eq_ediv_of_nonneg (by omega)]; omega
      have e2 : (j : Int).tmod 10 = ((j % 10 : Nat) : Int) := by rw [Int.tmod_eq_emod_of_nonneg (by omega)]; omega
      obtain ⟨u, hu⟩ : ∃ u : UInt8, u = UInt8.ofNat (48 + j % 10) := ⟨_, rfl⟩
      have hux : (48 + (j : Int) % 10) = (u.toNat : Int) := by
        rw [hu]; have h2 : (UInt8.ofNat (48 + j % 10)).toNat = 48 + j % 10 := by rw [UInt8.toNat_ofNat_of_lt']; show 48 + j % 10 < 256; omega
        rw [h2]; omega
      have hconv := one_text wr (48 + (j : Int) % 10) u hux
      have HU := Lib.hid hu
      clear hu hux
      have HB := Lib.hid hb
      have hB := hb.size
      clear hb
      have HS := Lib.hid (digs_step hj)
      go_wp2_with fail
      go_roundw
      case rel => exact ⟨j / 10, ⟨#[u]⟩ ++ o, by go_num, rfl, by rw [ByteArray.size_append]; show 1 + o.size + j / 10 ≤ 100000000; omega, Lib.hid (by rw [← HD.out, HS.out, HU.out]; simp [ByteArray.data_append]), HB.out.alloc hB _⟩
      case measure => simp [intOf]; omega
    · go_wp2_with fail
      go_ret
      have e : j = 0 := by omega
      subst e
      refine ⟨?_, hb⟩
      have h := HD.out
      rw [digs_zero] at h
      unfold mt
      rw [← h]
      congr 2

end Go.Proofs.Ytomloodakabcbaa.Mark
