/-
  l5Starts of the model.
-/
import Derived.Test.YthdiiocgemomoaaDoorPcM
namespace Go.Proofs.YthdiiocgemomoaaDoor.Cond
open Go.RowKit
set_option linter.unusedVariables false
set_option linter.unusedSimpArgs false

theorem ext_list (s : ByteArray) (a b : Nat) : (s.extract a b).toList = (s.data.toList.drop a).take (b - a) := by
  rw [Go.ByteArray.toList_eq, ByteArray.data_extract, Array.toList_extract, List.extract_eq_take_drop]
theorem ext_of {s : ByteArray} {a b : Nat} {l : List UInt8} (h : (s.data.toList.drop a).take (b - a) = l) : s.extract a b = ba l := by
  have h1 := ext_list s a b
  rw [h, Go.ByteArray.toList_eq] at h1
  cases hx : s.extract a b with
  | mk d => rw [hx] at h1; simp only at h1; rw [← h1]

set_option maxRecDepth 100000 in
set_option maxHeartbeats 1000000 in
theorem l5Starts (s p : ByteArray) (a : Nat) (w : World) (ha : a ≤ s.size) (hs : s.size ≤ 2000000) (hp : p.size ≤ 10) :
    Calls Tryd.prog 15 #[.string s, .int .i64 (a : Int), .string p] w fun e w' => e = .returned (.bool (st p.data.toList (s.data.toList.drop a))) ∧ w = w' := by
  have HL : Hid (p.data.toList.length = p.size ∧ s.data.toList.length = s.size) := Lib.hid ⟨Array.length_toList, Array.length_toList⟩
  by_cases h : a + p.size ≤ s.size
  · have hi : (a : Int) + (p.size : Int) ≤ (s.size : Int) := by omega
    obtain ⟨b, hb⟩ : ∃ b, b = st p.data.toList (s.data.toList.drop a) := ⟨_, rfl⟩
    have hx : ((s.extract a (a + p.size)).toList == p.toList) = b := by
      rw [hb, ext_list, show a + p.size - a = p.size by omega, Go.ByteArray.toList_eq, st, HL.out.1]
      rw [Bool.eq_iff_iff]; simp
    rw [← hb]
    clear hb
    obtain ⟨x, hxx⟩ : ∃ x, x = s.extract a (a + p.size) := ⟨_, rfl⟩
    have hsl : ∀ w, (Instr.slice 9 (.string s) (some (.int .i64 (a : Int))) (some (.int .i64 ((a : Int) + (p.size : Int)))) none).run Tryd.prog w = .ok (.string x) w := fun w => by
      rw [run_slice_string _ _ _ _ _ _ _ Tryd.underlying9 (by omega) (by omega) (by omega), hxx]
      congr 2
    rw [← hxx] at hx
    clear hxx
    go_enter Tryd.func15, Tryd.ntmps15
    go_wp2_with fail
    go_ret
    exact ⟨by rw [← hx]; rfl, rfl⟩
  · have hi : decide ((a : Int) + (p.size : Int) ≤ (s.size : Int)) = false := decide_eq_false (by omega)
    have HF : Hid (st p.data.toList (s.data.toList.drop a) = false) := Lib.hid (by
      cases hb : st p.data.toList (s.data.toList.drop a) with
      | false => rfl
      | true =>
        have := st_len hb
        rw [HL.out.1, List.length_drop, HL.out.2] at this
        omega)
    rw [HF.out]
    go_enter Tryd.func15, Tryd.ntmps15
    go_wp2_with fail
    go_ret
    exact ⟨rfl, rfl⟩

end Go.Proofs.YthdiiocgemomoaaDoor.Cond
