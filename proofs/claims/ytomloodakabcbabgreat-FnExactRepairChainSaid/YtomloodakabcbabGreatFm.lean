/-
  The forms of conditions: l5Form of the model, hasForm of the program.
-/
import Derived.Test.YtomloodakabcbabGreatNmI
import Derived.Test.YtomloodakabcbabGreatCoTo
namespace Go.Proofs.YtomloodakabcbabGreat.Cond
open Go.RowKit

theorem isDay (d : Int) (w : World) : Calls Tryz.prog 76 #[.int .i64 d] w fun e w' => e = .returned (.bool (isDy d)) ∧ w = w' := by
  unfold isDy
  go_enter Tryz.func76, Tryz.ntmps76
  go_wp2
  all_goals go_ret
  all_goals refine ⟨?_, rfl⟩
  all_goals (first | (simp; done) | (simp; omega) | (simp; rw [Bool.eq_iff_iff]; simp; omega))
theorem l3Good (d : Int) (w : World) : Calls Tryz.prog 89 #[.int .i64 d] w fun e w' => e = .returned (.bool (isDy d)) ∧ w = w' := by
  have H := Lib.hid (l1In d 0 36524 w)
  unfold isDy
  go_enter Tryz.func89, Tryz.ntmps89
  go_wp2_with (go_at_call 16; refine H.out.mono ?_; rintro e w' ⟨rfl, rfl⟩)
  go_ret
  exact ⟨rfl, rfl⟩

theorem tl0 (s : ByteArray) : (s.toList = []) = (s.size = 0) := by
  rw [Go.ByteArray.toList_eq, Array.toList_eq_nil_iff]
  exact propext ⟨fun h => by simp [ByteArray.size, h], fun h => Array.eq_empty_of_size_eq_zero h⟩

set_option maxHeartbeats 4000000 in
theorem l5Form (op : Int) (nm : ByteArray) (day : Int) (A : Option Addr) (n cap : Nat) (w : World) :
    Calls Tryz.prog 75 #[.agg #[.int .i64 op, .string nm, .int .i64 day, .slice A n cap]] w fun e w' => e = .returned (.bool (form op nm day n)) ∧ Below w.heap.size w w' := by
  have HN := Lib.hid (fun w => l5Name nm w)
  have HD := Lib.hid (fun w => l3Good day w)
  by_cases h1 : op = 1
  · subst h1
    go_enter Tryz.func75, Tryz.ntmps75
    go_wp2_with (first | (go_at_call 44; refine (HN.out _).mono ?_; rintro e w' ⟨rfl, rfl⟩) | (go_at_call 89; refine (HD.out _).mono ?_; rintro e w' ⟨rfl, rfl⟩))
    all_goals go_ret
    all_goals refine ⟨?_, below1 _ _⟩
    all_goals (first | (simp_all [form, tl0]; done) | (simp_all [form, tl0]; intros; omega) | (simp_all [form, tl0]; rw [Bool.eq_iff_iff]; simp; done) | (simp_all [form, tl0]; rw [Bool.eq_iff_iff]; simp; omega))
  by_cases h2 : op = 2
  · subst h2
    go_enter Tryz.func75, Tryz.ntmps75
    go_wp2_with (first | (go_at_call 44; refine (HN.out _).mono ?_; rintro e w' ⟨rfl, rfl⟩) | (go_at_call 89; refine (HD.out _).mono ?_; rintro e w' ⟨rfl, rfl⟩))
    all_goals go_ret
    all_goals refine ⟨?_, below1 _ _⟩
    all_goals (first | (simp_all [form]; done) | (simp_all [form]; intros; omega) | (simp_all [form]; rw [Bool.eq_iff_iff]; simp; done) | (simp_all [form]; rw [Bool.eq_iff_iff]; simp; omega))
  by_cases h3 : op = 3
  · subst h3
    go_enter Tryz.func75, Tryz.ntmps75
    go_wp2_with (first | (go_at_call 44; refine (HN.out _).mono ?_; rintro e w' ⟨rfl, rfl⟩) | (go_at_call 89; refine (HD.out _).mono ?_; rintro e w' ⟨rfl, rfl⟩))
    all_goals go_ret
    all_goals refine ⟨?_, below1 _ _⟩
    all_goals (first | (simp_all [form, tl0]; done) | (simp_all [form, tl0]; intros; omega) | (simp_all [form, tl0]; rw [Bool.eq_iff_iff]; simp; done) | (simp_all [form, tl0]; rw [Bool.eq_iff_iff]; simp; omega))
  by_cases h4 : op = 4
  · subst h4
    go_enter Tryz.func75, Tryz.ntmps75
    go_wp2_with (first | (go_at_call 44; refine (HN.out _).mono ?_; rintro e w' ⟨rfl, rfl⟩) | (go_at_call 89; refine (HD.out _).mono ?_; rintro e w' ⟨rfl, rfl⟩))
    all_goals go_ret
    all_goals refine ⟨?_, below1 _ _⟩
    all_goals (first | (simp_all [form, tl0]; done) | (simp_all [form, tl0]; intros; omega) | (simp_all [form, tl0]; rw [Bool.eq_iff_iff]; simp; done) | (simp_all [form, tl0]; rw [Bool.eq_iff_iff]; simp; omega))
  by_cases h5 : op = 5
  · subst h5
    go_enter Tryz.func75, Tryz.ntmps75
    go_wp2_with (first | (go_at_call 44; refine (HN.out _).mono ?_; rintro e w' ⟨rfl, rfl⟩) | (go_at_call 89; refine (HD.out _).mono ?_; rintro e w' ⟨rfl, rfl⟩))
    all_goals go_ret
    all_goals refine ⟨?_, below1 _ _⟩
    all_goals (first | (simp_all [form, tl0]; done) | (simp_all [form, tl0]; intros; omega) | (simp_all [form, tl0]; rw [Bool.eq_iff_iff]; simp; done) | (simp_all [form, tl0]; rw [Bool.eq_iff_iff]; simp; omega))
  by_cases h6 : op = 6
  · subst h6
    go_enter Tryz.func75, Tryz.ntmps75
    go_wp2_with (first | (go_at_call 44; refine (HN.out _).mono ?_; rintro e w' ⟨rfl, rfl⟩) | (go_at_call 89; refine (HD.out _).mono ?_; rintro e w' ⟨rfl, rfl⟩))
    all_goals go_ret
    all_goals refine ⟨?_, below1 _ _⟩
    all_goals (first | (simp_all [form, tl0]; done) | (simp_all [form, tl0]; intros; omega) | (simp_all [form, tl0]; rw [Bool.eq_iff_iff]; simp; done) | (simp_all [form, tl0]; rw [Bool.eq_iff_iff]; simp; omega))
  · go_enter Tryz.func75, Tryz.ntmps75
    go_wp2_with fail
    all_goals go_ret
    all_goals refine ⟨?_, below1 _ _⟩
    all_goals (simp_all [form])

set_option maxHeartbeats 4000000 in
theorem hasForm (op : Int) (nm : ByteArray) (hnm : nm.size ≤ maxLen) (day : Int) (A : Option Addr) (n cap : Nat) (w : World) :
    Calls Tryz.prog 68 #[.agg #[.int .i64 op, .string nm, .int .i64 day, .slice A n cap]] w fun e w' => e = .returned (.bool (form op nm day n)) ∧ Below w.heap.size w w' := by
  have HN := Lib.hid (fun w => isValidName nm hnm w)
  have HD := Lib.hid (fun w => isDay day w)
  clear hnm
  by_cases h1 : op = 1
  · subst h1
    go_enter Tryz.func68, Tryz.ntmps68
    go_wp2_with (first | (go_at_call 51; refine (HN.out _).mono ?_; rintro e w' ⟨rfl, rfl⟩) | (go_at_call 76; refine (HD.out _).mono ?_; rintro e w' ⟨rfl, rfl⟩))
    all_goals go_ret
    all_goals refine ⟨?_, below1 _ _⟩
    all_goals (first | (simp_all [form, tl0]; done) | (simp_all [form, tl0]; intros; omega) | (simp_all [form, tl0]; rw [Bool.eq_iff_iff]; simp; done) | (simp_all [form, tl0]; rw [Bool.eq_iff_iff]; simp; omega))
  by_cases h2 : op = 2
  · subst h2
    go_enter Tryz.func68, Tryz.ntmps68
    go_wp2_with (first | (go_at_call 51; refine (HN.out _).mono ?_; rintro e w' ⟨rfl, rfl⟩) | (go_at_call 76; refine (HD.out _).mono ?_; rintro e w' ⟨rfl, rfl⟩))
    all_goals go_ret
    all_goals refine ⟨?_, below1 _ _⟩
    all_goals (first | (simp_all [form]; done) | (simp_all [form]; intros; omega) | (simp_all [form]; rw [Bool.eq_iff_iff]; simp; done) | (simp_all [form]; rw [Bool.eq_iff_iff]; simp; omega))
  by_cases h3 : op = 3
  · subst h3
    go_enter Tryz.func68, Tryz.ntmps68
    go_wp2_with (first | (go_at_call 51; refine (HN.out _).mono ?_; rintro e w' ⟨rfl, rfl⟩) | (go_at_call 76; refine (HD.out _).mono ?_; rintro e w' ⟨rfl, rfl⟩))
    all_goals go_ret
    all_goals refine ⟨?_, below1 _ _⟩
    all_goals (first | (simp_all [form, tl0]; done) | (simp_all [form, tl0]; intros; omega) | (simp_all [form, tl0]; rw [Bool.eq_iff_iff]; simp; done) | (simp_all [form, tl0]; rw [Bool.eq_iff_iff]; simp; omega))
  by_cases h4 : op = 4
  · subst h4
    go_enter Tryz.func68, Tryz.ntmps68
    go_wp2_with (first | (go_at_call 51; refine (HN.out _).mono ?_; rintro e w' ⟨rfl, rfl⟩) | (go_at_call 76; refine (HD.out _).mono ?_; rintro e w' ⟨rfl, rfl⟩))
    all_goals go_ret
    all_goals refine ⟨?_, below1 _ _⟩
    all_goals (first | (simp_all [form, tl0]; done) | (simp_all [form, tl0]; intros; omega) | (simp_all [form, tl0]; rw [Bool.eq_iff_iff]; simp; done) | (simp_all [form, tl0]; rw [Bool.eq_iff_iff]; simp; omega))
  by_cases h5 : op = 5
  · subst h5
    go_enter Tryz.func68, Tryz.ntmps68
    go_wp2_with (first | (go_at_call 51; refine (HN.out _).mono ?_; rintro e w' ⟨rfl, rfl⟩) | (go_at_call 76; refine (HD.out _).mono ?_; rintro e w' ⟨rfl, rfl⟩))
    all_goals go_ret
    all_goals refine ⟨?_, below1 _ _⟩
    all_goals (first | (simp_all [form, tl0]; done) | (simp_all [form, tl0]; intros; omega) | (simp_all [form, tl0]; rw [Bool.eq_iff_iff]; simp; done) | (simp_all [form, tl0]; rw [Bool.eq_iff_iff]; simp; omega))
  by_cases h6 : op = 6
  · subst h6
    go_enter Tryz.func68, Tryz.ntmps68
    go_wp2_with (first | (go_at_call 51; refine (HN.out _).mono ?_; rintro e w' ⟨rfl, rfl⟩) | (go_at_call 76; refine (HD.out _).mono ?_; rintro e w' ⟨rfl, rfl⟩))
    all_goals go_ret
    all_goals refine ⟨?_, below1 _ _⟩
    all_goals (first | (simp_all [form, tl0]; done) | (simp_all [form, tl0]; intros; omega) | (simp_all [form, tl0]; rw [Bool.eq_iff_iff]; simp; done) | (simp_all [form, tl0]; rw [Bool.eq_iff_iff]; simp; omega))
  · go_enter Tryz.func68, Tryz.ntmps68
    go_wp2_with fail
    all_goals go_ret
    all_goals refine ⟨?_, below1 _ _⟩
    all_goals (simp_all [form])

end Go.Proofs.YtomloodakabcbabGreat.Cond
