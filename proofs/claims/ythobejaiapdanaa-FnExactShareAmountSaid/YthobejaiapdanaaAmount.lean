/-
  Amounts and their sums: what the model and the program return, at every list.
-/
import Derived.Test.YthobejaiapdanaaIRow
namespace Go.Proofs.Ythobejaiapdanaa.Amount
open Go.RowKit Go.Proofs.Ythobejaiapdanaa.IRow

/-- x is an amount. -/
def Amt (x : Int) : Prop := -1000000000 ≤ x ∧ x ≤ 1000000000

theorem l1In_true (x a b : Int) (h1 : a ≤ x) (h2 : x ≤ b) (w : World) :
    Calls Try.prog 21 #[.int .i64 x, .int .i64 a, .int .i64 b] w fun e w' => e = .returned (.bool true) ∧ w = w' := by
  go_enter Try.func21, Try.ntmps21
  go_wp2
  go_ret
  exact ⟨by simp, rfl⟩

theorem l1In_false (x a b : Int) (h : x < a ∨ b < x) (w : World) :
    Calls Try.prog 21 #[.int .i64 x, .int .i64 a, .int .i64 b] w fun e w' => e = .returned (.bool false) ∧ w = w' := by
  by_cases ha : x < a
  · go_enter Try.func21, Try.ntmps21
    go_wp2
    go_ret
    exact ⟨rfl, rfl⟩
  · have hb : b < x := by omega
    have ha' : a ≤ x := by omega
    clear ha h
    go_enter Try.func21, Try.ntmps21
    go_wp2
    go_ret
    exact ⟨by simp [hb], rfl⟩

theorem specYes (x : Int) (h : Amt x) (w : World) :
    Calls Try.prog 20 #[.int .i64 x] w fun e w' => e = .returned (.bool true) ∧ w = w' := by
  obtain ⟨h0, h1⟩ := h
  go_enter Try.func20, Try.ntmps20
  go_wp2_with (go_at_call 21; refine (l1In_true _ _ _ (by omega) (by omega) _).mono ?_; rintro e w' ⟨rfl, rfl⟩)
  go_ret
  exact ⟨rfl, rfl⟩

theorem specNo (x : Int) (h : ¬ Amt x) (w : World) :
    Calls Try.prog 20 #[.int .i64 x] w fun e w' => e = .returned (.bool false) ∧ w = w' := by
  have h' : x < -1000000000 ∨ 1000000000 < x := by unfold Amt at h; omega
  clear h
  go_enter Try.func20, Try.ntmps20
  go_wp2_with (go_at_call 21; refine (l1In_false _ _ _ h' _).mono ?_; rintro e w' ⟨rfl, rfl⟩)
  go_ret
  exact ⟨rfl, rfl⟩

theorem implYes (x : Int) (h : Amt x) (w : World) :
    Calls Try.prog 25 #[.int .i64 x] w fun e w' => e = .returned (.bool true) ∧ w = w' := by
  obtain ⟨h0, h1⟩ := h
  go_enter Try.func25, Try.ntmps25
  go_wp2
  go_ret
  exact ⟨by simp, rfl⟩

theorem implNo (x : Int) (h : ¬ Amt x) (w : World) :
    Calls Try.prog 25 #[.int .i64 x] w fun e w' => e = .returned (.bool false) ∧ w = w' := by
  by_cases ha : x < -1000000000
  · clear h
    go_enter Try.func25, Try.ntmps25
    go_wp2
    go_ret
    exact ⟨rfl, rfl⟩
  · have hb : 1000000000 < x := by unfold Amt at h; omega
    have ha' : -1000000000 ≤ x := by omega
    clear ha h
    go_enter Try.func25, Try.ntmps25
    go_wp2
    go_ret
    exact ⟨by simp [hb], rfl⟩

end Go.Proofs.Ythobejaiapdanaa.Amount
