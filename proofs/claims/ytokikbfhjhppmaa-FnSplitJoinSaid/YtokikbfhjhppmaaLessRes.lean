/-
  What LessString returns, the program's and the model's; and that it is no order both ways.
-/
import Derived.Test.YtokikbfhjhppmaaRows
import Derived.WalkKit
import Derived.ProofKit
namespace Go.Proofs.Ytokikbfhjhppmaa.LessRes
open Go.RowKit
set_option linter.unusedVariables false

theorem impl (a b : ByteArray) (w : World) :
    Calls Try.prog 15 #[.string a, .string b] w fun e w' => e = .returned (.bool (Op.bytesLess a.toList b.toList)) ∧ w = w' := by
  go_enter Try.func15, Try.ntmps15
  go_wp2
  go_ret
  exact ⟨rfl, rfl⟩

theorem spec (a b : ByteArray) (w : World) :
    Calls Try.prog 16 #[.string a, .string b] w fun e w' => e = .returned (.bool (Op.bytesLess a.toList b.toList)) ∧ w = w' := by
  go_enter Try.func16, Try.ntmps16
  go_wp2
  go_ret
  exact ⟨rfl, rfl⟩

theorem asym : ∀ x y : List UInt8, Op.bytesLess x y = true → Op.bytesLess y x = false
  | [], [], h => by simp [Op.bytesLess] at h
  | _ :: _, [], h => by simp [Op.bytesLess] at h
  | [], _ :: _, _ => by simp [Op.bytesLess]
  | a :: x, b :: y, h => by
    have ih := asym x y
    rw [Op.bytesLess] at h ⊢
    simp only [Bool.or_eq_true, decide_eq_true_eq, Bool.and_eq_true, beq_iff_eq] at h
    rcases h with h | ⟨rfl, h⟩
    · have h1 : ¬ b < a := by intro h2; exact absurd (UInt8.lt_trans h h2) (UInt8.lt_irrefl _)
      have h2 : ¬ b = a := by intro e; subst e; exact absurd h (UInt8.lt_irrefl _)
      simp [h1, h2]
    · have h1 : ¬ a < a := UInt8.lt_irrefl _
      simp [ih h]

end Go.Proofs.Ytokikbfhjhppmaa.LessRes
