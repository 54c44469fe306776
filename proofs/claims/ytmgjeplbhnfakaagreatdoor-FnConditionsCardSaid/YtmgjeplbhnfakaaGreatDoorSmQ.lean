/-
  Simplification in plain facts, and when two conditions are the same: l5Same and l5Never of the model, equalConditions, isTrue and isNotTrue of the program.
-/
import Derived.Test.YtmgjeplbhnfakaaGreatDoorGoodI
import Derived.Test.YtmgjeplbhnfakaaGreatDoorCoMk
namespace Go.Proofs.YtmgjeplbhnfakaaGreatDoor.Cond
open Go.RowKit
set_option linter.unusedVariables false

mutual
def sameC : C → C → Bool
  | .mk o n d ps, .mk o' n' d' qs => decide (o = o') && decide (n.toList = n'.toList) && decide (d = d') && sameL ps qs
def sameL : List C → List C → Bool
  | [], [] => true
  | p :: ps, q :: qs => sameC p q && sameL ps qs
  | [], _ :: _ => false
  | _ :: _, [] => false
end
theorem toList_inj {a b : ByteArray} (h : a.toList = b.toList) : a = b := by
  rw [Go.ByteArray.toList_eq, Go.ByteArray.toList_eq] at h
  cases a; cases b
  simpa [Array.toList_inj] using h
mutual
theorem same_iff : ∀ (a b : C), sameC a b = true ↔ a = b
  | .mk o n d ps, .mk o' n' d' qs => by
    simp only [sameC, Bool.and_eq_true, decide_eq_true_eq, sameL_iff ps qs, C.mk.injEq]
    constructor
    · rintro ⟨⟨⟨h1, h2⟩, h3⟩, h4⟩
      exact ⟨h1, toList_inj h2, h3, h4⟩
    · rintro ⟨h1, h2, h3, h4⟩
      exact ⟨⟨⟨h1, by rw [h2]⟩, h3⟩, h4⟩
theorem sameL_iff : ∀ (a b : List C), sameL a b = true ↔ a = b
  | [], [] => by simp [sameL]
  | p :: ps, q :: qs => by simp only [sameL, Bool.and_eq_true, same_iff p q, sameL_iff ps qs, List.cons.injEq]
  | [], _ :: _ => by simp [sameL]
  | _ :: _, [] => by simp [sameL]
end
theorem sameL_len : ∀ {a b : List C}, a.length ≠ b.length → sameL a b = false
  | [], [], h => absurd rfl h
  | p :: ps, q :: qs, h => by simp only [sameL, sameL_len (a := ps) (b := qs) (by simpa using h), Bool.and_false]
  | [], _ :: _, _ => rfl
  | _ :: _, [], _ => rfl
theorem sameL_at {a b : List C} (hl : a.length = b.length) {i : Nat} (hi : i < a.length) (h : sameC a[i] (b[i]'(by omega)) = false) : sameL a b = false := by
  cases hs : sameL a b with
  | false => rfl
  | true =>
    have := (sameL_iff a b).1 hs
    subst this
    rw [(same_iff a[i] a[i]).2 rfl] at h
    cases h
theorem sameL_all {a b : List C} (hl : a.length = b.length) (h : ∀ i, ∀ hi : i < a.length, sameC a[i] (b[i]'(by omega)) = true) : sameL a b = true := by
  rw [sameL_iff]
  exact List.ext_getElem hl fun i h1 h2 => (same_iff _ _).1 (h i h1)

end Go.Proofs.YtmgjeplbhnfakaaGreatDoor.Cond
