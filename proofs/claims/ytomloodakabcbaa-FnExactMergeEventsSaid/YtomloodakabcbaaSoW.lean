/-
  Events are in a total order.
-/
import Derived.Test.YtomloodakabcbaaSoB
import Derived.Test.YtomloodakabcbaaEtI
import Derived.Sort.Statements
namespace Go.Proofs.Ytomloodakabcbaa.Et
open Go.RowKit Go.Proofs.Ytomloodakabcbaa.Cond Go.Proofs.Ytomloodakabcbaa.Gx
set_option linter.unusedVariables false
set_option linter.unusedSimpArgs false

theorem cI_lt (x y : Int) : cI x y < 0 ↔ x < y := by unfold cI; (repeat' split) <;> omega
theorem cI_0 (x y : Int) : cI x y = 0 ↔ x = y := by unfold cI; (repeat' split) <;> omega
theorem cS_lt (x y : ByteArray) : cS x y < 0 ↔ x.toList < y.toList := by
  unfold cS
  simp only [bytesLess_eq, decide_eq_true_eq]
  by_cases h1 : x.toList < y.toList
  · simp [h1]
  · by_cases h3 : x.toList = y.toList
    · simp [h3, List.lt_irrefl]
    · simp [h1, h3]
theorem cS_0 (x y : ByteArray) : cS x y = 0 ↔ x.toList = y.toList := by
  unfold cS
  simp only [bytesLess_eq, decide_eq_true_eq]
  by_cases h1 : x.toList < y.toList
  · have h2 : ¬ x.toList = y.toList := fun e => by rw [e] at h1; exact List.lt_irrefl _ h1
    simp [h1, h2]
  · by_cases h3 : x.toList = y.toList
    · simp [h3, List.lt_irrefl]
    · simp [h1, h3]
/-- Before, field by field. -/
def ltP (a b : E) : Prop := a.day < b.day ∨ (a.day = b.day ∧ (a.party < b.party ∨ (a.party = b.party ∧ (a.act.toList < b.act.toList ∨ (a.act.toList = b.act.toList ∧ a.amt < b.amt)))))
theorem cE_lt (a b : E) : cE a b < 0 ↔ ltP a b := by
  unfold cE ltP
  simp only [orI]
  have d1 := cI_lt a.day b.day
  have d2 := cI_0 a.day b.day
  have p1 := cI_lt a.party b.party
  have p2 := cI_0 a.party b.party
  have s1 := cS_lt a.act b.act
  have s2 := cS_0 a.act b.act
  have t1 := cI_lt a.amt b.amt
  have t2 := cI_0 a.amt b.amt
  generalize cI a.day b.day = A at *
  generalize cI a.party b.party = B at *
  generalize cS a.act b.act = C at *
  generalize cI a.amt b.amt = D at *
  rw [← d1, ← d2, ← p1, ← p2, ← s1, ← s2, ← t1]
  by_cases e1 : A = 0
  · by_cases e2 : B = 0
    · by_cases e3 : C = 0
      · by_cases e4 : D = 0
        · simp [e1, e2, e3, e4]
        · simp [e1, e2, e3, e4]
      · simp [e1, e2, e3]
    · simp [e1, e2]
  · simp [e1]
theorem ltP_irr (a : E) : ¬ ltP a a := by
  unfold ltP
  rintro (h | ⟨_, h | ⟨_, h | ⟨_, h⟩⟩⟩)
  · omega
  · omega
  · exact List.lt_irrefl _ h
  · omega
theorem ltP_trans {a b c : E} (h1 : ltP a b) (h2 : ltP b c) : ltP a c := by
  unfold ltP at *
  rcases h1 with h1 | ⟨e1, h1 | ⟨f1, h1 | ⟨g1, h1⟩⟩⟩ <;> rcases h2 with h2 | ⟨e2, h2 | ⟨f2, h2 | ⟨g2, h2⟩⟩⟩
  all_goals first
    | (left; omega)
    | (right; refine ⟨by omega, ?_⟩
       first
         | (left; omega)
         | (right; refine ⟨by omega, ?_⟩
            first
              | (left; exact List.lt_trans h1 h2)
              | (left; rw [← g2]; exact h1)
              | (left; rw [g1]; exact h2)
              | (right; exact ⟨g1.trans g2, by omega⟩)))
theorem tri (a b : E) : ltP a b ∨ a = b ∨ ltP b a := by
  unfold ltP
  rcases Int.lt_trichotomy a.day b.day with h | h | h
  · exact .inl (.inl h)
  · rcases Int.lt_trichotomy a.party b.party with k | k | k
    · exact .inl (.inr ⟨h, .inl k⟩)
    · by_cases s : a.act.toList < b.act.toList
      · exact .inl (.inr ⟨h, .inr ⟨k, .inl s⟩⟩)
      · by_cases s2 : a.act.toList = b.act.toList
        · rcases Int.lt_trichotomy a.amt b.amt with m | m | m
          · exact .inl (.inr ⟨h, .inr ⟨k, .inr ⟨s2, m⟩⟩⟩)
          · have e := toL_inj s2
            cases a; cases b
            simp only at h k m e
            subst h k m e
            exact .inr (.inl rfl)
          · exact .inr (.inr (.inr ⟨h.symm, .inr ⟨k.symm, .inr ⟨s2.symm, m⟩⟩⟩))
        · have s3 : b.act.toList < a.act.toList := by
            rcases List.le_iff_lt_or_eq.1 (List.not_lt.1 s) with h | h
            · exact h
            · exact absurd h.symm s2
          exact .inr (.inr (.inr ⟨h.symm, .inr ⟨k.symm, .inl s3⟩⟩))
    · exact .inr (.inr (.inr ⟨h.symm, .inl k⟩))
  · exact .inr (.inr (.inl h))
theorem ltE_iff (a b : E) : ltE a b = true ↔ ltP a b := by unfold ltE; rw [decide_eq_true_eq]; exact cE_lt a b
theorem ltE_no (a b : E) : ltE a b = false ↔ ¬ ltP a b := by rw [← ltE_iff]; simp
theorem swoE : Sort.SWO ltE where
  irrefl := fun x => (ltE_no x x).2 (ltP_irr x)
  trans := fun x y z h1 h2 => (ltE_iff x z).2 (ltP_trans ((ltE_iff x y).1 h1) ((ltE_iff y z).1 h2))
  ntrans := fun x y z h1 h2 => by
    rw [ltE_no] at *
    intro h
    rcases tri x y with k | rfl | k
    · exact h1 k
    · exact h2 h
    · exact h2 (ltP_trans k h)
theorem antiE (x y : E) (h1 : ltE x y = false) (h2 : ltE y x = false) : x = y := by
  rw [ltE_no] at *
  rcases tri x y with k | k | k
  · exact absurd k h1
  · exact k
  · exact absurd k h2

end Go.Proofs.Ytomloodakabcbaa.Et
