/-
  Valid conditions by the program: IsValidCondition.
-/
import Derived.Test.YtgjihejneadadaaDoorVisit
namespace Go.Proofs.YtgjihejneadadaaDoor.Cond
open Go.RowKit

def C.fm : C → Bool
  | .mk op nm day ps => form op nm day ps.length
def okV (n : Nat) (c : C) : Bool := decide (n + 1 ≤ 15) && c.fm
def nxV (n : Nat) (_ : C) : Nat := n + 1

mutual
theorem vis_good : ∀ (c : C) (n : Nat), n ≤ 15 → (vis okV nxV c n).1 = (c.forms && decide (n + c.size ≤ 15)) ∧ ((vis okV nxV c n).1 = true → (vis okV nxV c n).2 = n + c.size)
  | .mk op nm day ps, n, hn => by
    unfold vis
    by_cases h : okV n (.mk op nm day ps) = true
    · rw [if_pos h]
      simp only [okV, C.fm, Bool.and_eq_true, decide_eq_true_eq] at h
      have := visL_good ps (n + 1) h.1
      simp only [nxV, C.forms, h.2, Bool.true_and]
      rw [show (C.mk op nm day ps).size = 1 + sizes ps from by simp only [C.size], show n + (1 + sizes ps) = n + 1 + sizes ps by omega]
      exact this
    · rw [if_neg h]
      simp only [okV, C.fm, Bool.and_eq_true, decide_eq_true_eq, Classical.not_and_iff_not_or_not] at h
      refine ⟨?_, fun h => by cases h⟩
      rw [show (C.mk op nm day ps).size = 1 + sizes ps from by simp only [C.size]]
      simp only [C.forms]
      rcases h with h | h
      · rw [decide_eq_false (show ¬ n + (1 + sizes ps) ≤ 15 by omega), Bool.and_false]
      · simp only [Bool.not_eq_true] at h
        rw [h]; rfl
theorem visL_good : ∀ (ps : List C) (n : Nat), n ≤ 15 → (visL okV nxV ps n).1 = (allForms ps && decide (n + sizes ps ≤ 15)) ∧ ((visL okV nxV ps n).1 = true → (visL okV nxV ps n).2 = n + sizes ps)
  | [], n, hn => by simp [visL, allForms, sizes, hn]
  | p :: ps, n, hn => by
    unfold visL
    obtain ⟨h1, h2⟩ := vis_good p n hn
    by_cases h : (vis okV nxV p n).1 = true
    · rw [if_pos h, h2 h]
      rw [h] at h1
      have h1' := h1.symm
      simp only [Bool.and_eq_true, decide_eq_true_eq] at h1'
      have := visL_good ps (n + p.size) h1'.2
      simp only [allForms, h1'.1, Bool.true_and]
      rw [show sizes (p :: ps) = p.size + sizes ps from by simp only [sizes], show n + (p.size + sizes ps) = n + p.size + sizes ps by omega]
      exact this
    · rw [if_neg h]
      simp only [Bool.not_eq_true] at h
      rw [h] at h1
      refine ⟨?_, fun h => by cases h⟩
      rw [show sizes (p :: ps) = p.size + sizes ps from by simp only [sizes]]
      simp only [allForms]
      by_cases hf : p.forms = true
      · rw [hf, Bool.true_and] at h1
        have := of_decide_eq_false h1.symm
        rw [decide_eq_false (show ¬ n + (p.size + sizes ps) ≤ 15 by omega), Bool.and_false]
      · simp only [Bool.not_eq_true] at hf
        rw [hf]; rfl
end

/-- The count of IsValidCondition lies in block nb. -/
structure StV (B nb : Nat) (n : Nat) (own : Nat → Prop) (v : World) : Prop where
  own : own = (· = nb)
  ge : B ≤ nb
  lt : nb < v.heap.size
  cell : v.cell? ⟨nb, 0, none⟩ = some (.int .i64 n)
  fz : v.frozen? ⟨nb, 0, none⟩ = false
def fitV (n m : Nat) : Prop := n + m ≤ 1073741824

theorem seesV (B nb : Nat) : Sees B okV nxV (StV B nb) fitV where
  lt := fun s own v h b hb => by
    rw [h.own] at hb
    have : b = nb := hb
    subst this
    exact ⟨h.ge, h.lt⟩
  fr := fun s own v v' h hb => by
    have e := hb nb (by rw [h.own])
    refine ⟨h.own, h.ge, ?_, (World.cell?_of_block (a := ⟨nb, 0, none⟩) e).trans h.cell, (World.frozen?_of_block (a := ⟨nb, 0, none⟩) e).trans h.fz⟩
    exact World.block_lt_of_cell? v' ⟨nb, 0, none⟩ ((World.cell?_of_block (a := ⟨nb, 0, none⟩) e).trans h.cell)
  less := fun s m m' h hm => by unfold fitV at *; omega
  fits := fun s m c h => by unfold fitV nxV at *; omega

end Go.Proofs.YtgjihejneadadaaDoor.Cond
