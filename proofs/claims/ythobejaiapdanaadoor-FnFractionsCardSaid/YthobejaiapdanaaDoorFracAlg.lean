/-
  The laws of fractions, on what the operations answer. No call stands in it.
-/
import Derived.Test.YthobejaiapdanaaDoorAddMul
import Derived.Test.YthobejaiapdanaaDoorCompare
namespace Go.Proofs.YthobejaiapdanaaDoor.FracAlg
open Go.Proofs.YthobejaiapdanaaDoor.Red Go.Proofs.YthobejaiapdanaaDoor.AddMul

theorem op_comm (an ad bn bd : Int) :
    opN (AddMul.Both bn bd an ad) (bn * ad + an * bd) (bd * ad) = opN (AddMul.Both an ad bn bd) (an * bd + bn * ad) (ad * bd) ∧
    opD (AddMul.Both bn bd an ad) (bn * ad + an * bd) (bd * ad) = opD (AddMul.Both an ad bn bd) (an * bd + bn * ad) (ad * bd) ∧
    opB (AddMul.Both bn bd an ad) (bn * ad + an * bd) (bd * ad) = opB (AddMul.Both an ad bn bd) (an * bd + bn * ad) (ad * bd) := by
  rw [Int.add_comm (bn * ad), Int.mul_comm bd ad]
  unfold opN opD opB
  by_cases h : AddMul.Both an ad bn bd
  · have h' : AddMul.Both bn bd an ad := ⟨h.2, h.1⟩
    simp [h, h']
  · have h' : ¬ AddMul.Both bn bd an ad := fun x => h ⟨x.2, x.1⟩
    simp [h, h']

/-- What holds of an answer that is given: it is valid, and its value is the quotient's. -/
theorem given {an ad bn bd X Y N D : Int} (hY : AddMul.Both an ad bn bd → 0 < Y) (hN : N = opN (AddMul.Both an ad bn bd) X Y) (hD : D = opD (AddMul.Both an ad bn bd) X Y)
    (hB : opB (AddMul.Both an ad bn bd) X Y = true) : AddMul.Both an ad bn bd ∧ Valid N D ∧ N * Y = X * D := by
  unfold opN at hN
  unfold opD at hD
  unfold opB at hB
  by_cases h : AddMul.Both an ad bn bd
  · rw [if_pos h] at hN hD hB
    have hy := hY h
    have ho : Ok X Y := by unfold resB at hB; exact of_decide_eq_true hB
    obtain ⟨e1, e2, _⟩ := res_yes ho
    rw [hN, hD, e1, e2]
    refine ⟨h, (ok_valid X Y (by omega)).1 ho, ?_⟩
    have h1 := rn_mul X Y
    have h2 := rd_mul X Y
    have h3 : sg X Y = X := by unfold sg; rw [if_neg (by omega)]
    have h4 : (Y.natAbs : Int) = Y := by omega
    rw [h3] at h1
    rw [h4] at h2
    generalize rn X Y = n at *
    generalize rd X Y = d at *
    generalize ((rg X Y : Nat) : Int) = g at *
    rw [h1, h2]; ac_rfl
  · rw [if_neg h] at hB; cases hB

theorem dens {an ad bn bd : Int} (h : AddMul.Both an ad bn bd) : 0 < ad * bd := Int.mul_pos (by have := h.1.1.1; omega) (by have := h.2.1.1; omega)

/-- Multiplication distributes over addition. -/
theorem distr {an ad bn bd cn cd sN sD pN pD qN qD rN rD uN uD : Int}
    (s : AddMul.Both an ad bn bd ∧ Valid sN sD ∧ sN * (ad * bd) = (an * bd + bn * ad) * sD)
    (p : AddMul.Both an ad cn cd ∧ Valid pN pD ∧ pN * (ad * cd) = (an * cn) * pD)
    (q : AddMul.Both bn bd cn cd ∧ Valid qN qD ∧ qN * (bd * cd) = (bn * cn) * qD)
    (r : AddMul.Both sN sD cn cd ∧ Valid rN rD ∧ rN * (sD * cd) = (sN * cn) * rD)
    (u : AddMul.Both pN pD qN qD ∧ Valid uN uD ∧ uN * (pD * qD) = (pN * qD + qN * pD) * uD) : rN = uN ∧ rD = uD := by
  refine Compare.valid_eq ⟨r.2.1, u.2.1⟩ ?_
  have k1 : 0 < ad := by have := s.1.1.1.1; omega
  have k2 : 0 < bd := by have := s.1.2.1.1; omega
  have k3 : 0 < cd := by have := p.1.2.1.1; omega
  have k4 : 0 < sD := by have := s.2.1.1.1; omega
  have k5 : 0 < pD := by have := p.2.1.1.1; omega
  have k6 : 0 < qD := by have := q.2.1.1.1; omega
  have hs := s.2.2
  have hp := p.2.2
  have hq := q.2.2
  have hr := r.2.2
  have hu := u.2.2
  have K : ((sD * cd) * (pD * qD) * (ad * bd * cd)) ≠ 0 := by
    have h1 : 0 < sD * cd := Int.mul_pos k4 k3
    have h2 : 0 < pD * qD := Int.mul_pos k5 k6
    have h3 : 0 < ad * bd * cd := Int.mul_pos (Int.mul_pos k1 k2) k3
    have h4 := Int.mul_pos (Int.mul_pos h1 h2) h3
    omega
  apply Int.eq_of_mul_eq_mul_right K
  have e1 : rN * uD * ((sD * cd) * (pD * qD) * (ad * bd * cd)) = (an * bd) * (sD * cn * rD * uD * pD * qD * cd) + (bn * ad) * (sD * cn * rD * uD * pD * qD * cd) := by
    have a1 : rN * uD * ((sD * cd) * (pD * qD) * (ad * bd * cd)) = (rN * (sD * cd)) * (uD * (pD * qD) * (ad * bd * cd)) := by ac_rfl
    have a2 : (sN * cn) * rD * (uD * (pD * qD) * (ad * bd * cd)) = (sN * (ad * bd)) * (cn * rD * uD * pD * qD * cd) := by ac_rfl
    rw [a1, hr, a2, hs, ← Int.add_mul]
    ac_rfl
  have e2 : uN * rD * ((sD * cd) * (pD * qD) * (ad * bd * cd)) = (an * bd) * (sD * cn * rD * uD * pD * qD * cd) + (bn * ad) * (sD * cn * rD * uD * pD * qD * cd) := by
    have a1 : uN * rD * ((sD * cd) * (pD * qD) * (ad * bd * cd)) = (uN * (pD * qD)) * (rD * (sD * cd) * (ad * bd * cd)) := by ac_rfl
    rw [a1, hu, Int.add_mul, Int.add_mul]
    have a2 : pN * qD * uD * (rD * (sD * cd) * (ad * bd * cd)) = (pN * (ad * cd)) * (qD * uD * rD * (sD * cd) * bd) := by ac_rfl
    have a3 : qN * pD * uD * (rD * (sD * cd) * (ad * bd * cd)) = (qN * (bd * cd)) * (pD * uD * rD * (sD * cd) * ad) := by ac_rfl
    rw [a2, a3, hp, hq]
    have a4 : an * cn * pD * (qD * uD * rD * (sD * cd) * bd) = (an * bd) * (sD * cn * rD * uD * pD * qD * cd) := by ac_rfl
    have a5 : bn * cn * qD * (pD * uD * rD * (sD * cd) * ad) = (bn * ad) * (sD * cn * rD * uD * pD * qD * cd) := by ac_rfl
    rw [a4, a5]
  rw [e1, e2]

theorem sgn {u v P Q : Int} (hP : 0 < P) (hQ : 0 < Q) (e : u * P = v * Q) : (0 < u ↔ 0 < v) ∧ (u < 0 ↔ v < 0) := by
  have pos : ∀ {a b : Int}, 0 < b → (0 < a * b ↔ 0 < a) := fun {a b} hb => by
    constructor
    · intro h
      apply Int.lt_of_not_ge
      intro h'
      have := Int.mul_nonpos_of_nonpos_of_nonneg (a := a) (b := b) (by omega) (by omega)
      omega
    · intro h; exact Int.mul_pos h hb
  have neg : ∀ {a b : Int}, 0 < b → (a * b < 0 ↔ a < 0) := fun {a b} hb => by
    constructor
    · intro h
      apply Int.lt_of_not_ge
      intro h'
      have := Int.mul_nonneg (a := a) (b := b) (by omega) (by omega)
      omega
    · intro h; exact Int.mul_neg_of_neg_of_pos h hb
  exact ⟨by rw [← pos hP, e, pos hQ], by rw [← neg hP, e, neg hQ]⟩

/-- The order agrees with differences. -/
theorem order {an ad bn bd mN mD dN dD : Int}
    (m : AddMul.Both bn bd (-1) 1 ∧ Valid mN mD ∧ mN * (bd * 1) = (bn * -1) * mD)
    (d : AddMul.Both an ad mN mD ∧ Valid dN dD ∧ dN * (ad * mD) = (an * mD + mN * ad) * dD) :
    (0 < dN ↔ 0 < Compare.sign an ad bn bd) ∧ (dN < 0 ↔ Compare.sign an ad bn bd < 0) := by
  have k1 : 0 < ad := by have := d.1.1.1.1; omega
  have k2 : 0 < bd := by have := m.1.1.1.1; omega
  have k3 : 0 < mD := by have := m.2.1.1.1; omega
  have k4 : 0 < dD := by have := d.2.1.1.1; omega
  have hm := m.2.2
  have hd := d.2.2
  have s1 := sgn (Int.mul_pos k1 k3) k4 hd
  have e : (an * mD + mN * ad) * bd = (an * bd - bn * ad) * mD := by
    have a1 : (an * mD + mN * ad) * bd = (an * bd) * mD + (mN * (bd * 1)) * ad := by
      rw [Int.add_mul, Int.mul_one]
      congr 1 <;> ac_rfl
    rw [a1, hm, Int.sub_mul, Int.sub_eq_add_neg]
    congr 1
    rw [Int.mul_neg_one, Int.neg_mul, Int.neg_mul]
    congr 1
    ac_rfl
  have s2 := sgn k2 k3 e
  unfold Compare.sign
  constructor
  · rw [s1.1, s2.1]
    split
    · constructor <;> intro h <;> omega
    · split <;> constructor <;> intro h <;> omega
  · rw [s1.2, s2.2]
    split
    · constructor <;> intro h <;> omega
    · split <;> constructor <;> intro h <;> omega

end Go.Proofs.YthobejaiapdanaaDoor.FracAlg
