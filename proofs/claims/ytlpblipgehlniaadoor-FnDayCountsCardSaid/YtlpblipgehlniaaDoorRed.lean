/-
  Plain facts on fractions in lowest terms. No call stands in it.
-/
import Derived.Test.YtlpblipgehlniaaDoorGcd
import Derived.Test.YtlpblipgehlniaaDoorAmount
namespace Go.Proofs.YtlpblipgehlniaaDoor.Red
open Go.Proofs.YtlpblipgehlniaaDoor.Gcd Go.Proofs.YtlpblipgehlniaaDoor.Amount

/-- The fraction n/d is valid. -/
def Valid (n d : Int) : Prop := (1 ≤ d ∧ d ≤ 1000000000) ∧ Amt n ∧ Nat.gcd n.natAbs d.natAbs = 1
instance (n d : Int) : Decidable (Valid n d) := inferInstanceAs (Decidable (_ ∧ _))

def sg (n d : Int) : Int := if d < 0 then -n else n
def rg (n d : Int) : Nat := Nat.gcd n.natAbs d.natAbs
/-- Numerator and denominator in lowest terms. -/
def rn (n d : Int) : Int := sg n d / (rg n d : Nat)
def rd (n d : Int) : Int := (d.natAbs : Int) / (rg n d : Nat)

theorem rg_pos (n d : Int) (h : d ≠ 0) : 0 < rg n d := Nat.gcd_pos_of_pos_right _ (by omega)
theorem rg_le (n d : Int) (h : d ≠ 0) : rg n d ≤ d.natAbs := Nat.le_of_dvd (by omega) (Nat.gcd_dvd_right _ _)

theorem sg_natAbs (n d : Int) : (sg n d).natAbs = n.natAbs := by unfold sg; split <;> omega

theorem dvd_sg (n d : Int) : ((rg n d : Nat) : Int) ∣ sg n d := by
  rw [← Int.natAbs_dvd_natAbs, sg_natAbs]; exact Nat.gcd_dvd_left _ _
theorem dvd_d (n d : Int) : ((rg n d : Nat) : Int) ∣ (d.natAbs : Int) := by
  rw [← Int.natAbs_dvd_natAbs]; exact Nat.gcd_dvd_right _ _

theorem rn_mul (n d : Int) : sg n d = (rg n d : Nat) * rn n d := by
  unfold rn; rw [Int.mul_ediv_cancel' (dvd_sg n d)]
theorem rd_mul (n d : Int) : (d.natAbs : Int) = (rg n d : Nat) * rd n d := by
  unfold rd; rw [Int.mul_ediv_cancel' (dvd_d n d)]

theorem rn_tdiv (n d : Int) : (sg n d).tdiv (rg n d : Nat) = rn n d := Int.tdiv_eq_ediv_of_dvd (dvd_sg n d)
theorem rd_tdiv (n d : Int) : (d.natAbs : Int).tdiv (rg n d : Nat) = rd n d := Int.tdiv_eq_ediv_of_dvd (dvd_d n d)

theorem rd_pos (n d : Int) (h : d ≠ 0) : 1 ≤ rd n d := by
  have h1 := rd_mul n d
  have h2 := rg_pos n d h
  refine Int.not_lt.1 fun hle => ?_
  have : ((rg n d : Nat) : Int) * rd n d ≤ 0 := Int.mul_nonpos_of_nonneg_of_nonpos (by omega) (by omega)
  omega

theorem rn_natAbs (n d : Int) (_h : d ≠ 0) : (rn n d).natAbs = n.natAbs / rg n d := by
  unfold rn
  rw [Int.natAbs_ediv_of_dvd (dvd_sg n d), sg_natAbs]; simp
theorem rd_natAbs (n d : Int) (_h : d ≠ 0) : (rd n d).natAbs = d.natAbs / rg n d := by
  unfold rd
  rw [Int.natAbs_ediv_of_dvd (dvd_d n d)]; simp

theorem low (n d : Int) (h : d ≠ 0) : Nat.gcd (rn n d).natAbs (rd n d).natAbs = 1 := by
  rw [rn_natAbs n d h, rd_natAbs n d h]
  exact Nat.coprime_div_gcd_div_gcd (rg_pos n d h)

theorem rn_bd (n d : Int) (h : d ≠ 0) : (rn n d).natAbs ≤ n.natAbs ∧ (rd n d).natAbs ≤ d.natAbs := by
  rw [rn_natAbs n d h, rd_natAbs n d h]
  exact ⟨Nat.div_le_self _ _, Nat.div_le_self _ _⟩

/-- The quotient has a valid fraction. -/
def Ok (n d : Int) : Prop := Amt (rn n d) ∧ rd n d ≤ 1000000000
instance (n d : Int) : Decidable (Ok n d) := inferInstanceAs (Decidable (_ ∧ _))

theorem ok_valid (n d : Int) (h : d ≠ 0) : Ok n d ↔ Valid (rn n d) (rd n d) :=
  ⟨fun ⟨h1, h2⟩ => ⟨⟨rd_pos n d h, h2⟩, h1, low n d h⟩, fun ⟨h1, h2, _⟩ => ⟨h2, h1.2⟩⟩

/-- What reducing n/d returns. -/
def resN (n d : Int) : Int := if Ok n d then rn n d else 0
def resD (n d : Int) : Int := if Ok n d then rd n d else 0
def resB (n d : Int) : Bool := decide (Ok n d)

theorem res_yes {n d : Int} (h : Ok n d) : resN n d = rn n d ∧ resD n d = rd n d ∧ resB n d = true := by
  unfold resN resD resB; simp [h]
theorem res_no {n d : Int} (h : ¬ Ok n d) : resN n d = 0 ∧ resD n d = 0 ∧ resB n d = false := by
  unfold resN resD resB; simp [h]

theorem valid_self {n d : Int} (h : Valid n d) : rn n d = n ∧ rd n d = d := by
  obtain ⟨⟨h1, h2⟩, h3, h4⟩ := h
  have e : rg n d = 1 := h4
  unfold rn rd sg
  rw [e, if_neg (by omega)]
  simp; omega

/-- A fraction is valid just if it is what reducing it returns. -/
theorem valid_iff (n d : Int) (h : d ≠ 0) : Valid n d ↔ Ok n d ∧ rn n d = n ∧ rd n d = d := by
  constructor
  · intro hv
    obtain ⟨e1, e2⟩ := valid_self hv
    refine ⟨(ok_valid n d h).2 (by rw [e1, e2]; exact hv), e1, e2⟩
  · rintro ⟨ho, e1, e2⟩
    have := (ok_valid n d h).1 ho
    rwa [e1, e2] at this

end Go.Proofs.YtlpblipgehlniaaDoor.Red
