/-
  Day counts of consecutive times add up; the last business day of a month. No call stands in it.
-/
import Derived.Test.YtlpblipgehlniaaDoorDcI
import Derived.Test.YtlpblipgehlniaaDoorAddMul
import Derived.Test.YtlpblipgehlniaaDoorRollI
import Derived.Test.YtlpblipgehlniaaDoorSeekS
namespace Go.Proofs.YtlpblipgehlniaaDoor.DcAlg
open Go.Proofs.YtlpblipgehlniaaDoor.Red Go.Proofs.YtlpblipgehlniaaDoor.AddMul Go.Proofs.YtlpblipgehlniaaDoor.Cal Go.Proofs.YtlpblipgehlniaaDoor.Biz Go.Proofs.YtlpblipgehlniaaDoor.Yrs

theorem uniq {n d n' d' : Int} (h : Valid n d) (h' : Valid n' d') (e : n * d' = n' * d) : n = n' ∧ d = d' := by
  have g1 : Nat.gcd n.natAbs d.natAbs = 1 := h.2.2
  have g2 : Nat.gcd n'.natAbs d'.natAbs = 1 := h'.2.2
  have d0 : 1 ≤ d := h.1.1
  have d1 : 1 ≤ d' := h'.1.1
  have e2 : n.natAbs * d'.natAbs = n'.natAbs * d.natAbs := by rw [← Int.natAbs_mul, ← Int.natAbs_mul, e]
  have a : d.natAbs ∣ d'.natAbs := by
    have : d.natAbs ∣ n.natAbs * d'.natAbs := ⟨n'.natAbs, by rw [e2, Nat.mul_comm]⟩
    exact Nat.Coprime.dvd_of_dvd_mul_left (Nat.Coprime.symm g1) this
  have b : d'.natAbs ∣ d.natAbs := by
    have : d'.natAbs ∣ n'.natAbs * d.natAbs := ⟨n.natAbs, by rw [← e2, Nat.mul_comm]⟩
    exact Nat.Coprime.dvd_of_dvd_mul_left (Nat.Coprime.symm g2) this
  have c := Nat.dvd_antisymm a b
  have hd : d = d' := by omega
  subst hd
  exact ⟨Int.eq_of_mul_eq_mul_right (by omega) e, rfl⟩

/-- A quotient that is small is answered: valid, and of the same value. -/
theorem small {N D : Int} (hD0 : 1 ≤ D) (hD1 : D ≤ 1000000000) (hN0 : -1000000000 ≤ N) (hN1 : N ≤ 1000000000) :
    Make.mkB N D = true ∧ Valid (Make.mkN N D) (Make.mkD N D) ∧ Make.mkN N D * D = N * Make.mkD N D := by
  have ht : Make.Takes N D := ⟨by omega, ⟨by omega, by omega⟩, ⟨by omega, by omega⟩⟩
  have hb := rn_bd N D (by omega)
  have hp := rd_pos N D (by omega)
  have ho : Ok N D := ⟨⟨by omega, by omega⟩, by omega⟩
  obtain ⟨e1, e2, e3⟩ := Make.mk_yes ht
  obtain ⟨f1, f2, f3⟩ := res_yes ho
  rw [e1, e2, e3, f1, f2, f3]
  refine ⟨rfl, (ok_valid N D (by omega)).1 ho, ?_⟩
  have h1 := rn_mul N D
  have h2 := rd_mul N D
  have h3 : sg N D = N := by unfold sg; rw [if_neg (by omega)]
  have h4 : (D.natAbs : Int) = D := by omega
  rw [h3] at h1
  rw [h4] at h2
  generalize rn N D = n at *
  generalize rd N D = d at *
  generalize ((rg N D : Nat) : Int) = g at *
  rw [h1, h2]; ac_rfl

/-- Two quotients over one denominator, added. -/
theorem added {M N D : Int} (hD0 : 1 ≤ D) (hD1 : D ≤ 1000000000) (hM0 : -500000000 ≤ M) (hM1 : M ≤ 500000000) (hN0 : -500000000 ≤ N) (hN1 : N ≤ 500000000)
    (hB : opB (AddMul.Both (Make.mkN M D) (Make.mkD M D) (Make.mkN N D) (Make.mkD N D)) (Make.mkN M D * Make.mkD N D + Make.mkN N D * Make.mkD M D) (Make.mkD M D * Make.mkD N D) = true) :
    opN (AddMul.Both (Make.mkN M D) (Make.mkD M D) (Make.mkN N D) (Make.mkD N D)) (Make.mkN M D * Make.mkD N D + Make.mkN N D * Make.mkD M D) (Make.mkD M D * Make.mkD N D) = Make.mkN (M + N) D ∧
    opD (AddMul.Both (Make.mkN M D) (Make.mkD M D) (Make.mkN N D) (Make.mkD N D)) (Make.mkN M D * Make.mkD N D + Make.mkN N D * Make.mkD M D) (Make.mkD M D * Make.mkD N D) = Make.mkD (M + N) D := by
  obtain ⟨_, v1, q1⟩ := small (N := M) (D := D) hD0 hD1 (by omega) (by omega)
  obtain ⟨_, v2, q2⟩ := small (N := N) (D := D) hD0 hD1 (by omega) (by omega)
  obtain ⟨_, v3, q3⟩ := small (N := M + N) (D := D) hD0 hD1 (by omega) (by omega)
  have hb : AddMul.Both (Make.mkN M D) (Make.mkD M D) (Make.mkN N D) (Make.mkD N D) := ⟨v1, v2⟩
  unfold opN opD
  unfold opB at hB
  rw [if_pos hb] at hB ⊢
  rw [if_pos hb]
  generalize Make.mkN M D = a at *
  generalize Make.mkD M D = b at *
  generalize Make.mkN N D = c at *
  generalize Make.mkD N D = d at *
  have b0 : 1 ≤ b := v1.1.1
  have d0 : 1 ≤ d := v2.1.1
  have hY : 0 < b * d := Int.mul_pos (by omega) (by omega)
  have ho : Ok (a * d + c * b) (b * d) := by unfold resB at hB; exact of_decide_eq_true hB
  obtain ⟨e1, e2, _⟩ := res_yes ho
  rw [e1, e2]
  refine uniq ((ok_valid _ _ (by omega)).1 ho) v3 ?_
  have h1 := rn_mul (a * d + c * b) (b * d)
  have h2 := rd_mul (a * d + c * b) (b * d)
  have h3 : sg (a * d + c * b) (b * d) = a * d + c * b := by unfold sg; rw [if_neg (by omega)]
  have h4 : (((b * d).natAbs : Nat) : Int) = b * d := by omega
  rw [h3] at h1
  rw [h4] at h2
  have gp := rg_pos (a * d + c * b) (b * d) (by omega)
  generalize rn (a * d + c * b) (b * d) = n at *
  generalize rd (a * d + c * b) (b * d) = m at *
  generalize hg : ((rg (a * d + c * b) (b * d) : Nat) : Int) = g at *
  have g0 : 0 < g := by omega
  generalize Make.mkN (M + N) D = x at *
  generalize Make.mkD (M + N) D = y at *
  refine Int.eq_of_mul_eq_mul_right (show (D * g) ≠ 0 from Int.ne_of_gt (Int.mul_pos (by omega) g0)) ?_
  have t1 : n * y * (D * g) = (g * n) * (D * y) := by ac_rfl
  have t2 : (g * n) * (D * y) = (a * d + c * b) * (D * y) := by rw [← h1]
  have t3 : (a * d + c * b) * (D * y) = ((a * D) * d + (c * D) * b) * y := by
    rw [Int.add_mul, Int.add_mul]
    congr 1 <;> ac_rfl
  have t4 : ((a * D) * d + (c * D) * b) * y = ((M * b) * d + (N * d) * b) * y := by rw [q1, q2]
  have t5 : ((M * b) * d + (N * d) * b) * y = ((M + N) * y) * (b * d) := by
    rw [Int.add_mul, Int.add_mul, Int.add_mul]
    congr 1 <;> ac_rfl
  have t6 : ((M + N) * y) * (b * d) = (x * D) * (g * m) := by rw [← q3, ← h2]
  have t7 : (x * D) * (g * m) = x * m * (D * g) := by ac_rfl
  exact t1.trans (t2.trans (t3.trans (t4.trans (t5.trans (t6.trans t7)))))

theorem dcN_bd {a b c : Int} (h : DcOk a b c) (h3 : c ≠ 3) : 0 ≤ dcN a b c ∧ dcN a b c ≤ 20000000 := by
  obtain ⟨ha, hb, hab, c0, c1⟩ := h
  have hw := W_bd hab 100
  unfold Day at ha hb
  unfold dcN
  split
  · omega
  · split
    · omega
    · omega
theorem dcD_bd {c : Int} (_c0 : 1 ≤ c) : 1 ≤ dcD c ∧ dcD c ≤ 1000000 := by
  unfold dcD
  split
  · omega
  · split
    · omega
    · split <;> omega
theorem dcN_add {a m b c : Int} (h3 : c ≠ 3) : dcN a m c + dcN m b c = dcN a b c := by
  unfold dcN
  split
  · omega
  · split
    · omega
    · omega

/-- The two halves of a time that is counted. -/
theorem halves {a b c m : Int} (h : DcI.ansB a b c = true) (h3 : c ≠ 3) (hm0 : a ≤ m) (hm1 : m ≤ b) :
    DcI.ansB a m c = true ∧ DcI.ansB m b c = true ∧
    (opB (AddMul.Both (DcI.ansN a m c) (DcI.ansD a m c) (DcI.ansN m b c) (DcI.ansD m b c)) (DcI.ansN a m c * DcI.ansD m b c + DcI.ansN m b c * DcI.ansD a m c) (DcI.ansD a m c * DcI.ansD m b c) = true →
      opN (AddMul.Both (DcI.ansN a m c) (DcI.ansD a m c) (DcI.ansN m b c) (DcI.ansD m b c)) (DcI.ansN a m c * DcI.ansD m b c + DcI.ansN m b c * DcI.ansD a m c) (DcI.ansD a m c * DcI.ansD m b c) = DcI.ansN a b c ∧
      opD (AddMul.Both (DcI.ansN a m c) (DcI.ansD a m c) (DcI.ansN m b c) (DcI.ansD m b c)) (DcI.ansN a m c * DcI.ansD m b c + DcI.ansN m b c * DcI.ansD a m c) (DcI.ansD a m c * DcI.ansD m b c) = DcI.ansD a b c) := by
  have ok : DcOk a b c := by
    by_cases hh : DcOk a b c
    · exact hh
    · unfold DcI.ansB at h; rw [if_neg hh] at h; cases h
  have ok1 : DcOk a m c := ⟨ok.1, ⟨by have := ok.1.1; omega, by have := ok.2.1.2; omega⟩, hm0, ok.2.2.2⟩
  have ok2 : DcOk m b c := ⟨ok1.2.1, ok.2.1, hm1, ok.2.2.2⟩
  have n1 := dcN_bd ok1 h3
  have n2 := dcN_bd ok2 h3
  have dd := dcD_bd (c := c) ok.2.2.2.1
  unfold DcI.ansB DcI.ansN DcI.ansD
  rw [if_pos ok1, if_pos ok2, if_pos ok1, if_pos ok1, if_pos ok2, if_pos ok2, if_pos ok, if_pos ok, ← dcN_add (a := a) (m := m) (b := b) h3]
  refine ⟨(small (by omega) (by omega) (by omega) (by omega)).1, (small (by omega) (by omega) (by omega) (by omega)).1, fun hB => ?_⟩
  exact added (by omega) (by omega) (by omega) (by omega) (by omega) (by omega) hB

/-- The day behind the last business day of a month lies in another month. -/
theorem last_next {we ho : List Int} {d : Int} (hl : RollI.lastF we ho d = true) :
    Day (RollI.lastV we ho d) ∧ (SeekS.addF we ho (RollI.lastV we ho d) 1 = true → Day (SeekS.addV we ho (RollI.lastV we ho d) 1) ∧
      ¬ (yr (RollI.lastV we ho d) = yr (SeekS.addV we ho (RollI.lastV we ho d) 1) ∧ mo (RollI.lastV we ho d) = mo (SeekS.addV we ho (RollI.lastV we ho d) 1))) := by
  unfold RollI.lastF at hl
  unfold RollI.lastV
  unfold RollI.lastO at *
  by_cases hn : GoodC we ho ∧ Day d
  · rw [if_pos hn] at hl ⊢
    cases hx : seek (opn we ho) (-1) (lastD d - Biz.fst d + 1).toNat (lastD d) with
    | none => rw [hx] at hl; cases hl
    | some x =>
      have hb := fst_bd hn.2
      obtain ⟨j, j1, j2, _, j4⟩ := seek_some hx
      have hxd : Day x := ⟨by omega, by omega⟩
      refine ⟨hxd, fun hf => ?_⟩
      show Day (SeekS.addV we ho x 1) ∧ ¬ (yr x = yr (SeekS.addV we ho x 1) ∧ mo x = mo (SeekS.addV we ho x 1))
      have hf' : (SeekS.addO we ho x 1).isSome = true := hf
      unfold SeekS.addV
      have e : SeekS.addO we ho x 1 = hop (opn we ho) 1 1 x := by
        unfold SeekS.addO
        rw [if_pos ⟨hn.1, hxd, by omega, by omega⟩]
        rfl
      rw [e] at hf' ⊢
      have e2 : hop (opn we ho) 1 1 x = seek (opn we ho) 1 (left 1 (x + 1)) (x + 1) := by
        simp only [hop]
        split <;> rename_i h <;> exact h.symm
      rw [e2] at hf' ⊢
      cases hy : seek (opn we ho) 1 (left 1 (x + 1)) (x + 1) with
      | none => rw [hy] at hf'; cases hf'
      | some y =>
        obtain ⟨i, i1, i2, i3, _⟩ := seek_some hy
        rw [left_up] at i1
        have hyd : Day y := ⟨by have := hxd.1; omega, by omega⟩
        refine ⟨hyd, fun hm => ?_⟩
        show False
        have hmx := (month_iff hn.2 hxd).2 ⟨by omega, by omega⟩
        have hmy := (month_iff hn.2 hyd).1 ⟨hmx.1.trans hm.1, hmx.2.trans hm.2⟩
        have := j4 (lastD d - y).toNat (by omega)
        rw [show lastD d + -1 * ((lastD d - y).toNat : Int) = y by omega, i3] at this
        cases this
  · rw [if_neg hn] at hl; cases hl

end Go.Proofs.YtlpblipgehlniaaDoor.DcAlg
