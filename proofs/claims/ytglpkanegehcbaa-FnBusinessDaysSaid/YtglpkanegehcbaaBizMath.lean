/-
  Adding n business days passes n of them; a joined calendar is open where both are.
-/
import Derived.Test.YtglpkanegehcbaaSeekS
import Derived.Test.YtglpkanegehcbaaUniMath
namespace Go.Proofs.Ytglpkanegehcbaa.BizMath
open Go.RowKit Go.Proofs.Ytglpkanegehcbaa.IRow Go.Proofs.Ytglpkanegehcbaa.Cal Go.Proofs.Ytglpkanegehcbaa.Biz Go.Proofs.Ytglpkanegehcbaa.Asc Go.Proofs.Ytglpkanegehcbaa.CalLaw Go.Proofs.Ytglpkanegehcbaa.Opn Go.Proofs.Ytglpkanegehcbaa.IsBiz Go.Proofs.Ytglpkanegehcbaa.SeekS Go.Proofs.Ytglpkanegehcbaa.UniMath

theorem cnt_split (p : Int → Bool) (d : Int) (a : Nat) : ∀ b : Nat, cnt p d (a + b) = cnt p d a + cnt p (d + a) b := by
  intro b
  induction b with
  | zero => simp [cnt]
  | succ b ih =>
    rw [show a + (b + 1) = (a + b) + 1 by omega]
    simp only [cnt]
    rw [ih, show d + ((a + b : Nat) : Int) = d + a + b by omega]
    omega
theorem cnt_zero {p : Int → Bool} {a : Int} : ∀ k : Nat, (∀ i : Nat, i < k → p (a + i) = false) → cnt p a k = 0 := by
  intro k
  induction k with
  | zero => intro _; rfl
  | succ k ih =>
    intro h
    rw [cnt_no (h k (by omega))]
    exact ih fun i hi => h i (by omega)

theorem hop_count (p : Int → Bool) : ∀ (n : Nat) (d x : Int), hop p 1 n d = some x → d ≤ x ∧ cnt p (d + 1) (x - d).toNat = n := by
  intro n
  induction n with
  | zero =>
    intro d x h
    simp only [hop] at h
    injection h with h
    subst h
    exact ⟨Int.le_refl _, by simp [cnt]⟩
  | succ n ih =>
    intro d x h
    cases hk : seek p 1 (left 1 (d + 1)) (d + 1) with
    | none => rw [hop_none_up hk] at h; cases h
    | some y =>
      rw [hop_some_up hk] at h
      obtain ⟨h1, h2⟩ := ih y x h
      obtain ⟨j, _, j2, j3, j4⟩ := seek_some hk
      refine ⟨by omega, ?_⟩
      rw [show (x - d).toNat = (j + 1) + (x - y).toNat by omega, cnt_split, show d + 1 + ((j + 1 : Nat) : Int) = y + 1 by omega, h2]
      have e : p (d + 1 + (j : Int)) = true := by rw [show d + 1 + (j : Int) = y by omega]; exact j3
      rw [cnt_yes e, cnt_zero j (fun i hi => by have := j4 i hi; rwa [show d + 1 + 1 * (i : Int) = d + 1 + i by omega] at this)]
      omega

theorem added {we ho : List Int} {d n : Int} (h : addF we ho d n = true) (hn : 0 < n) (hv : addV we ho d n < 36524) :
    0 ≤ addV we ho d n ∧ cntV we ho (d + 1) (addV we ho d n + 1) = n ∧ cntF we ho (d + 1) (addV we ho d n + 1) = true := by
  unfold addF at h
  unfold addV at *
  unfold addO at *
  by_cases hk : AddOk we ho d n
  · rw [if_pos hk] at *
    unfold addT at *
    rw [if_neg (by omega), if_pos hn] at *
    obtain ⟨hg, hd, _, _⟩ := hk
    cases hx : hop (opn we ho) 1 n.toNat d with
    | none => rw [hx] at h; cases h
    | some x =>
      rw [hx] at hv
      simp only [Option.getD_some] at hv ⊢
      obtain ⟨h1, h2⟩ := hop_count _ _ _ _ hx
      have d0 := hd.1
      have ok : CntOk we ho (d + 1) (x + 1) := ⟨hg, ⟨by omega, by omega⟩, ⟨by omega, by omega⟩, by omega⟩
      unfold cntV cntF
      rw [if_pos ok, decide_eq_true ok]
      refine ⟨by omega, ?_, rfl⟩
      rw [show (x + 1 - (d + 1)).toNat = (x - d).toNat by omega, h2]
      omega
  · rw [if_neg hk] at h; cases h

theorem contains_uni (a b : List Int) (x : Int) : (uni a b).contains x = (a.contains x || b.contains x) := by
  rw [Bool.eq_iff_iff]
  simp [mem_uni]
theorem opn_uni (we we' ho ho' : List Int) (d : Int) : opn (uni we we') (uni ho ho') d = (opn we ho d && opn we' ho' d) := by
  unfold opn
  rw [contains_uni, contains_uni]
  cases we.contains ((d + 5) % 7) <;> cases we'.contains ((d + 5) % 7) <;> cases ho.contains d <;> cases ho'.contains d <;> rfl

theorem joined {we ho we' ho' : List Int} (hg : GoodC we ho) (hg' : GoodC we' ho') (hj : GoodC (uni we we') (uni ho ho')) (d : Int) :
    bizF we' ho' d = bizF we ho d ∧ bizF (uni we we') (uni ho ho') d = bizF we ho d ∧ bizB (uni we we') (uni ho ho') d = (bizB we ho d && bizB we' ho' d) := by
  unfold bizF bizB
  rw [opn_uni]
  have e1 : decide (GoodC we ho ∧ Day d) = decide (Day d) := by simp [hg]
  have e2 : decide (GoodC we' ho' ∧ Day d) = decide (Day d) := by simp [hg']
  have e3 : decide (GoodC (uni we we') (uni ho ho') ∧ Day d) = decide (Day d) := by simp [hj]
  rw [e1, e2, e3]
  refine ⟨rfl, rfl, ?_⟩
  cases decide (Day d) <;> cases opn we ho d <;> cases opn we' ho' d <;> rfl

end Go.Proofs.Ytglpkanegehcbaa.BizMath
