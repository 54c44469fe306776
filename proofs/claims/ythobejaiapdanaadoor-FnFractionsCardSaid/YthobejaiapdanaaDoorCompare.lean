/-
  What CompareFractions returns, of the model and of the program; the walk of the law FnExactCompareFractions.
-/
import Derived.Test.YthobejaiapdanaaDoorIsFrac
import Derived.Deep.RegionHeld3
namespace Go.Proofs.YthobejaiapdanaaDoor.Compare
open Go.RowKit Go.Proofs.YthobejaiapdanaaDoor.Gcd Go.Proofs.YthobejaiapdanaaDoor.Tz Go.Proofs.YthobejaiapdanaaDoor.Common Go.Proofs.YthobejaiapdanaaDoor.Red Go.Proofs.YthobejaiapdanaaDoor.Amount Go.Proofs.YthobejaiapdanaaDoor.Frac Go.Proofs.YthobejaiapdanaaDoor.Make Go.Proofs.YthobejaiapdanaaDoor.MakeLaw Go.Proofs.YthobejaiapdanaaDoor.IsFrac

def Both (an ad bn bd : Int) : Prop := Valid an ad ∧ Valid bn bd
instance (an ad bn bd : Int) : Decidable (Both an ad bn bd) := inferInstanceAs (Decidable (_ ∧ _))

/-- Which of two fractions is greater. -/
def sign (an ad bn bd : Int) : Int := if an * bd < bn * ad then -1 else if bn * ad < an * bd then 1 else 0
def cmpN (an ad bn bd : Int) : Int := if Both an ad bn bd then sign an ad bn bd else 0
def cmpB (an ad bn bd : Int) : Bool := decide (Both an ad bn bd)
def cmpAns (an ad bn bd : Int) (w : World) (e : Ending) (w' : World) : Prop := e = .returned (.tuple #[.int .i64 (cmpN an ad bn bd), .bool (cmpB an ad bn bd)]) ∧ Below w.heap.size w w'

theorem cmp_yes {an ad bn bd : Int} {w : World} (h : Both an ad bn bd) (s : Int) (hs : sign an ad bn bd = s) :
    cmpAns an ad bn bd w = fun e w' => e = .returned (.tuple #[.int .i64 s, .bool true]) ∧ Below w.heap.size w w' := by
  unfold cmpAns cmpN cmpB; rw [if_pos h, decide_eq_true h, hs]
theorem cmp_no {an ad bn bd : Int} {w : World} (h : ¬ Both an ad bn bd) :
    cmpAns an ad bn bd w = fun e w' => e = .returned (.tuple #[.int .i64 0, .bool false]) ∧ Below w.heap.size w w' := by
  unfold cmpAns cmpN cmpB; rw [if_neg h, decide_eq_false h]

/-- Valid fractions of one value are one fraction. -/
theorem valid_eq {an ad bn bd : Int} (h : Both an ad bn bd) (e : an * bd = bn * ad) : an = bn ∧ ad = bd := by
  obtain ⟨⟨⟨a1, _⟩, _, ga⟩, ⟨⟨b1, _⟩, _, gb⟩⟩ := h
  have hn : an.natAbs * bd.natAbs = bn.natAbs * ad.natAbs := by rw [← Int.natAbs_mul, ← Int.natAbs_mul, e]
  have d1 : ad.natAbs ∣ bd.natAbs := Nat.Coprime.dvd_of_dvd_mul_left (Nat.Coprime.symm ga) (by rw [hn]; exact Nat.dvd_mul_left _ _)
  have d2 : bd.natAbs ∣ ad.natAbs := Nat.Coprime.dvd_of_dvd_mul_left (Nat.Coprime.symm gb) (by rw [← hn]; exact Nat.dvd_mul_left _ _)
  have hd : ad.natAbs = bd.natAbs := Nat.dvd_antisymm d1 d2
  have hd' : ad = bd := by omega
  subst hd'
  exact ⟨Int.eq_of_mul_eq_mul_right (by omega) e, rfl⟩

theorem below2 (w : World) (a b : Obj) : Below w.heap.size w ((w.alloc a).alloc b) := ((Below.refl _ _).alloc (Nat.le_refl _) _).alloc (by simp) _

set_option maxHeartbeats 2000000 in
theorem spec (an ad bn bd : Int) (w : World) :
    Calls Tryd.prog 33 #[.agg #[.int .i64 an, .int .i64 ad], .agg #[.int .i64 bn, .int .i64 bd]] w (cmpAns an ad bn bd w) := by
  have OA0 : Hid (∀ o, One w.heap.size ((w.alloc (.cells #[.int .i64 an, .int .i64 ad] 31)).alloc o) (.int .i64 an) (.int .i64 ad)) := Lib.hid (fun o => (One.new w (.int .i64 an) (.int .i64 ad) 31).alloc o)
  have OB0 : Hid (∀ o, One (w.heap.size + 1) ((w.alloc o).alloc (.cells #[.int .i64 bn, .int .i64 bd] 31)) (.int .i64 bn) (.int .i64 bd)) := Lib.hid (fun o => by
    have h := One.new (w.alloc o) (.int .i64 bn) (.int .i64 bd) 31
    simpa using h)
  by_cases hA : Valid an ad
  · have HA := Lib.hid hA
    by_cases hB : Valid bn bd
    · have HB := Lib.hid hB
      obtain ⟨⟨a1, a2⟩, ⟨a3, a4⟩, _⟩ := hA
      obtain ⟨⟨b1, b2⟩, ⟨b3, b4⟩, _⟩ := hB
      obtain ⟨p1, p2⟩ := mul_bd an bd (by omega) (by omega) (by omega) (by omega)
      obtain ⟨p3, p4⟩ := mul_bd bn ad (by omega) (by omega) (by omega) (by omega)
      have e1 : IntKind.i64.wrap (an * bd) = an * bd := IntWalk.i64_in _ (by omega)
      have e2 : IntKind.i64.wrap (bn * ad) = bn * ad := IntWalk.i64_in _ (by omega)
      have HE := Lib.hid (valid_eq (⟨HA.out, HB.out⟩ : Both an ad bn bd))
      obtain ⟨s, hs⟩ : ∃ s, sign an ad bn bd = s := ⟨_, rfl⟩
      rw [cmp_yes ⟨HA.out, HB.out⟩ s hs]
      have HS := Lib.hid hs
      clear hs
      by_cases hlt : an * bd < bn * ad
      · have h0 : s = -1 := by have := HS.out; unfold sign at this; rw [if_pos hlt] at this; exact this.symm
        clear HE HS
        go_enter Tryd.func33, Tryd.ntmps33
        go_wp2_with (go_at_call 47; refine (fracYesB _ _ HA.out _).mono ?_; rintro e w1 ⟨rfl, hw1⟩; refine Hid.out ?_)
        refine Lib.hid ?_
        have OA1 := Lib.hid ((OA0.out _).below hw1)
        have OB1 := Lib.hid ((OB0.out _).below hw1)
        have HW1 : Hid (Below w.heap.size w w1) := Lib.hid ((below2 w _ _).trans (hw1.mono (by simp; omega)))
        clear hw1
        obtain ⟨lB1, B01, B11, _, _⟩ := OB1.out
        go_wp2_with (go_at_call 47; refine (fracYesB _ _ HB.out w1).mono ?_; rintro e w2 ⟨rfl, hw2⟩; refine Hid.out ?_)
        refine Lib.hid ?_
        have OA2 := Lib.hid (OA1.out.below hw2)
        have OB2 := Lib.hid (OB1.out.below hw2)
        have HW2 : Hid (Below w.heap.size w w2) := Lib.hid (HW1.out.trans (hw2.mono HW1.out.size))
        clear hw2 B01 B11 lB1
        obtain ⟨lA2, A02, A12, _, _⟩ := OA2.out
        obtain ⟨lB2, B02, B12, _, _⟩ := OB2.out
        go_wp2_with fail
        go_quiet (fail)
        go_wp2_with fail
        go_ret2
        subst h0
        exact ⟨rfl, below_drewN HW2.out _⟩
      · by_cases hgt : bn * ad < an * bd
        · have h0 : s = 1 := by have := HS.out; unfold sign at this; rw [if_neg hlt, if_pos hgt] at this; exact this.symm
          clear HE HS
          go_enter Tryd.func33, Tryd.ntmps33
          go_wp2_with (go_at_call 47; refine (fracYesB _ _ HA.out _).mono ?_; rintro e w1 ⟨rfl, hw1⟩; refine Hid.out ?_)
          refine Lib.hid ?_
          have OA1 := Lib.hid ((OA0.out _).below hw1)
          have OB1 := Lib.hid ((OB0.out _).below hw1)
          have HW1 : Hid (Below w.heap.size w w1) := Lib.hid ((below2 w _ _).trans (hw1.mono (by simp; omega)))
          clear hw1
          obtain ⟨lB1, B01, B11, _, _⟩ := OB1.out
          go_wp2_with (go_at_call 47; refine (fracYesB _ _ HB.out w1).mono ?_; rintro e w2 ⟨rfl, hw2⟩; refine Hid.out ?_)
          refine Lib.hid ?_
          have OA2 := Lib.hid (OA1.out.below hw2)
          have OB2 := Lib.hid (OB1.out.below hw2)
          have HW2 : Hid (Below w.heap.size w w2) := Lib.hid (HW1.out.trans (hw2.mono HW1.out.size))
          clear hw2 B01 B11 lB1
          obtain ⟨lA2, A02, A12, _, _⟩ := OA2.out
          obtain ⟨lB2, B02, B12, _, _⟩ := OB2.out
          go_wp2_with fail
          go_quiet (fail)
          go_wp2_with fail
          go_ret2
          subst h0
          exact ⟨rfl, below_drewN HW2.out _⟩
        · have h0 : s = 0 := by have := HS.out; unfold sign at this; rw [if_neg hlt, if_neg hgt] at this; exact this.symm
          clear HE HS
          go_enter Tryd.func33, Tryd.ntmps33
          go_wp2_with (go_at_call 47; refine (fracYesB _ _ HA.out _).mono ?_; rintro e w1 ⟨rfl, hw1⟩; refine Hid.out ?_)
          refine Lib.hid ?_
          have OA1 := Lib.hid ((OA0.out _).below hw1)
          have OB1 := Lib.hid ((OB0.out _).below hw1)
          have HW1 : Hid (Below w.heap.size w w1) := Lib.hid ((below2 w _ _).trans (hw1.mono (by simp; omega)))
          clear hw1
          obtain ⟨lB1, B01, B11, _, _⟩ := OB1.out
          go_wp2_with (go_at_call 47; refine (fracYesB _ _ HB.out w1).mono ?_; rintro e w2 ⟨rfl, hw2⟩; refine Hid.out ?_)
          refine Lib.hid ?_
          have OA2 := Lib.hid (OA1.out.below hw2)
          have OB2 := Lib.hid (OB1.out.below hw2)
          have HW2 : Hid (Below w.heap.size w w2) := Lib.hid (HW1.out.trans (hw2.mono HW1.out.size))
          clear hw2 B01 B11 lB1
          obtain ⟨lA2, A02, A12, _, _⟩ := OA2.out
          obtain ⟨lB2, B02, B12, _, _⟩ := OB2.out
          go_wp2_with fail
          go_quiet (fail)
          go_wp2_with fail
          go_ret2
          subst h0
          exact ⟨rfl, below_drewN HW2.out _⟩
    · have HB := Lib.hid hB
      rw [cmp_no (fun h => hB h.2)]
      clear hA hB
      go_enter Tryd.func33, Tryd.ntmps33
      go_wp2_with (go_at_call 47; refine (fracYesB an ad HA.out _).mono ?_; rintro e w1 ⟨rfl, hw1⟩; refine Hid.out ?_)
      refine Lib.hid ?_
      have OB1 := Lib.hid ((OB0.out _).below hw1)
      have HW1 : Hid (Below w.heap.size w w1) := Lib.hid ((below2 w _ _).trans (hw1.mono (by simp; omega)))
      clear hw1
      obtain ⟨lB1, B01, B11, _, _⟩ := OB1.out
      go_wp2_with (go_at_call 47; refine (fracNoB bn bd HB.out w1).mono ?_; rintro e w2 ⟨rfl, hw2⟩)
      go_ret2
      exact ⟨rfl, HW1.out.trans (hw2.mono HW1.out.size)⟩
  · have HA := Lib.hid hA
    rw [cmp_no (fun h => hA h.1)]
    clear hA
    go_enter Tryd.func33, Tryd.ntmps33
    go_wp2_with (go_at_call 47; refine (fracNoB an ad HA.out _).mono ?_; rintro e w1 ⟨rfl, hw1⟩)
    go_ret2
    exact ⟨rfl, (below2 w _ _).trans (hw1.mono (by simp; omega))⟩

set_option maxHeartbeats 2000000 in
theorem impl (an ad bn bd : Int) (w : World) (hT : Tab w) :
    Calls Tryd.prog 25 #[.agg #[.int .i64 an, .int .i64 ad], .agg #[.int .i64 bn, .int .i64 bd]] w (cmpAns an ad bn bd w) := by
  have HT := Lib.hid hT
  clear hT
  have OA0 : Hid (∀ o, One w.heap.size ((w.alloc (.cells #[.int .i64 an, .int .i64 ad] 31)).alloc o) (.int .i64 an) (.int .i64 ad)) := Lib.hid (fun o => (One.new w (.int .i64 an) (.int .i64 ad) 31).alloc o)
  have OB0 : Hid (∀ o, One (w.heap.size + 1) ((w.alloc o).alloc (.cells #[.int .i64 bn, .int .i64 bd] 31)) (.int .i64 bn) (.int .i64 bd)) := Lib.hid (fun o => by
    have h := One.new (w.alloc o) (.int .i64 bn) (.int .i64 bd) 31
    simpa using h)
  by_cases hA : Valid an ad
  · have HA := Lib.hid hA
    by_cases hB : Valid bn bd
    · have HB := Lib.hid hB
      obtain ⟨⟨a1, a2⟩, ⟨a3, a4⟩, _⟩ := hA
      obtain ⟨⟨b1, b2⟩, ⟨b3, b4⟩, _⟩ := hB
      obtain ⟨p1, p2⟩ := mul_bd an bd (by omega) (by omega) (by omega) (by omega)
      obtain ⟨p3, p4⟩ := mul_bd bn ad (by omega) (by omega) (by omega) (by omega)
      have e1 : IntKind.i64.wrap (an * bd) = an * bd := IntWalk.i64_in _ (by omega)
      have e2 : IntKind.i64.wrap (bn * ad) = bn * ad := IntWalk.i64_in _ (by omega)
      have HE := Lib.hid (valid_eq (⟨HA.out, HB.out⟩ : Both an ad bn bd))
      obtain ⟨s, hs⟩ : ∃ s, sign an ad bn bd = s := ⟨_, rfl⟩
      rw [cmp_yes ⟨HA.out, HB.out⟩ s hs]
      have HS := Lib.hid hs
      clear hs
      by_cases h1 : an = bn
      · subst h1
        by_cases h2 : ad = bd
        · subst h2
          have h0 : s = 0 := by have := HS.out; unfold sign at this; rw [if_neg (by omega), if_neg (by omega)] at this; exact this.symm
          clear HE HS
          go_enter Tryd.func25, Tryd.ntmps25
          go_wp2_with (go_at_call 44; refine (isYes _ _ HA.out _ (Tz.Tab.below HT.out (below2 w _ _))).mono ?_; rintro e w1 ⟨rfl, hw1⟩; refine Hid.out ?_)
          refine Lib.hid ?_
          have OA1 := Lib.hid ((OA0.out _).below hw1)
          have OB1 := Lib.hid ((OB0.out _).below hw1)
          have HW1 : Hid (Below w.heap.size w w1) := Lib.hid ((below2 w _ _).trans (hw1.mono (by simp; omega)))
          clear hw1
          obtain ⟨lB1, B01, B11, _, _⟩ := OB1.out
          go_wp2_with (go_at_call 44; refine (isYes _ _ HB.out w1 (Tz.Tab.below HT.out HW1.out)).mono ?_; rintro e w2 ⟨rfl, hw2⟩; refine Hid.out ?_)
          refine Lib.hid ?_
          have OA2 := Lib.hid (OA1.out.below hw2)
          have OB2 := Lib.hid (OB1.out.below hw2)
          have HW2 : Hid (Below w.heap.size w w2) := Lib.hid (HW1.out.trans (hw2.mono HW1.out.size))
          clear hw2 B01 B11 lB1
          obtain ⟨lA2, A02, A12, _, _⟩ := OA2.out
          obtain ⟨lB2, B02, B12, _, _⟩ := OB2.out
          go_wp2_with fail
          go_ret2
          subst h0
          exact ⟨rfl, HW2.out⟩
        · have hne : (ad == bd) = false := by simpa using h2
          have heq : ¬ an * bd = an * ad := fun h => h2 (HE.out h).2
          by_cases hlt : an * bd < an * ad
          · have h0 : s = -1 := by have := HS.out; unfold sign at this; rw [if_pos hlt] at this; exact this.symm
            clear HE HS heq
            go_enter Tryd.func25, Tryd.ntmps25
            go_wp2_with (go_at_call 44; refine (isYes _ _ HA.out _ (Tz.Tab.below HT.out (below2 w _ _))).mono ?_; rintro e w1 ⟨rfl, hw1⟩; refine Hid.out ?_)
            refine Lib.hid ?_
            have OA1 := Lib.hid ((OA0.out _).below hw1)
            have OB1 := Lib.hid ((OB0.out _).below hw1)
            have HW1 : Hid (Below w.heap.size w w1) := Lib.hid ((below2 w _ _).trans (hw1.mono (by simp; omega)))
            clear hw1
            obtain ⟨lB1, B01, B11, _, _⟩ := OB1.out
            go_wp2_with (go_at_call 44; refine (isYes _ _ HB.out w1 (Tz.Tab.below HT.out HW1.out)).mono ?_; rintro e w2 ⟨rfl, hw2⟩; refine Hid.out ?_)
            refine Lib.hid ?_
            have OA2 := Lib.hid (OA1.out.below hw2)
            have OB2 := Lib.hid (OB1.out.below hw2)
            have HW2 : Hid (Below w.heap.size w w2) := Lib.hid (HW1.out.trans (hw2.mono HW1.out.size))
            clear hw2 B01 B11 lB1
            obtain ⟨lA2, A02, A12, _, _⟩ := OA2.out
            obtain ⟨lB2, B02, B12, _, _⟩ := OB2.out
            go_wp2_with fail
            go_ret2
            subst h0
            exact ⟨rfl, HW2.out⟩
          · have h0 : s = 1 := by have := HS.out; unfold sign at this; rw [if_neg hlt, if_pos (by omega)] at this; exact this.symm
            clear HE HS heq
            go_enter Tryd.func25, Tryd.ntmps25
            go_wp2_with (go_at_call 44; refine (isYes _ _ HA.out _ (Tz.Tab.below HT.out (below2 w _ _))).mono ?_; rintro e w1 ⟨rfl, hw1⟩; refine Hid.out ?_)
            refine Lib.hid ?_
            have OA1 := Lib.hid ((OA0.out _).below hw1)
            have OB1 := Lib.hid ((OB0.out _).below hw1)
            have HW1 : Hid (Below w.heap.size w w1) := Lib.hid ((below2 w _ _).trans (hw1.mono (by simp; omega)))
            clear hw1
            obtain ⟨lB1, B01, B11, _, _⟩ := OB1.out
            go_wp2_with (go_at_call 44; refine (isYes _ _ HB.out w1 (Tz.Tab.below HT.out HW1.out)).mono ?_; rintro e w2 ⟨rfl, hw2⟩; refine Hid.out ?_)
            refine Lib.hid ?_
            have OA2 := Lib.hid (OA1.out.below hw2)
            have OB2 := Lib.hid (OB1.out.below hw2)
            have HW2 : Hid (Below w.heap.size w w2) := Lib.hid (HW1.out.trans (hw2.mono HW1.out.size))
            clear hw2 B01 B11 lB1
            obtain ⟨lA2, A02, A12, _, _⟩ := OA2.out
            obtain ⟨lB2, B02, B12, _, _⟩ := OB2.out
            go_wp2_with fail
            go_ret2
            subst h0
            exact ⟨rfl, HW2.out⟩
      · have hne : (an == bn) = false := by simpa using h1
        have heq : ¬ an * bd = bn * ad := fun h => h1 (HE.out h).1
        by_cases hlt : an * bd < bn * ad
        · have h0 : s = -1 := by have := HS.out; unfold sign at this; rw [if_pos hlt] at this; exact this.symm
          clear HE HS heq
          go_enter Tryd.func25, Tryd.ntmps25
          go_wp2_with (go_at_call 44; refine (isYes _ _ HA.out _ (Tz.Tab.below HT.out (below2 w _ _))).mono ?_; rintro e w1 ⟨rfl, hw1⟩; refine Hid.out ?_)
          refine Lib.hid ?_
          have OA1 := Lib.hid ((OA0.out _).below hw1)
          have OB1 := Lib.hid ((OB0.out _).below hw1)
          have HW1 : Hid (Below w.heap.size w w1) := Lib.hid ((below2 w _ _).trans (hw1.mono (by simp; omega)))
          clear hw1
          obtain ⟨lB1, B01, B11, _, _⟩ := OB1.out
          go_wp2_with (go_at_call 44; refine (isYes _ _ HB.out w1 (Tz.Tab.below HT.out HW1.out)).mono ?_; rintro e w2 ⟨rfl, hw2⟩; refine Hid.out ?_)
          refine Lib.hid ?_
          have OA2 := Lib.hid (OA1.out.below hw2)
          have OB2 := Lib.hid (OB1.out.below hw2)
          have HW2 : Hid (Below w.heap.size w w2) := Lib.hid (HW1.out.trans (hw2.mono HW1.out.size))
          clear hw2 B01 B11 lB1
          obtain ⟨lA2, A02, A12, _, _⟩ := OA2.out
          obtain ⟨lB2, B02, B12, _, _⟩ := OB2.out
          go_wp2_with fail
          go_ret2
          subst h0
          exact ⟨rfl, HW2.out⟩
        · have h0 : s = 1 := by have := HS.out; unfold sign at this; rw [if_neg hlt, if_pos (by omega)] at this; exact this.symm
          clear HE HS heq
          go_enter Tryd.func25, Tryd.ntmps25
          go_wp2_with (go_at_call 44; refine (isYes _ _ HA.out _ (Tz.Tab.below HT.out (below2 w _ _))).mono ?_; rintro e w1 ⟨rfl, hw1⟩; refine Hid.out ?_)
          refine Lib.hid ?_
          have OA1 := Lib.hid ((OA0.out _).below hw1)
          have OB1 := Lib.hid ((OB0.out _).below hw1)
          have HW1 : Hid (Below w.heap.size w w1) := Lib.hid ((below2 w _ _).trans (hw1.mono (by simp; omega)))
          clear hw1
          obtain ⟨lB1, B01, B11, _, _⟩ := OB1.out
          go_wp2_with (go_at_call 44; refine (isYes _ _ HB.out w1 (Tz.Tab.below HT.out HW1.out)).mono ?_; rintro e w2 ⟨rfl, hw2⟩; refine Hid.out ?_)
          refine Lib.hid ?_
          have OA2 := Lib.hid (OA1.out.below hw2)
          have OB2 := Lib.hid (OB1.out.below hw2)
          have HW2 : Hid (Below w.heap.size w w2) := Lib.hid (HW1.out.trans (hw2.mono HW1.out.size))
          clear hw2 B01 B11 lB1
          obtain ⟨lA2, A02, A12, _, _⟩ := OA2.out
          obtain ⟨lB2, B02, B12, _, _⟩ := OB2.out
          go_wp2_with fail
          go_ret2
          subst h0
          exact ⟨rfl, HW2.out⟩
    · have HB := Lib.hid hB
      rw [cmp_no (fun h => hB h.2)]
      clear hA hB
      go_enter Tryd.func25, Tryd.ntmps25
      go_wp2_with (go_at_call 44; refine (isYes an ad HA.out _ (Tz.Tab.below HT.out (below2 w _ _))).mono ?_; rintro e w1 ⟨rfl, hw1⟩; refine Hid.out ?_)
      refine Lib.hid ?_
      have OB1 := Lib.hid ((OB0.out _).below hw1)
      have HW1 : Hid (Below w.heap.size w w1) := Lib.hid ((below2 w _ _).trans (hw1.mono (by simp; omega)))
      clear hw1
      obtain ⟨lB1, B01, B11, _, _⟩ := OB1.out
      go_wp2_with (go_at_call 44; refine (isNo bn bd HB.out w1 (Tz.Tab.below HT.out HW1.out)).mono ?_; rintro e w2 ⟨rfl, hw2⟩)
      go_ret2
      exact ⟨rfl, HW1.out.trans (hw2.mono HW1.out.size)⟩
  · have HA := Lib.hid hA
    rw [cmp_no (fun h => hA h.1)]
    clear hA
    go_enter Tryd.func25, Tryd.ntmps25
    go_wp2_with (go_at_call 44; refine (isNo an ad HA.out _ (Tz.Tab.below HT.out (below2 w _ _))).mono ?_; rintro e w1 ⟨rfl, hw1⟩)
    go_ret2
    exact ⟨rfl, (below2 w _ _).trans (hw1.mono (by simp; omega))⟩

end Go.Proofs.YthobejaiapdanaaDoor.Compare
