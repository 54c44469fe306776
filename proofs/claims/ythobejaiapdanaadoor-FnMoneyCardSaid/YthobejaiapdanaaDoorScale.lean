/-
  What ScaleAmount returns, of the model and of the program; the walk of the law FnExactScaleAmount.
-/
import Derived.Test.YthobejaiapdanaaDoorRound
namespace Go.Proofs.YthobejaiapdanaaDoor.Scale
open Go.RowKit Go.Proofs.YthobejaiapdanaaDoor.Gcd Go.Proofs.YthobejaiapdanaaDoor.Tz Go.Proofs.YthobejaiapdanaaDoor.Common Go.Proofs.YthobejaiapdanaaDoor.Red Go.Proofs.YthobejaiapdanaaDoor.Amount Go.Proofs.YthobejaiapdanaaDoor.Frac Go.Proofs.YthobejaiapdanaaDoor.Make Go.Proofs.YthobejaiapdanaaDoor.MakeLaw Go.Proofs.YthobejaiapdanaaDoor.IsFrac Go.Proofs.YthobejaiapdanaaDoor.Round

/-- ScaleAmount takes its arguments. -/
def Takes (x fn fd mode : Int) : Prop := Amt x ∧ Valid fn fd ∧ (1 ≤ mode ∧ mode ≤ 4)
instance (x fn fd mode : Int) : Decidable (Takes x fn fd mode) := inferInstanceAs (Decidable (_ ∧ _))

/-- The rounded quotient, with its sign. -/
def rnd (n d mode : Int) : Int := if n < 0 then -((rndN n.natAbs d.natAbs mode : Nat) : Int) else ((rndN n.natAbs d.natAbs mode : Nat) : Int)

def Ok (x fn fd mode : Int) : Prop := Takes x fn fd mode ∧ Amt (rnd (x * fn) fd mode)
instance (x fn fd mode : Int) : Decidable (Ok x fn fd mode) := inferInstanceAs (Decidable (_ ∧ _))
def scN (x fn fd mode : Int) : Int := if Ok x fn fd mode then rnd (x * fn) fd mode else 0
def scB (x fn fd mode : Int) : Bool := decide (Ok x fn fd mode)
def scAns (x fn fd mode : Int) (w : World) (e : Ending) (w' : World) : Prop := e = .returned (.tuple #[.int .i64 (scN x fn fd mode), .bool (scB x fn fd mode)]) ∧ Below w.heap.size w w'

theorem sc_yes {x fn fd mode : Int} {w : World} (h : Ok x fn fd mode) :
    scAns x fn fd mode w = fun e w' => e = .returned (.tuple #[.int .i64 (rnd (x * fn) fd mode), .bool true]) ∧ Below w.heap.size w w' := by
  unfold scAns scN scB; rw [if_pos h, decide_eq_true h]
theorem sc_no {x fn fd mode : Int} {w : World} (h : ¬ Ok x fn fd mode) :
    scAns x fn fd mode w = fun e w' => e = .returned (.tuple #[.int .i64 0, .bool false]) ∧ Below w.heap.size w w' := by
  unfold scAns scN scB; rw [if_neg h, decide_eq_false h]

theorem below1 (w : World) (a : Obj) : Below w.heap.size w (w.alloc a) := (Below.refl _ _).alloc (Nat.le_refl _) _

/-- The model's rounding, at either sign. -/
theorem specRnd (n d mode : Int) (hn0 : -1000000000000000000 ≤ n) (hn1 : n ≤ 1000000000000000000) (hd0 : 1 ≤ d) (hd : d ≤ 1000000000) (hm : 1 ≤ mode ∧ mode ≤ 4) (w : World) :
    Calls Tryd.prog 49 #[.int .i64 n, .int .i64 d, .int .i64 mode] w fun e w' => e = .returned (.int .i64 (rnd n d mode)) ∧ ∃ m, w' = w.drewN m := by
  obtain ⟨D, rfl⟩ : ∃ D : Nat, d = D := ⟨d.toNat, by omega⟩
  unfold rnd
  by_cases h : n < 0
  · rw [if_pos h]
    have e : n = -((n.natAbs : Nat) : Int) := by omega
    have := l2RoundNeg n.natAbs D mode (by omega) (by omega) (by omega) hm (by omega) w
    rw [← e] at this
    exact this
  · rw [if_neg h]
    have e : n = ((n.natAbs : Nat) : Int) := by omega
    have := l2RoundPos n.natAbs D mode (by omega) (by omega) (by omega) hm w
    rw [← e] at this
    exact this

/-- The program's rounding, at either sign. -/
theorem implRnd (n d mode : Int) (hn0 : -1000000000000000000 ≤ n) (hn1 : n ≤ 1000000000000000000) (hd0 : 1 ≤ d) (hd : d ≤ 1000000000) (hm : 1 ≤ mode ∧ mode ≤ 4) (w : World) :
    Calls Tryd.prog 45 #[.int .i64 n, .int .i64 d, .int .i64 mode] w fun e w' => e = .returned (.tuple #[.int .i64 (rnd n d mode), .bool true]) ∧ w = w' := by
  obtain ⟨D, rfl⟩ : ∃ D : Nat, d = D := ⟨d.toNat, by omega⟩
  unfold rnd
  by_cases h : n < 0
  · rw [if_pos h]
    have e : n = -((n.natAbs : Nat) : Int) := by omega
    have := quotNeg n.natAbs D mode (by omega) (by omega) (by omega) hm (by omega) w
    rw [← e] at this
    exact this
  · rw [if_neg h]
    have e : n = ((n.natAbs : Nat) : Int) := by omega
    have := quotPos n.natAbs D mode (by omega) (by omega) (by omega) hm w
    rw [← e] at this
    exact this

theorem implBad (n d mode : Int) (hm : mode < 1 ∨ 4 < mode) (w : World) :
    Calls Tryd.prog 45 #[.int .i64 n, .int .i64 d, .int .i64 mode] w fun e w' => e = .returned (.tuple #[.int .i64 0, .bool false]) ∧ w = w' := by
  by_cases h : mode < 1
  · clear hm
    go_enter Tryd.func45, Tryd.ntmps45
    go_wp2
    go_ret2
    exact ⟨rfl, rfl⟩
  · have h4 : 4 < mode := by omega
    clear hm
    go_enter Tryd.func45, Tryd.ntmps45
    go_wp2
    go_ret2
    exact ⟨rfl, rfl⟩

set_option maxHeartbeats 2000000 in
theorem spec (x fn fd mode : Int) (w : World) :
    Calls Tryd.prog 19 #[.int .i64 x, .agg #[.int .i64 fn, .int .i64 fd], .int .i64 mode] w (scAns x fn fd mode w) := by
  by_cases hX : Amt x
  · have HX := Lib.hid hX
    by_cases hF : Valid fn fd
    · have HF := Lib.hid hF
      obtain ⟨x0, x1⟩ := hX
      obtain ⟨⟨d0, d1⟩, ⟨n0, n1⟩, _⟩ := hF
      obtain ⟨p1, p2⟩ := mul_bd x fn (by omega) (by omega) (by omega) (by omega)
      by_cases hM : 1 ≤ mode ∧ mode ≤ 4
      · have HR := Lib.hid (specRnd (x * fn) fd mode p1 p2 d0 d1 hM)
        have HO : Hid (Ok x fn fd mode ↔ Amt (rnd (x * fn) fd mode)) := Lib.hid ⟨fun h => h.2, fun h => ⟨⟨HX.out, HF.out, hM⟩, h⟩⟩
        obtain ⟨m1, m4⟩ := hM
        by_cases hR : Amt (rnd (x * fn) fd mode)
        · rw [sc_yes (HO.out.2 hR)]
          have HA := Lib.hid hR
          clear HO hR
          generalize rnd (x * fn) fd mode = res at *
          go_enter Tryd.func19, Tryd.ntmps19
          go_wp2_with (first
            | (go_at_call 46; (with_reducible refine (Amount.specYes x HX.out _).mono ?_); rintro e w' ⟨rfl, rfl⟩)
            | (go_at_call 47; refine (fracYesB fn fd HF.out _).mono ?_; rintro e w1 ⟨rfl, hw1⟩; refine Hid.out ?_))
          refine Lib.hid ?_
          have HW1 : Hid (Below w.heap.size w w1) := Lib.hid ((below1 w _).trans (hw1.mono (by simp)))
          obtain ⟨lA, A0, A1, _, _⟩ := (One.new w (.int .i64 fn) (.int .i64 fd) 31).below hw1
          clear hw1
          go_wp2_with (first
            | (go_at_call 48; refine (l1In_true _ _ _ (by omega) (by omega) _).mono ?_; rintro e w' ⟨rfl, rfl⟩)
            | (go_at_call 49; refine (HR.out _).mono ?_; rintro e w' ⟨rfl, m, rfl⟩)
            | (go_at_call 46; (with_reducible refine (Amount.specYes res HA.out _).mono ?_); rintro e w' ⟨rfl, rfl⟩))
          go_ret2
          exact ⟨rfl, below_drewN HW1.out _⟩
        · rw [sc_no (fun h => hR (HO.out.1 h))]
          have HA := Lib.hid hR
          clear HO hR
          generalize rnd (x * fn) fd mode = res at *
          go_enter Tryd.func19, Tryd.ntmps19
          go_wp2_with (first
            | (go_at_call 46; (with_reducible refine (Amount.specYes x HX.out _).mono ?_); rintro e w' ⟨rfl, rfl⟩)
            | (go_at_call 47; refine (fracYesB fn fd HF.out _).mono ?_; rintro e w1 ⟨rfl, hw1⟩; refine Hid.out ?_))
          refine Lib.hid ?_
          have HW1 : Hid (Below w.heap.size w w1) := Lib.hid ((below1 w _).trans (hw1.mono (by simp)))
          obtain ⟨lA, A0, A1, _, _⟩ := (One.new w (.int .i64 fn) (.int .i64 fd) 31).below hw1
          clear hw1
          go_wp2_with (first
            | (go_at_call 48; refine (l1In_true _ _ _ (by omega) (by omega) _).mono ?_; rintro e w' ⟨rfl, rfl⟩)
            | (go_at_call 49; refine (HR.out _).mono ?_; rintro e w' ⟨rfl, m, rfl⟩)
            | (go_at_call 46; (with_reducible refine (Amount.specNo res HA.out _).mono ?_); rintro e w' ⟨rfl, rfl⟩))
          go_ret2
          exact ⟨rfl, below_drewN HW1.out _⟩
      · rw [sc_no (fun h => hM h.1.2.2)]
        have hM' : mode < 1 ∨ 4 < mode := by omega
        clear hM
        go_enter Tryd.func19, Tryd.ntmps19
        go_wp2_with (first
          | (go_at_call 46; (with_reducible refine (Amount.specYes x HX.out _).mono ?_); rintro e w' ⟨rfl, rfl⟩)
          | (go_at_call 47; refine (fracYesB fn fd HF.out _).mono ?_; rintro e w1 ⟨rfl, hw1⟩; refine Hid.out ?_))
        refine Lib.hid ?_
        have HW1 : Hid (Below w.heap.size w w1) := Lib.hid ((below1 w _).trans (hw1.mono (by simp)))
        obtain ⟨lA, A0, A1, _, _⟩ := (One.new w (.int .i64 fn) (.int .i64 fd) 31).below hw1
        clear hw1
        go_wp2_with (go_at_call 48; refine (l1In_false _ _ _ hM' _).mono ?_; rintro e w' ⟨rfl, rfl⟩)
        go_ret2
        exact ⟨rfl, HW1.out⟩
    · rw [sc_no (fun h => hF h.1.2.1)]
      have HF := Lib.hid hF
      clear hF hX
      go_enter Tryd.func19, Tryd.ntmps19
      go_wp2_with (first
        | (go_at_call 46; (with_reducible refine (Amount.specYes x HX.out _).mono ?_); rintro e w' ⟨rfl, rfl⟩)
        | (go_at_call 47; refine (fracNoB fn fd HF.out _).mono ?_; rintro e w1 ⟨rfl, hw1⟩; refine Hid.out ?_))
      refine Lib.hid ?_
      have HW1 : Hid (Below w.heap.size w w1) := Lib.hid ((below1 w _).trans (hw1.mono (by simp)))
      obtain ⟨lA, A0, A1, _, _⟩ := (One.new w (.int .i64 fn) (.int .i64 fd) 31).below hw1
      clear hw1
      go_wp2_with fail
      go_ret2
      exact ⟨rfl, HW1.out⟩
  · rw [sc_no (fun h => hX h.1.1)]
    have HX := Lib.hid hX
    clear hX
    go_enter Tryd.func19, Tryd.ntmps19
    go_wp2_with (go_at_call 46; (with_reducible refine (Amount.specNo x HX.out _).mono ?_); rintro e w' ⟨rfl, rfl⟩)
    go_ret2
    exact ⟨rfl, below1 w _⟩

set_option maxHeartbeats 2000000 in
theorem impl (x fn fd mode : Int) (w : World) (hT : Tab w) :
    Calls Tryd.prog 18 #[.int .i64 x, .agg #[.int .i64 fn, .int .i64 fd], .int .i64 mode] w (scAns x fn fd mode w) := by
  have HT := Lib.hid hT
  clear hT
  by_cases hX : Amt x
  · have HX := Lib.hid hX
    by_cases hF : Valid fn fd
    · have HF := Lib.hid hF
      obtain ⟨x0, x1⟩ := hX
      obtain ⟨⟨d0, d1⟩, ⟨n0, n1⟩, _⟩ := hF
      obtain ⟨p1, p2⟩ := mul_bd x fn (by omega) (by omega) (by omega) (by omega)
      by_cases hM : 1 ≤ mode ∧ mode ≤ 4
      · have HR := Lib.hid (implRnd (x * fn) fd mode p1 p2 d0 d1 hM)
        have HO : Hid (Ok x fn fd mode ↔ Amt (rnd (x * fn) fd mode)) := Lib.hid ⟨fun h => h.2, fun h => ⟨⟨HX.out, HF.out, hM⟩, h⟩⟩
        obtain ⟨m1, m4⟩ := hM
        by_cases hR : Amt (rnd (x * fn) fd mode)
        · rw [sc_yes (HO.out.2 hR)]
          have HA := Lib.hid hR
          clear HO hR
          generalize rnd (x * fn) fd mode = res at *
          go_enter Tryd.func18, Tryd.ntmps18
          go_wp2_with (first
            | (go_at_call 35; (with_reducible refine (Amount.implYes x HX.out _).mono ?_); rintro e w' ⟨rfl, rfl⟩)
            | (go_at_call 44; refine (isYes fn fd HF.out _ (Tz.Tab.below HT.out (below1 w _))).mono ?_; rintro e w1 ⟨rfl, hw1⟩; refine Hid.out ?_))
          refine Lib.hid ?_
          have HW1 : Hid (Below w.heap.size w w1) := Lib.hid ((below1 w _).trans (hw1.mono (by simp)))
          obtain ⟨lA, A0, A1, _, _⟩ := (One.new w (.int .i64 fn) (.int .i64 fd) 31).below hw1
          clear hw1
          go_wp2_with (first
            | (go_at_call 45; refine (HR.out _).mono ?_; rintro e w' ⟨rfl, rfl⟩)
            | (go_at_call 35; (with_reducible refine (Amount.implYes res HA.out _).mono ?_); rintro e w' ⟨rfl, rfl⟩))
          go_ret2
          exact ⟨rfl, HW1.out⟩
        · rw [sc_no (fun h => hR (HO.out.1 h))]
          have HA := Lib.hid hR
          clear HO hR
          generalize rnd (x * fn) fd mode = res at *
          go_enter Tryd.func18, Tryd.ntmps18
          go_wp2_with (first
            | (go_at_call 35; (with_reducible refine (Amount.implYes x HX.out _).mono ?_); rintro e w' ⟨rfl, rfl⟩)
            | (go_at_call 44; refine (isYes fn fd HF.out _ (Tz.Tab.below HT.out (below1 w _))).mono ?_; rintro e w1 ⟨rfl, hw1⟩; refine Hid.out ?_))
          refine Lib.hid ?_
          have HW1 : Hid (Below w.heap.size w w1) := Lib.hid ((below1 w _).trans (hw1.mono (by simp)))
          obtain ⟨lA, A0, A1, _, _⟩ := (One.new w (.int .i64 fn) (.int .i64 fd) 31).below hw1
          clear hw1
          go_wp2_with (first
            | (go_at_call 45; refine (HR.out _).mono ?_; rintro e w' ⟨rfl, rfl⟩)
            | (go_at_call 35; (with_reducible refine (Amount.implNo res HA.out _).mono ?_); rintro e w' ⟨rfl, rfl⟩))
          go_ret2
          exact ⟨rfl, HW1.out⟩
      · rw [sc_no (fun h => hM h.1.2.2)]
        have hM' : mode < 1 ∨ 4 < mode := by omega
        clear hM
        go_enter Tryd.func18, Tryd.ntmps18
        go_wp2_with (first
          | (go_at_call 35; (with_reducible refine (Amount.implYes x HX.out _).mono ?_); rintro e w' ⟨rfl, rfl⟩)
          | (go_at_call 44; refine (isYes fn fd HF.out _ (Tz.Tab.below HT.out (below1 w _))).mono ?_; rintro e w1 ⟨rfl, hw1⟩; refine Hid.out ?_))
        refine Lib.hid ?_
        have HW1 : Hid (Below w.heap.size w w1) := Lib.hid ((below1 w _).trans (hw1.mono (by simp)))
        obtain ⟨lA, A0, A1, _, _⟩ := (One.new w (.int .i64 fn) (.int .i64 fd) 31).below hw1
        clear hw1
        go_wp2_with (go_at_call 45; refine (implBad _ _ _ hM' _).mono ?_; rintro e w' ⟨rfl, rfl⟩)
        go_ret2
        exact ⟨rfl, HW1.out⟩
    · rw [sc_no (fun h => hF h.1.2.1)]
      have HF := Lib.hid hF
      clear hF hX
      go_enter Tryd.func18, Tryd.ntmps18
      go_wp2_with (first
        | (go_at_call 35; (with_reducible refine (Amount.implYes x HX.out _).mono ?_); rintro e w' ⟨rfl, rfl⟩)
        | (go_at_call 44; refine (isNo fn fd HF.out _ (Tz.Tab.below HT.out (below1 w _))).mono ?_; rintro e w1 ⟨rfl, hw1⟩; refine Hid.out ?_))
      refine Lib.hid ?_
      have HW1 : Hid (Below w.heap.size w w1) := Lib.hid ((below1 w _).trans (hw1.mono (by simp)))
      obtain ⟨lA, A0, A1, _, _⟩ := (One.new w (.int .i64 fn) (.int .i64 fd) 31).below hw1
      clear hw1
      go_wp2_with fail
      go_ret2
      exact ⟨rfl, HW1.out⟩
  · rw [sc_no (fun h => hX h.1.1)]
    have HX := Lib.hid hX
    clear hX
    go_enter Tryd.func18, Tryd.ntmps18
    go_wp2_with (go_at_call 35; (with_reducible refine (Amount.implNo x HX.out _).mono ?_); rintro e w' ⟨rfl, rfl⟩)
    go_ret2
    exact ⟨rfl, below1 w _⟩

theorem scAt {P : Program} {f : FuncId} {args : Array Value} {x fn fd mode : Int} {w : World} (h : Calls P f args w (scAns x fn fd mode w)) {r : Int} {rB : Bool} (e1 : r = scN x fn fd mode) (e2 : rB = scB x fn fd mode) :
    Calls P f args w fun e w' => e = .returned (.tuple #[.int .i64 r, .bool rB]) ∧ Below w.heap.size w w' := by
  subst e1 e2; exact h

set_option maxHeartbeats 2000000 in
theorem walk (x fn fd mode : Int) (w : World) (hT : Tab w) :
    Calls Tryd.prog 5 #[.int .i64 x, .agg #[.int .i64 fn, .int .i64 fd], .int .i64 mode] w fun e w' => e = .returned (.bool true) ∧ Below w.heap.size w w' := by
  have HT := Lib.hid hT
  clear hT
  obtain ⟨r, hr⟩ : ∃ y, y = scN x fn fd mode := ⟨_, rfl⟩
  obtain ⟨rB, hrB⟩ : ∃ y, y = scB x fn fd mode := ⟨_, rfl⟩
  have HN := Lib.hid hr
  have HB := Lib.hid hrB
  clear hr hrB
  go_enter Tryd.func5, Tryd.ntmps5
  go_wp2_with (first
    | (go_at_call 26; refine (toFx fn fd _).mono ?_; rintro e w1 ⟨rfl, rfl⟩)
    | (go_at_call 19; refine (scAt (spec x fn fd mode _) HN.out HB.out).mono ?_; rintro e w1 ⟨rfl, hw1⟩; refine Hid.out ?_))
  refine Lib.hid ?_
  have hb1 : Below (w.alloc (.cells #[.int .i64 fn, .int .i64 fd] 41)).heap.size (w.alloc (.cells #[.int .i64 fn, .int .i64 fd] 41)) w1 :=
    ((((Below.refl _ _).alloc (Nat.le_refl _) _).alloc (by simp) _).alloc (by simp <;> omega) _).trans (hw1.mono (by simp <;> omega))
  have HW1 : Hid (Below w.heap.size w w1) := Lib.hid ((below1 w _).trans (hb1.mono (by simp)))
  obtain ⟨lA, A0, A1, _, _⟩ := (One.new w (.int .i64 fn) (.int .i64 fd) 41).below hb1
  have HT1 := Lib.hid (Tz.Tab.below HT.out HW1.out)
  clear hw1 hb1
  go_wp2_with (first
    | (go_at_call 26; refine (toFx fn fd _).mono ?_; rintro e w2 ⟨rfl, rfl⟩)
    | (go_at_call 18; refine (scAt (impl x fn fd mode _ (Tz.Tab.below HT1.out ((((Below.refl _ _).alloc (Nat.le_refl _) _).alloc (by simp) _).alloc (by simp <;> omega) _))) HN.out HB.out).mono ?_; rintro e w2 ⟨rfl, hw2⟩))
  all_goals go_ret
  all_goals exact ⟨rfl, HW1.out.trans (((((Below.refl _ _).alloc (Nat.le_refl _) _).alloc (by simp) _).alloc (by simp <;> omega) _).trans (hw2.mono (by simp <;> omega)) |>.mono HW1.out.size)⟩

end Go.Proofs.YthobejaiapdanaaDoor.Scale
