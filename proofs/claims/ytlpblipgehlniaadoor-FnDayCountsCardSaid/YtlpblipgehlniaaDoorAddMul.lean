/-
  What AddFractions and MultiplyFractions return, of the model and of the program.
-/
import Derived.Test.YtlpblipgehlniaaDoorIsFrac
namespace Go.Proofs.YtlpblipgehlniaaDoor.AddMul
open Go.RowKit Go.Proofs.YtlpblipgehlniaaDoor.Gcd Go.Proofs.YtlpblipgehlniaaDoor.Tz Go.Proofs.YtlpblipgehlniaaDoor.Common Go.Proofs.YtlpblipgehlniaaDoor.Red Go.Proofs.YtlpblipgehlniaaDoor.Amount Go.Proofs.YtlpblipgehlniaaDoor.Frac Go.Proofs.YtlpblipgehlniaaDoor.Make Go.Proofs.YtlpblipgehlniaaDoor.MakeLaw Go.Proofs.YtlpblipgehlniaaDoor.IsFrac

/-- Both fractions are valid. -/
def Both (an ad bn bd : Int) : Prop := Valid an ad ∧ Valid bn bd
instance (an ad bn bd : Int) : Decidable (Both an ad bn bd) := inferInstanceAs (Decidable (_ ∧ _))

/-- What an operation on two fractions with the quotient X/Y answers. -/
def opN (V : Prop) [Decidable V] (X Y : Int) : Int := if V then resN X Y else 0
def opD (V : Prop) [Decidable V] (X Y : Int) : Int := if V then resD X Y else 0
def opB (V : Prop) [Decidable V] (X Y : Int) : Bool := if V then resB X Y else false
def opAns (V : Prop) [Decidable V] (X Y : Int) (w : World) (e : Ending) (w' : World) : Prop := e = fracRet (opN V X Y) (opD V X Y) (opB V X Y) ∧ Below w.heap.size w w'

theorem op_yes {V : Prop} [Decidable V] {X Y : Int} {w : World} (h : V) {rN rD : Int} {rB : Bool} (e1 : rN = resN X Y) (e2 : rD = resD X Y) (e3 : rB = resB X Y) :
    opAns V X Y w = fun e w' => e = fracRet rN rD rB ∧ Below w.heap.size w w' := by
  unfold opAns opN opD opB; rw [if_pos h, if_pos h, if_pos h, e1, e2, e3]
theorem op_no {V : Prop} [Decidable V] {X Y : Int} {w : World} (h : ¬ V) : opAns V X Y w = fun e w' => e = fracRet 0 0 false ∧ Below w.heap.size w w' := by
  unfold opAns opN opD opB; rw [if_neg h, if_neg h, if_neg h]

theorem below3 (w : World) (a b c : Obj) : Below w.heap.size w (((w.alloc a).alloc b).alloc c) := (((Below.refl _ _).alloc (Nat.le_refl _) _).alloc (by simp) _).alloc (by simp; omega) _

set_option maxHeartbeats 2000000 in
theorem specAdd (an ad bn bd : Int) (w : World) :
    Calls Tryd.prog 17 #[.agg #[.int .i64 an, .int .i64 ad], .agg #[.int .i64 bn, .int .i64 bd]] w (opAns (Both an ad bn bd) (an * bd + bn * ad) (ad * bd) w) := by
  have OA0 : Hid (∀ o o', One w.heap.size (((w.alloc (.cells #[.int .i64 an, .int .i64 ad] 36)).alloc o).alloc o') (.int .i64 an) (.int .i64 ad)) := Lib.hid (fun o o' => ((One.new w (.int .i64 an) (.int .i64 ad) 36).alloc o).alloc o')
  have OB0 : Hid (∀ o o', One (w.heap.size + 1) (((w.alloc o).alloc (.cells #[.int .i64 bn, .int .i64 bd] 36)).alloc o') (.int .i64 bn) (.int .i64 bd)) := Lib.hid (fun o o' => by
    have h := (One.new (w.alloc o) (.int .i64 bn) (.int .i64 bd) 36).alloc o'
    simpa using h)
  have OR0 : Hid (∀ o o', One (w.heap.size + 1 + 1) (((w.alloc o).alloc o').alloc (.cells #[.int .i64 0, .int .i64 0] 36)) (.int .i64 0) (.int .i64 0)) := Lib.hid (fun o o' => by
    have h := One.new ((w.alloc o).alloc o') (.int .i64 0) (.int .i64 0) 36
    simpa using h)
  by_cases hA : Valid an ad
  · have HA := Lib.hid hA
    by_cases hB : Valid bn bd
    · have HB := Lib.hid hB
      obtain ⟨⟨a1, a2⟩, ⟨a3, a4⟩, _⟩ := hA
      obtain ⟨⟨b1, b2⟩, ⟨b3, b4⟩, _⟩ := hB
      obtain ⟨rN, hrN⟩ : ∃ x, x = resN (an * bd + bn * ad) (ad * bd) := ⟨_, rfl⟩
      obtain ⟨rD, hrD⟩ : ∃ x, x = resD (an * bd + bn * ad) (ad * bd) := ⟨_, rfl⟩
      obtain ⟨rB, hrB⟩ : ∃ x, x = resB (an * bd + bn * ad) (ad * bd) := ⟨_, rfl⟩
      have H1 := Lib.hid hrN
      have H2 := Lib.hid hrD
      have H3 := Lib.hid hrB
      rw [op_yes ⟨HA.out, HB.out⟩ hrN hrD hrB]
      clear hrN hrD hrB
      obtain ⟨p1, p2⟩ := mul_bd an bd (by omega) (by omega) (by omega) (by omega)
      obtain ⟨p3, p4⟩ := mul_bd bn ad (by omega) (by omega) (by omega) (by omega)
      obtain ⟨p5, p6⟩ := mul_bd an bn (by omega) (by omega) (by omega) (by omega)
      obtain ⟨p7, p8⟩ := mul_bd ad bd (by omega) (by omega) (by omega) (by omega)
      have p9 := mul_pos ad bd a1 b1
      go_enter Tryd.func17, Tryd.ntmps17
      go_wp2_with (go_at_call 46; refine (fracYesB an ad HA.out _).mono ?_; rintro e w1 ⟨rfl, hw1⟩; refine Hid.out ?_)
      refine Lib.hid ?_
      have OA1 := Lib.hid ((OA0.out _ _).below hw1)
      have OB1 := Lib.hid ((OB0.out _ _).below hw1)
      have OR1 := Lib.hid ((OR0.out _ _).below hw1)
      have HW1 : Hid (Below w.heap.size w w1) := Lib.hid ((below3 w _ _ _).trans (hw1.mono (by simp; omega)))
      clear hw1
      obtain ⟨lB1, B01, B11, _, _⟩ := OB1.out
      go_wp2_with (go_at_call 46; refine (fracYesB bn bd HB.out w1).mono ?_; rintro e w2 ⟨rfl, hw2⟩; refine Hid.out ?_)
      refine Lib.hid ?_
      have OA2 := Lib.hid (OA1.out.below hw2)
      have OB2 := Lib.hid (OB1.out.below hw2)
      have OR2 := Lib.hid (OR1.out.below hw2)
      have HW2 : Hid (Below w.heap.size w w2) := Lib.hid (HW1.out.trans (hw2.mono HW1.out.size))
      clear hw2 B01 B11 lB1
      obtain ⟨lA2, A02, A12, _, _⟩ := OA2.out
      obtain ⟨lB2, B02, B12, _, _⟩ := OB2.out
      go_wp2_with (go_at_call 47; refine (redAt (ReduceSpec.spec (an * bd + bn * ad) (ad * bd) (by omega) (by omega) (by omega) (by omega) (by omega) w2) H1.out H2.out H3.out).mono ?_; rintro e w3 ⟨rfl, hw3⟩; refine Hid.out ?_)
      refine Lib.hid ?_
      have HW3 : Hid (Below w.heap.size w w3) := Lib.hid (HW2.out.trans (hw3.mono HW2.out.size))
      obtain ⟨lR3, R03, R13, g0, g1⟩ := OR2.out.below hw3
      clear hw3 A02 A12 B02 B12 lA2 lB2
      go_wp2_with fail
      exact bodyPost_ret (v := .tuple #[.agg #[.int .i64 rN, .int .i64 rD], .bool rB]) (by simp [results, Tryd.results17, go_sem, R03, R13]) rfl ⟨rfl, (HW3.out.setCell (by simp; omega) _).setCell (by simp; omega) _⟩
    · have HB := Lib.hid hB
      rw [op_no (fun h => hB h.2)]
      clear hA hB
      go_enter Tryd.func17, Tryd.ntmps17
      go_wp2_with (go_at_call 46; refine (fracYesB an ad HA.out _).mono ?_; rintro e w1 ⟨rfl, hw1⟩; refine Hid.out ?_)
      refine Lib.hid ?_
      have OB1 := Lib.hid ((OB0.out _ _).below hw1)
      have OR1 := Lib.hid ((OR0.out _ _).below hw1)
      have HW1 : Hid (Below w.heap.size w w1) := Lib.hid ((below3 w _ _ _).trans (hw1.mono (by simp; omega)))
      clear hw1
      obtain ⟨lB1, B01, B11, _, _⟩ := OB1.out
      go_wp2_with (go_at_call 46; refine (fracNoB bn bd HB.out w1).mono ?_; rintro e w2 ⟨rfl, hw2⟩; refine Hid.out ?_)
      refine Lib.hid ?_
      have HW2 : Hid (Below w.heap.size w w2) := Lib.hid (HW1.out.trans (hw2.mono HW1.out.size))
      obtain ⟨lR2, R02, R12, g0, g1⟩ := OR1.out.below hw2
      clear hw2 B01 B11 lB1
      go_wp2_with fail
      exact bodyPost_ret (v := .tuple #[.agg #[.int .i64 0, .int .i64 0], .bool false]) (by simp [results, Tryd.results17, go_sem, R02, R12]) rfl ⟨rfl, (HW2.out.setCell (by simp; omega) _).setCell (by simp; omega) _⟩
  · have HA := Lib.hid hA
    rw [op_no (fun h => hA h.1)]
    clear hA
    go_enter Tryd.func17, Tryd.ntmps17
    go_wp2_with (go_at_call 46; refine (fracNoB an ad HA.out _).mono ?_; rintro e w1 ⟨rfl, hw1⟩; refine Hid.out ?_)
    refine Lib.hid ?_
    have HW1 : Hid (Below w.heap.size w w1) := Lib.hid ((below3 w _ _ _).trans (hw1.mono (by simp; omega)))
    obtain ⟨lR1, R01, R11, g0, g1⟩ := (OR0.out _ _).below hw1
    clear hw1
    go_wp2_with fail
    exact bodyPost_ret (v := .tuple #[.agg #[.int .i64 0, .int .i64 0], .bool false]) (by simp [results, Tryd.results17, go_sem, R01, R11]) rfl ⟨rfl, (HW1.out.setCell (by simp; omega) _).setCell (by simp; omega) _⟩

end Go.Proofs.YtlpblipgehlniaaDoor.AddMul
