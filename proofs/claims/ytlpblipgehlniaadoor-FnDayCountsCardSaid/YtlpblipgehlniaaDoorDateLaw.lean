/-
  DateOf of the model; the walk of the law FnExactDateOf; IsMonthEnd, of the program and of the model, and the walk of its law.
-/
import Derived.Test.YtlpblipgehlniaaDoorDateOf
namespace Go.Proofs.YtlpblipgehlniaaDoor.DateLaw
open Go.RowKit Go.Proofs.YtlpblipgehlniaaDoor.Cal Go.Proofs.YtlpblipgehlniaaDoor.Tab Go.Proofs.YtlpblipgehlniaaDoor.Wd Go.Proofs.YtlpblipgehlniaaDoor.Len Go.Proofs.YtlpblipgehlniaaDoor.Valid Go.Proofs.YtlpblipgehlniaaDoor.DayOf Go.Proofs.YtlpblipgehlniaaDoor.DateOf

theorem beqDec (a b : Int) : (a == b) = decide (a = b) := by by_cases h : a = b <;> simp [h]

theorem implYes (n : Int) (h : Day n) (w : World) (hT : Tab w) :
    Calls Tryd.prog 59 #[.int .i64 n] w fun e w' => e = .returned (.tuple #[.agg #[.int .i64 ((yr n)), .int .i64 ((mo n)), .int .i64 ((da n))], .bool true]) ∧ Below w.heap.size w w' := DateOf.implYes n h w hT
theorem implNo (n : Int) (h : ¬ Day n) (w : World) :
    Calls Tryd.prog 59 #[.int .i64 n] w fun e w' => e = .returned (.tuple #[.agg #[.int .i64 0, .int .i64 0, .int .i64 0], .bool false]) ∧ Below w.heap.size w w' := DateOf.implNo n h w

set_option maxHeartbeats 1000000 in
theorem specYesAux (n Y M D : Int) (HD : Hid (Day n)) (w : World) (HC : Hid (∀ w, Calls Tryd.prog 48 #[.int .i64 n] w fun e w' => e = .returned (.agg #[.int .i64 Y, .int .i64 M, .int .i64 D]) ∧ Below w.heap.size w w')) :
    Calls Tryd.prog 22 #[.int .i64 n] w fun e w' => e = .returned (.tuple #[.agg #[.int .i64 Y, .int .i64 M, .int .i64 D], .bool true]) ∧ Below w.heap.size w w' := by
  have B0 := Lib.hid (Box.new w 0 0 0 44)
  go_enter Tryd.func22, Tryd.ntmps22
  go_wp2_with (first
    | (go_at_call 35; refine (goodYes n HD.out _).mono ?_; rintro e w' ⟨rfl, rfl⟩)
    | (go_at_call 48; refine (HC.out _).mono ?_; rintro e w1 ⟨rfl, hb1⟩; refine Hid.out ?_))
  refine Lib.hid ?_
  have B1 := Lib.hid (B0.out.below hb1)
  have HW : Hid (Below w.heap.size w w1) := Lib.hid ((below1 w _).trans (hb1.mono (by simp)))
  have B2 := Lib.hid (Box.set2 (Box.set1 (Box.set0 B1.out Y) M) D)
  obtain ⟨_, b1, b2, b3, b4, b5, b6⟩ := B1.out
  clear hb1 B0
  go_wp2_with fail
  obtain ⟨_, s1, s2, s3, _, _, _⟩ := B2.out
  exact bodyPost_ret (v := .tuple #[.agg #[.int .i64 Y, .int .i64 M, .int .i64 D], .bool true]) (by simp [results, Tryd.results22, go_sem, s1, s2, s3]) rfl ⟨rfl, ((HW.out.setCell (by simp) _).setCell (by simp) _).setCell (by simp) _⟩

theorem specYes (n : Int) (h : Day n) (w : World) :
    Calls Tryd.prog 22 #[.int .i64 n] w fun e w' => e = .returned (.tuple #[.agg #[.int .i64 ((yr n)), .int .i64 ((mo n)), .int .i64 ((da n))], .bool true]) ∧ Below w.heap.size w w' :=
  specYesAux n _ _ _ (Lib.hid h) w (Lib.hid fun w => l3Date n h w)

theorem specNo (n : Int) (h : ¬ Day n) (w : World) :
    Calls Tryd.prog 22 #[.int .i64 n] w fun e w' => e = .returned (.tuple #[.agg #[.int .i64 0, .int .i64 0, .int .i64 0], .bool false]) ∧ Below w.heap.size w w' := by
  have HD := Lib.hid h
  clear h
  go_enter Tryd.func22, Tryd.ntmps22
  go_wp2_with (go_at_call 35; refine (goodNo n HD.out _).mono ?_; rintro e w' ⟨rfl, rfl⟩)
  exact bodyPost_ret (v := .tuple #[.agg #[.int .i64 0, .int .i64 0, .int .i64 0], .bool false]) (by simp [results, Tryd.results22, go_sem]) rfl ⟨rfl, below1 _ _⟩

end Go.Proofs.YtlpblipgehlniaaDoor.DateLaw
