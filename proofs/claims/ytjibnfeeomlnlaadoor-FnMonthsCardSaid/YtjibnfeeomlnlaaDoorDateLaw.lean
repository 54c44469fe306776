/-
  DateOf of the model; the walk of the law FnExactDateOf; IsMonthEnd, of the program and of the model, and the walk of its law.
-/
import Derived.Test.YtjibnfeeomlnlaaDoorDateOf
namespace Go.Proofs.YtjibnfeeomlnlaaDoor.DateLaw
open Go.RowKit Go.Proofs.YtjibnfeeomlnlaaDoor.Cal Go.Proofs.YtjibnfeeomlnlaaDoor.Tab Go.Proofs.YtjibnfeeomlnlaaDoor.Wd Go.Proofs.YtjibnfeeomlnlaaDoor.Len Go.Proofs.YtjibnfeeomlnlaaDoor.Valid Go.Proofs.YtjibnfeeomlnlaaDoor.DayOf Go.Proofs.YtjibnfeeomlnlaaDoor.DateOf

theorem beqDec (a b : Int) : (a == b) = decide (a = b) := by by_cases h : a = b <;> simp [h]

theorem implYes (n : Int) (h : Day n) (w : World) (hT : Tab w) :
    Calls Tryd.prog 15 #[.int .i64 n] w fun e w' => e = .returned (.tuple #[.agg #[.int .i64 ((yr n)), .int .i64 ((mo n)), .int .i64 ((da n))], .bool true]) ∧ Below w.heap.size w w' := DateOf.implYes n h w hT
theorem implNo (n : Int) (h : ¬ Day n) (w : World) :
    Calls Tryd.prog 15 #[.int .i64 n] w fun e w' => e = .returned (.tuple #[.agg #[.int .i64 0, .int .i64 0, .int .i64 0], .bool false]) ∧ Below w.heap.size w w' := DateOf.implNo n h w

set_option maxHeartbeats 1000000 in
theorem specYesAux (n Y M D : Int) (HD : Hid (Day n)) (w : World) (HC : Hid (∀ w, Calls Tryd.prog 51 #[.int .i64 n] w fun e w' => e = .returned (.agg #[.int .i64 Y, .int .i64 M, .int .i64 D]) ∧ Below w.heap.size w w')) :
    Calls Tryd.prog 25 #[.int .i64 n] w fun e w' => e = .returned (.tuple #[.agg #[.int .i64 Y, .int .i64 M, .int .i64 D], .bool true]) ∧ Below w.heap.size w w' := by
  have B0 := Lib.hid (Box.new w 0 0 0 26)
  go_enter Tryd.func25, Tryd.ntmps25
  go_wp2_with (first
    | (go_at_call 48; refine (goodYes n HD.out _).mono ?_; rintro e w' ⟨rfl, rfl⟩)
    | (go_at_call 51; refine (HC.out _).mono ?_; rintro e w1 ⟨rfl, hb1⟩; refine Hid.out ?_))
  refine Lib.hid ?_
  have B1 := Lib.hid (B0.out.below hb1)
  have HW : Hid (Below w.heap.size w w1) := Lib.hid ((below1 w _).trans (hb1.mono (by simp)))
  have B2 := Lib.hid (Box.set2 (Box.set1 (Box.set0 B1.out Y) M) D)
  obtain ⟨_, b1, b2, b3, b4, b5, b6⟩ := B1.out
  clear hb1 B0
  go_wp2_with fail
  obtain ⟨_, s1, s2, s3, _, _, _⟩ := B2.out
  exact bodyPost_ret (v := .tuple #[.agg #[.int .i64 Y, .int .i64 M, .int .i64 D], .bool true]) (by simp [results, Tryd.results25, go_sem, s1, s2, s3]) rfl ⟨rfl, ((HW.out.setCell (by simp) _).setCell (by simp) _).setCell (by simp) _⟩

theorem specYes (n : Int) (h : Day n) (w : World) :
    Calls Tryd.prog 25 #[.int .i64 n] w fun e w' => e = .returned (.tuple #[.agg #[.int .i64 ((yr n)), .int .i64 ((mo n)), .int .i64 ((da n))], .bool true]) ∧ Below w.heap.size w w' :=
  specYesAux n _ _ _ (Lib.hid h) w (Lib.hid fun w => l3Date n h w)

theorem specNo (n : Int) (h : ¬ Day n) (w : World) :
    Calls Tryd.prog 25 #[.int .i64 n] w fun e w' => e = .returned (.tuple #[.agg #[.int .i64 0, .int .i64 0, .int .i64 0], .bool false]) ∧ Below w.heap.size w w' := by
  have HD := Lib.hid h
  clear h
  go_enter Tryd.func25, Tryd.ntmps25
  go_wp2_with (go_at_call 48; refine (goodNo n HD.out _).mono ?_; rintro e w' ⟨rfl, rfl⟩)
  exact bodyPost_ret (v := .tuple #[.agg #[.int .i64 0, .int .i64 0, .int .i64 0], .bool false]) (by simp [results, Tryd.results25, go_sem]) rfl ⟨rfl, below1 _ _⟩

theorem eqD (y m d : Int) (w : World) :
    Calls Tryd.prog 34 #[.agg #[.int .i64 y, .int .i64 m, .int .i64 d], .agg #[.int .i64 y, .int .i64 m, .int .i64 d]] w fun e w' => e = .returned (.bool true) ∧ Below w.heap.size w w' := by
  go_enter Tryd.func34, Tryd.ntmps34
  go_wp2_with fail
  go_ret
  exact ⟨rfl, below2 _ _ _⟩

set_option maxHeartbeats 1000000 in
theorem walkAux (n Y M D : Int) (b : Bool) (w : World) (hT : Tab w)
    (HS : Hid (∀ w, Calls Tryd.prog 25 #[.int .i64 n] w fun e w' => e = .returned (.tuple #[.agg #[.int .i64 Y, .int .i64 M, .int .i64 D], .bool b]) ∧ Below w.heap.size w w'))
    (HI : Hid (∀ w, Tab w → Calls Tryd.prog 15 #[.int .i64 n] w fun e w' => e = .returned (.tuple #[.agg #[.int .i64 Y, .int .i64 M, .int .i64 D], .bool b]) ∧ Below w.heap.size w w')) :
    Calls Tryd.prog 7 #[.int .i64 n] w fun e w' => e = .returned (.bool true) ∧ Below w.heap.size w w' := by
  have HT := Lib.hid hT
  clear hT
  go_enter Tryd.func7, Tryd.ntmps7
  go_wp2_with (go_at_call 25; refine (HS.out _).mono ?_; rintro e w1 ⟨rfl, hb1⟩; refine Hid.out ?_)
  refine Lib.hid ?_
  have HW1 := Lib.hid hb1
  have HT1 : Hid (Tab (w1.alloc (.cells #[.int .i64 Y, .int .i64 M, .int .i64 D] 26))) := Lib.hid ((HT.out.below hb1).alloc _)
  have B1 := Lib.hid (Box.new w1 Y M D 26)
  clear hb1
  go_wp2_with (go_at_call 15; refine (HI.out _ HT1.out).mono ?_; rintro e w2 ⟨rfl, hb2⟩; refine Hid.out ?_)
  refine Lib.hid ?_
  have HW2 : Hid (Below w.heap.size w w2) := Lib.hid ((HW1.out.trans ((below1 w1 (.cells #[.int .i64 Y, .int .i64 M, .int .i64 D] 26)).mono HW1.out.size)).trans (hb2.mono (by have := HW1.out.size; simp; omega)))
  have B2 := Lib.hid ((B1.out.below hb2).alloc (.cells #[.int .i64 Y, .int .i64 M, .int .i64 D] 26))
  obtain ⟨_, x0, x1, x2, _, _, _⟩ := B2.out
  clear hb2 B1
  go_wp2_with (go_at_call 34; refine (eqD Y M D _).mono ?_; rintro e w3 ⟨rfl, hb3⟩; refine Hid.out ?_)
  refine Lib.hid ?_
  have HW3 : Hid (Below w.heap.size w w3) := Lib.hid ((HW2.out.trans ((below1 w2 _).mono HW2.out.size)).trans (hb3.mono (by have := HW2.out.size; simp; omega)))
  clear hb3 x0 x1 x2 B2
  cases b
  · go_wp2_with fail
    go_ret
    exact ⟨rfl, HW3.out⟩
  · go_wp2_with fail
    go_ret
    exact ⟨rfl, HW3.out⟩

theorem walk (n : Int) (w : World) (hT : Tab w) :
    Calls Tryd.prog 7 #[.int .i64 n] w fun e w' => e = .returned (.bool true) ∧ Below w.heap.size w w' := by
  by_cases h : Day n
  · exact walkAux n _ _ _ true w hT (Lib.hid fun w => specYes n h w) (Lib.hid fun w hw => implYes n h w hw)
  · exact walkAux n 0 0 0 false w hT (Lib.hid fun w => specNo n h w) (Lib.hid fun w _ => implNo n h w)

set_option maxHeartbeats 1000000 in
theorem endImplYes (n : Int) (h : Day n) (w : World) (hT : Tab w) :
    Calls Tryd.prog 21 #[.int .i64 n] w fun e w' => e = .returned (.tuple #[.bool (decide (da n = lenM (yr n) (mo n))), .bool true]) ∧ Below w.heap.size w w' := by
  have HT := Lib.hid hT
  have HV := Lib.hid (date_is h).1
  have HI := Lib.hid (fun w hw => implYes n h w hw)
  have HL := Lib.hid (fun w hw => lenYes (yr n) (mo n) HV.out.1 HV.out.2.1 w hw)
  clear hT h HV
  generalize yr n = Y at *
  generalize mo n = M at *
  generalize da n = D at *
  generalize lenM Y M = L at *
  go_enter Tryd.func21, Tryd.ntmps21
  go_wp2_with (go_at_call 15; refine (HI.out _ HT.out).mono ?_; rintro e w1 ⟨rfl, hb1⟩; refine Hid.out ?_)
  refine Lib.hid ?_
  have HW1 := Lib.hid hb1
  have HT1 : Hid (Tab (w1.alloc (.cells #[.int .i64 Y, .int .i64 M, .int .i64 D] 26))) := Lib.hid ((HT.out.below hb1).alloc _)
  clear hb1
  go_wp2_with (go_at_call 26; refine (HL.out _ HT1.out).mono ?_; rintro e w2 ⟨rfl, rfl⟩)
  go_ret2
  exact ⟨by first | (simp; done) | (simp; exact beqDec _ _), HW1.out.trans ((below1 w1 _).mono HW1.out.size)⟩

set_option maxHeartbeats 1000000 in
theorem endSpecYes (n : Int) (h : Day n) (w : World) :
    Calls Tryd.prog 36 #[.int .i64 n] w fun e w' => e = .returned (.tuple #[.bool (decide (da n = lenM (yr n) (mo n))), .bool true]) ∧ Below w.heap.size w w' := by
  have HD := Lib.hid h
  have HV := Lib.hid (date_is h).1
  have HI := Lib.hid (fun w => l3Date n h w)
  have HL := Lib.hid (fun w => l3Length (yr n) (mo n) (by have := HV.out.1.1; omega) w)
  clear h HV
  generalize yr n = Y at *
  generalize mo n = M at *
  generalize da n = D at *
  generalize lenM Y M = L at *
  go_enter Tryd.func36, Tryd.ntmps36
  go_wp2_with (first
    | (go_at_call 48; refine (goodYes n HD.out _).mono ?_; rintro e w' ⟨rfl, rfl⟩)
    | (go_at_call 51; refine (HI.out _).mono ?_; rintro e w1 ⟨rfl, hb1⟩; refine Hid.out ?_))
  refine Lib.hid ?_
  have HW1 := Lib.hid hb1
  clear hb1
  go_wp2_with fail
  go_quiet ((go_at_call 53; with_reducible exact quiet_eq (HL.out _)))
  go_wp2_with fail
  go_ret2
  exact ⟨by first | (simp; done) | (simp; exact beqDec _ _), below_drewN (HW1.out.trans ((below1 w1 _).mono HW1.out.size)) _⟩

theorem endImplNo (n : Int) (h : ¬ Day n) (w : World) :
    Calls Tryd.prog 21 #[.int .i64 n] w fun e w' => e = .returned (.tuple #[.bool false, .bool false]) ∧ Below w.heap.size w w' := by
  have HD := Lib.hid h
  clear h
  go_enter Tryd.func21, Tryd.ntmps21
  go_wp2_with (go_at_call 15; refine (implNo n HD.out _).mono ?_; rintro e w1 ⟨rfl, hb1⟩; refine Hid.out ?_)
  refine Lib.hid ?_
  have HW1 := Lib.hid hb1
  clear hb1
  go_wp2_with fail
  go_ret2
  exact ⟨rfl, HW1.out.trans ((below1 w1 _).mono HW1.out.size)⟩

theorem endSpecNo (n : Int) (h : ¬ Day n) (w : World) :
    Calls Tryd.prog 36 #[.int .i64 n] w fun e w' => e = .returned (.tuple #[.bool false, .bool false]) ∧ Below w.heap.size w w' := by
  have HD := Lib.hid h
  clear h
  go_enter Tryd.func36, Tryd.ntmps36
  go_wp2_with (go_at_call 48; refine (goodNo n HD.out _).mono ?_; rintro e w' ⟨rfl, rfl⟩)
  exact bodyPost_ret (v := .tuple #[.bool false, .bool false]) (by simp [results, Tryd.results36, go_sem]) rfl ⟨rfl, Below.refl _ _⟩

set_option maxHeartbeats 1000000 in
theorem endWalkAux (n : Int) (a b : Bool) (w : World) (hT : Tab w)
    (HS : Hid (∀ w, Calls Tryd.prog 36 #[.int .i64 n] w fun e w' => e = .returned (.tuple #[.bool a, .bool b]) ∧ Below w.heap.size w w'))
    (HI : Hid (∀ w, Tab w → Calls Tryd.prog 21 #[.int .i64 n] w fun e w' => e = .returned (.tuple #[.bool a, .bool b]) ∧ Below w.heap.size w w')) :
    Calls Tryd.prog 10 #[.int .i64 n] w fun e w' => e = .returned (.bool true) ∧ Below w.heap.size w w' := by
  have HT := Lib.hid hT
  clear hT
  go_enter Tryd.func10, Tryd.ntmps10
  go_wp2_with (go_at_call 36; refine (HS.out _).mono ?_; rintro e w1 ⟨rfl, hb1⟩; refine Hid.out ?_)
  refine Lib.hid ?_
  have HW1 := Lib.hid hb1
  have HT1 : Hid (Tab w1) := Lib.hid (HT.out.below hb1)
  clear hb1
  go_wp2_with (go_at_call 21; refine (HI.out _ HT1.out).mono ?_; rintro e w2 ⟨rfl, hb2⟩; refine Hid.out ?_)
  refine Lib.hid ?_
  have HW2 : Hid (Below w.heap.size w w2) := Lib.hid (HW1.out.trans (hb2.mono HW1.out.size))
  clear hb2
  cases a <;> cases b
  all_goals
    go_wp2_with fail
    go_ret
    exact ⟨rfl, HW2.out⟩

theorem endWalk (n : Int) (w : World) (hT : Tab w) :
    Calls Tryd.prog 10 #[.int .i64 n] w fun e w' => e = .returned (.bool true) ∧ Below w.heap.size w w' := by
  by_cases h : Day n
  · exact endWalkAux n _ true w hT (Lib.hid fun w => endSpecYes n h w) (Lib.hid fun w hw => endImplYes n h w hw)
  · exact endWalkAux n false false w hT (Lib.hid fun w => endSpecNo n h w) (Lib.hid fun w _ => endImplNo n h w)

end Go.Proofs.YtjibnfeeomlnlaaDoor.DateLaw
