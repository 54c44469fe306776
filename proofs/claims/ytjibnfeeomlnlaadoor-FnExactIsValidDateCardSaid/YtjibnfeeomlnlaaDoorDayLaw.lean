/-
  The walks of the laws FnExactIsValidDate and FnExactDayOf.
-/
import Derived.Test.YtjibnfeeomlnlaaDoorDayOf
namespace Go.Proofs.YtjibnfeeomlnlaaDoor.DayLaw
open Go.RowKit Go.Proofs.YtjibnfeeomlnlaaDoor.Cal Go.Proofs.YtjibnfeeomlnlaaDoor.Tab Go.Proofs.YtjibnfeeomlnlaaDoor.Wd Go.Proofs.YtjibnfeeomlnlaaDoor.Len Go.Proofs.YtjibnfeeomlnlaaDoor.Valid Go.Proofs.YtjibnfeeomlnlaaDoor.DayOf

theorem toD (y m d : Int) (w : World) :
    Calls Tryd.prog 32 #[.agg #[.int .i64 y, .int .i64 m, .int .i64 d]] w fun e w' => e = .returned (.agg #[.int .i64 y, .int .i64 m, .int .i64 d]) ∧ Below w.heap.size w w' := by
  go_enter Tryd.func32, Tryd.ntmps32
  go_wp2
  exact bodyPost_ret (v := .agg #[.int .i64 y, .int .i64 m, .int .i64 d]) (by simp [results, Tryd.results32, go_sem]) rfl ⟨rfl, below3 _ _ _ _⟩

theorem validYesB (y m d : Int) (h : Vld y m d) (w : World) (hT : Tab w) :
    Calls Tryd.prog 17 #[.agg #[.int .i64 y, .int .i64 m, .int .i64 d]] w fun e w' => e = .returned (.bool true) ∧ Below w.heap.size w w' :=
  (validYes y m d h w hT).mono fun _ _ ⟨he, hw⟩ => ⟨he, by rw [← hw]; exact below1 _ _⟩
theorem validNoB (y m d : Int) (h : ¬ Vld y m d) (w : World) (hT : Tab w) :
    Calls Tryd.prog 17 #[.agg #[.int .i64 y, .int .i64 m, .int .i64 d]] w fun e w' => e = .returned (.bool false) ∧ Below w.heap.size w w' :=
  (validNo y m d h w hT).mono fun _ _ ⟨he, hw⟩ => ⟨he, by rw [← hw]; exact below1 _ _⟩

set_option maxHeartbeats 1000000 in
theorem isYes (y m d : Int) (h : Vld y m d) (w : World) (hT : Tab w) :
    Calls Tryd.prog 5 #[.agg #[.int .i64 y, .int .i64 m, .int .i64 d]] w fun e w' => e = .returned (.bool true) ∧ Below w.heap.size w w' := by
  have HT := Lib.hid hT
  have HV := Lib.hid h
  have B0 := Lib.hid (Box.new w y m d 44)
  clear hT h
  go_enter Tryd.func5, Tryd.ntmps5
  go_wp2_with (go_at_call 32; refine (toD y m d _).mono ?_; rintro e w1 ⟨rfl, hb1⟩; refine Hid.out ?_)
  refine Lib.hid ?_
  have HW1 : Hid (Below w.heap.size w w1) := Lib.hid ((below1 w _).trans (hb1.mono (by simp)))
  have B1 := Lib.hid (B0.out.below hb1)
  clear hb1 B0
  go_wp2_with (go_at_call 31; refine (specValidYes y m d HV.out w1).mono ?_; rintro e w2 ⟨rfl, hb2⟩; refine Hid.out ?_)
  refine Lib.hid ?_
  have HW2 : Hid (Below w.heap.size w w2) := Lib.hid (HW1.out.trans (hb2.mono HW1.out.size))
  have B2 := Lib.hid (B1.out.below hb2)
  clear hb2 B1 HW1
  obtain ⟨l2, x0, x1, x2, _, _, _⟩ := B2.out
  go_wp2_with (go_at_call 32; refine (toD y m d w2).mono ?_; rintro e w3 ⟨rfl, hb3⟩; refine Hid.out ?_)
  refine Lib.hid ?_
  have HW3 : Hid (Below w.heap.size w w3) := Lib.hid (HW2.out.trans (hb3.mono HW2.out.size))
  have HT3 : Hid (Tab w3) := Lib.hid (HT.out.below HW3.out)
  clear hb3 HW2 x0 x1 x2 l2 B2
  go_wp2_with (go_at_call 17; refine (validYesB y m d HV.out w3 HT3.out).mono ?_; rintro e w4 ⟨rfl, hb4⟩; refine Hid.out ?_)
  refine Lib.hid ?_
  have HW4 : Hid (Below w.heap.size w w4) := Lib.hid (HW3.out.trans (hb4.mono HW3.out.size))
  clear hb4
  go_wp2_with fail
  go_ret
  exact ⟨rfl, HW4.out⟩

set_option maxHeartbeats 1000000 in
theorem isNo (y m d : Int) (h : ¬ Vld y m d) (w : World) (hT : Tab w) :
    Calls Tryd.prog 5 #[.agg #[.int .i64 y, .int .i64 m, .int .i64 d]] w fun e w' => e = .returned (.bool true) ∧ Below w.heap.size w w' := by
  have HT := Lib.hid hT
  have HV := Lib.hid h
  have B0 := Lib.hid (Box.new w y m d 44)
  clear hT h
  go_enter Tryd.func5, Tryd.ntmps5
  go_wp2_with (go_at_call 32; refine (toD y m d _).mono ?_; rintro e w1 ⟨rfl, hb1⟩; refine Hid.out ?_)
  refine Lib.hid ?_
  have HW1 : Hid (Below w.heap.size w w1) := Lib.hid ((below1 w _).trans (hb1.mono (by simp)))
  have B1 := Lib.hid (B0.out.below hb1)
  clear hb1 B0
  go_wp2_with (go_at_call 31; refine (specValidNo y m d HV.out w1).mono ?_; rintro e w2 ⟨rfl, hb2⟩; refine Hid.out ?_)
  refine Lib.hid ?_
  have HW2 : Hid (Below w.heap.size w w2) := Lib.hid (HW1.out.trans (hb2.mono HW1.out.size))
  have B2 := Lib.hid (B1.out.below hb2)
  clear hb2 B1 HW1
  obtain ⟨l2, x0, x1, x2, _, _, _⟩ := B2.out
  go_wp2_with (go_at_call 32; refine (toD y m d w2).mono ?_; rintro e w3 ⟨rfl, hb3⟩; refine Hid.out ?_)
  refine Lib.hid ?_
  have HW3 : Hid (Below w.heap.size w w3) := Lib.hid (HW2.out.trans (hb3.mono HW2.out.size))
  have HT3 : Hid (Tab w3) := Lib.hid (HT.out.below HW3.out)
  clear hb3 HW2 x0 x1 x2 l2 B2
  go_wp2_with (go_at_call 17; refine (validNoB y m d HV.out w3 HT3.out).mono ?_; rintro e w4 ⟨rfl, hb4⟩; refine Hid.out ?_)
  refine Lib.hid ?_
  have HW4 : Hid (Below w.heap.size w w4) := Lib.hid (HW3.out.trans (hb4.mono HW3.out.size))
  clear hb4
  go_wp2_with fail
  go_ret
  exact ⟨rfl, HW4.out⟩

theorem isWalk (y m d : Int) (w : World) (hT : Tab w) :
    Calls Tryd.prog 5 #[.agg #[.int .i64 y, .int .i64 m, .int .i64 d]] w fun e w' => e = .returned (.bool true) ∧ Below w.heap.size w w' := by
  by_cases h : Vld y m d
  · exact isYes y m d h w hT
  · exact isNo y m d h w hT

set_option maxHeartbeats 1000000 in
theorem dayYes (y m d : Int) (h : Vld y m d) (w : World) (hT : Tab w) :
    Calls Tryd.prog 6 #[.agg #[.int .i64 y, .int .i64 m, .int .i64 d]] w fun e w' => e = .returned (.bool true) ∧ Below w.heap.size w w' := by
  have HT := Lib.hid hT
  have HV := Lib.hid h
  have B0 := Lib.hid (Box.new w y m d 44)
  clear hT h
  go_enter Tryd.func6, Tryd.ntmps6
  go_wp2_with (go_at_call 32; refine (toD y m d _).mono ?_; rintro e w1 ⟨rfl, hb1⟩; refine Hid.out ?_)
  refine Lib.hid ?_
  have HW1 : Hid (Below w.heap.size w w1) := Lib.hid ((below1 w _).trans (hb1.mono (by simp)))
  have B1 := Lib.hid (B0.out.below hb1)
  clear hb1 B0
  go_wp2_with (go_at_call 33; refine (DayOf.specYes y m d HV.out w1).mono ?_; rintro e w2 ⟨rfl, hb2⟩; refine Hid.out ?_)
  refine Lib.hid ?_
  have HW2 : Hid (Below w.heap.size w w2) := Lib.hid (HW1.out.trans (hb2.mono HW1.out.size))
  have B2 := Lib.hid (B1.out.below hb2)
  clear hb2 B1 HW1
  obtain ⟨l2, x0, x1, x2, _, _, _⟩ := B2.out
  go_wp2_with (go_at_call 32; refine (toD y m d w2).mono ?_; rintro e w3 ⟨rfl, hb3⟩; refine Hid.out ?_)
  refine Lib.hid ?_
  have HW3 : Hid (Below w.heap.size w w3) := Lib.hid (HW2.out.trans (hb3.mono HW2.out.size))
  have HT3 : Hid (Tab w3) := Lib.hid (HT.out.below HW3.out)
  clear hb3 HW2 x0 x1 x2 l2 B2
  go_wp2_with (go_at_call 16; refine (DayOf.implYes y m d HV.out w3 HT3.out).mono ?_; rintro e w4 ⟨rfl, hb4⟩; refine Hid.out ?_)
  refine Lib.hid ?_
  have HW4 : Hid (Below w.heap.size w w4) := Lib.hid (HW3.out.trans (hb4.mono HW3.out.size))
  clear hb4
  go_wp2_with fail
  go_ret
  exact ⟨rfl, HW4.out⟩

set_option maxHeartbeats 1000000 in
theorem dayNo (y m d : Int) (h : ¬ Vld y m d) (w : World) (hT : Tab w) :
    Calls Tryd.prog 6 #[.agg #[.int .i64 y, .int .i64 m, .int .i64 d]] w fun e w' => e = .returned (.bool true) ∧ Below w.heap.size w w' := by
  have HT := Lib.hid hT
  have HV := Lib.hid h
  have B0 := Lib.hid (Box.new w y m d 44)
  clear hT h
  go_enter Tryd.func6, Tryd.ntmps6
  go_wp2_with (go_at_call 32; refine (toD y m d _).mono ?_; rintro e w1 ⟨rfl, hb1⟩; refine Hid.out ?_)
  refine Lib.hid ?_
  have HW1 : Hid (Below w.heap.size w w1) := Lib.hid ((below1 w _).trans (hb1.mono (by simp)))
  have B1 := Lib.hid (B0.out.below hb1)
  clear hb1 B0
  go_wp2_with (go_at_call 33; refine (DayOf.specNo y m d HV.out w1).mono ?_; rintro e w2 ⟨rfl, hb2⟩; refine Hid.out ?_)
  refine Lib.hid ?_
  have HW2 : Hid (Below w.heap.size w w2) := Lib.hid (HW1.out.trans (hb2.mono HW1.out.size))
  have B2 := Lib.hid (B1.out.below hb2)
  clear hb2 B1 HW1
  obtain ⟨l2, x0, x1, x2, _, _, _⟩ := B2.out
  go_wp2_with (go_at_call 32; refine (toD y m d w2).mono ?_; rintro e w3 ⟨rfl, hb3⟩; refine Hid.out ?_)
  refine Lib.hid ?_
  have HW3 : Hid (Below w.heap.size w w3) := Lib.hid (HW2.out.trans (hb3.mono HW2.out.size))
  have HT3 : Hid (Tab w3) := Lib.hid (HT.out.below HW3.out)
  clear hb3 HW2 x0 x1 x2 l2 B2
  go_wp2_with (go_at_call 16; refine (DayOf.implNo y m d HV.out w3 HT3.out).mono ?_; rintro e w4 ⟨rfl, hb4⟩; refine Hid.out ?_)
  refine Lib.hid ?_
  have HW4 : Hid (Below w.heap.size w w4) := Lib.hid (HW3.out.trans (hb4.mono HW3.out.size))
  clear hb4
  go_wp2_with fail
  go_ret
  exact ⟨rfl, HW4.out⟩

theorem dayWalk (y m d : Int) (w : World) (hT : Tab w) :
    Calls Tryd.prog 6 #[.agg #[.int .i64 y, .int .i64 m, .int .i64 d]] w fun e w' => e = .returned (.bool true) ∧ Below w.heap.size w w' := by
  by_cases h : Vld y m d
  · exact dayYes y m d h w hT
  · exact dayNo y m d h w hT

end Go.Proofs.YtjibnfeeomlnlaaDoor.DayLaw
