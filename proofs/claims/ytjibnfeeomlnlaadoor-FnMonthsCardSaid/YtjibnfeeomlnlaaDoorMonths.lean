/-
  AddMonths, of the program and of the model.
-/
import Derived.Test.YtjibnfeeomlnlaaDoorDateLaw
import Derived.Deep.RegionWith
namespace Go.Proofs.YtjibnfeeomlnlaaDoor.Months
open Go.RowKit Go.Proofs.YtjibnfeeomlnlaaDoor.Cal Go.Proofs.YtjibnfeeomlnlaaDoor.Tab Go.Proofs.YtjibnfeeomlnlaaDoor.Wd Go.Proofs.YtjibnfeeomlnlaaDoor.Len Go.Proofs.YtjibnfeeomlnlaaDoor.Valid Go.Proofs.YtjibnfeeomlnlaaDoor.DayOf Go.Proofs.YtjibnfeeomlnlaaDoor.DateOf
set_option linter.unusedVariables false

/-- The months counted from the year 0, so many behind a day's. -/
def cnt (n k : Int) : Int := yr n * 12 + mo n - 1 + k
def ny (n k : Int) : Int := cnt n k / 12
def nm (n k : Int) : Int := cnt n k % 12 + 1
def nd (n k : Int) : Int := min (da n) (lenM (ny n k) (nm n k))

theorem vld (n k : Int) (h : Day n) (hy : InY (ny n k)) : Vld (ny n k) (nm n k) (nd n k) := by
  obtain ⟨_, _, h1, h2⟩ := (date_is h).1
  have hl := len_bd (ny n k) (nm n k)
  refine ⟨hy, ⟨by unfold nm; omega, by unfold nm; omega⟩, ?_, ?_⟩ <;> unfold nd <;> omega

set_option maxHeartbeats 1000000 in
theorem implAux (n k Y M D L R : Int) (w : World) (hT : Tab w) (hy : 2000 ≤ Y ∧ Y ≤ 2099) (hm : 1 ≤ M ∧ M ≤ 12) (k1 : -1200 ≤ k) (k2 : k ≤ 1200)
    (HI : Hid (∀ w, Tab w → Calls Tryd.prog 15 #[.int .i64 n] w fun e w' => e = .returned (.tuple #[.agg #[.int .i64 Y, .int .i64 M, .int .i64 D], .bool true]) ∧ Below w.heap.size w w'))
    (HL : Hid (∀ w, Tab w → Calls Tryd.prog 26 #[.int .i64 ((Y * 12 + M - 1 + k) / 12), .int .i64 ((Y * 12 + M - 1 + k) % 12 + 1)] w fun e w' => e = .returned (.tuple #[.int .i64 L, .bool true]) ∧ w = w'))
    (HD : Hid (∀ x w, x = min D L → Tab w → Calls Tryd.prog 16 #[.agg #[.int .i64 (((Y * 12 + M - 1 + k) / 12)), .int .i64 (((Y * 12 + M - 1 + k) % 12 + 1)), .int .i64 x]] w fun e w' => e = .returned (.tuple #[.int .i64 R, .bool true]) ∧ Below w.heap.size w w')) :
    Calls Tryd.prog 23 #[.int .i64 n, .int .i64 k] w fun e w' => e = .returned (.tuple #[.int .i64 R, .bool true]) ∧ Below w.heap.size w w' := by
  have HT := Lib.hid hT
  clear hT
  go_enter Tryd.func23, Tryd.ntmps23
  go_wp2_with (go_at_call 15; refine (HI.out _ HT.out).mono ?_; rintro e w1 ⟨rfl, hb1⟩; refine Hid.out ?_)
  refine Lib.hid ?_
  have HW1 := Lib.hid hb1
  have HT1 : Hid (Tab (w1.alloc (.cells #[.int .i64 Y, .int .i64 M, .int .i64 D] 26))) := Lib.hid ((HT.out.below hb1).alloc _)
  have HW2 : Hid (Below w.heap.size w (w1.alloc (.cells #[.int .i64 Y, .int .i64 M, .int .i64 D] 26))) := Lib.hid (hb1.trans ((below1 w1 _).mono hb1.size))
  clear hb1
  rcases Int.lt_trichotomy D L with hdl | hdl | hdl
  · have HX : Hid (D = min D L) := Lib.hid (by omega)
    go_wp2_with (first
      | (go_at_call 26; refine (HL.out _ HT1.out).mono ?_; rintro e w2 ⟨rfl, rfl⟩)
      | (go_at_call 16; refine (HD.out D _ HX.out HT1.out).mono ?_; rintro e w2 ⟨rfl, hb2⟩))
    go_ret2
    exact ⟨rfl, HW2.out.trans (hb2.mono HW2.out.size)⟩
  · have HX : Hid (D = min D L) := Lib.hid (by omega)
    subst hdl
    go_wp2_with (first
      | (go_at_call 26; refine (HL.out _ HT1.out).mono ?_; rintro e w2 ⟨rfl, rfl⟩)
      | (go_at_call 16; refine (HD.out D _ HX.out HT1.out).mono ?_; rintro e w2 ⟨rfl, hb2⟩))
    go_ret2
    exact ⟨rfl, HW2.out.trans (hb2.mono HW2.out.size)⟩
  · have HX : Hid (L = min D L) := Lib.hid (by omega)
    go_wp2_with (first
      | (go_at_call 26; refine (HL.out _ HT1.out).mono ?_; rintro e w2 ⟨rfl, rfl⟩)
      | (go_at_call 16; refine (HD.out L _ HX.out HT1.out).mono ?_; rintro e w2 ⟨rfl, hb2⟩))
    go_ret2
    exact ⟨rfl, HW2.out.trans (hb2.mono HW2.out.size)⟩

theorem least (a b : Int) (w : World) :
    Calls Tryd.prog 65 #[.int .i64 a, .int .i64 b] w fun e w' => e = .returned (.int .i64 (min a b)) ∧ w = w' := by
  by_cases h : a < b
  · have e : Hid (a = min a b) := Lib.hid (by omega)
    go_enter Tryd.func65, Tryd.ntmps65
    go_wp2
    go_ret
    exact ⟨ret_int e.out, rfl⟩
  · have e : Hid (b = min a b) := Lib.hid (by omega)
    go_enter Tryd.func65, Tryd.ntmps65
    go_wp2
    go_ret
    exact ⟨ret_int e.out, rfl⟩

set_option maxHeartbeats 1000000 in
theorem l3MonthsAux (n k Y M D L R : Int) (w : World) (hy : 2000 ≤ Y ∧ Y ≤ 2099) (hm : 1 ≤ M ∧ M ≤ 12) (hk : -1200 ≤ k ∧ k ≤ 1200)
    (hin : 2000 ≤ (12 * Y + M - 1 + k) / 12 ∧ (12 * Y + M - 1 + k) / 12 ≤ 2099)
    (HI : Hid (∀ w, Calls Tryd.prog 51 #[.int .i64 n] w fun e w' => e = .returned (.agg #[.int .i64 Y, .int .i64 M, .int .i64 D]) ∧ Below w.heap.size w w'))
    (HL : Hid (∀ w, Calls Tryd.prog 53 #[.int .i64 ((12 * Y + M - 1 + k) / 12), .int .i64 ((12 * Y + M - 1 + k) % 12 + 1)] w fun e w' => e = .returned (.int .i64 L) ∧ w = w'))
    (HD : Hid (∀ w, Calls Tryd.prog 54 #[.agg #[.int .i64 (((12 * Y + M - 1 + k) / 12)), .int .i64 (((12 * Y + M - 1 + k) % 12 + 1)), .int .i64 ((min D L))]] w fun e w' => e = .returned (.int .i64 R) ∧ w.alloc (.cells #[.int .i64 (((12 * Y + M - 1 + k) / 12)), .int .i64 (((12 * Y + M - 1 + k) % 12 + 1)), .int .i64 ((min D L))] 26) = w')) :
    Calls Tryd.prog 50 #[.int .i64 n, .int .i64 k] w fun e w' => e = .returned (.tuple #[.int .i64 R, .bool true]) ∧ Below w.heap.size w w' := by
  go_enter Tryd.func50, Tryd.ntmps50
  go_wp2_with (go_at_call 51; refine (HI.out _).mono ?_; rintro e w1 ⟨rfl, hb1⟩; refine Hid.out ?_)
  refine Lib.hid ?_
  have HW1 := Lib.hid hb1
  have HW2 : Hid (Below w.heap.size w (w1.alloc (.cells #[.int .i64 Y, .int .i64 M, .int .i64 D] 26))) := Lib.hid (hb1.trans ((below1 w1 _).mono hb1.size))
  clear hb1
  go_wp2_with (first
    | (go_at_call 49; refine (l1In_true _ _ _ hin.1 hin.2 _).mono ?_; rintro e w2 ⟨rfl, rfl⟩))
  go_region_with (first
    | (go_at_call 53; (with_reducible refine (HL.out _).mono ?_); rintro e w2 ⟨rfl, rfl⟩)
    | (go_at_call 65; (with_reducible refine (least D L _).mono ?_); rintro e w2 ⟨rfl, rfl⟩)
    | (go_at_call 54; (with_reducible refine (HD.out _).mono ?_); rintro e w2 ⟨rfl, rfl⟩))
  all_goals
    go_wp2_with fail
    go_ret2
    exact ⟨rfl, by first | exact (HW2.out.alloc (by have := HW1.out.size; simp; omega) _).drew | exact HW2.out.drew.alloc (by have := HW1.out.size; simp; omega) _⟩

theorem implNoD (n k : Int) (h : ¬ Day n) (w : World) :
    Calls Tryd.prog 23 #[.int .i64 n, .int .i64 k] w fun e w' => e = .returned (.tuple #[.int .i64 0, .bool false]) ∧ Below w.heap.size w w' := by
  have HD := Lib.hid h
  clear h
  go_enter Tryd.func23, Tryd.ntmps23
  go_wp2_with (go_at_call 15; refine (DateLaw.implNo n HD.out _).mono ?_; rintro e w1 ⟨rfl, hb1⟩; refine Hid.out ?_)
  refine Lib.hid ?_
  have HW2 : Hid (Below w.heap.size w (w1.alloc (.cells #[.int .i64 0, .int .i64 0, .int .i64 0] 26))) := Lib.hid (hb1.trans ((below1 w1 _).mono hb1.size))
  clear hb1
  go_wp2_with fail
  go_ret2
  exact ⟨rfl, HW2.out⟩

set_option maxHeartbeats 1000000 in
theorem implNoK (n k Y M D : Int) (w : World) (hT : Tab w) (hk : k < -1200 ∨ 1200 < k)
    (HI : Hid (∀ w, Tab w → Calls Tryd.prog 15 #[.int .i64 n] w fun e w' => e = .returned (.tuple #[.agg #[.int .i64 Y, .int .i64 M, .int .i64 D], .bool true]) ∧ Below w.heap.size w w')) :
    Calls Tryd.prog 23 #[.int .i64 n, .int .i64 k] w fun e w' => e = .returned (.tuple #[.int .i64 0, .bool false]) ∧ Below w.heap.size w w' := by
  have HT := Lib.hid hT
  clear hT
  by_cases hk2 : k < -1200
  · clear hk
    go_enter Tryd.func23, Tryd.ntmps23
    go_wp2_with (go_at_call 15; refine (HI.out _ HT.out).mono ?_; rintro e w1 ⟨rfl, hb1⟩; refine Hid.out ?_)
    refine Lib.hid ?_
    have HW2 : Hid (Below w.heap.size w (w1.alloc (.cells #[.int .i64 Y, .int .i64 M, .int .i64 D] 26))) := Lib.hid (hb1.trans ((below1 w1 _).mono hb1.size))
    clear hb1
    go_wp2_with fail
    go_ret2
    exact ⟨rfl, HW2.out⟩
  · have hk3 : 1200 < k := by omega
    clear hk
    go_enter Tryd.func23, Tryd.ntmps23
    go_wp2_with (go_at_call 15; refine (HI.out _ HT.out).mono ?_; rintro e w1 ⟨rfl, hb1⟩; refine Hid.out ?_)
    refine Lib.hid ?_
    have HW2 : Hid (Below w.heap.size w (w1.alloc (.cells #[.int .i64 Y, .int .i64 M, .int .i64 D] 26))) := Lib.hid (hb1.trans ((below1 w1 _).mono hb1.size))
    clear hb1
    go_wp2_with fail
    go_ret2
    exact ⟨rfl, HW2.out⟩

set_option maxHeartbeats 1000000 in
theorem implNoY (n k Y M D : Int) (w : World) (hT : Tab w) (hy : 2000 ≤ Y ∧ Y ≤ 2099) (hm : 1 ≤ M ∧ M ≤ 12) (k1 : -1200 ≤ k) (k2 : k ≤ 1200)
    (HI : Hid (∀ w, Tab w → Calls Tryd.prog 15 #[.int .i64 n] w fun e w' => e = .returned (.tuple #[.agg #[.int .i64 Y, .int .i64 M, .int .i64 D], .bool true]) ∧ Below w.heap.size w w'))
    (HL : Hid (∀ w, Tab w → Calls Tryd.prog 26 #[.int .i64 ((Y * 12 + M - 1 + k) / 12), .int .i64 ((Y * 12 + M - 1 + k) % 12 + 1)] w fun e w' => e = .returned (.tuple #[.int .i64 0, .bool false]) ∧ w = w')) :
    Calls Tryd.prog 23 #[.int .i64 n, .int .i64 k] w fun e w' => e = .returned (.tuple #[.int .i64 0, .bool false]) ∧ Below w.heap.size w w' := by
  have HT := Lib.hid hT
  clear hT
  go_enter Tryd.func23, Tryd.ntmps23
  go_wp2_with (go_at_call 15; refine (HI.out _ HT.out).mono ?_; rintro e w1 ⟨rfl, hb1⟩; refine Hid.out ?_)
  refine Lib.hid ?_
  have HT1 : Hid (Tab (w1.alloc (.cells #[.int .i64 Y, .int .i64 M, .int .i64 D] 26))) := Lib.hid ((HT.out.below hb1).alloc _)
  have HW2 : Hid (Below w.heap.size w (w1.alloc (.cells #[.int .i64 Y, .int .i64 M, .int .i64 D] 26))) := Lib.hid (hb1.trans ((below1 w1 _).mono hb1.size))
  clear hb1
  go_wp2_with (go_at_call 26; refine (HL.out _ HT1.out).mono ?_; rintro e w2 ⟨rfl, rfl⟩)
  go_ret2
  exact ⟨rfl, HW2.out⟩

set_option maxHeartbeats 1000000 in
theorem l3MonthsNo (n k Y M D : Int) (w : World) (hy : 2000 ≤ Y ∧ Y ≤ 2099) (hm : 1 ≤ M ∧ M ≤ 12) (hk : -1200 ≤ k ∧ k ≤ 1200)
    (hin : (12 * Y + M - 1 + k) / 12 < 2000 ∨ 2099 < (12 * Y + M - 1 + k) / 12)
    (HI : Hid (∀ w, Calls Tryd.prog 51 #[.int .i64 n] w fun e w' => e = .returned (.agg #[.int .i64 Y, .int .i64 M, .int .i64 D]) ∧ Below w.heap.size w w')) :
    Calls Tryd.prog 50 #[.int .i64 n, .int .i64 k] w fun e w' => e = .returned (.tuple #[.int .i64 0, .bool false]) ∧ Below w.heap.size w w' := by
  have HN := Lib.hid hin
  clear hin
  go_enter Tryd.func50, Tryd.ntmps50
  go_wp2_with (go_at_call 51; refine (HI.out _).mono ?_; rintro e w1 ⟨rfl, hb1⟩; refine Hid.out ?_)
  refine Lib.hid ?_
  have HW2 : Hid (Below w.heap.size w (w1.alloc (.cells #[.int .i64 Y, .int .i64 M, .int .i64 D] 26))) := Lib.hid (hb1.trans ((below1 w1 _).mono hb1.size))
  clear hb1
  go_wp2_with (go_at_call 49; refine (l1In_false _ _ _ HN.out _).mono ?_; rintro e w2 ⟨rfl, rfl⟩)
  go_ret2
  exact ⟨rfl, HW2.out⟩

/-- What AddMonths answers. -/
def ans (n k : Int) : Int × Bool := if Day n ∧ -1200 ≤ k ∧ k ≤ 1200 ∧ InY (ny n k) then (num (ny n k) (nm n k) (nd n k), true) else (0, false)

theorem impl (n k : Int) (w : World) (hT : Tab w) :
    Calls Tryd.prog 23 #[.int .i64 n, .int .i64 k] w fun e w' => e = .returned (.tuple #[.int .i64 (ans n k).1, .bool (ans n k).2]) ∧ Below w.heap.size w w' := by
  unfold ans
  by_cases h : Day n
  · obtain ⟨hy, hm, _, _⟩ := (date_is h).1
    have HI := Lib.hid (fun w hw => DateLaw.implYes n h w hw)
    by_cases hk : -1200 ≤ k ∧ k ≤ 1200
    · by_cases hn : InY (ny n k)
      · rw [if_pos ⟨h, hk.1, hk.2, hn⟩]
        have hv := vld n k h hn
        exact implAux n k (yr n) (mo n) (da n) (lenM (ny n k) (nm n k)) _ w hT hy hm hk.1 hk.2 HI (Lib.hid fun w hw => lenYes (ny n k) (nm n k) hn hv.2.1 w hw)
          (Lib.hid fun x w hx hw => by subst hx; exact DayOf.implYes (ny n k) (nm n k) (nd n k) hv w hw)
      · rw [if_neg (fun h => hn h.2.2.2)]
        exact implNoY n k (yr n) (mo n) (da n) w hT hy hm hk.1 hk.2 HI (Lib.hid fun w _ => lenNo (ny n k) (nm n k) (fun h => hn h.1) w)
    · rw [if_neg (fun h => hk ⟨h.2.1, h.2.2.1⟩)]
      exact implNoK n k _ _ _ w hT (by omega) HI
  · rw [if_neg (fun h' => h h'.1)]
    exact implNoD n k h w

set_option maxHeartbeats 1000000 in
theorem specDay (n k R : Int) (b : Bool) (h : Day n) (hk : -1200 ≤ k ∧ k ≤ 1200) (w : World)
    (HC : Hid (∀ w, Calls Tryd.prog 50 #[.int .i64 n, .int .i64 k] w fun e w' => e = .returned (.tuple #[.int .i64 R, .bool b]) ∧ Below w.heap.size w w')) :
    Calls Tryd.prog 24 #[.int .i64 n, .int .i64 k] w fun e w' => e = .returned (.tuple #[.int .i64 R, .bool b]) ∧ Below w.heap.size w w' := by
  have HD := Lib.hid h
  clear h
  go_enter Tryd.func24, Tryd.ntmps24
  go_wp2_with (first
    | (go_at_call 48; refine (goodYes n HD.out _).mono ?_; rintro e w' ⟨rfl, rfl⟩)
    | (go_at_call 49; refine (l1In_true _ _ _ hk.1 hk.2 _).mono ?_; rintro e w2 ⟨rfl, rfl⟩)
    | (go_at_call 50; refine (HC.out _).mono ?_; rintro e w2 ⟨rfl, hb2⟩))
  go_ret2
  exact ⟨rfl, hb2⟩

theorem specNoK (n k : Int) (h : Day n) (hk : k < -1200 ∨ 1200 < k) (w : World) :
    Calls Tryd.prog 24 #[.int .i64 n, .int .i64 k] w fun e w' => e = .returned (.tuple #[.int .i64 0, .bool false]) ∧ Below w.heap.size w w' := by
  have HD := Lib.hid h
  have HK := Lib.hid hk
  clear h hk
  go_enter Tryd.func24, Tryd.ntmps24
  go_wp2_with (first
    | (go_at_call 48; refine (goodYes n HD.out _).mono ?_; rintro e w' ⟨rfl, rfl⟩)
    | (go_at_call 49; refine (l1In_false _ _ _ HK.out _).mono ?_; rintro e w2 ⟨rfl, rfl⟩))
  go_ret2
  exact ⟨rfl, Below.refl _ _⟩

theorem specNoD (n k : Int) (h : ¬ Day n) (w : World) :
    Calls Tryd.prog 24 #[.int .i64 n, .int .i64 k] w fun e w' => e = .returned (.tuple #[.int .i64 0, .bool false]) ∧ Below w.heap.size w w' := by
  have HD := Lib.hid h
  clear h
  go_enter Tryd.func24, Tryd.ntmps24
  go_wp2_with (go_at_call 48; refine (goodNo n HD.out _).mono ?_; rintro e w' ⟨rfl, rfl⟩)
  go_ret2
  exact ⟨rfl, Below.refl _ _⟩

theorem spec (n k : Int) (w : World) :
    Calls Tryd.prog 24 #[.int .i64 n, .int .i64 k] w fun e w' => e = .returned (.tuple #[.int .i64 (ans n k).1, .bool (ans n k).2]) ∧ Below w.heap.size w w' := by
  unfold ans
  by_cases h : Day n
  · obtain ⟨hy, hm, _, _⟩ := (date_is h).1
    have HI := Lib.hid (fun w => l3Date n h w)
    have ec : 12 * yr n + mo n - 1 + k = cnt n k := by unfold cnt; omega
    by_cases hk : -1200 ≤ k ∧ k ≤ 1200
    · by_cases hn : InY (ny n k)
      · rw [if_pos ⟨h, hk.1, hk.2, hn⟩]
        have hv := vld n k h hn
        have hl := len_bd (ny n k) (nm n k)
        refine specDay n k _ _ h hk w (Lib.hid fun w => ?_)
        refine l3MonthsAux n k (yr n) (mo n) (da n) (lenM (ny n k) (nm n k)) _ w hy hm hk (by rw [ec]; exact hn) HI (Lib.hid fun w => ?_) (Lib.hid fun w => ?_)
        · rw [ec]; exact l3Length (ny n k) (nm n k) (by have := hn.1; omega) w
        · rw [ec]; exact l3Day (ny n k) (nm n k) (nd n k) hn hv.2.1 (by have := hv.2.2; omega) (by have := hv.2.2; omega) w
      · rw [if_neg (fun h => hn h.2.2.2)]
        refine specDay n k _ _ h hk w (Lib.hid fun w => ?_)
        exact l3MonthsNo n k (yr n) (mo n) (da n) w hy hm hk (by rw [ec]; unfold InY ny at hn; omega) HI
    · rw [if_neg (fun h => hk ⟨h.2.1, h.2.2.1⟩)]
      exact specNoK n k h (by omega) w
  · rw [if_neg (fun h' => h h'.1)]
    exact specNoD n k h w

set_option maxHeartbeats 1000000 in
theorem walkAux (n k R : Int) (b : Bool) (w : World) (hT : Tab w)
    (HS : Hid (∀ w, Calls Tryd.prog 24 #[.int .i64 n, .int .i64 k] w fun e w' => e = .returned (.tuple #[.int .i64 R, .bool b]) ∧ Below w.heap.size w w'))
    (HI : Hid (∀ w, Tab w → Calls Tryd.prog 23 #[.int .i64 n, .int .i64 k] w fun e w' => e = .returned (.tuple #[.int .i64 R, .bool b]) ∧ Below w.heap.size w w')) :
    Calls Tryd.prog 9 #[.int .i64 n, .int .i64 k] w fun e w' => e = .returned (.bool true) ∧ Below w.heap.size w w' := by
  have HT := Lib.hid hT
  clear hT
  go_enter Tryd.func9, Tryd.ntmps9
  go_wp2_with (go_at_call 24; refine (HS.out _).mono ?_; rintro e w1 ⟨rfl, hb1⟩; refine Hid.out ?_)
  refine Lib.hid ?_
  have HW1 := Lib.hid hb1
  have HT1 : Hid (Tab w1) := Lib.hid (HT.out.below hb1)
  clear hb1
  go_wp2_with (go_at_call 23; refine (HI.out _ HT1.out).mono ?_; rintro e w2 ⟨rfl, hb2⟩; refine Hid.out ?_)
  refine Lib.hid ?_
  have HW2 : Hid (Below w.heap.size w w2) := Lib.hid (HW1.out.trans (hb2.mono HW1.out.size))
  clear hb2
  cases b
  all_goals
    go_wp2_with fail
    go_ret
    exact ⟨rfl, HW2.out⟩

theorem walk (n k : Int) (w : World) (hT : Tab w) :
    Calls Tryd.prog 9 #[.int .i64 n, .int .i64 k] w fun e w' => e = .returned (.bool true) ∧ Below w.heap.size w w' :=
  walkAux n k _ _ w hT (Lib.hid fun w => spec n k w) (Lib.hid fun w hw => impl n k w hw)

end Go.Proofs.YtjibnfeeomlnlaaDoor.Months
