/-
  The walk of the law FnDates.
-/
import Derived.Test.YtjibnfeeomlnlaaDoorPImpl
import Derived.Test.YtjibnfeeomlnlaaDoorCurDay
namespace Go.Proofs.YtjibnfeeomlnlaaDoor.DatesWalk
open Go.RowKit Go.Proofs.YtjibnfeeomlnlaaDoor.Cal Go.Proofs.YtjibnfeeomlnlaaDoor.Tab Go.Proofs.YtjibnfeeomlnlaaDoor.Wd Go.Proofs.YtjibnfeeomlnlaaDoor.Len Go.Proofs.YtjibnfeeomlnlaaDoor.Valid Go.Proofs.YtjibnfeeomlnlaaDoor.DayOf Go.Proofs.YtjibnfeeomlnlaaDoor.DateOf Go.Proofs.YtjibnfeeomlnlaaDoor.FmtPlain Go.Proofs.YtjibnfeeomlnlaaDoor.LiesD Go.Proofs.YtjibnfeeomlnlaaDoor.DPlain Go.Proofs.YtjibnfeeomlnlaaDoor.CurDay
set_option linter.unusedVariables false
set_option linter.unusedSimpArgs false

theorem next_end {n : Int} (h : Day n) (h1 : Day (n + 1)) (he : da n = lenM (yr n) (mo n)) : da (n + 1) = 1 ∧ mo (n + 1) = mo n % 12 + 1 := by
  obtain ⟨⟨hy, hm, d1, d2⟩, e⟩ := date_is h
  have b := bef_succ (yr n) hm
  have m1 := hm.1
  have m2 := hm.2
  by_cases hl : mo n < 12
  · have hm2 : InM (mo n + 1) := ⟨by omega, by omega⟩
    have hv : Vld (yr n) (mo n + 1) 1 := ⟨hy, hm2, by omega, by have := len_bd (yr n) (mo n + 1); omega⟩
    have en : num (yr n) (mo n + 1) 1 = n + 1 := by rw [num_month, b]; unfold num at e; omega
    obtain ⟨e1, e2, e3⟩ := date_of hv
    rw [en] at e1 e2 e3
    exact ⟨e3.symm, by rw [← e2]; omega⟩
  · have hm12 : mo n = 12 := by omega
    have hs := dby_succ (yr n) hy.1
    rw [hm12] at b e he
    have b' : bef (yr n) 13 = bef (yr n) 12 + lenM (yr n) 12 := b
    have en : dby (yr n + 1) = n + 1 := by rw [hs, b']; unfold num at e; omega
    have hy2 : InY (yr n + 1) := by
      refine ⟨by have := hy.1; omega, ?_⟩
      by_cases h99 : yr n = 2099
      · rw [h99] at en
        have := dby_max
        have := h1.2
        rw [show (2099 : Int) + 1 = 2100 by omega] at en
        omega
      · have := hy.2; omega
    have hv : Vld (yr n + 1) 1 1 := ⟨hy2, ⟨by omega, by omega⟩, by omega, by have := len_bd (yr n + 1) 1; omega⟩
    obtain ⟨e1, e2, e3⟩ := date_of hv
    rw [num_first, en] at e1 e2 e3
    exact ⟨e3.symm, by rw [← e2, hm12]; rfl⟩

theorem next_in {n : Int} (h : Day n) (he : da n ≠ lenM (yr n) (mo n)) : yr (n + 1) = yr n ∧ mo (n + 1) = mo n ∧ da (n + 1) = da n + 1 := by
  obtain ⟨⟨hy, hm, d1, d2⟩, e⟩ := date_is h
  have hv : Vld (yr n) (mo n) (da n + 1) := ⟨hy, hm, by omega, by omega⟩
  have en : num (yr n) (mo n) (da n + 1) = n + 1 := by unfold num at *; omega
  obtain ⟨e1, e2, e3⟩ := date_of hv
  rw [en] at e1 e2 e3
  exact ⟨e1.symm, e2.symm, e3.symm⟩

theorem last_end : da 36524 = lenM (yr 36524) (mo 36524) := by decide

/-- What the program's functions answer at a day, and how the answers hang together. -/
structure Facts (n Y M D Y' M' D' : Int) (E more : Bool) (T : ByteArray) : Prop where
  m1 : 1 ≤ M
  m2 : M ≤ 12
  d1 : 1 ≤ D
  d2 : D ≤ 31
  HI : ∀ w, Tab w → Calls Tryd.prog 15 #[.int .i64 n] w fun e w' => e = .returned (.tuple #[.agg #[.int .i64 Y, .int .i64 M, .int .i64 D], .bool true]) ∧ Below w.heap.size w w'
  HO : ∀ w, Tab w → Calls Tryd.prog 16 #[.agg #[.int .i64 Y, .int .i64 M, .int .i64 D]] w fun e w' => e = .returned (.tuple #[.int .i64 n, .bool true]) ∧ Below w.heap.size w w'
  HV : ∀ w, Tab w → Calls Tryd.prog 17 #[.agg #[.int .i64 Y, .int .i64 M, .int .i64 D]] w fun e w' => e = .returned (.bool true) ∧ Below w.heap.size w w'
  HF : ∀ w, Tab w → Lies w → Calls Tryd.prog 18 #[.int .i64 n] w fun e w' => e = .returned (.tuple #[.string T, .bool true]) ∧ Below w.heap.size w w'
  HP : ∀ w, Tab w → Lies w → Calls Tryd.prog 19 #[.string T] w fun e w' => e = .returned (.tuple #[.int .i64 n, .bool true]) ∧ Below w.heap.size w w'
  HWd : ∀ w, Calls Tryd.prog 20 #[.int .i64 n] w fun e w' => e = .returned (.tuple #[.int .i64 ((n + 5) % 7), .bool true]) ∧ w = w'
  HE : ∀ w, Tab w → Calls Tryd.prog 21 #[.int .i64 n] w fun e w' => e = .returned (.tuple #[.bool E, .bool true]) ∧ Below w.heap.size w w'
  HX : ∀ w, Tab w → Calls Tryd.prog 15 #[.int .i64 (n + 1)] w fun e w' => e = .returned (.tuple #[.agg #[.int .i64 (Y'), .int .i64 (M'), .int .i64 (D')], .bool more]) ∧ Below w.heap.size w w'
  HEnd : (more = false ∧ n = 36524 ∧ E = true) ∨ (more = true ∧ E = true ∧ D' = 1 ∧ M' = M % 12 + 1) ∨ (more = true ∧ E = false ∧ Y' = Y ∧ M' = M ∧ D' = D + 1)

theorem parseBack (n : Int) (h : Day n) (w : World) (hT : Tab w) (hL : Lies w) :
    Calls Tryd.prog 19 #[.string ⟨(DPlain.text (yr n) (mo n) (da n)).toArray⟩] w fun e w' => e = .returned (.tuple #[.int .i64 n, .bool true]) ∧ Below w.heap.size w w' := by
  have hi : Is (DPlain.text (yr n) (mo n) (da n)) n := ⟨h, rfl⟩
  refine (PImpl.impl ⟨(DPlain.text (yr n) (mo n) (da n)).toArray⟩ ?_ w hT hL).mono fun e w' ⟨ha, hb⟩ => ⟨?_, hb⟩
  · rw [FmtPlain.size, text_len (date_is h).1.1]; omega
  · rcases ha with ⟨x, hx, rfl⟩ | ⟨hn, rfl⟩
    · rw [hi.uniq hx]
    · exact absurd hi (hn n)

theorem facts (n : Int) (h : Day n) : ∃ Y M D Y' M' D' E more T, Facts n Y M D Y' M' D' E more T := by
  obtain ⟨hv, e⟩ := date_is h
  have hl := len_bd (yr n) (mo n)
  have hO : ∀ w, Tab w → Calls Tryd.prog 16 #[.agg #[.int .i64 ((yr n)), .int .i64 ((mo n)), .int .i64 ((da n))]] w fun e w' => e = .returned (.tuple #[.int .i64 n, .bool true]) ∧ Below w.heap.size w w' := fun w hw => by
    have := DayOf.implYes (yr n) (mo n) (da n) hv w hw
    rwa [e] at this
  have hV : ∀ w, Tab w → Calls Tryd.prog 17 #[.agg #[.int .i64 ((yr n)), .int .i64 ((mo n)), .int .i64 ((da n))]] w fun e w' => e = .returned (.bool true) ∧ Below w.heap.size w w' := fun w hw =>
    (validYes _ _ _ hv w hw).mono fun _ _ ⟨he, hw⟩ => ⟨he, by rw [← hw]; exact below1 _ _⟩
  by_cases h1 : Day (n + 1)
  · refine ⟨yr n, mo n, da n, yr (n + 1), mo (n + 1), da (n + 1), decide (da n = lenM (yr n) (mo n)), true, ⟨(DPlain.text (yr n) (mo n) (da n)).toArray⟩, hv.2.1.1, hv.2.1.2, hv.2.2.1, by have := hv.2.2.2; omega, fun w hw => DateLaw.implYes n h w hw, hO, hV,
      fun w hw hl => FmtDate.implYes n h w hw hl.tab, fun w hw hl => parseBack n h w hw hl, fun w => Wd.implYes n h w, fun w hw => DateLaw.endImplYes n h w hw, fun w hw => DateLaw.implYes (n + 1) h1 w hw, ?_⟩
    right
    by_cases he : da n = lenM (yr n) (mo n)
    · left
      obtain ⟨x, y⟩ := next_end h h1 he
      exact ⟨rfl, by simpa using he, x, y⟩
    · right
      obtain ⟨x, y, z⟩ := next_in h he
      exact ⟨rfl, by simpa using he, x, y, z⟩
  · have hn : n = 36524 := by unfold Day at h h1; omega
    refine ⟨yr n, mo n, da n, 0, 0, 0, decide (da n = lenM (yr n) (mo n)), false, ⟨(DPlain.text (yr n) (mo n) (da n)).toArray⟩, hv.2.1.1, hv.2.1.2, hv.2.2.1, by have := hv.2.2.2; omega, fun w hw => DateLaw.implYes n h w hw, hO, hV,
      fun w hw hl => FmtDate.implYes n h w hw hl.tab, fun w hw hl => parseBack n h w hw hl, fun w => Wd.implYes n h w, fun w hw => DateLaw.endImplYes n h w hw, fun w hw => DateLaw.implNo (n + 1) h1 w, ?_⟩
    left
    refine ⟨rfl, hn, ?_⟩
    rw [hn]; simpa using last_end

set_option maxHeartbeats 8000000 in
theorem small (A : Option Addr) (len cap : Nat) (w : World) (hT : Tab w) (hL : Lies w)
    (HB : Hid (Calls Tryd.prog 13 #[.slice A len cap] w fun e w' => e = .returned (.bool false) ∧ w = w'))
    (HD : Hid (Calls Tryd.prog 14 #[.slice A len cap] w fun e w' => ∃ z : Int, e = .returned (.int .i64 z) ∧ AnyDay z ∧ Below w.heap.size w w')) :
    Calls Tryd.prog 3 #[.slice A len cap] w fun e w' => e = .returned (.bool true) ∧ Below w.heap.size w w' := by
  have HTb : Hid (∀ v, Below w.heap.size w v → Tab v) := Lib.hid fun v hv => hT.below hv
  have HLb : Hid (∀ v, Below w.heap.size w v → Lies v) := Lib.hid fun v hv => hL.below hv
  clear hT hL
  go_enter Tryd.func3, Tryd.ntmps3
  go_wp2_with (first
    | (go_at_call 13; refine HB.out.mono ?_; rintro e w' ⟨rfl, rfl⟩)
    | (go_at_call 14; refine HD.out.mono ?_; rintro e w1 ⟨n, rfl, hz, hb1⟩; refine Hid.out ?_))
  refine Lib.hid ?_
  clear HB HD
  by_cases h : Day n
  · have n1 : 0 ≤ n := h.1
    have n2 : n ≤ 36524 := h.2
    obtain ⟨Y, M, D, Y', M', D', E, more, T, M1, M2, D1, D2, HI, HO, HV, HF, HP, HWd, HE, HX, HEnd⟩ := facts n h
    replace HI := Lib.hid HI
    replace HO := Lib.hid HO
    replace HV := Lib.hid HV
    replace HF := Lib.hid HF
    replace HP := Lib.hid HP
    replace HWd := Lib.hid HWd
    replace HE := Lib.hid HE
    replace HX := Lib.hid HX
    replace HEnd := Lib.hid HEnd
    clear h hz
    have HW1 := Lib.hid hb1
    have HT1 := Lib.hid (HTb.out _ hb1)
    clear hb1
    go_wp2_with (go_at_call 15; refine (HI.out w1 HT1.out).mono ?_; rintro e w2 ⟨rfl, hb2⟩; refine Hid.out ?_)
    refine Lib.hid ?_
    have HW2 : Hid (Below w.heap.size w (w2.alloc (.cells #[.int .i64 Y, .int .i64 M, .int .i64 D] 26))) := Lib.hid ((HW1.out.trans (hb2.mono HW1.out.size)).trans ((below1 _ _).mono (HW1.out.trans (hb2.mono HW1.out.size)).size))
    have HT2 := Lib.hid (HTb.out _ HW2.out)
    have B2 := Lib.hid (Box.new w2 Y M D 26)
    clear hb2 HT1 HW1
    go_wp2_with (go_at_call 16; refine (HO.out _ HT2.out).mono ?_; rintro e w3 ⟨rfl, hb3⟩; refine Hid.out ?_)
    refine Lib.hid ?_
    have HW3 : Hid (Below w.heap.size w w3) := Lib.hid (HW2.out.trans (hb3.mono HW2.out.size))
    have HT3 := Lib.hid (HTb.out _ HW3.out)
    have B3 := Lib.hid (B2.out.below hb3)
    obtain ⟨_, c1, c2, c3, _, _, _⟩ := B3.out
    clear hb3 HT2 HW2 B2
    go_wp2_with (go_at_call 17; refine (HV.out w3 HT3.out).mono ?_; rintro e w4 ⟨rfl, hb4⟩; refine Hid.out ?_)
    refine Lib.hid ?_
    have HW4 : Hid (Below w.heap.size w w4) := Lib.hid (HW3.out.trans (hb4.mono HW3.out.size))
    have HT4 := Lib.hid (HTb.out _ HW4.out)
    have HL4 := Lib.hid (HLb.out _ HW4.out)
    have B4 := Lib.hid (B3.out.below hb4)
    clear hb4 HT3 HW3 B3 c1 c2 c3
    go_wp2_with (go_at_call 18; refine (HF.out w4 HT4.out HL4.out).mono ?_; rintro e w5 ⟨rfl, hb5⟩; refine Hid.out ?_)
    refine Lib.hid ?_
    have HW5 : Hid (Below w.heap.size w w5) := Lib.hid (HW4.out.trans (hb5.mono HW4.out.size))
    have HT5 := Lib.hid (HTb.out _ HW5.out)
    have HL5 := Lib.hid (HLb.out _ HW5.out)
    have B5 := Lib.hid (B4.out.below hb5)
    clear hb5 HT4 HW4 B4 HL4
    go_wp2_with (go_at_call 19; refine (HP.out w5 HT5.out HL5.out).mono ?_; rintro e w6 ⟨rfl, hb6⟩; refine Hid.out ?_)
    refine Lib.hid ?_
    have HW6 : Hid (Below w.heap.size w w6) := Lib.hid (HW5.out.trans (hb6.mono HW5.out.size))
    have HT6 := Lib.hid (HTb.out _ HW6.out)
    have B6 := Lib.hid (B5.out.below hb6)
    clear hb6 HT5 HW5 B5 HL5
    go_wp2_with (first
      | (go_at_call 20; refine (HWd.out w6).mono ?_; rintro e w7 ⟨rfl, rfl⟩)
      | (go_at_call 21; refine (HE.out w6 HT6.out).mono ?_; rintro e w7 ⟨rfl, hb7⟩; refine Hid.out ?_))
    refine Lib.hid ?_
    have HW7 : Hid (Below w.heap.size w w7) := Lib.hid (HW6.out.trans (hb7.mono HW6.out.size))
    have HT7 := Lib.hid (HTb.out _ HW7.out)
    have B7 := Lib.hid (B6.out.below hb7)
    clear hb7 HT6 HW6 B6
    go_wp2_with (go_at_call 15; refine (HX.out w7 HT7.out).mono ?_; rintro e w8 ⟨rfl, hb8⟩; refine Hid.out ?_)
    refine Lib.hid ?_
    have HW8 : Hid (Below w.heap.size w (w8.alloc (.cells #[.int .i64 (Y'), .int .i64 (M'), .int .i64 (D')] 26))) := Lib.hid ((HW7.out.trans (hb8.mono HW7.out.size)).trans ((below1 _ _).mono (HW7.out.trans (hb8.mono HW7.out.size)).size))
    have B8 := Lib.hid ((B7.out.below hb8).alloc (.cells #[.int .i64 (Y'), .int .i64 (M'), .int .i64 (D')] 26))
    obtain ⟨_, c1, c2, c3, _, _, _⟩ := B8.out
    clear hb8 HT7 HW7 B7
    rcases HEnd.out with ⟨rfl, rfl, rfl⟩ | ⟨rfl, rfl, rfl, rfl⟩ | ⟨rfl, rfl, rfl, rfl, rfl⟩
    · go_wp2_with fail
      go_ret
      exact ⟨rfl, HW8.out⟩
    · go_wp2_with fail
      go_ret
      exact ⟨rfl, HW8.out⟩
    · go_wp2_with fail
      go_ret
      exact ⟨rfl, HW8.out⟩
  · have HN := Lib.hid h
    have n1 : -1 ≤ n := hz.1
    have n2 : n ≤ 1099511627776 := hz.2
    have hn : Hid (n < 0 ∨ 36524 < n) := Lib.hid (by have := HN.out; unfold Day at this; omega)
    clear h hz
    have HW1 := Lib.hid hb1
    clear hb1
    go_wp2_with (go_at_call 15; refine (DateLaw.implNo n HN.out w1).mono ?_; rintro e w2 ⟨rfl, hb2⟩; refine Hid.out ?_)
    refine Lib.hid ?_
    have HW2 : Hid (Below w.heap.size w (w2.alloc (.cells #[.int .i64 0, .int .i64 0, .int .i64 0] 26))) := Lib.hid ((HW1.out.trans (hb2.mono HW1.out.size)).trans ((below1 _ _).mono (HW1.out.trans (hb2.mono HW1.out.size)).size))
    have HT2 : Hid (Tab (w2.alloc (.cells #[.int .i64 0, .int .i64 0, .int .i64 0] 26))) := Lib.hid (HTb.out _ HW2.out)
    have HV : Hid (¬ Vld 0 0 0) := Lib.hid (by decide)
    have B2 := Lib.hid (Box.new w2 0 0 0 26)
    clear hb2
    go_wp2_with (go_at_call 16; refine (DayOf.implNo 0 0 0 HV.out _ HT2.out).mono ?_; rintro e w3 ⟨rfl, hb3⟩; refine Hid.out ?_)
    refine Lib.hid ?_
    have HW3 : Hid (Below w.heap.size w w3) := Lib.hid (HW2.out.trans (hb3.mono HW2.out.size))
    have B3 := Lib.hid (B2.out.below hb3)
    obtain ⟨_, c1, c2, c3, _, _, _⟩ := B3.out
    clear hb3
    rcases hn.out with h | h
    · go_wp2_with fail
      go_ret
      exact ⟨rfl, HW3.out⟩
    · go_wp2_with fail
      go_ret
      exact ⟨rfl, HW3.out⟩

theorem bigWalk (A : Option Addr) (len cap : Nat) (w : World) (h : 65536 < len) (hm : len ≤ maxLen) :
    Calls Tryd.prog 3 #[.slice A len cap] w fun e w' => e = .returned (.bool true) ∧ Below w.heap.size w w' := by
  have HB := Lib.hid (vBigYes A len cap w h hm)
  clear h hm
  go_enter Tryd.func3, Tryd.ntmps3
  go_wp2_with (go_at_call 13; refine HB.out.mono ?_; rintro e w' ⟨rfl, rfl⟩)
  go_ret
  exact ⟨rfl, Below.refl _ _⟩

theorem walk (A : Option Addr) (len cap : Nat) (w : World) (hm : len ≤ maxLen) (hA : Cur.Bytes w w.heap.size A len) (hT : Tab w) (hL : Lies w) :
    Calls Tryd.prog 3 #[.slice A len cap] w fun e w' => e = .returned (.bool true) ∧ Below w.heap.size w w' := by
  by_cases h : 65536 < len
  · exact bigWalk A len cap w h hm
  · exact small A len cap w hT hL (Lib.hid (vBigNo A len cap w (by omega))) (Lib.hid (drawDateOf A len cap w (by omega) hA))

end Go.Proofs.YtjibnfeeomlnlaaDoor.DatesWalk
