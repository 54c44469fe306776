/-
  l1Least, l4Thirty, l4Years, l4Count and DayCount of the model.
-/
import Derived.Test.YtlpblipgehlniaaDoorDcI
namespace Go.Proofs.YtlpblipgehlniaaDoor.DcS
open Go.RowKit Go.Proofs.YtlpblipgehlniaaDoor.Cal Go.Proofs.YtlpblipgehlniaaDoor.Biz Go.Proofs.YtlpblipgehlniaaDoor.Wd Go.Proofs.YtlpblipgehlniaaDoor.CalLaw Go.Proofs.YtlpblipgehlniaaDoor.Yrs Go.Proofs.YtlpblipgehlniaaDoor.Len Go.Proofs.YtlpblipgehlniaaDoor.DcI
set_option linter.unusedVariables false

theorem quiet_eq {P : Program} {f : FuncId} {args : Array Value} {w : World} {n : Nat} {v : Value}
    (h : Calls P f args (w.drewN n) fun e w' => e = .returned v ∧ w.drewN n = w') : Calls P f args (w.drewN n) fun e w'' => e = .returned v ∧ ∃ m, w'' = w.drewN m :=
  h.mono fun _ _ ⟨he, hm⟩ => ⟨he, n, hm.symm⟩

theorem least (a b m : Int) (hm : m = min a b) (w : World) :
    Calls Tryd.prog 80 #[.int .i64 a, .int .i64 b] w fun e w' => e = .returned (.int .i64 m) ∧ w = w' := by
  by_cases h : a < b
  · have e : m = a := by omega
    subst e
    clear hm
    go_enter Tryd.func80, Tryd.ntmps80
    go_wp2
    go_ret
    exact ⟨rfl, rfl⟩
  · have e : m = b := by omega
    subst e
    clear hm
    go_enter Tryd.func80, Tryd.ntmps80
    go_wp2
    go_ret
    exact ⟨rfl, rfl⟩

set_option maxHeartbeats 2000000 in
theorem thirtyAux (a b Y1 M1 D1 Y2 M2 D2 m1 m2 : Int) (w : World) (y0 : 2000 ≤ Y1) (y1 : Y1 ≤ 2099) (y2 : 2000 ≤ Y2) (y3 : Y2 ≤ 2099) (n0 : 1 ≤ M1) (n1 : M1 ≤ 12) (n2 : 1 ≤ M2) (n3 : M2 ≤ 12) (q0 : 1 ≤ m1) (q1 : m1 ≤ 30) (q2 : 1 ≤ m2) (q3 : m2 ≤ 30)
    (HA : Hid (∀ w, Calls Tryd.prog 48 #[.int .i64 a] w fun e w' => e = .returned (.agg #[.int .i64 Y1, .int .i64 M1, .int .i64 D1]) ∧ Below w.heap.size w w'))
    (HB : Hid (∀ w, Calls Tryd.prog 48 #[.int .i64 b] w fun e w' => e = .returned (.agg #[.int .i64 Y2, .int .i64 M2, .int .i64 D2]) ∧ Below w.heap.size w w'))
    (H1 : Hid (∀ w, Calls Tryd.prog 80 #[.int .i64 D1, .int .i64 30] w fun e w' => e = .returned (.int .i64 m1) ∧ w = w'))
    (H2 : Hid (∀ w, Calls Tryd.prog 80 #[.int .i64 D2, .int .i64 30] w fun e w' => e = .returned (.int .i64 m2) ∧ w = w')) :
    Calls Tryd.prog 72 #[.int .i64 a, .int .i64 b] w fun e w' => e = .returned (.int .i64 (360 * Y2 + 30 * M2 + m2 - (360 * Y1 + 30 * M1 + m1))) ∧ Below w.heap.size w w' := by
  go_enter Tryd.func72, Tryd.ntmps72
  go_wp2_with (go_at_call 48; refine (HA.out _).mono ?_; rintro e w1 ⟨rfl, hb1⟩; refine Hid.out ?_)
  refine Lib.hid ?_
  go_wp2_with (go_at_call 48; refine (HB.out _).mono ?_; rintro e w2 ⟨rfl, hb2⟩; refine Hid.out ?_)
  refine Lib.hid ?_
  have BW : Hid (Below w.heap.size w ((w2.alloc (.cells #[.int .i64 Y1, .int .i64 M1, .int .i64 D1] 44)).alloc (.cells #[.int .i64 Y2, .int .i64 M2, .int .i64 D2] 44))) := Lib.hid (((hb1.trans (hb2.mono hb1.size)).alloc (hb1.trans (hb2.mono hb1.size)).size _).alloc (by have := (hb1.trans (hb2.mono hb1.size)).size; simp; omega) _)
  clear hb1 hb2
  go_wp2_with fail
  go_quiet ((first
    | (go_at_call 80; with_reducible exact quiet_eq (H1.out _))
    | (go_at_call 80; with_reducible exact quiet_eq (H2.out _))))
  go_wp2_with fail
  go_ret
  exact ⟨ret_one (by omega), below_drewN BW.out _⟩

theorem thirty (a b : Int) (ha : Day a) (hb : Day b) (w : World) :
    Calls Tryd.prog 72 #[.int .i64 a, .int .i64 b] w fun e w' => e = .returned (.int .i64 (bank b - bank a)) ∧ Below w.heap.size w w' := by
  obtain ⟨⟨⟨y1, y2⟩, ⟨m1, m2⟩, d1, d2⟩, _⟩ := date_is ha
  obtain ⟨⟨⟨y3, y4⟩, ⟨m3, m4⟩, d3, d4⟩, _⟩ := date_is hb
  exact thirtyAux a b (yr a) (mo a) (da a) (yr b) (mo b) (da b) (min (da a) 30) (min (da b) 30) w y1 y2 y3 y4 m1 m2 m3 m4 (by omega) (by omega) (by omega) (by omega)
    (Lib.hid fun w => DateOf.l3Date a ha w) (Lib.hid fun w => DateOf.l3Date b hb w) (Lib.hid fun w => least _ _ _ rfl w) (Lib.hid fun w => least _ _ _ rfl w)

/-- The sums of l4Years. -/
structure Sums (a b l o : Int) : Prop where
  eq : 365 * l + 366 * o = W 100 b - W 100 a

theorem sums_leap {a x n l o y : Int} (h : Sums a x l o) (hy : InY y) (h4 : y % 4 = 0) (h1 : dby y ≤ x) (h2 : x ≤ n) (h3 : n ≤ dby (y + 1)) : Sums a n (l + n - x) o := ⟨by
  have e := W_year hy h1 h2 h3
  have e2 := h.eq
  unfold wgt at e
  rw [if_pos h4] at e
  omega⟩
theorem sums_other {a x n l o y : Int} (h : Sums a x l o) (hy : InY y) (h4 : ¬ y % 4 = 0) (h1 : dby y ≤ x) (h2 : x ≤ n) (h3 : n ≤ dby (y + 1)) : Sums a n l (o + n - x) := ⟨by
  have e := W_year hy h1 h2 h3
  have e2 := h.eq
  unfold wgt at e
  rw [if_neg h4] at e
  omega⟩

theorem fld0 (Y M D : Int) (w : World) : (Instr.field 44 (.agg #[.int .i64 Y, .int .i64 M, .int .i64 D]) 0).run Tryd.prog w = .ok (.int .i64 Y) w := by kernel_rfl

set_option maxHeartbeats 4000000 in
theorem years (a b : Int) (ha : Day a) (hb : Day b) (hab : a ≤ b) (w : World) :
    Calls Tryd.prog 73 #[.int .i64 a, .int .i64 b] w fun e w' => ∃ l o : Int, e = .returned (.tuple #[.int .i64 l, .int .i64 o]) ∧ (0 ≤ l ∧ l ≤ 36524) ∧ (0 ≤ o ∧ o ≤ 36524) ∧ Sums a b l o ∧ Below w.heap.size w w' := by
  obtain ⟨a0, a1⟩ := ha
  obtain ⟨b0, b1⟩ := hb
  go_enter Tryd.func73, Tryd.ntmps73
  go_wp2_with fail
  go_loopw [0, 6, 7] (fun i j m wr => ∃ x l o : Int, (a ≤ x ∧ x ≤ b) ∧ (0 ≤ l ∧ 0 ≤ o ∧ l ≤ x ∧ o ≤ x) ∧ i = .int .i64 x ∧ j = .int .i64 l ∧ m = .int .i64 o ∧ Hid (Sums a x l o) ∧ Hid (Below w.heap.size w wr)) (fun i _ _ _ => (b - intOf i).toNat)
  case atStart => exact ⟨a, 0, 0, by omega, by omega, rfl, rfl, rfl, Lib.hid ⟨by omega⟩, Lib.hid (Below.refl _ _)⟩
  case round =>
    obtain ⟨x, l, o, ⟨x0, x1⟩, ⟨l0, o0, l1, o1⟩, rfl, rfl, rfl, HS, HW⟩ := hrel
    by_cases hlt : x < b
    · have hx : Day x := ⟨by omega, by omega⟩
      obtain ⟨hY, hy1, hy2⟩ := yr_bd hx
      have hl := year_last hY
      have hs := dby_bd hY
      obtain ⟨n, hn⟩ : ∃ n, n = min b (num (yr x) 12 31 + 1) := ⟨_, rfl⟩
      have n0 : x < n := by omega
      have n1 : n ≤ b := by omega
      have HD := Lib.hid fun w => DateOf.l3Date x hx w
      have HE : Hid (∀ w, Calls Tryd.prog 51 #[.agg #[.int .i64 ((yr x)), .int .i64 12, .int .i64 31]] w fun e w' => e = .returned (.int .i64 (num (yr x) 12 31)) ∧ Below w.heap.size w w') := Lib.hid fun w =>
        (Valid.l3Day (yr x) 12 31 hY ⟨by omega, by omega⟩ (by omega) (by omega) w).mono fun _ _ ⟨a, b⟩ => ⟨a, by rw [← b]; exact below1 _ _⟩
      have HN := Lib.hid fun w => least b (num (yr x) 12 31 + 1) n hn w
      have N0 : 0 ≤ num (yr x) 12 31 := by omega
      have N1 : num (yr x) 12 31 ≤ 40000 := by omega
      have Y0 := hY.1
      have Y1 := hY.2
      by_cases h4 : yr x % 4 = 0
      · have HS2 := Lib.hid (sums_leap HS.out hY h4 hy1 (Int.le_of_lt n0) (by omega))
        clear hY hy1 hy2 hl hs hn hx
        generalize num (yr x) 12 31 = N at *
        generalize yr x = Y at *
        generalize mo x = M at *
        generalize da x = D at *
        have hfd := fld0 Y M D
        go_wp2_with (go_at_call 48; refine (HD.out _).mono ?_; rintro e w1 ⟨rfl, hb1⟩; refine Hid.out ?_)
        refine Lib.hid ?_
        have BW1 := Lib.hid (HW.out.trans (hb1.mono HW.out.size))
        clear hb1
        go_wp2_with (go_at_call 51; refine (HE.out _).mono ?_; rintro e w2 ⟨rfl, hb2⟩; refine Hid.out ?_)
        refine Lib.hid ?_
        have BW2 := Lib.hid (BW1.out.trans (hb2.mono BW1.out.size))
        clear hb2
        go_wp2_with (go_at_call 80; refine (HN.out _).mono ?_; rintro e w3 ⟨rfl, rfl⟩)
        go_roundw
        case rel => exact ⟨n, l + n - x, o, by omega, by omega, rfl, rfl, rfl, HS2, BW2⟩
        case measure => simp [intOf]; omega
      · have HS2 := Lib.hid (sums_other HS.out hY h4 hy1 (Int.le_of_lt n0) (by omega))
        have h5 : (yr x % 4 == 0) = false := beqFalse h4
        clear hY hy1 hy2 hl hs hn hx h4
        generalize num (yr x) 12 31 = N at *
        generalize yr x = Y at *
        generalize mo x = M at *
        generalize da x = D at *
        have hfd := fld0 Y M D
        go_wp2_with (go_at_call 48; refine (HD.out _).mono ?_; rintro e w1 ⟨rfl, hb1⟩; refine Hid.out ?_)
        refine Lib.hid ?_
        have BW1 := Lib.hid (HW.out.trans (hb1.mono HW.out.size))
        clear hb1
        go_wp2_with (go_at_call 51; refine (HE.out _).mono ?_; rintro e w2 ⟨rfl, hb2⟩; refine Hid.out ?_)
        refine Lib.hid ?_
        have BW2 := Lib.hid (BW1.out.trans (hb2.mono BW1.out.size))
        clear hb2
        go_wp2_with (go_at_call 80; refine (HN.out _).mono ?_; rintro e w3 ⟨rfl, rfl⟩)
        go_roundw
        case rel => exact ⟨n, l, o + n - x, by omega, by omega, rfl, rfl, rfl, HS2, BW2⟩
        case measure => simp [intOf]; omega
    · have e : x = b := by omega
      have HS2 : Hid (Sums a b l o) := Lib.hid (by have := HS.out; rwa [e] at this)
      clear e
      go_wp2_with fail
      go_ret2
      exact ⟨l, o, rfl, by omega, by omega, HS2.out, HW.out⟩

theorem mkS (n d : Int) (w : World) : Calls Tryd.prog 71 #[.int .i64 n, .int .i64 d] w fun e w' => e = .returned (.tuple #[.agg #[.int .i64 (Make.mkN n d), .int .i64 (Make.mkD n d)], .bool (Make.mkB n d)]) ∧ Below w.heap.size w w' :=
  MakeLaw.mkAt (Make.spec n d w) rfl rfl rfl

set_option maxHeartbeats 2000000 in
theorem cnt1 (a b rN rD : Int) (rB : Bool) (w : World) (a0 : 0 ≤ a) (a1 : a ≤ 36524) (b0 : 0 ≤ b) (b1 : b ≤ 36524) (hab : a ≤ b)
    (HM : Hid (∀ w, Calls Tryd.prog 71 #[.int .i64 (b - a), .int .i64 360] w fun e w' => e = .returned (.tuple #[.agg #[.int .i64 rN, .int .i64 rD], .bool rB]) ∧ Below w.heap.size w w')) :
    Calls Tryd.prog 45 #[.int .i64 a, .int .i64 b, .int .i64 1] w fun e w' => e = .returned (.tuple #[.agg #[.int .i64 rN, .int .i64 rD], .bool rB]) ∧ Below w.heap.size w w' := by
  have B0 := Lib.hid (Bx.new w (.int .i64 0) (.int .i64 0) 36)
  have BW := Lib.hid (below1 w (.cells #[.int .i64 0, .int .i64 0] 36))
  go_enter Tryd.func45, Tryd.ntmps45
  go_wp2_with (go_at_call 71; refine (HM.out _).mono ?_; rintro e w1 ⟨rfl, hb1⟩; refine Hid.out ?_)
  refine Lib.hid ?_
  have B1 := Lib.hid (B0.out.on hb1)
  have HW : Hid (Below w.heap.size w w1) := Lib.hid (BW.out.trans (hb1.mono BW.out.size))
  have B2 := Lib.hid ((B1.out.set0 (.int .i64 rN)).set1 (.int .i64 rD))
  clear hb1
  obtain ⟨_, y0, y1, y2, y3⟩ := B1.out
  go_wp2_with fail
  obtain ⟨_, s1, s2, _, _⟩ := B2.out
  exact bodyPost_ret (v := .tuple #[.agg #[.int .i64 rN, .int .i64 rD], .bool rB]) (by simp [results, Tryd.results45, go_sem, s1, s2]) rfl ⟨rfl, (HW.out.setCell (by simp) _).setCell (by simp) _⟩

set_option maxHeartbeats 2000000 in
theorem cnt2 (a b rN rD : Int) (rB : Bool) (w : World) (a0 : 0 ≤ a) (a1 : a ≤ 36524) (b0 : 0 ≤ b) (b1 : b ≤ 36524) (hab : a ≤ b)
    (HM : Hid (∀ w, Calls Tryd.prog 71 #[.int .i64 (b - a), .int .i64 365] w fun e w' => e = .returned (.tuple #[.agg #[.int .i64 rN, .int .i64 rD], .bool rB]) ∧ Below w.heap.size w w')) :
    Calls Tryd.prog 45 #[.int .i64 a, .int .i64 b, .int .i64 2] w fun e w' => e = .returned (.tuple #[.agg #[.int .i64 rN, .int .i64 rD], .bool rB]) ∧ Below w.heap.size w w' := by
  have B0 := Lib.hid (Bx.new w (.int .i64 0) (.int .i64 0) 36)
  have BW := Lib.hid (below1 w (.cells #[.int .i64 0, .int .i64 0] 36))
  go_enter Tryd.func45, Tryd.ntmps45
  go_wp2_with (go_at_call 71; refine (HM.out _).mono ?_; rintro e w1 ⟨rfl, hb1⟩; refine Hid.out ?_)
  refine Lib.hid ?_
  have B1 := Lib.hid (B0.out.on hb1)
  have HW : Hid (Below w.heap.size w w1) := Lib.hid (BW.out.trans (hb1.mono BW.out.size))
  have B2 := Lib.hid ((B1.out.set0 (.int .i64 rN)).set1 (.int .i64 rD))
  clear hb1
  obtain ⟨_, y0, y1, y2, y3⟩ := B1.out
  go_wp2_with fail
  obtain ⟨_, s1, s2, _, _⟩ := B2.out
  exact bodyPost_ret (v := .tuple #[.agg #[.int .i64 rN, .int .i64 rD], .bool rB]) (by simp [results, Tryd.results45, go_sem, s1, s2]) rfl ⟨rfl, (HW.out.setCell (by simp) _).setCell (by simp) _⟩

set_option maxHeartbeats 2000000 in
theorem cnt3 (a b rN rD : Int) (rB : Bool) (w : World) (a0 : 0 ≤ a) (a1 : a ≤ 36524) (b0 : 0 ≤ b) (b1 : b ≤ 36524) (hab : a ≤ b) (P : Int) (p0 : -100000 ≤ P) (p1 : P ≤ 100000)
    (HP : Hid (∀ w, Calls Tryd.prog 72 #[.int .i64 a, .int .i64 b] w fun e w' => e = .returned (.int .i64 P) ∧ Below w.heap.size w w'))
    (HM : Hid (∀ w, Calls Tryd.prog 71 #[.int .i64 P, .int .i64 360] w fun e w' => e = .returned (.tuple #[.agg #[.int .i64 rN, .int .i64 rD], .bool rB]) ∧ Below w.heap.size w w')) :
    Calls Tryd.prog 45 #[.int .i64 a, .int .i64 b, .int .i64 3] w fun e w' => e = .returned (.tuple #[.agg #[.int .i64 rN, .int .i64 rD], .bool rB]) ∧ Below w.heap.size w w' := by
  have B0 := Lib.hid (Bx.new w (.int .i64 0) (.int .i64 0) 36)
  have BW := Lib.hid (below1 w (.cells #[.int .i64 0, .int .i64 0] 36))
  go_enter Tryd.func45, Tryd.ntmps45
  go_wp2_with (go_at_call 72; refine (HP.out _).mono ?_; rintro e w2 ⟨rfl, hb2⟩; refine Hid.out ?_)
  refine Lib.hid ?_
  have BW2 := Lib.hid hb2
  clear hb2
  go_wp2_with (go_at_call 71; refine (HM.out _).mono ?_; rintro e w1 ⟨rfl, hb3⟩; refine Hid.out ?_)
  refine Lib.hid ?_
  have hb1 := BW2.out.trans (hb3.mono BW2.out.size)
  clear hb3
  have B1 := Lib.hid (B0.out.on hb1)
  have HW : Hid (Below w.heap.size w w1) := Lib.hid (BW.out.trans (hb1.mono BW.out.size))
  have B2 := Lib.hid ((B1.out.set0 (.int .i64 rN)).set1 (.int .i64 rD))
  clear hb1
  obtain ⟨_, y0, y1, y2, y3⟩ := B1.out
  go_wp2_with fail
  obtain ⟨_, s1, s2, _, _⟩ := B2.out
  exact bodyPost_ret (v := .tuple #[.agg #[.int .i64 rN, .int .i64 rD], .bool rB]) (by simp [results, Tryd.results45, go_sem, s1, s2]) rfl ⟨rfl, (HW.out.setCell (by simp) _).setCell (by simp) _⟩

set_option maxHeartbeats 2000000 in
theorem cnt4 (a b rN rD : Int) (rB : Bool) (w : World) (a0 : 0 ≤ a) (a1 : a ≤ 36524) (b0 : 0 ≤ b) (b1 : b ≤ 36524) (hab : a ≤ b) (N : Int)
    (HP : Hid (∀ w, Calls Tryd.prog 73 #[.int .i64 a, .int .i64 b] w fun e w' => ∃ l o : Int, e = .returned (.tuple #[.int .i64 l, .int .i64 o]) ∧ (0 ≤ l ∧ l ≤ 36524) ∧ (0 ≤ o ∧ o ≤ 36524) ∧ 365 * l + 366 * o = N ∧ Below w.heap.size w w'))
    (HM : Hid (∀ w, Calls Tryd.prog 71 #[.int .i64 N, .int .i64 133590] w fun e w' => e = .returned (.tuple #[.agg #[.int .i64 rN, .int .i64 rD], .bool rB]) ∧ Below w.heap.size w w')) :
    Calls Tryd.prog 45 #[.int .i64 a, .int .i64 b, .int .i64 4] w fun e w' => e = .returned (.tuple #[.agg #[.int .i64 rN, .int .i64 rD], .bool rB]) ∧ Below w.heap.size w w' := by
  have B0 := Lib.hid (Bx.new w (.int .i64 0) (.int .i64 0) 36)
  have BW := Lib.hid (below1 w (.cells #[.int .i64 0, .int .i64 0] 36))
  go_enter Tryd.func45, Tryd.ntmps45
  go_wp2_with (go_at_call 73; refine (HP.out _).mono ?_; rintro e w2 ⟨l, o, rfl, ⟨l0, l1⟩, ⟨o0, o1⟩, hN, hb2⟩; refine Hid.out ?_)
  refine Lib.hid ?_
  have BW2 := Lib.hid hb2
  have HN := Lib.hid hN
  clear hb2 hN
  go_wp2_with (go_at_call 71; rw [HN.out]; refine (HM.out _).mono ?_; rintro e w1 ⟨rfl, hb3⟩; refine Hid.out ?_)
  refine Lib.hid ?_
  have hb1 := BW2.out.trans (hb3.mono BW2.out.size)
  clear hb3
  have B1 := Lib.hid (B0.out.on hb1)
  have HW : Hid (Below w.heap.size w w1) := Lib.hid (BW.out.trans (hb1.mono BW.out.size))
  have B2 := Lib.hid ((B1.out.set0 (.int .i64 rN)).set1 (.int .i64 rD))
  clear hb1
  obtain ⟨_, y0, y1, y2, y3⟩ := B1.out
  go_wp2_with fail
  obtain ⟨_, s1, s2, _, _⟩ := B2.out
  exact bodyPost_ret (v := .tuple #[.agg #[.int .i64 rN, .int .i64 rD], .bool rB]) (by simp [results, Tryd.results45, go_sem, s1, s2]) rfl ⟨rfl, (HW.out.setCell (by simp) _).setCell (by simp) _⟩

theorem count (a b c : Int) (h : DcOk a b c) (w : World) :
    Calls Tryd.prog 45 #[.int .i64 a, .int .i64 b, .int .i64 c] w fun e w' => e = .returned (.tuple #[.agg #[.int .i64 (Make.mkN (dcN a b c) (dcD c)), .int .i64 (Make.mkD (dcN a b c) (dcD c))], .bool (Make.mkB (dcN a b c) (dcD c))]) ∧ Below w.heap.size w w' := by
  obtain ⟨ha, hb, hab, c0, c1⟩ := h
  have HC : c = 1 ∨ c = 2 ∨ c = 3 ∨ c = 4 := by omega
  rcases HC with rfl | rfl | rfl | rfl
  · exact cnt1 a b _ _ _ w ha.1 ha.2 hb.1 hb.2 hab (Lib.hid fun w => mkS _ _ w)
  · exact cnt2 a b _ _ _ w ha.1 ha.2 hb.1 hb.2 hab (Lib.hid fun w => mkS _ _ w)
  · have pb := bank_bd hb
    have pa := bank_bd ha
    exact cnt3 a b _ _ _ w ha.1 ha.2 hb.1 hb.2 hab (bank b - bank a) (by omega) (by omega) (Lib.hid fun w => thirty a b ha hb w) (Lib.hid fun w => mkS _ _ w)
  · exact cnt4 a b _ _ _ w ha.1 ha.2 hb.1 hb.2 hab (W 100 b - W 100 a) (Lib.hid fun w => (years a b ha hb hab w).mono fun _ _ ⟨l, o, e, x, y, s, z⟩ => ⟨l, o, e, x, y, s.eq, z⟩) (Lib.hid fun w => mkS _ _ w)

set_option maxHeartbeats 2000000 in
theorem yes (a b c rN rD : Int) (rB : Bool) (w : World) (HA : Hid (Day a)) (HB : Hid (Day b)) (hab : a ≤ b) (c0 : 1 ≤ c) (c1 : c ≤ 4)
    (HM : Hid (∀ w, Calls Tryd.prog 45 #[.int .i64 a, .int .i64 b, .int .i64 c] w fun e w' => e = .returned (.tuple #[.agg #[.int .i64 rN, .int .i64 rD], .bool rB]) ∧ Below w.heap.size w w')) :
    Calls Tryd.prog 16 #[.int .i64 a, .int .i64 b, .int .i64 c] w fun e w' => e = .returned (.tuple #[.agg #[.int .i64 rN, .int .i64 rD], .bool rB]) ∧ Below w.heap.size w w' := by
  have B0 := Lib.hid (Bx.new w (.int .i64 0) (.int .i64 0) 36)
  have BW := Lib.hid (below1 w (.cells #[.int .i64 0, .int .i64 0] 36))
  have hab' : ¬ b < a := by omega
  go_enter Tryd.func16, Tryd.ntmps16
  go_wp2_with (go_at_call 35; refine (goodYes a HA.out _).mono ?_; rintro e w' ⟨rfl, rfl⟩; refine Hid.out ?_)
  refine Lib.hid ?_
  go_wp2_with (go_at_call 35; refine (goodYes b HB.out _).mono ?_; rintro e w' ⟨rfl, rfl⟩; refine Hid.out ?_)
  refine Lib.hid ?_
  go_wp2_with (first
    | (go_at_call 36; refine (l1In_true c 1 4 c0 c1 _).mono ?_; rintro e w' ⟨rfl, rfl⟩)
    | (go_at_call 45; refine (HM.out _).mono ?_; rintro e w1 ⟨rfl, hb1⟩; refine Hid.out ?_))
  refine Lib.hid ?_
  have B1 := Lib.hid (B0.out.on hb1)
  have HW : Hid (Below w.heap.size w w1) := Lib.hid (BW.out.trans (hb1.mono BW.out.size))
  have B2 := Lib.hid ((B1.out.set0 (.int .i64 rN)).set1 (.int .i64 rD))
  clear hb1
  obtain ⟨_, y0, y1, y2, y3⟩ := B1.out
  go_wp2_with fail
  obtain ⟨_, s1, s2, _, _⟩ := B2.out
  exact bodyPost_ret (v := .tuple #[.agg #[.int .i64 rN, .int .i64 rD], .bool rB]) (by simp [results, Tryd.results16, go_sem, s1, s2]) rfl ⟨rfl, (HW.out.setCell (by simp) _).setCell (by simp) _⟩

set_option maxHeartbeats 2000000 in
theorem no (a b c : Int) (w : World) (hn : ¬ DcOk a b c) :
    Calls Tryd.prog 16 #[.int .i64 a, .int .i64 b, .int .i64 c] w fun e w' => e = .returned (.tuple #[.agg #[.int .i64 0, .int .i64 0], .bool false]) ∧ Below w.heap.size w w' := by
  by_cases ha : Day a
  · have HA := Lib.hid ha
    by_cases hb : Day b
    · have HB := Lib.hid hb
      by_cases hab : b < a
      · clear hn ha hb
        go_enter Tryd.func16, Tryd.ntmps16
        go_wp2_with (go_at_call 35; refine (goodYes a HA.out _).mono ?_; rintro e w' ⟨rfl, rfl⟩; refine Hid.out ?_)
        refine Lib.hid ?_
        go_wp2_with (go_at_call 35; refine (goodYes b HB.out _).mono ?_; rintro e w' ⟨rfl, rfl⟩; refine Hid.out ?_)
        refine Lib.hid ?_
        go_wp2_with fail
        exact bodyPost_ret (v := .tuple #[.agg #[.int .i64 0, .int .i64 0], .bool false]) (by simp [results, Tryd.results16, go_sem]) rfl ⟨rfl, below1 _ _⟩
      · have hc : c < 1 ∨ 4 < c := by
          by_cases hh : 1 ≤ c ∧ c ≤ 4
          · exact absurd ⟨ha, hb, by omega, hh⟩ hn
          · omega
        clear hn ha hb
        go_enter Tryd.func16, Tryd.ntmps16
        go_wp2_with (go_at_call 35; refine (goodYes a HA.out _).mono ?_; rintro e w' ⟨rfl, rfl⟩; refine Hid.out ?_)
        refine Lib.hid ?_
        go_wp2_with (go_at_call 35; refine (goodYes b HB.out _).mono ?_; rintro e w' ⟨rfl, rfl⟩; refine Hid.out ?_)
        refine Lib.hid ?_
        go_wp2_with (go_at_call 36; refine (l1In_false c 1 4 hc _).mono ?_; rintro e w' ⟨rfl, rfl⟩)
        exact bodyPost_ret (v := .tuple #[.agg #[.int .i64 0, .int .i64 0], .bool false]) (by simp [results, Tryd.results16, go_sem]) rfl ⟨rfl, below1 _ _⟩
    · have HB := Lib.hid hb
      clear hn ha hb
      go_enter Tryd.func16, Tryd.ntmps16
      go_wp2_with (go_at_call 35; refine (goodYes a HA.out _).mono ?_; rintro e w' ⟨rfl, rfl⟩; refine Hid.out ?_)
      refine Lib.hid ?_
      go_wp2_with (go_at_call 35; refine (goodNo b HB.out _).mono ?_; rintro e w' ⟨rfl, rfl⟩)
      exact bodyPost_ret (v := .tuple #[.agg #[.int .i64 0, .int .i64 0], .bool false]) (by simp [results, Tryd.results16, go_sem]) rfl ⟨rfl, below1 _ _⟩
  · have HA := Lib.hid ha
    clear hn ha
    go_enter Tryd.func16, Tryd.ntmps16
    go_wp2_with (go_at_call 35; refine (goodNo a HA.out _).mono ?_; rintro e w' ⟨rfl, rfl⟩)
    exact bodyPost_ret (v := .tuple #[.agg #[.int .i64 0, .int .i64 0], .bool false]) (by simp [results, Tryd.results16, go_sem]) rfl ⟨rfl, below1 _ _⟩

theorem dcS (a b c : Int) (w : World) :
    Calls Tryd.prog 16 #[.int .i64 a, .int .i64 b, .int .i64 c] w fun e w' => e = .returned (.tuple #[.agg #[.int .i64 (ansN a b c), .int .i64 (ansD a b c)], .bool (ansB a b c)]) ∧ Below w.heap.size w w' := by
  unfold ansN ansD ansB
  by_cases h : DcOk a b c
  · rw [if_pos h, if_pos h, if_pos h]
    exact yes a b c _ _ _ w (Lib.hid h.1) (Lib.hid h.2.1) h.2.2.1 h.2.2.2.1 h.2.2.2.2 (Lib.hid fun w => count a b c h w)
  · rw [if_neg h, if_neg h, if_neg h]
    exact no a b c w h

set_option maxHeartbeats 1000000 in
theorem walkAux (a b c N D : Int) (B : Bool) (w : World) (hT : Tab.Tab w) (hZ : Tz.Tab w)
    (HS : Hid (∀ w, Calls Tryd.prog 16 #[.int .i64 a, .int .i64 b, .int .i64 c] w fun e w' => e = .returned (.tuple #[.agg #[.int .i64 N, .int .i64 D], .bool B]) ∧ Below w.heap.size w w'))
    (HI : Hid (∀ w, Tab.Tab w → Tz.Tab w → Calls Tryd.prog 15 #[.int .i64 a, .int .i64 b, .int .i64 c] w fun e w' => e = .returned (.tuple #[.agg #[.int .i64 N, .int .i64 D], .bool B]) ∧ Below w.heap.size w w')) :
    Calls Tryd.prog 7 #[.int .i64 a, .int .i64 b, .int .i64 c] w fun e w' => e = .returned (.bool true) ∧ Below w.heap.size w w' := by
  have HT := Lib.hid hT
  have HZ := Lib.hid hZ
  clear hT hZ
  go_enter Tryd.func7, Tryd.ntmps7
  go_wp2_with (go_at_call 16; refine (HS.out _).mono ?_; rintro e w1 ⟨rfl, hb1⟩; refine Hid.out ?_)
  refine Lib.hid ?_
  have HW1 : Hid (Below w.heap.size w (w1.alloc (.cells #[.int .i64 N, .int .i64 D] 36))) := Lib.hid (hb1.alloc hb1.size _)
  have B1 := Lib.hid (Bx.new w1 (.int .i64 N) (.int .i64 D) 36)
  clear hb1
  go_wp2_with (go_at_call 15; refine (HI.out _ (HT.out.below HW1.out) (tzOn HZ.out HW1.out)).mono ?_; rintro e w2 ⟨rfl, hb2⟩; refine Hid.out ?_)
  refine Lib.hid ?_
  have HW2 : Hid (Below w.heap.size w w2) := Lib.hid (HW1.out.trans (hb2.mono HW1.out.size))
  have B2 := Lib.hid ((B1.out.on hb2).alloc (.cells #[.int .i64 N, .int .i64 D] 36))
  clear hb2 B1
  obtain ⟨_, x0, x1, _, _⟩ := B2.out
  go_wp2_with (go_at_call 26; refine (MakeLaw.eqF N D _).mono ?_; rintro e w3 ⟨rfl, rfl⟩; refine Hid.out ?_)
  refine Lib.hid ?_
  have hz := HW2.out.size
  cases B
  all_goals
    go_wp2_with fail
    go_ret
    exact ⟨rfl, ((HW2.out.alloc (by omega) _).alloc (by simp; omega) _).alloc (by simp; omega) _⟩

theorem walk (a b c : Int) (w : World) (hT : Tab.Tab w) (hZ : Tz.Tab w) :
    Calls Tryd.prog 7 #[.int .i64 a, .int .i64 b, .int .i64 c] w fun e w' => e = .returned (.bool true) ∧ Below w.heap.size w w' :=
  walkAux a b c _ _ _ w hT hZ (Lib.hid fun w => dcS a b c w) (Lib.hid fun w h1 h2 => dcI a b c w h1 h2)

end Go.Proofs.YtlpblipgehlniaaDoor.DcS
