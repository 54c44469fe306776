/-
  bankDays, countCalendarYears and DayCount of the program.
-/
import Derived.Test.YtlpblipgehlniaaDoorYrs
import Derived.Test.YtlpblipgehlniaaDoorCalLaw
import Derived.Test.YtlpblipgehlniaaDoorDateLaw
import Derived.Test.YtlpblipgehlniaaDoorMakeLaw
namespace Go.Proofs.YtlpblipgehlniaaDoor.DcI
open Go.RowKit Go.Proofs.YtlpblipgehlniaaDoor.Cal Go.Proofs.YtlpblipgehlniaaDoor.Biz Go.Proofs.YtlpblipgehlniaaDoor.Wd Go.Proofs.YtlpblipgehlniaaDoor.CalLaw Go.Proofs.YtlpblipgehlniaaDoor.Yrs Go.Proofs.YtlpblipgehlniaaDoor.Len

set_option linter.unusedVariables false
theorem forms (a b S L : Int) : (if ((if S + L < b then S + L else b) - if a < S then S else a) < 0 then 0 else (if S + L < b then S + L else b) - if a < S then S else a) = max (min b (S + L) - max a S) 0 := by
  repeat (first | omega | split)

theorem below1 (w : World) (o : Obj) : Below w.heap.size w (w.alloc o) := (Below.refl _ _).alloc (Nat.le_refl _) _
theorem ret_one {a b : Int} (h : a = b) : Ending.returned (.int .i64 a) = .returned (.int .i64 b) := by rw [h]
theorem tzOn {w w' : World} (h : Tz.Tab w) (hb : Below w.heap.size w w') : Tz.Tab w' := Tz.Tab.below h hb
theorem beqFalse {a b : Int} (h : a ≠ b) : (a == b) = false := by simp [h]

set_option maxHeartbeats 1000000 in
theorem bankAux (n Y M D : Int) (w : World) (hT : Tab.Tab w) (Y0 : 2000 ≤ Y) (Y1 : Y ≤ 2099) (M0 : 1 ≤ M) (M1 : M ≤ 12) (D0 : 1 ≤ D) (D1 : D ≤ 31)
    (HI : Hid (∀ w, Tab.Tab w → Calls Tryd.prog 59 #[.int .i64 n] w fun e w' => e = .returned (.tuple #[.agg #[.int .i64 Y, .int .i64 M, .int .i64 D], .bool true]) ∧ Below w.heap.size w w')) :
    Calls Tryd.prog 43 #[.int .i64 n] w fun e w' => e = .returned (.int .i64 (360 * Y + 30 * M + min D 30)) ∧ Below w.heap.size w w' := by
  have HT := Lib.hid hT
  clear hT
  go_enter Tryd.func43, Tryd.ntmps43
  go_wp2_with (go_at_call 59; refine (HI.out _ HT.out).mono ?_; rintro e w1 ⟨rfl, hb1⟩; refine Hid.out ?_)
  refine Lib.hid ?_
  have HW1 : Hid (Below w.heap.size w (w1.alloc (.cells #[.int .i64 Y, .int .i64 M, .int .i64 D] 44))) := Lib.hid (hb1.alloc hb1.size _)
  clear hb1
  go_wp2_with fail
  all_goals
    go_ret
    exact ⟨ret_one (by omega), HW1.out⟩

theorem bankI (n : Int) (h : Day n) (w : World) (hT : Tab.Tab w) :
    Calls Tryd.prog 43 #[.int .i64 n] w fun e w' => e = .returned (.int .i64 (bank n)) ∧ Below w.heap.size w w' := by
  obtain ⟨⟨⟨y1, y2⟩, ⟨m1, m2⟩, d1, d2⟩, _⟩ := date_is h
  have hl := len_bd (yr n) (mo n)
  exact bankAux n (yr n) (mo n) (da n) w hT y1 y2 m1 m2 d1 (by omega) (Lib.hid fun w hw => DateLaw.implYes n h w hw)

set_option maxHeartbeats 2000000 in
theorem yearsAux (a b N rN rD : Int) (rB : Bool) (w : World) (hT : Tab.Tab w) (hZ : Tz.Tab w) (a0 : 0 ≤ a) (a1 : a ≤ 36524) (b0 : 0 ≤ b) (b1 : b ≤ 36524) (hab : a ≤ b) (HN : Hid (N = W 100 b - W 100 a))
    (HM : Hid (∀ w, Tz.Tab w → Calls Tryd.prog 42 #[.int .i64 N, .int .i64 133590] w fun e w' => e = .returned (.tuple #[.agg #[.int .i64 rN, .int .i64 rD], .bool rB]) ∧ Below w.heap.size w w')) :
    Calls Tryd.prog 44 #[.int .i64 a, .int .i64 b] w fun e w' => e = .returned (.tuple #[.agg #[.int .i64 rN, .int .i64 rD], .bool rB]) ∧ Below w.heap.size w w' := by
  have HT := Lib.hid (hT.alloc (.cells #[.int .i64 0, .int .i64 0] 36))
  have HZ := Lib.hid (tzOn hZ (below1 w (.cells #[.int .i64 0, .int .i64 0] 36)))
  have B0 := Lib.hid (Bx.new w (.int .i64 0) (.int .i64 0) 36)
  have BW := Lib.hid (below1 w (.cells #[.int .i64 0, .int .i64 0] 36))
  have HY : Hid (∀ y w, InY y → Calls Tryd.prog 69 #[.int .i64 y] w fun e w' => e = .returned (.int .i64 (dby y)) ∧ w = w') := Lib.hid fun y w hy => befY y hy w
  have HB : Hid (∀ y w, InY y → Tab.Tab w → Calls Tryd.prog 70 #[.int .i64 y, .int .i64 13] w fun e w' => e = .returned (.int .i64 (bef y 13)) ∧ w = w') := Lib.hid fun y w hy hT => befM y 13 hy (by omega) (by omega) w hT
  have HAB := Lib.hid hab
  clear hT hZ
  go_enter Tryd.func44, Tryd.ntmps44
  go_wp2_with fail
  go_loop [6, 7] (fun n y => ∃ k : Nat, k ≤ 100 ∧ y = .int .i64 (2000 + k) ∧ n = .int .i64 (W k b - W k a)) (fun _ y => (2100 - intOf y).toNat)
  case atStart => exact ⟨0, by omega, by simp, by simp [W]⟩
  case round =>
    obtain ⟨k, hk, rfl, rfl⟩ := hrel
    have hbd := W_bd HAB.out k
    by_cases hlt : k < 100
    · have hy : InY (2000 + (k : Int)) := ⟨by omega, by omega⟩
      have hd := dby_bd hy
      by_cases h4 : (2000 + (k : Int)) % 4 = 0
      · have HS := Lib.hid (W_leap HAB.out h4)
        have C1 := Lib.hid fun w => HY.out (2000 + k) w hy
        have C2 := Lib.hid fun w h => HB.out (2000 + k) w hy h
        rw [(bef13 _).1 h4] at C2
        clear hy h4
        generalize W k b - W k a = Q at *
        generalize dby (2000 + k + 1) = S' at *
        generalize dby (2000 + k) = S at *
        go_wp2_with (first
          | (go_at_call 69; refine (C1.out _).mono ?_; rintro e w' ⟨rfl, rfl⟩)
          | (go_at_call 70; refine (C2.out _ HT.out).mono ?_; rintro e w' ⟨rfl, rfl⟩))
        go_round
        case rel => exact ⟨k + 1, by omega, by simp [Int.add_assoc], by rw [HS.out, forms]⟩
        case measure => simp [intOf]; omega
      · have HS := Lib.hid (W_other HAB.out h4)
        have C1 := Lib.hid fun w => HY.out (2000 + k) w hy
        have C2 := Lib.hid fun w h => HB.out (2000 + k) w hy h
        rw [(bef13 _).2 h4] at C2
        clear hy h4
        generalize W k b - W k a = Q at *
        generalize dby (2000 + k + 1) = S' at *
        generalize dby (2000 + k) = S at *
        go_wp2_with (first
          | (go_at_call 69; refine (C1.out _).mono ?_; rintro e w' ⟨rfl, rfl⟩)
          | (go_at_call 70; refine (C2.out _ HT.out).mono ?_; rintro e w' ⟨rfl, rfl⟩))
        go_round
        case rel => exact ⟨k + 1, by omega, by simp [Int.add_assoc], by rw [HS.out, forms]⟩
        case measure => simp [intOf]; omega
    · have hk2 : k = 100 := by omega
      subst hk2
      have HN' : Hid (W 100 b - W 100 a = N) := Lib.hid HN.out.symm
      rw [HN'.out]
      clear hlt hk hbd HN HN'
      go_wp2_with (go_at_call 42; refine (HM.out _ HZ.out).mono ?_; rintro e w1 ⟨rfl, hb1⟩; refine Hid.out ?_)
      refine Lib.hid ?_
      have B1 := Lib.hid (B0.out.on hb1)
      have HW : Hid (Below w.heap.size w w1) := Lib.hid (BW.out.trans (hb1.mono BW.out.size))
      have B2 := Lib.hid ((B1.out.set0 (.int .i64 rN)).set1 (.int .i64 rD))
      clear hb1
      obtain ⟨_, y0, y1, y2, y3⟩ := B1.out
      go_wp2_with fail
      obtain ⟨_, s1, s2, _, _⟩ := B2.out
      exact bodyPost_ret (v := .tuple #[.agg #[.int .i64 rN, .int .i64 rD], .bool rB]) (by simp [results, Tryd.results44, go_sem, s1, s2]) rfl ⟨rfl, (HW.out.setCell (by simp) _).setCell (by simp) _⟩

set_option maxHeartbeats 2000000 in
theorem dc1 (a b rN rD : Int) (rB : Bool) (w : World) (hZ : Tz.Tab w) (HA : Hid (Day a)) (HB : Hid (Day b)) (a0 : 0 ≤ a) (a1 : a ≤ 36524) (b0 : 0 ≤ b) (b1 : b ≤ 36524) (hab : a ≤ b)
    (HM : Hid (∀ w, Tz.Tab w → Calls Tryd.prog 42 #[.int .i64 (b - a), .int .i64 360] w fun e w' => e = .returned (.tuple #[.agg #[.int .i64 rN, .int .i64 rD], .bool rB]) ∧ Below w.heap.size w w')) :
    Calls Tryd.prog 15 #[.int .i64 a, .int .i64 b, .int .i64 1] w fun e w' => e = .returned (.tuple #[.agg #[.int .i64 rN, .int .i64 rD], .bool rB]) ∧ Below w.heap.size w w' := by
  have HZ := Lib.hid (tzOn hZ (below1 w (.cells #[.int .i64 0, .int .i64 0] 36)))

  have B0 := Lib.hid (Bx.new w (.int .i64 0) (.int .i64 0) 36)
  have BW := Lib.hid (below1 w (.cells #[.int .i64 0, .int .i64 0] 36))
  have hab' : ¬ b < a := by omega
  clear hZ
  go_enter Tryd.func15, Tryd.ntmps15
  go_wp2_with (go_at_call 38; refine (isDayYes a HA.out _).mono ?_; rintro e w' ⟨rfl, rfl⟩; refine Hid.out ?_)
  refine Lib.hid ?_
  go_wp2_with (go_at_call 38; refine (isDayYes b HB.out _).mono ?_; rintro e w' ⟨rfl, rfl⟩; refine Hid.out ?_)
  refine Lib.hid ?_
  go_wp2_with (go_at_call 42; refine (HM.out _ HZ.out).mono ?_; rintro e w1 ⟨rfl, hb1⟩; refine Hid.out ?_)
  refine Lib.hid ?_
  have B1 := Lib.hid (B0.out.on hb1)
  have HW : Hid (Below w.heap.size w w1) := Lib.hid (BW.out.trans (hb1.mono BW.out.size))
  have B2 := Lib.hid ((B1.out.set0 (.int .i64 rN)).set1 (.int .i64 rD))
  clear hb1
  obtain ⟨_, y0, y1, y2, y3⟩ := B1.out
  go_wp2_with fail
  obtain ⟨_, s1, s2, _, _⟩ := B2.out
  exact bodyPost_ret (v := .tuple #[.agg #[.int .i64 rN, .int .i64 rD], .bool rB]) (by simp [results, Tryd.results15, go_sem, s1, s2]) rfl ⟨rfl, (HW.out.setCell (by simp) _).setCell (by simp) _⟩

set_option maxHeartbeats 2000000 in
theorem dc2 (a b rN rD : Int) (rB : Bool) (w : World) (hZ : Tz.Tab w) (HA : Hid (Day a)) (HB : Hid (Day b)) (a0 : 0 ≤ a) (a1 : a ≤ 36524) (b0 : 0 ≤ b) (b1 : b ≤ 36524) (hab : a ≤ b)
    (HM : Hid (∀ w, Tz.Tab w → Calls Tryd.prog 42 #[.int .i64 (b - a), .int .i64 365] w fun e w' => e = .returned (.tuple #[.agg #[.int .i64 rN, .int .i64 rD], .bool rB]) ∧ Below w.heap.size w w')) :
    Calls Tryd.prog 15 #[.int .i64 a, .int .i64 b, .int .i64 2] w fun e w' => e = .returned (.tuple #[.agg #[.int .i64 rN, .int .i64 rD], .bool rB]) ∧ Below w.heap.size w w' := by
  have HZ := Lib.hid (tzOn hZ (below1 w (.cells #[.int .i64 0, .int .i64 0] 36)))

  have B0 := Lib.hid (Bx.new w (.int .i64 0) (.int .i64 0) 36)
  have BW := Lib.hid (below1 w (.cells #[.int .i64 0, .int .i64 0] 36))
  have hab' : ¬ b < a := by omega
  clear hZ
  go_enter Tryd.func15, Tryd.ntmps15
  go_wp2_with (go_at_call 38; refine (isDayYes a HA.out _).mono ?_; rintro e w' ⟨rfl, rfl⟩; refine Hid.out ?_)
  refine Lib.hid ?_
  go_wp2_with (go_at_call 38; refine (isDayYes b HB.out _).mono ?_; rintro e w' ⟨rfl, rfl⟩; refine Hid.out ?_)
  refine Lib.hid ?_
  go_wp2_with (go_at_call 42; refine (HM.out _ HZ.out).mono ?_; rintro e w1 ⟨rfl, hb1⟩; refine Hid.out ?_)
  refine Lib.hid ?_
  have B1 := Lib.hid (B0.out.on hb1)
  have HW : Hid (Below w.heap.size w w1) := Lib.hid (BW.out.trans (hb1.mono BW.out.size))
  have B2 := Lib.hid ((B1.out.set0 (.int .i64 rN)).set1 (.int .i64 rD))
  clear hb1
  obtain ⟨_, y0, y1, y2, y3⟩ := B1.out
  go_wp2_with fail
  obtain ⟨_, s1, s2, _, _⟩ := B2.out
  exact bodyPost_ret (v := .tuple #[.agg #[.int .i64 rN, .int .i64 rD], .bool rB]) (by simp [results, Tryd.results15, go_sem, s1, s2]) rfl ⟨rfl, (HW.out.setCell (by simp) _).setCell (by simp) _⟩

set_option maxHeartbeats 2000000 in
theorem dc3 (a b rN rD : Int) (rB : Bool) (w : World) (P Q : Int) (p0 : 720000 ≤ P) (p1 : P ≤ 760000) (q0 : 720000 ≤ Q) (q1 : Q ≤ 760000) (hT : Tab.Tab w) (hZ : Tz.Tab w) (HA : Hid (Day a)) (HB : Hid (Day b)) (a0 : 0 ≤ a) (a1 : a ≤ 36524) (b0 : 0 ≤ b) (b1 : b ≤ 36524) (hab : a ≤ b)
    (HP : Hid (∀ w, Tab.Tab w → Calls Tryd.prog 43 #[.int .i64 b] w fun e w' => e = .returned (.int .i64 P) ∧ Below w.heap.size w w'))
    (HQ : Hid (∀ w, Tab.Tab w → Calls Tryd.prog 43 #[.int .i64 a] w fun e w' => e = .returned (.int .i64 Q) ∧ Below w.heap.size w w'))
    (HM : Hid (∀ w, Tz.Tab w → Calls Tryd.prog 42 #[.int .i64 (P - Q), .int .i64 360] w fun e w' => e = .returned (.tuple #[.agg #[.int .i64 rN, .int .i64 rD], .bool rB]) ∧ Below w.heap.size w w')) :
    Calls Tryd.prog 15 #[.int .i64 a, .int .i64 b, .int .i64 3] w fun e w' => e = .returned (.tuple #[.agg #[.int .i64 rN, .int .i64 rD], .bool rB]) ∧ Below w.heap.size w w' := by
  have HZ := Lib.hid (tzOn hZ (below1 w (.cells #[.int .i64 0, .int .i64 0] 36)))
  have HT := Lib.hid (hT.alloc (.cells #[.int .i64 0, .int .i64 0] 36))
  have B0 := Lib.hid (Bx.new w (.int .i64 0) (.int .i64 0) 36)
  have BW := Lib.hid (below1 w (.cells #[.int .i64 0, .int .i64 0] 36))
  have hab' : ¬ b < a := by omega
  clear hZ hT
  go_enter Tryd.func15, Tryd.ntmps15
  go_wp2_with (go_at_call 38; refine (isDayYes a HA.out _).mono ?_; rintro e w' ⟨rfl, rfl⟩; refine Hid.out ?_)
  refine Lib.hid ?_
  go_wp2_with (go_at_call 38; refine (isDayYes b HB.out _).mono ?_; rintro e w' ⟨rfl, rfl⟩; refine Hid.out ?_)
  refine Lib.hid ?_
  go_wp2_with (go_at_call 43; refine (HP.out _ HT.out).mono ?_; rintro e w2 ⟨rfl, hb2⟩; refine Hid.out ?_)
  refine Lib.hid ?_
  have HT2 := Lib.hid (HT.out.below hb2)
  have BW2 := Lib.hid hb2
  clear hb2
  go_wp2_with (go_at_call 43; refine (HQ.out _ HT2.out).mono ?_; rintro e w3 ⟨rfl, hb3⟩; refine Hid.out ?_)
  refine Lib.hid ?_
  have BW3 := Lib.hid (BW2.out.trans (hb3.mono BW2.out.size))
  clear hb3
  go_wp2_with (go_at_call 42; refine (HM.out _ (tzOn HZ.out BW3.out)).mono ?_; rintro e w1 ⟨rfl, hb4⟩; refine Hid.out ?_)
  refine Lib.hid ?_
  have hb1 := BW3.out.trans (hb4.mono BW3.out.size)
  clear hb4
  have B1 := Lib.hid (B0.out.on hb1)
  have HW : Hid (Below w.heap.size w w1) := Lib.hid (BW.out.trans (hb1.mono BW.out.size))
  have B2 := Lib.hid ((B1.out.set0 (.int .i64 rN)).set1 (.int .i64 rD))
  clear hb1
  obtain ⟨_, y0, y1, y2, y3⟩ := B1.out
  go_wp2_with fail
  obtain ⟨_, s1, s2, _, _⟩ := B2.out
  exact bodyPost_ret (v := .tuple #[.agg #[.int .i64 rN, .int .i64 rD], .bool rB]) (by simp [results, Tryd.results15, go_sem, s1, s2]) rfl ⟨rfl, (HW.out.setCell (by simp) _).setCell (by simp) _⟩

set_option maxHeartbeats 2000000 in
theorem dc4 (a b rN rD : Int) (rB : Bool) (w : World) (hT : Tab.Tab w) (hZ : Tz.Tab w) (HA : Hid (Day a)) (HB : Hid (Day b)) (a0 : 0 ≤ a) (a1 : a ≤ 36524) (b0 : 0 ≤ b) (b1 : b ≤ 36524) (hab : a ≤ b)
    (HM : Hid (∀ w, Tab.Tab w → Tz.Tab w → Calls Tryd.prog 44 #[.int .i64 a, .int .i64 b] w fun e w' => e = .returned (.tuple #[.agg #[.int .i64 rN, .int .i64 rD], .bool rB]) ∧ Below w.heap.size w w')) :
    Calls Tryd.prog 15 #[.int .i64 a, .int .i64 b, .int .i64 4] w fun e w' => e = .returned (.tuple #[.agg #[.int .i64 rN, .int .i64 rD], .bool rB]) ∧ Below w.heap.size w w' := by
  have HZ := Lib.hid (tzOn hZ (below1 w (.cells #[.int .i64 0, .int .i64 0] 36)))
  have HT := Lib.hid (hT.alloc (.cells #[.int .i64 0, .int .i64 0] 36))
  have B0 := Lib.hid (Bx.new w (.int .i64 0) (.int .i64 0) 36)
  have BW := Lib.hid (below1 w (.cells #[.int .i64 0, .int .i64 0] 36))
  have hab' : ¬ b < a := by omega
  clear hZ hT
  go_enter Tryd.func15, Tryd.ntmps15
  go_wp2_with (go_at_call 38; refine (isDayYes a HA.out _).mono ?_; rintro e w' ⟨rfl, rfl⟩; refine Hid.out ?_)
  refine Lib.hid ?_
  go_wp2_with (go_at_call 38; refine (isDayYes b HB.out _).mono ?_; rintro e w' ⟨rfl, rfl⟩; refine Hid.out ?_)
  refine Lib.hid ?_
  go_wp2_with (go_at_call 44; refine (HM.out _ HT.out HZ.out).mono ?_; rintro e w1 ⟨rfl, hb1⟩; refine Hid.out ?_)
  refine Lib.hid ?_
  have B1 := Lib.hid (B0.out.on hb1)
  have HW : Hid (Below w.heap.size w w1) := Lib.hid (BW.out.trans (hb1.mono BW.out.size))
  have B2 := Lib.hid ((B1.out.set0 (.int .i64 rN)).set1 (.int .i64 rD))
  clear hb1
  obtain ⟨_, y0, y1, y2, y3⟩ := B1.out
  go_wp2_with fail
  obtain ⟨_, s1, s2, _, _⟩ := B2.out
  exact bodyPost_ret (v := .tuple #[.agg #[.int .i64 rN, .int .i64 rD], .bool rB]) (by simp [results, Tryd.results15, go_sem, s1, s2]) rfl ⟨rfl, (HW.out.setCell (by simp) _).setCell (by simp) _⟩

set_option maxHeartbeats 2000000 in
theorem dcNo (a b c : Int) (w : World) (hn : ¬ DcOk a b c) :
    Calls Tryd.prog 15 #[.int .i64 a, .int .i64 b, .int .i64 c] w fun e w' => e = .returned (.tuple #[.agg #[.int .i64 0, .int .i64 0], .bool false]) ∧ Below w.heap.size w w' := by
  by_cases ha : Day a
  · have HA := Lib.hid ha
    by_cases hb : Day b
    · have HB := Lib.hid hb
      by_cases hab : b < a
      · clear hn ha hb
        go_enter Tryd.func15, Tryd.ntmps15
        go_wp2_with (go_at_call 38; refine (isDayYes a HA.out _).mono ?_; rintro e w' ⟨rfl, rfl⟩; refine Hid.out ?_)
        refine Lib.hid ?_
        go_wp2_with (go_at_call 38; refine (isDayYes b HB.out _).mono ?_; rintro e w' ⟨rfl, rfl⟩; refine Hid.out ?_)
        refine Lib.hid ?_
        go_wp2_with fail
        exact bodyPost_ret (v := .tuple #[.agg #[.int .i64 0, .int .i64 0], .bool false]) (by simp [results, Tryd.results15, go_sem]) rfl ⟨rfl, below1 _ _⟩
      · have hc : c < 1 ∨ 4 < c := by
          by_cases hh : 1 ≤ c ∧ c ≤ 4
          · exact absurd ⟨ha, hb, by omega, hh⟩ hn
          · omega
        have q1 : (c == 1) = false := beqFalse (by omega)
        have q2 : (c == 2) = false := beqFalse (by omega)
        have q3 : (c == 3) = false := beqFalse (by omega)
        have q4 : (c == 4) = false := beqFalse (by omega)
        clear hn ha hb hc
        go_enter Tryd.func15, Tryd.ntmps15
        go_wp2_with (go_at_call 38; refine (isDayYes a HA.out _).mono ?_; rintro e w' ⟨rfl, rfl⟩; refine Hid.out ?_)
        refine Lib.hid ?_
        go_wp2_with (go_at_call 38; refine (isDayYes b HB.out _).mono ?_; rintro e w' ⟨rfl, rfl⟩; refine Hid.out ?_)
        refine Lib.hid ?_
        go_wp2_with fail
        exact bodyPost_ret (v := .tuple #[.agg #[.int .i64 0, .int .i64 0], .bool false]) (by simp [results, Tryd.results15, go_sem]) rfl ⟨rfl, below1 _ _⟩
    · have HB := Lib.hid hb
      clear hn ha hb
      go_enter Tryd.func15, Tryd.ntmps15
      go_wp2_with (go_at_call 38; refine (isDayYes a HA.out _).mono ?_; rintro e w' ⟨rfl, rfl⟩; refine Hid.out ?_)
      refine Lib.hid ?_
      go_wp2_with (go_at_call 38; refine (isDayNo b HB.out _).mono ?_; rintro e w' ⟨rfl, rfl⟩)
      exact bodyPost_ret (v := .tuple #[.agg #[.int .i64 0, .int .i64 0], .bool false]) (by simp [results, Tryd.results15, go_sem]) rfl ⟨rfl, below1 _ _⟩
  · have HA := Lib.hid ha
    clear hn ha
    go_enter Tryd.func15, Tryd.ntmps15
    go_wp2_with (go_at_call 38; refine (isDayNo a HA.out _).mono ?_; rintro e w' ⟨rfl, rfl⟩)
    exact bodyPost_ret (v := .tuple #[.agg #[.int .i64 0, .int .i64 0], .bool false]) (by simp [results, Tryd.results15, go_sem]) rfl ⟨rfl, below1 _ _⟩

/-- What DayCount answers. -/
def ansN (a b c : Int) : Int := if DcOk a b c then Make.mkN (dcN a b c) (dcD c) else 0
def ansD (a b c : Int) : Int := if DcOk a b c then Make.mkD (dcN a b c) (dcD c) else 0
def ansB (a b c : Int) : Bool := if DcOk a b c then Make.mkB (dcN a b c) (dcD c) else false

theorem mkI (n d : Int) (w : World) (hZ : Tz.Tab w) : Calls Tryd.prog 42 #[.int .i64 n, .int .i64 d] w fun e w' => e = .returned (.tuple #[.agg #[.int .i64 (Make.mkN n d), .int .i64 (Make.mkD n d)], .bool (Make.mkB n d)]) ∧ Below w.heap.size w w' :=
  MakeLaw.mkAt (Make.impl n d w hZ) rfl rfl rfl

theorem dcI (a b c : Int) (w : World) (hT : Tab.Tab w) (hZ : Tz.Tab w) :
    Calls Tryd.prog 15 #[.int .i64 a, .int .i64 b, .int .i64 c] w fun e w' => e = .returned (.tuple #[.agg #[.int .i64 (ansN a b c), .int .i64 (ansD a b c)], .bool (ansB a b c)]) ∧ Below w.heap.size w w' := by
  unfold ansN ansD ansB
  by_cases h : DcOk a b c
  · rw [if_pos h, if_pos h, if_pos h]
    obtain ⟨ha, hb, hab, c0, c1⟩ := h
    have HC : c = 1 ∨ c = 2 ∨ c = 3 ∨ c = 4 := by omega
    rcases HC with rfl | rfl | rfl | rfl
    · exact dc1 a b _ _ _ w hZ (Lib.hid ha) (Lib.hid hb) ha.1 ha.2 hb.1 hb.2 hab (Lib.hid fun w h => mkI _ _ w h)
    · exact dc2 a b _ _ _ w hZ (Lib.hid ha) (Lib.hid hb) ha.1 ha.2 hb.1 hb.2 hab (Lib.hid fun w h => mkI _ _ w h)
    · have pb := bank_bd hb
      have pa := bank_bd ha
      exact dc3 a b _ _ _ w (bank b) (bank a) pb.1 pb.2 pa.1 pa.2 hT hZ (Lib.hid ha) (Lib.hid hb) ha.1 ha.2 hb.1 hb.2 hab (Lib.hid fun w h => bankI b hb w h) (Lib.hid fun w h => bankI a ha w h) (Lib.hid fun w h => mkI _ _ w h)
    · exact dc4 a b _ _ _ w hT hZ (Lib.hid ha) (Lib.hid hb) ha.1 ha.2 hb.1 hb.2 hab (Lib.hid fun w h1 h2 => yearsAux a b _ _ _ _ w h1 h2 ha.1 ha.2 hb.1 hb.2 hab (Lib.hid rfl) (Lib.hid fun w h => mkI _ _ w h))
  · rw [if_neg h, if_neg h, if_neg h]
    exact dcNo a b c w h

end Go.Proofs.YtlpblipgehlniaaDoor.DcI
