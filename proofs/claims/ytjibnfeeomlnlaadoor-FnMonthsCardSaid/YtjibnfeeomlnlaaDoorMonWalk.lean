/-
  The walk of the law FnMonths.
-/
import Derived.Test.YtjibnfeeomlnlaaDoorDrawMon
namespace Go.Proofs.YtjibnfeeomlnlaaDoor.MonWalk
open Go.RowKit Go.Proofs.YtjibnfeeomlnlaaDoor.Cal Go.Proofs.YtjibnfeeomlnlaaDoor.Tab Go.Proofs.YtjibnfeeomlnlaaDoor.Wd Go.Proofs.YtjibnfeeomlnlaaDoor.Len Go.Proofs.YtjibnfeeomlnlaaDoor.Valid Go.Proofs.YtjibnfeeomlnlaaDoor.DayOf Go.Proofs.YtjibnfeeomlnlaaDoor.DateOf Go.Proofs.YtjibnfeeomlnlaaDoor.CurDay Go.Proofs.YtjibnfeeomlnlaaDoor.DrawMon
set_option linter.unusedVariables false
set_option linter.unusedSimpArgs false

theorem bytesBelow {w w' : World} {A : Option Addr} {n : Nat} (h : Cur.Bytes w w.heap.size A n) (hb : Below w.heap.size w w') : Cur.Bytes w' w'.heap.size A n := fun hp => by
  obtain ⟨ad, e, hlt, hc⟩ := h hp
  refine ⟨ad, e, Nat.lt_of_lt_of_le hlt hb.size, fun j hj => ?_⟩
  obtain ⟨z, hz, h0, h1⟩ := hc j hj
  exact ⟨z, (hb.cell (by rw [Cur.block_add]; exact hlt)).trans hz, h0, h1⟩

/-- What is answered where the months can be added. -/
structure Added (n k N Y M D P Q R L : Int) : Prop where
  y : 2000 ≤ Y ∧ Y ≤ 2099
  m : 1 ≤ M ∧ M ≤ 12
  p : 2000 ≤ P ∧ P ≤ 2099
  q : 1 ≤ Q ∧ Q ≤ 12
  k_ : -1200 ≤ k ∧ k ≤ 1200
  sum : 12 * P + Q = 12 * Y + M + k
  days : R = D ∨ (R = L ∧ L ≤ D)
  HA : ∀ w, Calls Tryd.prog 25 #[.int .i64 n] w fun e w' => e = .returned (.tuple #[.agg #[.int .i64 Y, .int .i64 M, .int .i64 D], .bool true]) ∧ Below w.heap.size w w'
  HB : ∀ w, Calls Tryd.prog 25 #[.int .i64 N] w fun e w' => e = .returned (.tuple #[.agg #[.int .i64 P, .int .i64 Q, .int .i64 R], .bool true]) ∧ Below w.heap.size w w'
  HL : ∀ w, Tab w → Calls Tryd.prog 26 #[.int .i64 P, .int .i64 Q] w fun e w' => e = .returned (.tuple #[.int .i64 L, .bool true]) ∧ w = w'

theorem added (n k N : Int) (h : Months.ans n k = (N, true)) : ∃ Y M D P Q R L, Added n k N Y M D P Q R L := by
  unfold Months.ans at h
  split at h
  · rename_i hc
    obtain ⟨hd, k1, k2, hy⟩ := hc
    injection h with h1 _
    have hv := Months.vld n k hd hy
    obtain ⟨e1, e2, e3⟩ := date_of hv
    obtain ⟨⟨vy, vm, v1, v2⟩, _⟩ := date_is hd
    have hB : ∀ w, Calls Tryd.prog 25 #[.int .i64 N] w fun e w' => e = .returned (.tuple #[.agg #[.int .i64 ((Months.ny n k)), .int .i64 ((Months.nm n k)), .int .i64 ((Months.nd n k))], .bool true]) ∧ Below w.heap.size w w' := fun w => by
      have := DateLaw.specYes N (by rw [← h1]; exact num_day hv) w
      rw [← h1] at this ⊢
      rw [← e1, ← e2, ← e3] at this
      exact this
    refine ⟨yr n, mo n, da n, Months.ny n k, Months.nm n k, Months.nd n k, lenM (Months.ny n k) (Months.nm n k), vy, vm, hy, hv.2.1, ⟨k1, k2⟩, ?_, ?_, fun w => DateLaw.specYes n hd w, hB, fun w hw => lenYes _ _ hy hv.2.1 w hw⟩
    · unfold Months.ny Months.nm Months.cnt; omega
    · unfold Months.nd; omega
  · injection h with _ h2; cases h2

/-- What is answered where the weekday is found. -/
structure Found (y m d k N J : Int) : Prop where
  j : 1 ≤ J ∧ J ≤ 31
  k_ : (k = -1) ∨ (k ≠ -1 ∧ 1 ≤ k ∧ k ≤ 5 ∧ (J - 1) / 7 = k - 1)
  HA : ∀ w, Calls Tryd.prog 25 #[.int .i64 N] w fun e w' => e = .returned (.tuple #[.agg #[.int .i64 y, .int .i64 m, .int .i64 J], .bool true]) ∧ Below w.heap.size w w'
  HB : ∀ w, Calls Tryd.prog 30 #[.int .i64 N] w fun e w' => e = .returned (.tuple #[.int .i64 d, .bool true]) ∧ w = w'

theorem found (y m d k N : Int) (h : Nth.full y m d k = (N, true)) : ∃ J, Found y m d k N J := by
  unfold Nth.full at h
  split at h
  · rename_i hc
    obtain ⟨hy, hm, d1, d2⟩ := hc
    have hl := len_bd y m
    have ho := Nth.off_bd (dby y + bef y m) d
    have hb := dby_bd hy
    have hb2 := bef_bd y hm
    obtain ⟨J, j1, j2, jN, jk, jw⟩ : ∃ J, 1 ≤ J ∧ J ≤ lenM y m ∧ num y m J = N ∧ ((k = -1) ∨ (k ≠ -1 ∧ 1 ≤ k ∧ k ≤ 5 ∧ (J - 1) / 7 = k - 1)) ∧ (N + 5) % 7 = d := by
      unfold Nth.ans at h
      split at h
      · rename_i hk
        injection h with h1 _
        refine ⟨1 + Nth.off (dby y + bef y m) d + (lenM y m - 1 - Nth.off (dby y + bef y m) d) / 7 * 7, by omega, by omega, by unfold num; omega, .inl hk, ?_⟩
        rw [← h1]; unfold Nth.off at *; omega
      · rename_i hk
        split at h
        · rename_i hk2
          injection h with h1 _
          refine ⟨1 + Nth.off (dby y + bef y m) d + (k - 1) * 7, by omega, ?_, by unfold num; omega, .inr ⟨hk, hk2.1, hk2.2.1, by omega⟩, ?_⟩
          · by_cases h5 : k = 5
            · have := hk2.2.2 h5; omega
            · have := hk2.2.1; omega
          · rw [← h1]; unfold Nth.off at *; omega
        · injection h with _ h2; cases h2
    have hv : Vld y m J := ⟨hy, hm, j1, j2⟩
    obtain ⟨e1, e2, e3⟩ := date_of hv
    have hd := num_day hv
    rw [jN] at hd e1 e2 e3
    refine ⟨J, ⟨j1, by omega⟩, jk, fun w => ?_, fun w => ?_⟩
    · have := DateLaw.specYes N hd w
      rw [← e1, ← e2, ← e3] at this
      exact this
    · have := Wd.specYes N hd w
      rw [jw] at this
      exact this
  · injection h with _ h2; cases h2

theorem zero_of {y m d k N : Int} (h : Nth.full y m d k = (N, false)) : N = 0 := by
  unfold Nth.full at h
  split at h
  · unfold Nth.ans at h
    split at h
    · injection h with _ h2; cases h2
    · split at h
      · injection h with _ h2; cases h2
      · injection h with h1 _; exact h1.symm
  · injection h with h1 _; exact h1.symm

set_option maxRecDepth 100000 in
set_option maxHeartbeats 8000000 in
theorem small (A : Option Addr) (len cap : Nat) (w : World) (hlen : len ≤ 65536) (hT : Tab w) (hA : Cur.Bytes w w.heap.size A len) :
    Calls Tryd.prog 4 #[.slice A len cap] w fun e w' => e = .returned (.bool true) ∧ Below w.heap.size w w' := by
  have HTb : Hid (∀ v, Below w.heap.size w v → Tab v) := Lib.hid fun v hv => hT.below hv
  have HD1 := Lib.hid (drawAdd A len cap w (by omega) hA)
  have HD2 : Hid (∀ v, Below w.heap.size w v → Calls Tryd.prog 27 #[.slice A len cap] v fun e w' => ∃ y m d k : Int, e = .returned (.tuple #[.int .i64 y, .int .i64 m, .int .i64 d, .int .i64 k]) ∧ Mon k ∧ Below v.heap.size v w') := Lib.hid fun v hv => drawNth A len cap v (by omega) (bytesBelow hA hv)
  have HVB := Lib.hid (vBigNo A len cap w hlen)
  clear hT hA
  go_enter Tryd.func4, Tryd.ntmps4
  go_wp2_with (first
    | (go_at_call 13; refine HVB.out.mono ?_; rintro e w' ⟨rfl, rfl⟩)
    | (go_at_call 22; refine HD1.out.mono ?_; rintro e w1 ⟨n, k, rfl, hn, hk, hb1⟩; refine Hid.out ?_))
  refine Lib.hid ?_
  have HW1 := Lib.hid hb1
  have HT1 := Lib.hid (HTb.out _ hb1)
  obtain ⟨N, b, hans⟩ : ∃ N b, Months.ans n k = (N, b) := ⟨_, _, rfl⟩
  have HI1 : Hid (∀ w, Tab w → Calls Tryd.prog 23 #[.int .i64 n, .int .i64 k] w fun e w' => e = .returned (.tuple #[.int .i64 N, .bool b]) ∧ Below w.heap.size w w') := Lib.hid fun w hw => by
    have := Months.impl n k w hw
    rwa [hans] at this
  have HS1 : Hid (∀ w, Calls Tryd.prog 24 #[.int .i64 n, .int .i64 k] w fun e w' => e = .returned (.tuple #[.int .i64 N, .bool b]) ∧ Below w.heap.size w w') := Lib.hid fun w => by
    have := Months.spec n k w
    rwa [hans] at this
  have HANS := Lib.hid hans
  clear hb1 hans hn hk HD1 HVB
  go_wp2_with (go_at_call 23; refine (HI1.out w1 HT1.out).mono ?_; rintro e w2 ⟨rfl, hb2⟩; refine Hid.out ?_)
  refine Lib.hid ?_
  have HW2 : Hid (Below w.heap.size w w2) := Lib.hid (HW1.out.trans (hb2.mono HW1.out.size))
  clear hb2 HI1 HW1 HT1
  go_wp2_with (go_at_call 24; refine (HS1.out w2).mono ?_; rintro e w3 ⟨rfl, hb3⟩; refine Hid.out ?_)
  refine Lib.hid ?_
  have HW3 : Hid (Below w.heap.size w w3) := Lib.hid (HW2.out.trans (hb3.mono HW2.out.size))
  clear hb3 HS1 HW2
  cases b
  · clear HANS
    have HX := Lib.hid (HD2.out w3 HW3.out)
    clear HD2
    go_wp2_with (go_at_call 27; refine HX.out.mono ?_; rintro e w7 ⟨y, m, d, k2, rfl, hk2, hb7⟩; refine Hid.out ?_)
    refine Lib.hid ?_
    have HW7 : Hid (Below w.heap.size w w7) := Lib.hid (HW3.out.trans (hb7.mono HW3.out.size))
    clear hb7 HX HW3
    have HT7 := Lib.hid (HTb.out _ HW7.out)
    obtain ⟨N2, b2, hans2⟩ : ∃ N b, Nth.full y m d k2 = (N, b) := ⟨_, _, rfl⟩
    have HI2 : Hid (∀ w, Tab w → Calls Tryd.prog 28 #[.int .i64 y, .int .i64 m, .int .i64 d, .int .i64 k2] w fun e w' => e = .returned (.tuple #[.int .i64 N2, .bool b2]) ∧ Below w.heap.size w w') := Lib.hid fun w hw => by
      have := Nth.impl y m d k2 w hw
      rwa [hans2] at this
    have HS2 : Hid (∀ w, Calls Tryd.prog 29 #[.int .i64 y, .int .i64 m, .int .i64 d, .int .i64 k2] w fun e w' => e = .returned (.tuple #[.int .i64 N2, .bool b2]) ∧ Below w.heap.size w w') := Lib.hid fun w => by
      have := Nth.spec y m d k2 w
      rwa [hans2] at this
    have HANS2 := Lib.hid hans2
    clear hans2
    go_wp2_with (go_at_call 28; refine (HI2.out w7 HT7.out).mono ?_; rintro e w8 ⟨rfl, hb8⟩; refine Hid.out ?_)
    refine Lib.hid ?_
    have HW8 : Hid (Below w.heap.size w w8) := Lib.hid (HW7.out.trans (hb8.mono HW7.out.size))
    clear hb8 HI2 HW7 HT7
    go_wp2_with (go_at_call 29; refine (HS2.out w8).mono ?_; rintro e w9 ⟨rfl, hb9⟩; refine Hid.out ?_)
    refine Lib.hid ?_
    have HW9 : Hid (Below w.heap.size w w9) := Lib.hid (HW8.out.trans (hb9.mono HW8.out.size))
    clear hb9 HS2 HW8
    cases b2
    · have hz : N2 = 0 := zero_of HANS2.out
      subst hz
      clear HANS2
      go_wp2_with fail
      go_ret
      exact ⟨rfl, HW9.out⟩
    · obtain ⟨J, ⟨j1, j2⟩, hkk, HA, HB⟩ := found y m d k2 N2 HANS2.out
      replace HA := Lib.hid HA
      replace HB := Lib.hid HB
      clear HANS2
      go_wp2_with (go_at_call 25; refine (HA.out w9).mono ?_; rintro e w10 ⟨rfl, hb10⟩; refine Hid.out ?_)
      refine Lib.hid ?_
      have HW10 : Hid (Below w.heap.size w (w10.alloc (.cells #[.int .i64 y, .int .i64 m, .int .i64 J] 26))) := Lib.hid ((HW9.out.trans (hb10.mono HW9.out.size)).trans ((below1 _ _).mono (HW9.out.trans (hb10.mono HW9.out.size)).size))
      clear hb10 HA HW9
      rcases hkk with hkk | ⟨hk3, hk4, hk5, hk6⟩
      · subst hkk
        go_wp2_with (go_at_call 30; refine (HB.out _).mono ?_; rintro e w11 ⟨rfl, rfl⟩)
        go_ret
        exact ⟨rfl, HW10.out⟩
      · have g3 : (k2 == -1) = false := by simpa using hk3
        have g6 : ((J - 1) / 7 == k2 - 1) = true := by simpa using hk6
        clear hk3 hk6
        go_wp2_with (go_at_call 30; refine (HB.out _).mono ?_; rintro e w11 ⟨rfl, rfl⟩)
        go_ret
        exact ⟨rfl, HW10.out⟩
  · obtain ⟨Y, M, D, P, Q, R, L, ⟨y1, y2⟩, ⟨m1, m2⟩, ⟨p1, p2⟩, ⟨q1, q2⟩, ⟨j1, j2⟩, hsum, hdays, HA, HB, HL⟩ := added n k N HANS.out
    replace HA := Lib.hid HA
    replace HB := Lib.hid HB
    replace HL := Lib.hid HL
    have HDY := Lib.hid hdays
    clear HANS hdays
    go_wp2_with (go_at_call 25; refine (HA.out w3).mono ?_; rintro e w4 ⟨rfl, hb4⟩; refine Hid.out ?_)
    refine Lib.hid ?_
    have HW4 : Hid (Below w.heap.size w (w4.alloc (.cells #[.int .i64 Y, .int .i64 M, .int .i64 D] 26))) := Lib.hid ((HW3.out.trans (hb4.mono HW3.out.size)).trans ((below1 _ _).mono (HW3.out.trans (hb4.mono HW3.out.size)).size))
    have B4 := Lib.hid (Box.new w4 Y M D 26)
    clear hb4 HA HW3
    go_wp2_with (go_at_call 25; refine (HB.out _).mono ?_; rintro e w5 ⟨rfl, hb5⟩; refine Hid.out ?_)
    refine Lib.hid ?_
    have HW5 : Hid (Below w.heap.size w (w5.alloc (.cells #[.int .i64 P, .int .i64 Q, .int .i64 R] 26))) := Lib.hid ((HW4.out.trans (hb5.mono HW4.out.size)).trans ((below1 _ _).mono (HW4.out.trans (hb5.mono HW4.out.size)).size))
    have B5 := Lib.hid ((B4.out.below hb5).alloc (.cells #[.int .i64 P, .int .i64 Q, .int .i64 R] 26))
    have C5 := Lib.hid (Box.new w5 P Q R 26)
    have HT5 := Lib.hid (HTb.out _ HW5.out)
    have HX := Lib.hid (HD2.out _ HW5.out)
    clear hb5 HB HW4 B4 HD2
    obtain ⟨_, x1, x2, x3, _, _, _⟩ := B5.out
    obtain ⟨_, z1, z2, z3, _, _, _⟩ := C5.out
    have HQ7 : Hid (R = D ∨ (R ≠ D ∧ R = L ∧ L ≤ D)) := Lib.hid (by have := HDY.out; omega)
    clear HDY x1 x2 x3 z1 z2 z3
    rcases HQ7.out with hq | ⟨hq, hq2, hq3⟩
    · clear HQ7
      subst hq
      obtain ⟨_, x1, x2, x3, _, _, _⟩ := B5.out
      go_wp2_with (first
        | (go_at_call 26; refine (HL.out _ HT5.out).mono ?_; rintro e w6 ⟨rfl, rfl⟩)
        | (go_at_call 27; refine HX.out.mono ?_; rintro e w7 ⟨y, m, d, k2, rfl, hk2, hb7⟩; refine Hid.out ?_))
      refine Lib.hid ?_
      have HW7 : Hid (Below w.heap.size w w7) := Lib.hid (HW5.out.trans (hb7.mono HW5.out.size))
      clear hb7 HX HW5 B5 C5 HL HT5 x1 x2 x3 hsum y1 y2 m1 m2 p1 p2 q1 q2 j1 j2
      have HT7 := Lib.hid (HTb.out _ HW7.out)
      obtain ⟨N2, b2, hans2⟩ : ∃ N b, Nth.full y m d k2 = (N, b) := ⟨_, _, rfl⟩
      have HI2 : Hid (∀ w, Tab w → Calls Tryd.prog 28 #[.int .i64 y, .int .i64 m, .int .i64 d, .int .i64 k2] w fun e w' => e = .returned (.tuple #[.int .i64 N2, .bool b2]) ∧ Below w.heap.size w w') := Lib.hid fun w hw => by
        have := Nth.impl y m d k2 w hw
        rwa [hans2] at this
      have HS2 : Hid (∀ w, Calls Tryd.prog 29 #[.int .i64 y, .int .i64 m, .int .i64 d, .int .i64 k2] w fun e w' => e = .returned (.tuple #[.int .i64 N2, .bool b2]) ∧ Below w.heap.size w w') := Lib.hid fun w => by
        have := Nth.spec y m d k2 w
        rwa [hans2] at this
      have HANS2 := Lib.hid hans2
      clear hans2
      go_wp2_with (go_at_call 28; refine (HI2.out w7 HT7.out).mono ?_; rintro e w8 ⟨rfl, hb8⟩; refine Hid.out ?_)
      refine Lib.hid ?_
      have HW8 : Hid (Below w.heap.size w w8) := Lib.hid (HW7.out.trans (hb8.mono HW7.out.size))
      clear hb8 HI2 HW7 HT7
      go_wp2_with (go_at_call 29; refine (HS2.out w8).mono ?_; rintro e w9 ⟨rfl, hb9⟩; refine Hid.out ?_)
      refine Lib.hid ?_
      have HW9 : Hid (Below w.heap.size w w9) := Lib.hid (HW8.out.trans (hb9.mono HW8.out.size))
      clear hb9 HS2 HW8
      cases b2
      · have hz : N2 = 0 := zero_of HANS2.out
        subst hz
        clear HANS2
        go_wp2_with fail
        go_ret
        exact ⟨rfl, HW9.out⟩
      · obtain ⟨J, ⟨j1, j2⟩, hkk, HA, HB⟩ := found y m d k2 N2 HANS2.out
        replace HA := Lib.hid HA
        replace HB := Lib.hid HB
        clear HANS2
        go_wp2_with (go_at_call 25; refine (HA.out w9).mono ?_; rintro e w10 ⟨rfl, hb10⟩; refine Hid.out ?_)
        refine Lib.hid ?_
        have HW10 : Hid (Below w.heap.size w (w10.alloc (.cells #[.int .i64 y, .int .i64 m, .int .i64 J] 26))) := Lib.hid ((HW9.out.trans (hb10.mono HW9.out.size)).trans ((below1 _ _).mono (HW9.out.trans (hb10.mono HW9.out.size)).size))
        clear hb10 HA HW9
        rcases hkk with hkk | ⟨hk3, hk4, hk5, hk6⟩
        · subst hkk
          go_wp2_with (go_at_call 30; refine (HB.out _).mono ?_; rintro e w11 ⟨rfl, rfl⟩)
          go_ret
          exact ⟨rfl, HW10.out⟩
        · have g3 : (k2 == -1) = false := by simpa using hk3
          have g6 : ((J - 1) / 7 == k2 - 1) = true := by simpa using hk6
          clear hk3 hk6
          go_wp2_with (go_at_call 30; refine (HB.out _).mono ?_; rintro e w11 ⟨rfl, rfl⟩)
          go_ret
          exact ⟨rfl, HW10.out⟩
    · clear HQ7
      subst hq2
      have hq5 : (R != D) = true := by simpa using hq
      have hq6 : ¬ D < R := by omega
      have hq7 : ¬ R = D := hq
      clear hq hq3
      obtain ⟨_, x1, x2, x3, _, _, _⟩ := B5.out
      go_wp2_with (first
        | (go_at_call 26; refine (HL.out _ HT5.out).mono ?_; rintro e w6 ⟨rfl, rfl⟩)
        | (go_at_call 27; refine HX.out.mono ?_; rintro e w7 ⟨y, m, d, k2, rfl, hk2, hb7⟩; refine Hid.out ?_))
      refine Lib.hid ?_
      have HW7 : Hid (Below w.heap.size w w7) := Lib.hid (HW5.out.trans (hb7.mono HW5.out.size))
      clear hb7 HX HW5 B5 C5 HL HT5 x1 x2 x3 hsum y1 y2 m1 m2 p1 p2 q1 q2 j1 j2 hq5 hq6 hq7
      have HT7 := Lib.hid (HTb.out _ HW7.out)
      obtain ⟨N2, b2, hans2⟩ : ∃ N b, Nth.full y m d k2 = (N, b) := ⟨_, _, rfl⟩
      have HI2 : Hid (∀ w, Tab w → Calls Tryd.prog 28 #[.int .i64 y, .int .i64 m, .int .i64 d, .int .i64 k2] w fun e w' => e = .returned (.tuple #[.int .i64 N2, .bool b2]) ∧ Below w.heap.size w w') := Lib.hid fun w hw => by
        have := Nth.impl y m d k2 w hw
        rwa [hans2] at this
      have HS2 : Hid (∀ w, Calls Tryd.prog 29 #[.int .i64 y, .int .i64 m, .int .i64 d, .int .i64 k2] w fun e w' => e = .returned (.tuple #[.int .i64 N2, .bool b2]) ∧ Below w.heap.size w w') := Lib.hid fun w => by
        have := Nth.spec y m d k2 w
        rwa [hans2] at this
      have HANS2 := Lib.hid hans2
      clear hans2
      go_wp2_with (go_at_call 28; refine (HI2.out w7 HT7.out).mono ?_; rintro e w8 ⟨rfl, hb8⟩; refine Hid.out ?_)
      refine Lib.hid ?_
      have HW8 : Hid (Below w.heap.size w w8) := Lib.hid (HW7.out.trans (hb8.mono HW7.out.size))
      clear hb8 HI2 HW7 HT7
      go_wp2_with (go_at_call 29; refine (HS2.out w8).mono ?_; rintro e w9 ⟨rfl, hb9⟩; refine Hid.out ?_)
      refine Lib.hid ?_
      have HW9 : Hid (Below w.heap.size w w9) := Lib.hid (HW8.out.trans (hb9.mono HW8.out.size))
      clear hb9 HS2 HW8
      cases b2
      · have hz : N2 = 0 := zero_of HANS2.out
        subst hz
        clear HANS2
        go_wp2_with fail
        go_ret
        exact ⟨rfl, HW9.out⟩
      · obtain ⟨J, ⟨j1, j2⟩, hkk, HA, HB⟩ := found y m d k2 N2 HANS2.out
        replace HA := Lib.hid HA
        replace HB := Lib.hid HB
        clear HANS2
        go_wp2_with (go_at_call 25; refine (HA.out w9).mono ?_; rintro e w10 ⟨rfl, hb10⟩; refine Hid.out ?_)
        refine Lib.hid ?_
        have HW10 : Hid (Below w.heap.size w (w10.alloc (.cells #[.int .i64 y, .int .i64 m, .int .i64 J] 26))) := Lib.hid ((HW9.out.trans (hb10.mono HW9.out.size)).trans ((below1 _ _).mono (HW9.out.trans (hb10.mono HW9.out.size)).size))
        clear hb10 HA HW9
        rcases hkk with hkk | ⟨hk3, hk4, hk5, hk6⟩
        · subst hkk
          go_wp2_with (go_at_call 30; refine (HB.out _).mono ?_; rintro e w11 ⟨rfl, rfl⟩)
          go_ret
          exact ⟨rfl, HW10.out⟩
        · have g3 : (k2 == -1) = false := by simpa using hk3
          have g6 : ((J - 1) / 7 == k2 - 1) = true := by simpa using hk6
          clear hk3 hk6
          go_wp2_with (go_at_call 30; refine (HB.out _).mono ?_; rintro e w11 ⟨rfl, rfl⟩)
          go_ret
          exact ⟨rfl, HW10.out⟩

set_option maxRecDepth 100000 in
theorem bigWalk (A : Option Addr) (len cap : Nat) (w : World) (h : 65536 < len) (hm : len ≤ maxLen) :
    Calls Tryd.prog 4 #[.slice A len cap] w fun e w' => e = .returned (.bool true) ∧ Below w.heap.size w w' := by
  have HB := Lib.hid (vBigYes A len cap w h hm)
  clear h hm
  go_enter Tryd.func4, Tryd.ntmps4
  go_wp2_with (go_at_call 13; refine HB.out.mono ?_; rintro e w' ⟨rfl, rfl⟩)
  go_ret
  exact ⟨rfl, Below.refl _ _⟩

theorem walk (A : Option Addr) (len cap : Nat) (w : World) (hm : len ≤ maxLen) (hA : Cur.Bytes w w.heap.size A len) (hT : Tab w) :
    Calls Tryd.prog 4 #[.slice A len cap] w fun e w' => e = .returned (.bool true) ∧ Below w.heap.size w w' := by
  by_cases h : 65536 < len
  · exact bigWalk A len cap w h hm
  · exact small A len cap w (by omega) hT hA

end Go.Proofs.YtjibnfeeomlnlaaDoor.MonWalk
