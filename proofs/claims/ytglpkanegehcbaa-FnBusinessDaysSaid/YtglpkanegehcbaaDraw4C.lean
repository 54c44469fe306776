/-
  What the draw of a calendar returns, whatever the code.
-/
import Derived.Test.YtglpkanegehcbaaDraw4
namespace Go.Proofs.Ytglpkanegehcbaa.Draw4C
open Go.RowKit Go.Proofs.Ytglpkanegehcbaa.Cur Go.Proofs.Ytglpkanegehcbaa.Cal Go.Proofs.Ytglpkanegehcbaa.IRow Go.Proofs.Ytglpkanegehcbaa.CurDay Go.Proofs.Ytglpkanegehcbaa.CalLaw Go.Proofs.Ytglpkanegehcbaa.Draw4
set_option linter.unusedVariables false
set_option linter.unusedSimpArgs false

set_option maxRecDepth 100000 in
set_option maxHeartbeats 8000000 in
theorem calendar (g : Nat) (A : Option Addr) (n cap k B : Nat) (near : Int) (hn0 : 0 ≤ near) (hn1 : near ≤ 36524) (w : World) (h : Ok w g A n cap k B) (hk : k ≤ 999000) :
    Calls Try.prog 61 #[.pointer (some ⟨g, 0, none⟩), .int .i64 near] w (calAns 60 50 g A n cap k B w) := by
  have HP := Lib.hid (CP.start h)
  clear h
  obtain ⟨i0, hi, hz0, hz1, hz2⟩ := info_parts infoInt
  have HZ := Lib.hid (And.intro hi (And.intro hz0 (And.intro hz1 hz2)))
  clear hi hz0 hz1 hz2
  obtain ⟨M, hM⟩ : ∃ M, M = max (near - 8) 0 := ⟨_, rfl⟩
  have HM := Lib.hid fun w => mostD (near - 8) 0 M hM w
  have M0 : 0 ≤ M := by omega
  have M1 : M ≤ 36516 := by omega
  clear hM
  go_enter Try.func61, Try.ntmps61
  go_wp2_with (go_at_call 29; refine (pick 6 (by omega) (by omega) g A n cap k B _ HP.out.ok (by omega)).mono ?_; rintro e w1 ⟨r, k1, rfl, hr, hk1, hok, hg⟩; refine Hid.out ?_)
  refine Lib.hid ?_
  have P1 := Lib.hid (HP.out.cur hok hg)
  clear hok hg HP
  by_cases h0 : r = 0
  · have q0 : ((r : Int) == 0) = true := by simp <;> omega
    clear h0
    obtain ⟨_, b0, b1, f0, f1⟩ := (P1.out.alloc (.cells #[.int .i64 4, .int .i64 5] 3)).box
    have PT : Hid (CP w ((w1.alloc (.cells #[.int .i64 4, .int .i64 5] 3)).setCell ⟨w.heap.size + 1, 0, none⟩ (.slice (some ⟨w1.heap.size, 0, none⟩) 2 2)) (w.heap.size + 1) g A n cap k1 B (.slice (some ⟨w1.heap.size, 0, none⟩) 2 2) (.slice none 0 0) [4, 5] []) := Lib.hid (P1.out.put1 [4, 5] (by simp))
    clear P1
    go_wp2_with (go_at_call 63; refine (HM.out _).mono ?_; rintro e w' ⟨rfl, rfl⟩; refine Hid.out ?_)
    refine Lib.hid ?_
    go_wp2_with (go_at_call 29; refine (pick 7 (by omega) (by omega) g A n cap k1 B _ PT.out.ok (by omega)).mono ?_; rintro e w5 ⟨r5, k5, rfl, hr5, hk5, hok5, hg5⟩; refine Hid.out ?_)
    refine Lib.hid ?_
    have P5 := Lib.hid (PT.out.cur hok5 hg5)
    clear hok5 hg5 PT
    go_wp2_with fail
    go_loopw [7, 8] (fun d i wr => ∃ (x : Int) (j q : Nat) (v2 : Value) (D2 : List Int), 0 ≤ x ∧ x + 4 * j ≤ 36560 ∧ j ≤ 6 ∧ d = .int .i64 x ∧ i = .int .i64 j ∧ D2.length + j ≤ 6 ∧ q + 2 * j ≤ k + 40 ∧ Hid (CP w wr (w.heap.size + 1) g A n cap q B (.slice (some ⟨w1.heap.size, 0, none⟩) 2 2) v2 [4, 5] D2)) (fun _ i _ => (intOf i).toNat)
    case atStart => exact ⟨M, r5, k5, _, [], by omega, by omega, by omega, rfl, rfl, by simp; omega, by omega, P5⟩
    case round =>
      clear P5
      obtain ⟨x, j, q, v2, D2, x0, x1, hj, rfl, rfl, hD, hq, HQ⟩ := hrel
      obtain ⟨a2, c2, rfl⟩ := row_slice HQ.out.rows.r2
      obtain ⟨_, b0, b1, f0, f1⟩ := HQ.out.box
      by_cases hlt : 0 < j
      · have q1 : decide (0 < j) = true := decide_eq_true hlt
        by_cases hx : x ≤ 36524
        · go_wp2_with (at_builtin; refine wpList_append_own_at _ rfl _ _ 24 rfl (w.heap.size + 1) 3 i0 (.int .i64 0) 1 8 Try.underlying24 HZ.out.1 HZ.out.2.1 HZ.out.2.2.1 HZ.out.2.2.2 rfl (by decide) _ _ _ rfl (HQ.out.rows.r2.alloc _) ⟨wr.heap.size, 0, none⟩ 1 1 [.int .i64 x] rfl rfl (cell_one_new _ _ _) (one_int _) (by unfold maxLen; omega) (by omega) (by have := HQ.out.box.lt; have := HQ.out.kb1; simp; omega) ?_; intro v' w6 hown' hgrow _ hat; refine Hid.out ?_)
          refine Lib.hid ?_
          obtain ⟨a3, c3, rfl⟩ := row_form hown'
          have P6 := Lib.hid ((HQ.out.alloc _).core2 hgrow (snoc_own hown') hat)
          have hb6 : Hid (Bx (w.heap.size + 1) w6 (.slice (some ⟨w1.heap.size, 0, none⟩) 2 2) (.slice a2 D2.length c2)) := Lib.hid (Bx.kept (HQ.out.alloc _).box hgrow (fun e => HQ.out.n2 e.symm))
          clear hown' hgrow hat HQ b0 b1 f0 f1
          obtain ⟨_, b0, b1, f0, f1⟩ := hb6.out
          clear hb6
          go_wp2_with (go_at_call 29; refine (pick 4 (by omega) (by omega) g A n cap q B _ P6.out.ok (by omega)).mono ?_; rintro e w7 ⟨r7, k7, rfl, hr7, hk7, hok7, hg7⟩; refine Hid.out ?_)
          refine Lib.hid ?_
          have P7 := Lib.hid (P6.out.cur hok7 hg7)
          clear hok7 hg7 P6 b0 b1 f0 f1
          go_wp2_with fail
          go_roundw
          case rel => exact ⟨x + 1 + r7, j - 1, k7, _, D2 ++ [x], by omega, by omega, by omega, by go_num, by go_num, by simp; omega, by omega, P7⟩
          case measure => simp [intOf]; omega
        · have hx2 : 36524 < x := by omega
          have FN := Lib.hid HQ.out.fin
          obtain ⟨_, t0, t1, t2, t3⟩ := HQ.out.res
          go_wp2_with fail
          obtain ⟨⟨_, s0, s1, _, _⟩, hokf, hrf, hgf⟩ := FN.out
          exact bodyPost_ret (v := .agg #[.slice (some ⟨w1.heap.size, 0, none⟩) 2 2, .slice a2 D2.length c2]) (by simp [results, Try.results61, go_sem, s0, s1]) rfl ⟨(some ⟨w1.heap.size, 0, none⟩), _, 2, a2, _, c2, [4, 5], D2, q, rfl, rfl, rfl, by omega, by omega, by omega, hokf, hrf, hgf⟩
      · have hj0 : j = 0 := by omega
        subst hj0
        clear hlt
        have FN := Lib.hid HQ.out.fin
        obtain ⟨_, t0, t1, t2, t3⟩ := HQ.out.res
        go_wp2_with fail
        obtain ⟨⟨_, s0, s1, _, _⟩, hokf, hrf, hgf⟩ := FN.out
        exact bodyPost_ret (v := .agg #[.slice (some ⟨w1.heap.size, 0, none⟩) 2 2, .slice a2 D2.length c2]) (by simp [results, Try.results61, go_sem, s0, s1]) rfl ⟨(some ⟨w1.heap.size, 0, none⟩), _, 2, a2, _, c2, [4, 5], D2, q, rfl, rfl, rfl, by omega, by omega, by omega, hokf, hrf, hgf⟩
  · by_cases h1 : r = 1
    · have q0 : ((r : Int) == 0) = false := by simp <;> omega
      have q1 : ((r : Int) == 1) = true := by simp <;> omega
      clear h0 h1
      go_wp2_with fail
      go_loopw [6] (fun i wr => ∃ (j q : Nat) (v1 : Value) (D1 : List Int), j ≤ 6 ∧ i = .int .i64 j ∧ D1.length ≤ j ∧ q ≤ k + 2 + 2 * j ∧ Hid (CP w wr (w.heap.size + 1) g A n cap q B v1 (.slice none 0 0) D1 [])) (fun i _ => 6 - (intOf i).toNat)
      case atStart => exact ⟨0, k1, _, [], by omega, rfl, by simp, by omega, P1⟩
      case round =>
        clear P1
        obtain ⟨j, q, v1, D1, hj, rfl, hD1, hq, HQ⟩ := hrel
        obtain ⟨a1, c1, rfl⟩ := row_slice HQ.out.rows.r1
        by_cases hlt : j < 6
        · go_wp2_with (go_at_call 49; refine (one 3 (by omega) (by omega) g A n cap q B _ HQ.out.ok (by omega)).mono ?_; rintro e w2 ⟨f, k2, rfl, hk2, hok2, hg2⟩; refine Hid.out ?_)
          refine Lib.hid ?_
          have P2 := Lib.hid (HQ.out.cur hok2 hg2)
          clear hok2 hg2 HQ
          cases f
          · go_wp2_with fail
            go_roundw
            case rel => exact ⟨j + 1, k2, _, D1, by omega, by go_num, by omega, by omega, P2⟩
            case measure => simp [intOf]; omega
          · obtain ⟨_, b0, b1, f0, f1⟩ := P2.out.box
            go_wp2_with (at_builtin; refine wpList_append_own_at _ rfl _ _ 24 rfl (w.heap.size + 1) 3 i0 (.int .i64 0) 1 8 Try.underlying24 HZ.out.1 HZ.out.2.1 HZ.out.2.2.1 HZ.out.2.2.2 rfl (by decide) _ _ _ rfl (P2.out.rows.r1.alloc _) ⟨w2.heap.size, 0, none⟩ 1 1 [.int .i64 (j : Int)] rfl rfl (cell_one_new _ _ _) (one_int _) (by unfold maxLen; omega) (by omega) (by have := P2.out.box.lt; have := P2.out.kb1; simp; omega) ?_; intro v' w3 hown' hgrow _ hat; refine Hid.out ?_)
            refine Lib.hid ?_
            obtain ⟨a3, c3, rfl⟩ := row_form hown'
            have P3 := Lib.hid ((P2.out.alloc _).core1 hgrow (snoc_own hown') hat)
            have hb3 : Hid (Bx (w.heap.size + 1) w3 (.slice a1 D1.length c1) (.slice none 0 0)) := Lib.hid (Bx.kept (P2.out.alloc _).box hgrow (fun e => P2.out.n1 e.symm))
            clear hown' hgrow hat P2 b0 b1 f0 f1
            obtain ⟨_, b0, b1, f0, f1⟩ := hb3.out
            clear hb3
            go_wp2_with fail
            go_roundw
            case rel => exact ⟨j + 1, k2, _, D1 ++ [(j : Int)], by omega, by go_num, by simp; omega, by omega, P3⟩
            case measure => simp [intOf]; omega
        · have PT := HQ
          clear HQ
          go_wp2_with (go_at_call 63; refine (HM.out _).mono ?_; rintro e w' ⟨rfl, rfl⟩; refine Hid.out ?_)
          refine Lib.hid ?_
          go_wp2_with (go_at_call 29; refine (pick 7 (by omega) (by omega) g A n cap q B _ PT.out.ok (by omega)).mono ?_; rintro e w5 ⟨r5, k5, rfl, hr5, hk5, hok5, hg5⟩; refine Hid.out ?_)
          refine Lib.hid ?_
          have P5 := Lib.hid (PT.out.cur hok5 hg5)
          clear hok5 hg5 PT
          go_wp2_with fail
          go_loopw [7, 8] (fun d i wr => ∃ (x : Int) (j q : Nat) (v2 : Value) (D2 : List Int), 0 ≤ x ∧ x + 4 * j ≤ 36560 ∧ j ≤ 6 ∧ d = .int .i64 x ∧ i = .int .i64 j ∧ D2.length + j ≤ 6 ∧ q + 2 * j ≤ k + 40 ∧ Hid (CP w wr (w.heap.size + 1) g A n cap q B (.slice a1 D1.length c1) v2 D1 D2)) (fun _ i _ => (intOf i).toNat)
          case atStart => exact ⟨M, r5, k5, _, [], by omega, by omega, by omega, rfl, rfl, by simp; omega, by omega, P5⟩
          case round =>
            clear P5
            obtain ⟨x, j, q, v2, D2, x0, x1, hj, rfl, rfl, hD, hq, HQ⟩ := hrel
            obtain ⟨a2, c2, rfl⟩ := row_slice HQ.out.rows.r2
            obtain ⟨_, b0, b1, f0, f1⟩ := HQ.out.box
            by_cases hlt : 0 < j
            · have q1 : decide (0 < j) = true := decide_eq_true hlt
              by_cases hx : x ≤ 36524
              · go_wp2_with (at_builtin; refine wpList_append_own_at _ rfl _ _ 24 rfl (w.heap.size + 1) 3 i0 (.int .i64 0) 1 8 Try.underlying24 HZ.out.1 HZ.out.2.1 HZ.out.2.2.1 HZ.out.2.2.2 rfl (by decide) _ _ _ rfl (HQ.out.rows.r2.alloc _) ⟨wr.heap.size, 0, none⟩ 1 1 [.int .i64 x] rfl rfl (cell_one_new _ _ _) (one_int _) (by unfold maxLen; omega) (by omega) (by have := HQ.out.box.lt; have := HQ.out.kb1; simp; omega) ?_; intro v' w6 hown' hgrow _ hat; refine Hid.out ?_)
                refine Lib.hid ?_
                obtain ⟨a3, c3, rfl⟩ := row_form hown'
                have P6 := Lib.hid ((HQ.out.alloc _).core2 hgrow (snoc_own hown') hat)
                have hb6 : Hid (Bx (w.heap.size + 1) w6 (.slice a1 D1.length c1) (.slice a2 D2.length c2)) := Lib.hid (Bx.kept (HQ.out.alloc _).box hgrow (fun e => HQ.out.n2 e.symm))
                clear hown' hgrow hat HQ b0 b1 f0 f1
                obtain ⟨_, b0, b1, f0, f1⟩ := hb6.out
                clear hb6
                go_wp2_with (go_at_call 29; refine (pick 4 (by omega) (by omega) g A n cap q B _ P6.out.ok (by omega)).mono ?_; rintro e w7 ⟨r7, k7, rfl, hr7, hk7, hok7, hg7⟩; refine Hid.out ?_)
                refine Lib.hid ?_
                have P7 := Lib.hid (P6.out.cur hok7 hg7)
                clear hok7 hg7 P6 b0 b1 f0 f1
                go_wp2_with fail
                go_roundw
                case rel => exact ⟨x + 1 + r7, j - 1, k7, _, D2 ++ [x], by omega, by omega, by omega, by go_num, by go_num, by simp; omega, by omega, P7⟩
                case measure => simp [intOf]; omega
              · have hx2 : 36524 < x := by omega
                have FN := Lib.hid HQ.out.fin
                obtain ⟨_, t0, t1, t2, t3⟩ := HQ.out.res
                go_wp2_with fail
                obtain ⟨⟨_, s0, s1, _, _⟩, hokf, hrf, hgf⟩ := FN.out
                exact bodyPost_ret (v := .agg #[.slice a1 D1.length c1, .slice a2 D2.length c2]) (by simp [results, Try.results61, go_sem, s0, s1]) rfl ⟨a1, _, c1, a2, _, c2, D1, D2, q, rfl, rfl, rfl, by omega, by omega, by omega, hokf, hrf, hgf⟩
            · have hj0 : j = 0 := by omega
              subst hj0
              clear hlt
              have FN := Lib.hid HQ.out.fin
              obtain ⟨_, t0, t1, t2, t3⟩ := HQ.out.res
              go_wp2_with fail
              obtain ⟨⟨_, s0, s1, _, _⟩, hokf, hrf, hgf⟩ := FN.out
              exact bodyPost_ret (v := .agg #[.slice a1 D1.length c1, .slice a2 D2.length c2]) (by simp [results, Try.results61, go_sem, s0, s1]) rfl ⟨a1, _, c1, a2, _, c2, D1, D2, q, rfl, rfl, rfl, by omega, by omega, by omega, hokf, hrf, hgf⟩
    · have q0 : ((r : Int) == 0) = false := by simp <;> omega
      have q1 : ((r : Int) == 1) = false := by simp <;> omega
      clear h0 h1
      obtain ⟨_, b0, b1, f0, f1⟩ := (P1.out.alloc (.cells #[.int .i64 5, .int .i64 6] 3)).box
      have PT : Hid (CP w ((w1.alloc (.cells #[.int .i64 5, .int .i64 6] 3)).setCell ⟨w.heap.size + 1, 0, none⟩ (.slice (some ⟨w1.heap.size, 0, none⟩) 2 2)) (w.heap.size + 1) g A n cap k1 B (.slice (some ⟨w1.heap.size, 0, none⟩) 2 2) (.slice none 0 0) [5, 6] []) := Lib.hid (P1.out.put1 [5, 6] (by simp))
      clear P1
      go_wp2_with (go_at_call 63; refine (HM.out _).mono ?_; rintro e w' ⟨rfl, rfl⟩; refine Hid.out ?_)
      refine Lib.hid ?_
      go_wp2_with (go_at_call 29; refine (pick 7 (by omega) (by omega) g A n cap k1 B _ PT.out.ok (by omega)).mono ?_; rintro e w5 ⟨r5, k5, rfl, hr5, hk5, hok5, hg5⟩; refine Hid.out ?_)
      refine Lib.hid ?_
      have P5 := Lib.hid (PT.out.cur hok5 hg5)
      clear hok5 hg5 PT
      go_wp2_with fail
      go_loopw [7, 8] (fun d i wr => ∃ (x : Int) (j q : Nat) (v2 : Value) (D2 : List Int), 0 ≤ x ∧ x + 4 * j ≤ 36560 ∧ j ≤ 6 ∧ d = .int .i64 x ∧ i = .int .i64 j ∧ D2.length + j ≤ 6 ∧ q + 2 * j ≤ k + 40 ∧ Hid (CP w wr (w.heap.size + 1) g A n cap q B (.slice (some ⟨w1.heap.size, 0, none⟩) 2 2) v2 [5, 6] D2)) (fun _ i _ => (intOf i).toNat)
      case atStart => exact ⟨M, r5, k5, _, [], by omega, by omega, by omega, rfl, rfl, by simp; omega, by omega, P5⟩
      case round =>
        clear P5
        obtain ⟨x, j, q, v2, D2, x0, x1, hj, rfl, rfl, hD, hq, HQ⟩ := hrel
        obtain ⟨a2, c2, rfl⟩ := row_slice HQ.out.rows.r2
        obtain ⟨_, b0, b1, f0, f1⟩ := HQ.out.box
        by_cases hlt : 0 < j
        · have q1 : decide (0 < j) = true := decide_eq_true hlt
          by_cases hx : x ≤ 36524
          · go_wp2_with (at_builtin; refine wpList_append_own_at _ rfl _ _ 24 rfl (w.heap.size + 1) 3 i0 (.int .i64 0) 1 8 Try.underlying24 HZ.out.1 HZ.out.2.1 HZ.out.2.2.1 HZ.out.2.2.2 rfl (by decide) _ _ _ rfl (HQ.out.rows.r2.alloc _) ⟨wr.heap.size, 0, none⟩ 1 1 [.int .i64 x] rfl rfl (cell_one_new _ _ _) (one_int _) (by unfold maxLen; omega) (by omega) (by have := HQ.out.box.lt; have := HQ.out.kb1; simp; omega) ?_; intro v' w6 hown' hgrow _ hat; refine Hid.out ?_)
            refine Lib.hid ?_
            obtain ⟨a3, c3, rfl⟩ := row_form hown'
            have P6 := Lib.hid ((HQ.out.alloc _).core2 hgrow (snoc_own hown') hat)
            have hb6 : Hid (Bx (w.heap.size + 1) w6 (.slice (some ⟨w1.heap.size, 0, none⟩) 2 2) (.slice a2 D2.length c2)) := Lib.hid (Bx.kept (HQ.out.alloc _).box hgrow (fun e => HQ.out.n2 e.symm))
            clear hown' hgrow hat HQ b0 b1 f0 f1
            obtain ⟨_, b0, b1, f0, f1⟩ := hb6.out
            clear hb6
            go_wp2_with (go_at_call 29; refine (pick 4 (by omega) (by omega) g A n cap q B _ P6.out.ok (by omega)).mono ?_; rintro e w7 ⟨r7, k7, rfl, hr7, hk7, hok7, hg7⟩; refine Hid.out ?_)
            refine Lib.hid ?_
            have P7 := Lib.hid (P6.out.cur hok7 hg7)
            clear hok7 hg7 P6 b0 b1 f0 f1
            go_wp2_with fail
            go_roundw
            case rel => exact ⟨x + 1 + r7, j - 1, k7, _, D2 ++ [x], by omega, by omega, by omega, by go_num, by go_num, by simp; omega, by omega, P7⟩
            case measure => simp [intOf]; omega
          · have hx2 : 36524 < x := by omega
            have FN := Lib.hid HQ.out.fin
            obtain ⟨_, t0, t1, t2, t3⟩ := HQ.out.res
            go_wp2_with fail
            obtain ⟨⟨_, s0, s1, _, _⟩, hokf, hrf, hgf⟩ := FN.out
            exact bodyPost_ret (v := .agg #[.slice (some ⟨w1.heap.size, 0, none⟩) 2 2, .slice a2 D2.length c2]) (by simp [results, Try.results61, go_sem, s0, s1]) rfl ⟨(some ⟨w1.heap.size, 0, none⟩), _, 2, a2, _, c2, [5, 6], D2, q, rfl, rfl, rfl, by omega, by omega, by omega, hokf, hrf, hgf⟩
        · have hj0 : j = 0 := by omega
          subst hj0
          clear hlt
          have FN := Lib.hid HQ.out.fin
          obtain ⟨_, t0, t1, t2, t3⟩ := HQ.out.res
          go_wp2_with fail
          obtain ⟨⟨_, s0, s1, _, _⟩, hokf, hrf, hgf⟩ := FN.out
          exact bodyPost_ret (v := .agg #[.slice (some ⟨w1.heap.size, 0, none⟩) 2 2, .slice a2 D2.length c2]) (by simp [results, Try.results61, go_sem, s0, s1]) rfl ⟨(some ⟨w1.heap.size, 0, none⟩), _, 2, a2, _, c2, [5, 6], D2, q, rfl, rfl, rfl, by omega, by omega, by omega, hokf, hrf, hgf⟩

end Go.Proofs.Ytglpkanegehcbaa.Draw4C
