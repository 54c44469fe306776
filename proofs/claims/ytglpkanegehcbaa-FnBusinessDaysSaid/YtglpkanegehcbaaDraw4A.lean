/-
  What the draw of a calendar that may be invalid returns, whatever the code.
-/
import Derived.Test.YtglpkanegehcbaaDraw4C
import Derived.Deep.RegionLaw
namespace Go.Proofs.Ytglpkanegehcbaa.Draw4A
open Go.RowKit Go.Proofs.Ytglpkanegehcbaa.Cur Go.Proofs.Ytglpkanegehcbaa.Cal Go.Proofs.Ytglpkanegehcbaa.IRow Go.Proofs.Ytglpkanegehcbaa.CurDay Go.Proofs.Ytglpkanegehcbaa.CalLaw Go.Proofs.Ytglpkanegehcbaa.Draw4 Go.Proofs.Ytglpkanegehcbaa.Draw4C
set_option linter.unusedVariables false
set_option linter.unusedSimpArgs false

theorem amongCP (P : Int → Prop) {w v : World} {kb g : Nat} {A : Option Addr} {n cap k B : Nat} {v1 v2 : Value} {D1 D2 : List Int} (h : CP w v kb g A n cap k B v1 v2 D1 D2) (L : Nat) (cs : Array Value) (m : Nat) (hm : m = cs.size) (h1 : 1 ≤ m) (h2 : m ≤ 1000) (hk : k ≤ 999999)
    (hL : v.heap[L]? = some (.cells cs 3 (0, 0))) (hne : L ≠ g) (hs : ∀ v ∈ cs.toList, ∃ z : Int, v = .int .i64 z ∧ P z) :
    Calls Try.prog 28 #[.pointer (some ⟨g, 0, none⟩), .slice (some ⟨L, 0, none⟩) m m] v fun e w' => ∃ (z : Int) (k' : Nat), e = .returned (.int .i64 z) ∧ P z ∧ k' ≤ k + 2 ∧ CP w w' kb g A n cap k' B v1 v2 D1 D2 :=
  (amongP P L cs m hm h1 h2 g A n cap k B v h.ok hk hL hne hs).mono fun e w' ⟨z, k', he, hz, hk', hok, hg⟩ => ⟨z, k', he, hz, hk', h.cur hok hg⟩

theorem step_app1 {w u : World} {kb g : Nat} {A : Option Addr} {n cap k B : Nat} {v1 v2 : Value} {D1 D2 : List Int} {ops : Array Oper} {o : Oper} {a : Act} {K : Act → World → Prop} {Q : Exit → Act → World → Prop} {E : Prop} (hgd : o.guard = none) (s x : Operand)
    (ho : o.op = .call { callee := .builtin .append, args := #[s, x], argTypes := #[24, 24] }) (h : CP w u kb g A n cap k B v1 v2 D1 D2) (hl : D1.length ≤ 200) (hs : a.eval s = v1) (L c : Nat) (q : Int) (hx : a.eval x = .slice (some ⟨L, 0, none⟩) 1 c) (hc : u.cell? ⟨L, 0, none⟩ = some (.int .i64 q))
    (hK : ∀ a3 c3 w1, CP w (w1.setCell ⟨kb, 0, none⟩ (.slice a3 (D1.length + 1) c3)) kb g A n cap k B (.slice a3 (D1.length + 1) c3) v2 (D1 ++ [q]) D2 → Bx kb w1 v1 v2 → K (a.put o.dst (.slice a3 (D1.length + 1) c3)) w1) :
    if Region.wanted o (yielded ops a.tmps) = true then Oper.wp Try.prog o a u K Q else E := by
  obtain ⟨i0, hi, hz0, hz1, hz2⟩ := info_parts infoInt
  have hw : Region.wanted o (yielded ops a.tmps) = true := by simp [Region.wanted, hgd]
  rw [if_pos hw]
  obtain ⟨v', w', hr, h2, h3, _, h5⟩ := run_append_own_at (P := Try.prog) u (w.heap.size + 1) 24 o.type 3 i0 (.int .i64 0) 1 8 Try.underlying24 hi hz0 hz1 hz2 rfl (by decide) v1 D1.length (D1.map (Value.int .i64)) h.rows.r1 ⟨L, 0, none⟩ 1 c [.int .i64 q] rfl
    (fun j u' hu => by
      match j, hu with
      | 0, hu =>
        simp only [List.getElem?_cons_zero, Option.some.injEq] at hu
        subst hu
        have : (⟨L, 0, none⟩ : Addr).add 0 = ⟨L, 0, none⟩ := rfl
        rw [this]; exact hc
      | j + 1, hu => simp at hu) (one_int q) (by unfold maxLen; omega) (by omega) (by have := h.box.lt; have := h.kb1; omega)
  obtain ⟨a3, c3, rfl⟩ := row_form h2
  unfold Oper.wp execOp
  simp only [ho, resolve, invoke, builtin, Sem.run_bind, Sem.run_pure, Result.andThen_ok, List.map_toArray, List.map_cons, List.map_nil, hs, hx, hr]
  exact hK a3 c3 w' (h.core1 h3 (snoc_own h2) h5) (Bx.kept h.box h3 (fun e => h.n1 e.symm))

theorem step_app2 {w u : World} {kb g : Nat} {A : Option Addr} {n cap k B : Nat} {v1 v2 : Value} {D1 D2 : List Int} {ops : Array Oper} {o : Oper} {a : Act} {K : Act → World → Prop} {Q : Exit → Act → World → Prop} {E : Prop} (hgd : o.guard = none) (s x : Operand)
    (ho : o.op = .call { callee := .builtin .append, args := #[s, x], argTypes := #[24, 24] }) (h : CP w u kb g A n cap k B v1 v2 D1 D2) (hl : D2.length ≤ 200) (hs : a.eval s = v2) (L c : Nat) (q : Int) (hx : a.eval x = .slice (some ⟨L, 0, none⟩) 1 c) (hc : u.cell? ⟨L, 0, none⟩ = some (.int .i64 q))
    (hK : ∀ a3 c3 w1, CP w (w1.setCell ⟨kb, 1, none⟩ (.slice a3 (D2.length + 1) c3)) kb g A n cap k B v1 (.slice a3 (D2.length + 1) c3) D1 (D2 ++ [q]) → Bx kb w1 v1 v2 → K (a.put o.dst (.slice a3 (D2.length + 1) c3)) w1) :
    if Region.wanted o (yielded ops a.tmps) = true then Oper.wp Try.prog o a u K Q else E := by
  obtain ⟨i0, hi, hz0, hz1, hz2⟩ := info_parts infoInt
  have hw : Region.wanted o (yielded ops a.tmps) = true := by simp [Region.wanted, hgd]
  rw [if_pos hw]
  obtain ⟨v', w', hr, h2, h3, _, h5⟩ := run_append_own_at (P := Try.prog) u (w.heap.size + 1) 24 o.type 3 i0 (.int .i64 0) 1 8 Try.underlying24 hi hz0 hz1 hz2 rfl (by decide) v2 D2.length (D2.map (Value.int .i64)) h.rows.r2 ⟨L, 0, none⟩ 1 c [.int .i64 q] rfl
    (fun j u' hu => by
      match j, hu with
      | 0, hu =>
        simp only [List.getElem?_cons_zero, Option.some.injEq] at hu
        subst hu
        have : (⟨L, 0, none⟩ : Addr).add 0 = ⟨L, 0, none⟩ := rfl
        rw [this]; exact hc
      | j + 1, hu => simp at hu) (one_int q) (by unfold maxLen; omega) (by omega) (by have := h.box.lt; have := h.kb1; omega)
  obtain ⟨a3, c3, rfl⟩ := row_form h2
  unfold Oper.wp execOp
  simp only [ho, resolve, invoke, builtin, Sem.run_bind, Sem.run_pure, Result.andThen_ok, List.map_toArray, List.map_cons, List.map_nil, hs, hx, hr]
  exact hK a3 c3 w' (h.core2 h3 (snoc_own h2) h5) (Bx.kept h.box h3 (fun e => h.n2 e.symm))

theorem cell0 (w : World) (q : Int) (T : TypeId) : (w.alloc (.cells #[.int .i64 q] T)).cell? ⟨w.heap.size, 0, none⟩ = some (.int .i64 q) := by simp [go_sem]

set_option maxRecDepth 100000 in
set_option maxHeartbeats 16000000 in
theorem anyCalendar (g : Nat) (A : Option Addr) (n cap k B : Nat) (near : Int) (hn0 : 0 ≤ near) (hn1 : near ≤ 36524) (w : World) (h : Ok w g A n cap k B) (hk : k ≤ 990000) :
    Calls Try.prog 39 #[.pointer (some ⟨g, 0, none⟩), .int .i64 near] w (calAns 300 100 g A n cap k B w) := by
  have H0 := Lib.hid h
  clear h
  go_enter Try.func39, Try.ntmps39
  go_wp2_with (go_at_call 61; refine (calendar g A n cap k B near hn0 hn1 _ (H0.out.alloc _) (by omega)).mono ?_; rintro e w1 ⟨A1, m1, c1, A2, m2, c2, D1, D2, k1, rfl, hm1, hm2, l1, l2, hk1, hok, hr, hg⟩; refine Hid.out ?_)
  refine Lib.hid ?_
  subst hm1 hm2
  have P1 := Lib.hid (CP.enter H0.out hok hr hg)
  clear hok hr hg H0
  go_wp2_with (go_at_call 29; refine (pick 30 (by omega) (by omega) g A n cap k1 B _ P1.out.ok (by omega)).mono ?_; rintro e w2 ⟨r, k2, rfl, hr2, hk2, hok2, hg2⟩; refine Hid.out ?_)
  refine Lib.hid ?_
  have P2 := Lib.hid (P1.out.cur hok2 hg2)
  clear hok2 hg2 P1
  generalize w1.heap.size = kb at *
  by_cases h0 : r = 0
  · have q0 : ((r : Int) == 0) = true := by simp <;> omega
    clear h0
    obtain ⟨_, b0, b1, f0, f1⟩ := P2.out.box
    have hkb := P2.out.box.lt
    have NG : Hid (w2.heap.size ≠ g) := Lib.hid (by have := P2.out.ok.lt; omega)
    have HLIT : Hid (∀ v ∈ (#[.int .i64 6, .int .i64 7, .int .i64 (-1)] : Array Value).toList, ∃ z : Int, v = .int .i64 z ∧ True) := Lib.hid (by intro v hv; simp at hv; rcases hv with h | h | h <;> exact ⟨_, h, trivial⟩)
    go_wp2_with fail
    go_region_law (first
      | (refine step_app1 rfl _ _ rfl (k := k3) (by (repeat (first | exact P3 | exact P2.out | with_reducible apply CP.drew | with_reducible apply CP.alloc))) (by omega) rfl _ _ z rfl (by first | exact cell0 _ _ _ | (simp [go_sem]; done)) ?_; intro a3 c3 w5 P5 hb5; obtain ⟨_, y0, y1, y2, y3⟩ := hb5)
      | (go_simp; go_at_call 28; refine (amongCP (fun _ => True) (k := k2) (by (repeat (first | exact P3 | exact P2.out | with_reducible apply CP.drew | with_reducible apply CP.alloc))) w2.heap.size #[.int .i64 6, .int .i64 7, .int .i64 (-1)] 3 rfl (by omega) (by omega) (by omega) (by first | exact heap_alloc_new w2 _) NG.out HLIT.out).mono ?_; rintro e w3 ⟨z, k3, rfl, _, hk3, P3⟩; obtain ⟨_, x0, x1, x2, x3⟩ := P3.box; have hkb3 := P3.box.lt))
    all_goals
      have PF := Lib.hid P5
      have FN := Lib.hid PF.out.fin
      obtain ⟨_, t0, t1, t2, t3⟩ := PF.out.res
      obtain ⟨_, u0, u1, _, _⟩ := PF.out.box
      go_wp2_with fail
      obtain ⟨⟨_, s0, s1, _, _⟩, hokf, hrf, hgf⟩ := FN.out
      exact bodyPost_ret (v := .agg #[.slice a3 (D1.length + 1) c3, .slice A2 D2.length c2]) (by simp [results, Try.results39, go_sem, s0, s1]) rfl ⟨_, _, _, _, _, _, (D1 ++ [z]), D2, k3, rfl, by first | rfl | (simp; done), by first | rfl | (simp; done), by first | omega | (simp; omega), by first | omega | (simp; omega), by omega, hokf, hrf, hgf⟩
  · have q0 : ((r : Int) == 0) = false := by simp <;> omega
    by_cases h1 : r = 1
    · have q1 : ((r : Int) == 1) = true := by simp <;> omega
      clear h0 h1
      obtain ⟨_, b0, b1, f0, f1⟩ := P2.out.box
      have hkb := P2.out.box.lt
      have NG : Hid (w2.heap.size ≠ g) := Lib.hid (by have := P2.out.ok.lt; omega)
      have HLIT : Hid (∀ v ∈ (#[.int .i64 36524, .int .i64 36525, .int .i64 0] : Array Value).toList, ∃ z : Int, v = .int .i64 z ∧ True) := Lib.hid (by intro v hv; simp at hv; rcases hv with h | h | h <;> exact ⟨_, h, trivial⟩)
      go_wp2_with fail
      go_region_law (first
        | (refine step_app2 rfl _ _ rfl (k := k3) (by (repeat (first | exact P3 | exact P2.out | with_reducible apply CP.drew | with_reducible apply CP.alloc))) (by omega) rfl _ _ z rfl (by first | exact cell0 _ _ _ | (simp [go_sem]; done)) ?_; intro a3 c3 w5 P5 hb5; obtain ⟨_, y0, y1, y2, y3⟩ := hb5)
        | (go_simp; go_at_call 28; refine (amongCP (fun _ => True) (k := k2) (by (repeat (first | exact P3 | exact P2.out | with_reducible apply CP.drew | with_reducible apply CP.alloc))) w2.heap.size #[.int .i64 36524, .int .i64 36525, .int .i64 0] 3 rfl (by omega) (by omega) (by omega) (by first | exact heap_alloc_new w2 _) NG.out HLIT.out).mono ?_; rintro e w3 ⟨z, k3, rfl, _, hk3, P3⟩; obtain ⟨_, x0, x1, x2, x3⟩ := P3.box; have hkb3 := P3.box.lt))
      all_goals
        have PF := Lib.hid P5
        have FN := Lib.hid PF.out.fin
        obtain ⟨_, t0, t1, t2, t3⟩ := PF.out.res
        obtain ⟨_, u0, u1, _, _⟩ := PF.out.box
        go_wp2_with fail
        obtain ⟨⟨_, s0, s1, _, _⟩, hokf, hrf, hgf⟩ := FN.out
        exact bodyPost_ret (v := .agg #[.slice A1 D1.length c1, .slice a3 (D2.length + 1) c3]) (by simp [results, Try.results39, go_sem, s0, s1]) rfl ⟨_, _, _, _, _, _, D1, (D2 ++ [z]), k3, rfl, by first | rfl | (simp; done), by first | rfl | (simp; done), by first | omega | (simp; omega), by first | omega | (simp; omega), by omega, hokf, hrf, hgf⟩
    · have q1 : ((r : Int) == 1) = false := by simp <;> omega
      by_cases h2 : r = 2
      · have q2 : ((r : Int) == 2) = true := by simp <;> omega
        clear h0 h1 h2
        obtain ⟨_, b0, b1, f0, f1⟩ := (P2.out.alloc (.cells #[.int .i64 0, .int .i64 1, .int .i64 2, .int .i64 3, .int .i64 4, .int .i64 5, .int .i64 6] 3)).box
        have PF : Hid (CP w ((w2.alloc (.cells #[.int .i64 0, .int .i64 1, .int .i64 2, .int .i64 3, .int .i64 4, .int .i64 5, .int .i64 6] 3)).setCell ⟨kb, 0, none⟩ (.slice (some ⟨w2.heap.size, 0, none⟩) 7 7)) kb g A n cap k2 B (.slice (some ⟨w2.heap.size, 0, none⟩) 7 7) (.slice A2 D2.length c2) [0, 1, 2, 3, 4, 5, 6] D2) := Lib.hid (P2.out.put1 [0, 1, 2, 3, 4, 5, 6] (by simp))
        clear P2
        have FN := Lib.hid PF.out.fin
        obtain ⟨_, t0, t1, t2, t3⟩ := PF.out.res
        obtain ⟨_, u0, u1, _, _⟩ := PF.out.box
        go_wp2_with fail
        obtain ⟨⟨_, s0, s1, _, _⟩, hokf, hrf, hgf⟩ := FN.out
        exact bodyPost_ret (v := .agg #[.slice (some ⟨w2.heap.size, 0, none⟩) 7 7, .slice A2 D2.length c2]) (by simp [results, Try.results39, go_sem, s0, s1]) rfl ⟨_, _, _, _, _, _, [0, 1, 2, 3, 4, 5, 6], D2, k2, rfl, by first | rfl | (simp; done), by first | rfl | (simp; done), by omega, by omega, by omega, hokf, hrf, hgf⟩
      · have q2 : ((r : Int) == 2) = false := by simp <;> omega
        by_cases h3 : r = 3
        · have q3 : ((r : Int) == 3) = true := by simp <;> omega
          clear h0 h1 h2 h3
          obtain ⟨_, b0, b1, f0, f1⟩ := (P2.out.alloc (.cells #[] 3)).box
          have P4 : Hid (CP w ((w2.alloc (.cells #[] 3)).setCell ⟨kb, 1, none⟩ (.slice (some ⟨w2.heap.size, 0, none⟩) 0 0)) kb g A n cap k2 B (.slice A1 D1.length c1) (.slice (some ⟨w2.heap.size, 0, none⟩) 0 0) D1 []) := Lib.hid (P2.out.put2 [] (by simp))
          clear P2
          obtain ⟨M, hM⟩ : ∃ M, M = max (near - 20) 0 := ⟨_, rfl⟩
          obtain ⟨N, hN⟩ : ∃ N, N = min M 36464 := ⟨_, rfl⟩
          have HM := Lib.hid fun w => mostD (near - 20) 0 M hM w
          have HN := Lib.hid fun w => leastD M 36464 N hN w
          have N0 : 0 ≤ N := by omega
          have N1 : N ≤ 36464 := by omega
          clear hM hN
          go_wp2_with fail
          clear b0 b1 f0 f1
          go_loopw [6] (fun i wr => ∃ (j q : Nat) (v2 : Value) (D2 : List Int), j ≤ 41 ∧ i = .int .i64 j ∧ D2.length = j ∧ q ≤ k + 80 + 2 * j ∧ Hid (CP w wr kb g A n cap q B (.slice A1 D1.length c1) v2 D1 D2)) (fun i _ => 42 - (intOf i).toNat)
          case atStart => exact ⟨0, k2, _, [], by omega, rfl, rfl, by omega, P4⟩
          case round =>
            clear P4
            obtain ⟨j, q, v2, D2, hj, rfl, hD2, hq, HQ⟩ := hrel
            obtain ⟨a2, c2, rfl⟩ := row_slice HQ.out.rows.r2
            have HD2 := Lib.hid hD2
            have hd2 : D2.length ≤ 41 := by omega
            have hjd : j ≤ D2.length := by omega
            clear hD2
            go_wp2_with (go_at_call 29; refine (pick 2 (by omega) (by omega) g A n cap q B _ HQ.out.ok (by omega)).mono ?_; rintro e w3 ⟨r3, k3, rfl, hr3, hk3, hok3, hg3⟩; refine Hid.out ?_)
            refine Lib.hid ?_
            have P2 := Lib.hid (HQ.out.cur hok3 hg3)
            clear hok3 hg3 HQ
            by_cases hlt : j < 40 + r3
            · have hlt2 : (j : Int) < 40 + (r3 : Int) := by omega
              obtain ⟨_, b0, b1, f0, f1⟩ := P2.out.box
              have hkb := P2.out.box.lt
              have hw1 : IntKind.i64.wrap (near - 20) = near - 20 := by rw [IntKind.wrap_i64]; omega
              have hw2 : IntKind.i64.wrap (N + (j : Int)) = N + j := by rw [IntKind.wrap_i64]; omega
              go_wp2_with fail
              go_region_law (first
                | (refine step_app2 rfl _ _ rfl (k := k3) (by (repeat (first | exact P2.out | with_reducible apply CP.drew | with_reducible apply CP.alloc))) (by omega) rfl _ _ (N + j) rfl (by first | exact cell0 _ _ _ | (simp [go_sem]; done)) ?_; intro a3 c3 w5 P5 hb5; obtain ⟨_, y0, y1, y2, y3⟩ := hb5)
                | (go_simp; go_at_call 63; refine (HM.out _).mono ?_; rintro e w' ⟨rfl, rfl⟩)
                | (go_simp; go_at_call 62; refine (HN.out _).mono ?_; rintro e w' ⟨rfl, rfl⟩))
              all_goals
                have PF := Lib.hid P5
                clear P5
                go_wp2_with fail
                go_roundw
                case rel => exact ⟨j + 1, k3, _, D2 ++ [N + (j : Int)], by omega, by go_num, by have := HD2.out; simp; omega, by omega, PF⟩
                case measure => simp [intOf]; omega
            · have hlt2 : ¬ (j : Int) < 40 + (r3 : Int) := by omega
              have FN := Lib.hid P2.out.fin
              obtain ⟨_, t0, t1, t2, t3⟩ := P2.out.res
              obtain ⟨_, u0, u1, _, _⟩ := P2.out.box
              go_wp2_with fail
              obtain ⟨⟨_, s0, s1, _, _⟩, hokf, hrf, hgf⟩ := FN.out
              exact bodyPost_ret (v := .agg #[.slice A1 D1.length c1, .slice a2 D2.length c2]) (by simp [results, Try.results39, go_sem, s0, s1]) rfl ⟨_, _, _, _, _, _, D1, D2, k3, rfl, by first | rfl | (simp; done), by first | rfl | (simp; done), by omega, by omega, by omega, hokf, hrf, hgf⟩
        · have q3 : ((r : Int) == 3) = false := by simp <;> omega
          clear h0 h1 h2 h3
          have FN := Lib.hid P2.out.fin
          obtain ⟨_, t0, t1, t2, t3⟩ := P2.out.res
          obtain ⟨_, u0, u1, _, _⟩ := P2.out.box
          go_wp2_with fail
          obtain ⟨⟨_, s0, s1, _, _⟩, hokf, hrf, hgf⟩ := FN.out
          exact bodyPost_ret (v := .agg #[.slice A1 D1.length c1, .slice A2 D2.length c2]) (by simp [results, Try.results39, go_sem, s0, s1]) rfl ⟨_, _, _, _, _, _, D1, D2, k2, rfl, by first | rfl | (simp; done), by first | rfl | (simp; done), by omega, by omega, by omega, hokf, hrf, hgf⟩

end Go.Proofs.Ytglpkanegehcbaa.Draw4A
