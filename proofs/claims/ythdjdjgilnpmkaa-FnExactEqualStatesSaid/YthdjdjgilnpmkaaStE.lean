/-
  EqualStates of the model and of the program.
-/
import Derived.Test.YthdjdjgilnpmkaaStQ
namespace Go.Proofs.Ythdjdjgilnpmkaa.Sta
open Go.RowKit Go.Proofs.Ythdjdjgilnpmkaa.Cond Go.Proofs.Ythdjdjgilnpmkaa.Gx Go.Proofs.Ythdjdjgilnpmkaa.Cl Go.Proofs.Ythdjdjgilnpmkaa.Dt
set_option linter.unusedVariables false
set_option linter.unusedSimpArgs false

theorem st_iff (x y : S) : x.st = y.st ↔ x.day = y.day ∧ x.ss = y.ss ∧ x.ds = y.ds ∧ x.zs = y.zs ∧ x.over = y.over :=
  ⟨fun h => ⟨congrArg St.day h, congrArg St.ss h, congrArg St.ds h, congrArg St.zs h, congrArg St.over h⟩, fun ⟨h1, h2, h3, h4, h5⟩ => by unfold S.st; rw [h1, h2, h3, h4, h5]⟩

set_option maxRecDepth 100000 in
set_option maxHeartbeats 8000000 in
theorem same9 (x y : S) (w : World) (hx : LiS w w.heap.size x) (hy : LiS w w.heap.size y) (t : Bool) (ht : t = true ↔ x.st = y.st) :
    Calls Try.prog 12 #[x.val, y.val] w fun e w' => e = .returned (.bool t) ∧ Below w.heap.size w w' := by
  show Calls Try.prog 12 #[.agg #[.int .i64 x.day, .slice x.A1 x.n1 x.c1, .slice x.A2 x.n2 x.c2, .slice x.A3 x.n3 x.c3, .bool x.over], .agg #[.int .i64 y.day, .slice y.A1 y.n1 y.c1, .slice y.A2 y.n2 y.c2, .slice y.A3 y.n3 y.c3, .bool y.over]] w _
  obtain ⟨X, hX⟩ : ∃ X, X = (w.alloc (.cells #[.int .i64 x.day, .slice x.A1 x.n1 x.c1, .slice x.A2 x.n2 x.c2, .slice x.A3 x.n3 x.c3, .bool x.over] 31)).alloc (.cells #[.int .i64 y.day, .slice y.A1 y.n1 y.c1, .slice y.A2 y.n2 y.c2, .slice y.A3 y.n3 y.c3, .bool y.over] 31) := ⟨_, rfl⟩
  have HW := Lib.hid (two_new w x y 31 31)
  rw [← hX] at HW
  have HLx := Lib.hid (hx.on HW.out.bel)
  have HLy := Lib.hid (hy.on HW.out.bel)
  have HT := Lib.hid ht
  have HI := Lib.hid (st_iff x y)
  have m1 : x.n1 ≤ 9223372036854775807 := Nat.le_trans hx.f.nc hx.f.cm
  have m2 : x.n2 ≤ 9223372036854775807 := hx.d.n1
  have HLEN := Lib.hid (And.intro hx.f.len (And.intro hy.f.len (And.intro hx.d.len hy.d.len)))
  have HBX : Hid (Below w.heap.size w X) := Lib.hid HW.out.bel
  have HNO : Hid (¬ x.st = y.st → t = false) := Lib.hid fun h => bool_not HT.out h
  have HC : Hid (∀ v, Below X.heap.size X v → (v.cell? ⟨w.heap.size, 0, none⟩ = some (.int .i64 x.day) ∧ v.cell? ⟨w.heap.size, 1, none⟩ = some (.slice x.A1 x.n1 x.c1) ∧ v.cell? ⟨w.heap.size, 2, none⟩ = some (.slice x.A2 x.n2 x.c2) ∧ v.cell? ⟨w.heap.size, 3, none⟩ = some (.slice x.A3 x.n3 x.c3) ∧ v.cell? ⟨w.heap.size, 4, none⟩ = some (.bool x.over)) ∧ v.cell? ⟨w.heap.size + 1, 0, none⟩ = some (.int .i64 y.day) ∧ v.cell? ⟨w.heap.size + 1, 1, none⟩ = some (.slice y.A1 y.n1 y.c1) ∧ v.cell? ⟨w.heap.size + 1, 2, none⟩ = some (.slice y.A2 y.n2 y.c2) ∧ v.cell? ⟨w.heap.size + 1, 3, none⟩ = some (.slice y.A3 y.n3 y.c3) ∧ v.cell? ⟨w.heap.size + 1, 4, none⟩ = some (.bool y.over)) := Lib.hid fun v hv => ⟨s5 (HW.out.on hv).b1, s5 (HW.out.on hv).b2⟩
  obtain ⟨u, hu⟩ := t_dec x.zs y.zs
  have HSB : Hid (∀ v, Below X.heap.size X v → Calls Try.prog 22 #[.slice x.A3 x.n3 x.c3, .slice y.A3 y.n3 y.c3] v fun e w' => e = .returned (.bool u) ∧ Below v.heap.size v w') := Lib.hid fun v hv => sameI _ _ _ _ _ _ x.zs y.zs v (HLx.out.on hv).b (HLy.out.on hv).b u hu
  have HU := Lib.hid hu
  clear hu
  clear hx hy ht HW
  generalize hd1 : x.day = d1 at hX HC ⊢
  generalize hd2 : y.day = d2 at hX HC ⊢
  generalize ho1 : x.over = o1 at hX HC ⊢
  generalize ho2 : y.over = o2 at hX HC ⊢
  have HD := Lib.hid (And.intro (And.intro hd1 hd2) (And.intro ho1 ho2))
  clear hd1 hd2 ho1 ho2
  by_cases q0 : d1 = d2
  · subst q0
    by_cases ho : o1 = o2
    · subst ho
      have HOD : Hid (x.day = y.day ∧ x.over = y.over) := Lib.hid ⟨by rw [HD.out.1.1, HD.out.1.2], by rw [HD.out.2.1, HD.out.2.2]⟩
      by_cases q1 : x.n1 = y.n1
      · by_cases q2 : x.n2 = y.n2
        · have e1 : (x.n1 : Int) = (y.n1 : Int) := by omega
          have e2 : (x.n2 : Int) = (y.n2 : Int) := by omega
          have Q1 := Lib.hid q1
          have Q2 := Lib.hid q2
          clear q1 q2
          have hcells := HC.out X (Below.refl _ _)
          rw [hX] at hcells
          obtain ⟨⟨x0, x1, x2, x3, x4⟩, y0, y1, y2, y3, y4⟩ := hcells
          have HX := Lib.hid hX
          clear hX
          cases u
          · have hf : Hid (t = false) := Lib.hid (HNO.out fun h => Bool.noConfusion (HU.out.2 (HI.out.1 h).2.2.2.1))
            cases o1
            all_goals
              go_enter Try.func12, Try.ntmps12
              go_wp2_with (go_at_call 22; (try rw [← HX.out]); refine (HSB.out _ (Below.refl _ _)).mono ?_; rintro e w2 ⟨rfl, hb⟩)
              go_ret
              exact ⟨by rw [hf.out]; rfl, HBX.out.trans (hb.mono HBX.out.size)⟩
          · have HZ : Hid (x.zs = y.zs) := Lib.hid (HU.out.1 rfl)
            cases o1
            all_goals
              go_enter Try.func12, Try.ntmps12
              go_wp2_with (go_at_call 22; (try rw [← HX.out]); refine (HSB.out _ (Below.refl _ _)).mono ?_; rintro e w2 ⟨rfl, hb⟩; refine Hid.out ?_)
              refine Lib.hid ?_
              have HB2 := Lib.hid hb
              clear hb x0 x1 x2 x3 x4 y0 y1 y2 y3 y4 e1 e2 HX
              obtain ⟨⟨x0, x1, x2, x3, x4⟩, y0, y1, y2, y3, y4⟩ := HC.out w2 HB2.out
              go_wp2_with fail
              clear x0 x1 x2 x3 x4 y0 y1 y2 y3 y4
              go_loopw [5] (fun i wr => ∃ k : Nat, k ≤ x.n1 ∧ i = .int .i64 k ∧ Hid (Pre x.ss y.ss k) ∧ Hid (Below X.heap.size X wr)) (fun i _ => x.n1 - (intOf i).toNat)
              case atStart => exact ⟨0, Nat.zero_le _, rfl, Lib.hid fun _ _ _ h => by omega, HB2⟩
              case round =>
                obtain ⟨k, hk, rfl, HK, HB⟩ := hrel
                obtain ⟨⟨x0, x1, x2, x3, x4⟩, y0, y1, y2, y3, y4⟩ := HC.out wr HB.out
                by_cases hlt : k < x.n1
                · have hlt2 : k < y.n1 := by have := Q1.out; omega
                  obtain ⟨b, oo, hk1, hA1, hc1⟩ := getN HLx.out.f hlt
                  obtain ⟨b', oo', hk2, hA2, hc2⟩ := getN HLy.out.f hlt2
                  rw [hA1] at x1
                  rw [hA2] at y1
                  have d1 := hc1 _ HB.out
                  have d2 := hc2 _ HB.out
                  obtain ⟨p, hp⟩ : ∃ p, p = x.ss[k] := ⟨_, rfl⟩
                  obtain ⟨q, hq⟩ : ∃ q, q = y.ss[k] := ⟨_, rfl⟩
                  rw [← hp] at d1
                  rw [← hq] at d2
                  have i0 : (0 : Int) ≤ (k : Int) := by omega
                  have i1 : (k : Int) < (x.n1 : Int) := by omega
                  have i2 : (k : Int) < (y.n1 : Int) := by omega
                  have HPQ := Lib.hid (And.intro hp hq)
                  by_cases hpq : p = q
                  · have HK2 : Hid (Pre x.ss y.ss (k + 1)) := Lib.hid (HK.out.snoc hk1 hk2 (by rw [← HPQ.out.1, ← HPQ.out.2]; exact hpq))
                    have hb : (p.toList == q.toList) = true := by rw [hpq]; exact beq_self_eq_true _
                    clear HPQ hp hq hc1 hc2 hk1 hk2 HT hpq hA1 hA2
                    go_wp2_with fail
                    go_quiet (fail)
                    go_wp2_with fail
                    go_roundw
                    case rel => exact ⟨k + 1, by omega, by go_num, HK2, Lib.hid (below_drewN HB.out _)⟩
                    case measure => simp [intOf]; omega
                  · have hf : Hid (t = false) := Lib.hid (HNO.out fun h => ne_at hk1 hk2 (by rw [← HPQ.out.1, ← HPQ.out.2]; exact hpq) (HI.out.1 h).2.1)
                    have hb : (p.toList == q.toList) = false := by rw [beq_eq_false_iff_ne]; exact fun e => hpq (bytes_eqS e)
                    clear HPQ hp hq hc1 hc2 hk1 hk2 HT HK hpq hA1 hA2
                    go_wp2_with fail
                    go_quiet (fail)
                    go_wp2_with fail
                    go_ret
                    exact ⟨by rw [hf.out]; rfl, HBX.out.trans ((below_drewN HB.out _).mono HBX.out.size)⟩
                · have HSS : Hid (x.ss = y.ss) := Lib.hid (HK.out.all (by have := HLEN.out; have := Q1.out; omega) (by have := HLEN.out; omega))
                  have i1 : ¬ (k : Int) < (x.n1 : Int) := by omega
                  go_wp2_with fail
                  clear x0 x1 x2 x3 x4 y0 y1 y2 y3 y4 HK i1 hlt hk
                  go_loopw [6] (fun i wr => ∃ k : Nat, k ≤ x.n2 ∧ i = .int .i64 k ∧ Hid (Pre x.ds y.ds k) ∧ Hid (Below X.heap.size X wr)) (fun i _ => x.n2 - (intOf i).toNat)
                  case atStart => exact ⟨0, Nat.zero_le _, rfl, Lib.hid fun _ _ _ h => by omega, HB⟩
                  case round =>
                    clear HB
                    obtain ⟨k, hk, rfl, HK, HB⟩ := hrel
                    obtain ⟨⟨x0, x1, x2, x3, x4⟩, y0, y1, y2, y3, y4⟩ := HC.out wr HB.out
                    by_cases hlt : k < x.n2
                    · have hlt2 : k < y.n2 := by have := Q2.out; omega
                      obtain ⟨b, oo, hk1, hA1, hB1, hc1⟩ := HLx.out.d.get hlt
                      obtain ⟨b', oo', hk2, hA2, hB2', hc2⟩ := HLy.out.d.get hlt2
                      rw [hA1] at x2
                      rw [hA2] at y2
                      have d1 := hc1 _ HB.out
                      have d2 := hc2 _ HB.out
                      obtain ⟨p, hp⟩ : ∃ p, p = x.ds[k] := ⟨_, rfl⟩
                      obtain ⟨q, hq⟩ : ∃ q, q = y.ds[k] := ⟨_, rfl⟩
                      rw [← hp] at d1
                      rw [← hq] at d2
                      have i0 : (0 : Int) ≤ (k : Int) := by omega
                      have i1 : (k : Int) < (x.n2 : Int) := by omega
                      have i2 : (k : Int) < (y.n2 : Int) := by omega
                      have HPQ := Lib.hid (And.intro hp hq)
                      obtain ⟨a0, a1, a2, a3⟩ := d4 d1
                      obtain ⟨g0, g1, g2, g3⟩ := d4 d2
                      clear d1 d2
                      by_cases hpq : p = q
                      · have HK2 : Hid (Pre x.ds y.ds (k + 1)) := Lib.hid (HK.out.snoc hk1 hk2 (by rw [← HPQ.out.1, ← HPQ.out.2]; exact hpq))
                        have f1 : p.cl = q.cl := by rw [hpq]
                        have f2 : p.since = q.since := by rw [hpq]
                        have f3 : p.due = q.due := by rw [hpq]
                        have f4 : p.st = q.st := by rw [hpq]
                        clear HPQ hp hq hc1 hc2 hk1 hk2 HT hpq hA1 hA2
                        go_wp2_with fail
                        go_quiet (fail)
                        go_wp2_with fail
                        go_roundw
                        case rel => exact ⟨k + 1, by omega, by go_num, HK2, Lib.hid (below_drewN HB.out _)⟩
                        case measure => simp [intOf]; omega
                      · have hf : Hid (t = false) := Lib.hid (HNO.out fun h => ne_at hk1 hk2 (by rw [← HPQ.out.1, ← HPQ.out.2]; exact hpq) (HI.out.1 h).2.2.1)
                        obtain ⟨p1, p2, p3, p4⟩ := p
                        obtain ⟨r1, r2, r3, r4⟩ := q
                        simp only at a0 a1 a2 a3 g0 g1 g2 g3
                        have hne : ¬ (p1 = r1 ∧ p2 = r2 ∧ p3 = r3 ∧ p4 = r4) := fun h => hpq (by rw [h.1, h.2.1, h.2.2.1, h.2.2.2])
                        clear HPQ hp hq hc1 hc2 hk1 hk2 HT HK hpq hA1 hA2
                        by_cases f1 : p1 = r1
                        · by_cases f2 : p2 = r2
                          · by_cases f3 : p3 = r3
                            · have f4 : ¬ p4 = r4 := fun e => hne ⟨f1, f2, f3, e⟩
                              clear hne
                              go_wp2_with fail
                              go_quiet (fail)
                              go_wp2_with fail
                              go_ret
                              exact ⟨by rw [hf.out]; rfl, HBX.out.trans ((below_drewN HB.out _).mono HBX.out.size)⟩
                            · clear hne
                              go_wp2_with fail
                              go_quiet (fail)
                              go_wp2_with fail
                              go_ret
                              exact ⟨by rw [hf.out]; rfl, HBX.out.trans ((below_drewN HB.out _).mono HBX.out.size)⟩
                          · clear hne
                            go_wp2_with fail
                            go_quiet (fail)
                            go_wp2_with fail
                            go_ret
                            exact ⟨by rw [hf.out]; rfl, HBX.out.trans ((below_drewN HB.out _).mono HBX.out.size)⟩
                        · clear hne
                          go_wp2_with fail
                          go_quiet (fail)
                          go_wp2_with fail
                          go_ret
                          exact ⟨by rw [hf.out]; rfl, HBX.out.trans ((below_drewN HB.out _).mono HBX.out.size)⟩
                    · have hf : Hid (t = true) := Lib.hid (HT.out.2 (HI.out.2 ⟨HOD.out.1, HSS.out, HK.out.all (by have := HLEN.out; have := Q2.out; omega) (by have := HLEN.out; omega), HZ.out, HOD.out.2⟩))
                      have i1 : ¬ (k : Int) < (x.n2 : Int) := by omega
                      go_wp2_with fail
                      go_ret
                      exact ⟨by rw [hf.out]; rfl, HBX.out.trans (HB.out.mono HBX.out.size)⟩
        · have e1 : (x.n1 : Int) = (y.n1 : Int) := by omega
          have e2 : ¬ (x.n2 : Int) = (y.n2 : Int) := by omega
          have hf : Hid (t = false) := Lib.hid (HNO.out fun h => q2 (by have h3 := (HI.out.1 h).2.2.1; rw [HLEN.out.2.2.1, HLEN.out.2.2.2, h3]))
          clear q1 q2
          have hcells := HC.out X (Below.refl _ _)
          rw [hX] at hcells
          obtain ⟨⟨x0, x1, x2, x3, x4⟩, y0, y1, y2, y3, y4⟩ := hcells
          have HX := Lib.hid hX
          cases o1
          all_goals
            go_enter Try.func12, Try.ntmps12
            go_wp2_with fail
            go_ret
            exact ⟨by rw [hf.out]; rfl, (below1 _ _).alloc (by simp) _⟩
      · have e1 : ¬ (x.n1 : Int) = (y.n1 : Int) := by omega
        have hf : Hid (t = false) := Lib.hid (HNO.out fun h => q1 (by have h3 := (HI.out.1 h).2.1; rw [HLEN.out.1, HLEN.out.2.1, h3]))
        clear q1
        have hcells := HC.out X (Below.refl _ _)
        rw [hX] at hcells
        obtain ⟨⟨x0, x1, x2, x3, x4⟩, y0, y1, y2, y3, y4⟩ := hcells
        have HX := Lib.hid hX
        cases o1
        all_goals
          go_enter Try.func12, Try.ntmps12
          go_wp2_with fail
          go_ret
          exact ⟨by rw [hf.out]; rfl, (below1 _ _).alloc (by simp) _⟩
    · have hf : Hid (t = false) := Lib.hid (HNO.out fun h => ho (by rw [← HD.out.2.1, ← HD.out.2.2]; exact (HI.out.1 h).2.2.2.2))
      have hcells := HC.out X (Below.refl _ _)
      rw [hX] at hcells
      obtain ⟨⟨x0, x1, x2, x3, x4⟩, y0, y1, y2, y3, y4⟩ := hcells
      have HX := Lib.hid hX
      cases o1 <;> cases o2 <;> first | (exact absurd rfl ho) | skip
      all_goals
        clear ho
        go_enter Try.func12, Try.ntmps12
        go_wp2_with fail
        go_ret
        exact ⟨by rw [hf.out]; rfl, (below1 _ _).alloc (by simp) _⟩
  · have hf : Hid (t = false) := Lib.hid (HNO.out fun h => q0 (by rw [← HD.out.1.1, ← HD.out.1.2]; exact (HI.out.1 h).1))
    have hcells := HC.out X (Below.refl _ _)
    rw [hX] at hcells
    obtain ⟨⟨x0, x1, x2, x3, x4⟩, y0, y1, y2, y3, y4⟩ := hcells
    have HX := Lib.hid hX
    go_enter Try.func12, Try.ntmps12
    go_wp2_with fail
    go_ret
    exact ⟨by rw [hf.out]; rfl, (below1 _ _).alloc (by simp) _⟩

theorem specES (x y : S) (w : World) (hx : LiS w w.heap.size x) (hy : LiS w w.heap.size y) (t : Bool) (ht : t = true ↔ x.st = y.st) :
    Calls Try.prog 5 #[x.val, y.val] w fun e w' => e = .returned (.bool t) ∧ Below w.heap.size w w' := by
  obtain ⟨X, hX⟩ : ∃ X, X = (w.alloc (.cells #[.int .i64 x.day, .slice x.A1 x.n1 x.c1, .slice x.A2 x.n2 x.c2, .slice x.A3 x.n3 x.c3, .bool x.over] 31)).alloc (.cells #[.int .i64 y.day, .slice y.A1 y.n1 y.c1, .slice y.A2 y.n2 y.c2, .slice y.A3 y.n3 y.c3, .bool y.over] 31) := ⟨_, rfl⟩
  have HX := Lib.hid hX
  have b0 : Below w.heap.size w X := by rw [hX]; exact (below1 _ _).alloc (by simp) _
  have B0 := Lib.hid b0
  have H9 := Lib.hid (same9 x y w hx hy t ht)
  have H9X := Lib.hid (same9 x y X (hx.on b0) (hy.on b0) t ht)
  clear hx hy ht hX b0
  go_enter Try.func5, Try.ntmps5
  go_wp2_with (go_at_call 12; first | (refine H9.out.mono ?_; rintro e w2 ⟨rfl, hb⟩) | (rw [← HX.out]; refine H9X.out.mono ?_; rintro e w2 ⟨rfl, hb⟩))
  go_ret
  exact ⟨rfl, by first | exact hb | exact B0.out.trans (hb.mono B0.out.size)⟩

set_option maxRecDepth 100000 in
set_option maxHeartbeats 8000000 in
theorem implES (x y : S) (w : World) (hx : LiS w w.heap.size x) (hy : LiS w w.heap.size y) (t : Bool) (ht : t = true ↔ x.st = y.st) :
    Calls Try.prog 7 #[x.val, y.val] w fun e w' => e = .returned (.bool t) ∧ Below w.heap.size w w' := by
  show Calls Try.prog 7 #[.agg #[.int .i64 x.day, .slice x.A1 x.n1 x.c1, .slice x.A2 x.n2 x.c2, .slice x.A3 x.n3 x.c3, .bool x.over], .agg #[.int .i64 y.day, .slice y.A1 y.n1 y.c1, .slice y.A2 y.n2 y.c2, .slice y.A3 y.n3 y.c3, .bool y.over]] w _
  obtain ⟨X, hX⟩ : ∃ X, X = (w.alloc (.cells #[.int .i64 x.day, .slice x.A1 x.n1 x.c1, .slice x.A2 x.n2 x.c2, .slice x.A3 x.n3 x.c3, .bool x.over] 31)).alloc (.cells #[.int .i64 y.day, .slice y.A1 y.n1 y.c1, .slice y.A2 y.n2 y.c2, .slice y.A3 y.n3 y.c3, .bool y.over] 31) := ⟨_, rfl⟩
  have HW := Lib.hid (two_new w x y 31 31)
  rw [← hX] at HW
  have HLx := Lib.hid (hx.on HW.out.bel)
  have HLy := Lib.hid (hy.on HW.out.bel)
  have HT := Lib.hid ht
  have HI := Lib.hid (st_iff x y)
  have m1 : x.n1 ≤ 9223372036854775807 := Nat.le_trans hx.f.nc hx.f.cm
  have m2 : x.n2 ≤ 9223372036854775807 := hx.d.n1
  have HLEN := Lib.hid (And.intro hx.f.len (And.intro hy.f.len (And.intro hx.d.len hy.d.len)))
  have HBX : Hid (Below w.heap.size w X) := Lib.hid HW.out.bel
  have HNO : Hid (¬ x.st = y.st → t = false) := Lib.hid fun h => bool_not HT.out h
  have HC : Hid (∀ v, Below X.heap.size X v → (v.cell? ⟨w.heap.size, 0, none⟩ = some (.int .i64 x.day) ∧ v.cell? ⟨w.heap.size, 1, none⟩ = some (.slice x.A1 x.n1 x.c1) ∧ v.cell? ⟨w.heap.size, 2, none⟩ = some (.slice x.A2 x.n2 x.c2) ∧ v.cell? ⟨w.heap.size, 3, none⟩ = some (.slice x.A3 x.n3 x.c3) ∧ v.cell? ⟨w.heap.size, 4, none⟩ = some (.bool x.over)) ∧ v.cell? ⟨w.heap.size + 1, 0, none⟩ = some (.int .i64 y.day) ∧ v.cell? ⟨w.heap.size + 1, 1, none⟩ = some (.slice y.A1 y.n1 y.c1) ∧ v.cell? ⟨w.heap.size + 1, 2, none⟩ = some (.slice y.A2 y.n2 y.c2) ∧ v.cell? ⟨w.heap.size + 1, 3, none⟩ = some (.slice y.A3 y.n3 y.c3) ∧ v.cell? ⟨w.heap.size + 1, 4, none⟩ = some (.bool y.over)) := Lib.hid fun v hv => ⟨s5 (HW.out.on hv).b1, s5 (HW.out.on hv).b2⟩
  obtain ⟨u1, hu1⟩ := t_dec x.ss y.ss
  obtain ⟨u2, hu2⟩ := t_dec x.ds y.ds
  obtain ⟨u3, hu3⟩ := t_dec x.zs y.zs
  have HS1 : Hid (∀ v, Below X.heap.size X v → Calls Try.prog 16 #[.slice x.A1 x.n1 x.c1, .slice y.A1 y.n1 y.c1] v fun e w' => e = .returned (.bool u1) ∧ Below v.heap.size v w') := Lib.hid fun v hv => eqStr _ _ _ _ _ _ x.ss y.ss v (HLx.out.on hv).f (HLy.out.on hv).f u1 hu1
  have HS2 : Hid (∀ v, Below X.heap.size X v → Calls Try.prog 17 #[.slice x.A2 x.n2 x.c2, .slice y.A2 y.n2 y.c2] v fun e w' => e = .returned (.bool u2) ∧ Below v.heap.size v w') := Lib.hid fun v hv => eqDut _ _ _ _ _ _ x.ds y.ds v (HLx.out.on hv).d (HLy.out.on hv).d u2 hu2
  have HS3 : Hid (∀ v, Below X.heap.size X v → Calls Try.prog 18 #[.slice x.A3 x.n3 x.c3, .slice y.A3 y.n3 y.c3] v fun e w' => e = .returned (.bool u3) ∧ Below v.heap.size v w') := Lib.hid fun v hv => eqInt _ _ _ _ _ _ x.zs y.zs v (HLx.out.on hv).b (HLy.out.on hv).b u3 hu3
  have HU := Lib.hid (And.intro hu1 (And.intro hu2 hu3))
  clear hu1 hu2 hu3
  clear hx hy ht HW
  generalize hd1 : x.day = d1 at hX HC ⊢
  generalize hd2 : y.day = d2 at hX HC ⊢
  generalize ho1 : x.over = o1 at hX HC ⊢
  generalize ho2 : y.over = o2 at hX HC ⊢
  have HD := Lib.hid (And.intro (And.intro hd1 hd2) (And.intro ho1 ho2))
  clear hd1 hd2 ho1 ho2
  by_cases q0 : d1 = d2
  · subst q0
    by_cases ho : o1 = o2
    · subst ho
      have HOD : Hid (x.day = y.day ∧ x.over = y.over) := Lib.hid ⟨by rw [HD.out.1.1, HD.out.1.2], by rw [HD.out.2.1, HD.out.2.2]⟩
      have hcells := HC.out X (Below.refl _ _)
      rw [hX] at hcells
      obtain ⟨⟨x0, x1, x2, x3, x4⟩, y0, y1, y2, y3, y4⟩ := hcells
      have HX := Lib.hid hX
      clear hX
      cases u1
      · have hf : Hid (t = false) := Lib.hid (HNO.out fun h => Bool.noConfusion (HU.out.1.2 (HI.out.1 h).2.1))
        cases o1
        all_goals
          go_enter Try.func7, Try.ntmps7
          go_wp2_with (go_at_call 16; (try rw [← HX.out]); refine (HS1.out _ (Below.refl _ _)).mono ?_; rintro e w2 ⟨rfl, hb⟩)
          go_ret
          exact ⟨by rw [hf.out]; rfl, HBX.out.trans (hb.mono HBX.out.size)⟩
      · have E1 : Hid (x.ss = y.ss) := Lib.hid (HU.out.1.1 rfl)
        cases o1
        all_goals
          go_enter Try.func7, Try.ntmps7
          go_wp2_with (go_at_call 16; (try rw [← HX.out]); refine (HS1.out _ (Below.refl _ _)).mono ?_; rintro e w2 ⟨rfl, hb⟩; refine Hid.out ?_)
          refine Lib.hid ?_
          have HB := Lib.hid hb
          clear hb x0 x1 x2 x3 x4 y0 y1 y2 y3 y4 HX
          obtain ⟨⟨x0, x1, x2, x3, x4⟩, y0, y1, y2, y3, y4⟩ := HC.out w2 HB.out
          cases u2
          · have hf : Hid (t = false) := Lib.hid (HNO.out fun h => Bool.noConfusion (HU.out.2.1.2 (HI.out.1 h).2.2.1))
            go_wp2_with (go_at_call 17; refine (HS2.out _ HB.out).mono ?_; rintro e w3 ⟨rfl, hb⟩)
            go_ret
            exact ⟨by rw [hf.out]; rfl, HBX.out.trans ((HB.out.trans (hb.mono HB.out.size)).mono HBX.out.size)⟩
          · have E2 : Hid (x.ds = y.ds) := Lib.hid (HU.out.2.1.1 rfl)
            go_wp2_with (go_at_call 17; refine (HS2.out _ HB.out).mono ?_; rintro e w3 ⟨rfl, hb⟩; refine Hid.out ?_)
            refine Lib.hid ?_
            have HB3 := Lib.hid (HB.out.trans (hb.mono HB.out.size))
            clear hb x0 x1 x2 x3 x4 y0 y1 y2 y3 y4
            obtain ⟨⟨x0, x1, x2, x3, x4⟩, y0, y1, y2, y3, y4⟩ := HC.out w3 HB3.out
            have HF : Hid (t = u3) := Lib.hid (by
              rw [Bool.eq_iff_iff, HT.out, HU.out.2.2, HI.out]
              exact ⟨fun h => h.2.2.2.1, fun h => ⟨HOD.out.1, E1.out, E2.out, h, HOD.out.2⟩⟩)
            go_wp2_with (go_at_call 18; refine (HS3.out _ HB3.out).mono ?_; rintro e w4 ⟨rfl, hb⟩)
            go_ret
            exact ⟨by rw [HF.out]; rfl, HBX.out.trans ((HB3.out.trans (hb.mono HB3.out.size)).mono HBX.out.size)⟩
    · have hf : Hid (t = false) := Lib.hid (HNO.out fun h => ho (by rw [← HD.out.2.1, ← HD.out.2.2]; exact (HI.out.1 h).2.2.2.2))
      have hcells := HC.out X (Below.refl _ _)
      rw [hX] at hcells
      obtain ⟨⟨x0, x1, x2, x3, x4⟩, y0, y1, y2, y3, y4⟩ := hcells
      have HX := Lib.hid hX
      cases o1 <;> cases o2 <;> first | (exact absurd rfl ho) | skip
      all_goals
        clear ho
        go_enter Try.func7, Try.ntmps7
        go_wp2_with fail
        go_ret
        exact ⟨by rw [hf.out]; rfl, (below1 _ _).alloc (by simp) _⟩
  · have hf : Hid (t = false) := Lib.hid (HNO.out fun h => q0 (by rw [← HD.out.1.1, ← HD.out.1.2]; exact (HI.out.1 h).1))
    have hcells := HC.out X (Below.refl _ _)
    rw [hX] at hcells
    obtain ⟨⟨x0, x1, x2, x3, x4⟩, y0, y1, y2, y3, y4⟩ := hcells
    have HX := Lib.hid hX
    go_enter Try.func7, Try.ntmps7
    go_wp2_with fail
    go_ret
    exact ⟨by rw [hf.out]; rfl, (below1 _ _).alloc (by simp) _⟩

end Go.Proofs.Ythdjdjgilnpmkaa.Sta
