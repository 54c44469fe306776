/-
  JoinCalendars, as the model answers it.
-/
import Derived.Test.YtglpkanegehcbaaJoinB
import Derived.Deep.RegionHeld3
namespace Go.Proofs.Ytglpkanegehcbaa.JoinS
open Go.RowKit Go.Proofs.Ytglpkanegehcbaa.IRow Go.Proofs.Ytglpkanegehcbaa.Cal Go.Proofs.Ytglpkanegehcbaa.Biz Go.Proofs.Ytglpkanegehcbaa.Asc Go.Proofs.Ytglpkanegehcbaa.CalLaw Go.Proofs.Ytglpkanegehcbaa.UniMath Go.Proofs.Ytglpkanegehcbaa.UniS Go.Proofs.Ytglpkanegehcbaa.UniC Go.Proofs.Ytglpkanegehcbaa.UniU Go.Proofs.Ytglpkanegehcbaa.UniI Go.Proofs.Ytglpkanegehcbaa.JoinB
set_option linter.unusedVariables false
set_option linter.unusedSimpArgs false

theorem uniS {A1 A2 : Option Addr} {n1 c1 n2 c2 : Nat} {a b : List Int} {w : World} (h1 : n1 = a.length) (h2 : n2 = b.length) (hm1 : n1 ≤ 1000) (hm2 : n2 ≤ 1000) (hA1 : Is w w.heap.size A1 a) (hA2 : Is w w.heap.size A2 b) (hc1 : A1 = none → c1 = 0) :
    Calls Try.prog 41 #[.slice A1 n1 c1, .slice A2 n2 c2] w (OwnAns (uni a b) w) :=
  (l4Union A1 A2 n1 c1 n2 c2 a b w h1 h2 hm1 hm2 hA1 hA2 hc1).mono fun e w' ⟨g, n, c, h1, h2, h3, h4⟩ => ⟨_, n, c, h1, h2, h3, h4⟩
theorem goodB {A1 A2 : Option Addr} {n1 c1 n2 c2 : Nat} {we ho : List Int} {w : World} (h : Cl w w.heap.size A1 n1 A2 n2 we ho) (hg : GoodC we ho) :
    Calls Try.prog 33 #[.agg #[.slice A1 n1 c1, .slice A2 n2 c2]] w fun e w' => e = .returned (.bool true) ∧ Below w.heap.size w w' :=
  (goodYes A1 A2 n1 c1 n2 c2 we ho w w.heap.size h (Nat.le_refl _) hg).mono fun e w' ⟨h1, m, h2⟩ => ⟨h1, by subst h2; exact bel_drew _ _ _⟩
theorem badB {A1 A2 : Option Addr} {n1 c1 n2 c2 : Nat} {we ho : List Int} {w : World} (h : Cl w w.heap.size A1 n1 A2 n2 we ho) (hg : ¬ GoodC we ho) :
    Calls Try.prog 33 #[.agg #[.slice A1 n1 c1, .slice A2 n2 c2]] w fun e w' => e = .returned (.bool false) ∧ Below w.heap.size w w' :=
  (goodNo A1 A2 n1 c1 n2 c2 we ho w w.heap.size h (Nat.le_refl _) hg).mono fun e w' ⟨h1, m, h2⟩ => ⟨h1, by subst h2; exact bel_drew _ _ _⟩

set_option maxRecDepth 100000 in
set_option maxHeartbeats 8000000 in
theorem joinYes (A1 A2 B1 B2 : Option Addr) (n1 c1 n2 c2 m1 e1 m2 e2 : Nat) (we ho we' ho' : List Int) (w : World) (h : Cl w w.heap.size A1 n1 A2 n2 we ho) (h' : Cl w w.heap.size B1 m1 B2 m2 we' ho')
    (hc1 : A1 = none → c1 = 0) (hc2 : A2 = none → c2 = 0) (hd1 : B1 = none → e1 = 0) (hd2 : B2 = none → e2 = 0) (hg : GoodC we ho) (hg' : GoodC we' ho') (hj : GoodC (uni we we') (uni ho ho')) :
    Calls Try.prog 16 #[.agg #[.slice A1 n1 c1, .slice A2 n2 c2], .agg #[.slice B1 m1 e1, .slice B2 m2 e2]] w (JAns (uni we we') (uni ho ho') true w) := by
  have HH := Lib.hid h
  have HH' := Lib.hid h'
  have HG := Lib.hid hg
  have HG' := Lib.hid hg'
  have HJ := Lib.hid hj
  have HC := Lib.hid (And.intro hc1 (And.intro hc2 (And.intro hd1 hd2)))
  clear h h' hg hg' hj hc1 hc2 hd1 hd2
  have X0 := Lib.hid (B3.new w (.slice A1 n1 c1) (.slice A2 n2 c2) (.slice B1 m1 e1) (.slice B2 m2 e2) (.slice none 0 0) (.slice none 0 0) 26)
  go_enter Try.func16, Try.ntmps16
  go_wp2_with (go_at_call 33; refine (goodB (HH.out.on X0.out.bel) HG.out).mono ?_; rintro e w1 ⟨rfl, hb1⟩; refine Hid.out ?_)
  refine Lib.hid ?_
  have X1 := Lib.hid (X0.out.on hb1)
  clear hb1 X0
  obtain ⟨_, a0, a1, _, _⟩ := X1.out.a
  obtain ⟨_, b0, b1, _, _⟩ := X1.out.b
  go_wp2_with (go_at_call 33; refine (goodB (HH'.out.on X1.out.bel) HG'.out).mono ?_; rintro e w2 ⟨rfl, hb2⟩; refine Hid.out ?_)
  refine Lib.hid ?_
  have X2 := Lib.hid (X1.out.on hb2)
  clear hb2 X1 a0 a1 b0 b1
  obtain ⟨_, a0, a1, _, _⟩ := X2.out.a
  obtain ⟨_, b0, b1, _, _⟩ := X2.out.b
  have l2 := X2.out.a.lt
  have l3 := X2.out.b.lt
  have HU1 : Hid (∀ u, Below w.heap.size w u → Calls Try.prog 41 #[.slice A1 n1 c1, .slice B1 m1 e1] u (OwnAns (uni we we') u)) := Lib.hid fun u hu =>
    uniS HH.out.l1 HH'.out.l1 (by have := HG.out.1.1; have := HH.out.l1; omega) (by have := HG'.out.1.1; have := HH'.out.l1; omega) (HH.out.on hu).r1.is (HH'.out.on hu).r1.is HC.out.1
  have HU2 : Hid (∀ u, Below w.heap.size w u → Calls Try.prog 41 #[.slice A2 n2 c2, .slice B2 m2 e2] u (OwnAns (uni ho ho') u)) := Lib.hid fun u hu =>
    uniS HH.out.l2 HH'.out.l2 (by have := HG.out.2.1; have := HH.out.l2; omega) (by have := HG'.out.2.1; have := HH'.out.l2; omega) (HH.out.on hu).r2.is (HH'.out.on hu).r2.is HC.out.2.1
  go_wp2_with fail
  have KX : Hid (∀ v, B3 w v (.slice A1 n1 c1) (.slice A2 n2 c2) (.slice B1 m1 e1) (.slice B2 m2 e2) nl nl → v.cell? ⟨w.heap.size, 0, none⟩ = some (.slice A1 n1 c1) ∧ v.cell? ⟨w.heap.size, 1, none⟩ = some (.slice A2 n2 c2) ∧ v.cell? ⟨w.heap.size + 1, 0, none⟩ = some (.slice B1 m1 e1) ∧ v.cell? ⟨w.heap.size + 1, 1, none⟩ = some (.slice B2 m2 e2)) := Lib.hid fun v h => ⟨h.a.c0, h.a.c1, h.b.c0, h.b.c1⟩
  go_region_held3 (fun v => v.cell? ⟨w.heap.size, 0, none⟩ = some (.slice A1 n1 c1) ∧ v.cell? ⟨w.heap.size, 1, none⟩ = some (.slice A2 n2 c2) ∧ v.cell? ⟨w.heap.size + 1, 0, none⟩ = some (.slice B1 m1 e1) ∧ v.cell? ⟨w.heap.size + 1, 1, none⟩ = some (.slice B2 m2 e2)) (first
      | (apply KX.out; (repeat (first | with_reducible exact X4.out | with_reducible exact X3.out | with_reducible exact X2.out | with_reducible apply B3.drew | with_reducible apply B3.alloc)); done)
      | with_reducible exact KX.out _ (B3.put (B3.put X4.out X2.out.r.lt _ _) X2.out.r.lt _ _)
      | with_reducible exact KX.out _ (B3.put (B3.put X4.out X3.out.r.lt _ _) X3.out.r.lt _ _)
      | with_reducible exact KX.out _ (B3.put (B3.put (B3.alloc X4.out _) X4.out.r.lt _ _) X4.out.r.lt _ _))
    (first
    | (go_at_call 41; with_reducible refine (HU1.out _ (B3.bel (by first | with_reducible exact X2.out | with_reducible exact X2.out.drew | with_reducible exact B3.alloc X2.out _ | with_reducible exact B3.drew (B3.alloc X2.out _) | with_reducible exact B3.alloc (B3.drew X2.out) _))).mono ?_
       rintro e w3 ⟨D1, k1, d1, hk1, rfl, ho1, hb1⟩
       have HK1 := Lib.hid hk1
       have X3 := Lib.hid (B3.on (by first | with_reducible exact X2.out | with_reducible exact X2.out.drew | with_reducible exact B3.alloc X2.out _ | with_reducible exact B3.drew (B3.alloc X2.out _) | with_reducible exact B3.alloc (B3.drew X2.out) _) hb1)
       (first
         | have Y3 : Hid (S1 w2 w3 (.slice D1 k1 d1) (uni we we') (some w2.heap.size)) := Lib.hid (S1.box (by first | with_reducible exact Bx.drew' (Bx.new w2 _ _ _) | with_reducible exact Bx.new w2 _ _ _) (Nat.le_refl _) hb1 ho1)
         | have Y3 : Hid (S1 w2 w3 (.slice D1 k1 d1) (uni we we') none) := Lib.hid (S1.plain (by first | (simp; done) | omega) hb1 ho1))
       clear hk1 ho1 hb1
       obtain ⟨_, x0, x1, _, _⟩ := X3.out.a
       obtain ⟨_, y0, y1, _, _⟩ := X3.out.b
       have l4 := X3.out.a.lt
       have l5 := X3.out.b.lt)
    | (go_at_call 41; with_reducible refine (HU2.out _ (B3.bel (by first | with_reducible exact X3.out | with_reducible exact X3.out.drew | with_reducible exact B3.alloc X3.out _ | with_reducible exact B3.drew (B3.alloc X3.out _) | with_reducible exact B3.alloc (B3.drew X3.out) _))).mono ?_
       rintro e w4 ⟨D2, k2, d2, hk2, rfl, ho2, hb2⟩
       have HK2 := Lib.hid hk2
       have X4 := Lib.hid (B3.on (by first | with_reducible exact X3.out | with_reducible exact X3.out.drew | with_reducible exact B3.alloc X3.out _ | with_reducible exact B3.drew (B3.alloc X3.out _) | with_reducible exact B3.alloc (B3.drew X3.out) _) hb2)
       (first
         | have Y4 : Hid (S2 w2 w4 (.slice D1 k1 d1) (.slice D2 k2 d2) (uni we we') (uni ho ho') (some w3.heap.size)) := Lib.hid (S2.box Y3.out (by first | with_reducible exact below1 _ _ | with_reducible exact (below1 _ _).drew) (by first | with_reducible exact Bx.drew' (Bx.new w3 _ _ _) | with_reducible exact Bx.new w3 _ _ _) (Nat.le_refl _) hb2 ho2)
         | have Y4 := Lib.hid (S2.of (w2 := w2) Y3.out (by first | with_reducible exact Below.refl _ _ | with_reducible exact (Below.refl _ _).drew) hb2 ho2))
       clear hk2 ho2 hb2
       (try (obtain ⟨_, j0, j1, f0, f1⟩ := (Y4.out.bx _ rfl).2.1))))
  all_goals
    (first
      | have FN := Lib.hid (Fn.of X2.out X4.out Y4.out)
      | have FN := Lib.hid (Fn.new X2.out X4.out Y4.out 26))
    have HL1 : Hid (k1 ≤ 1048576) := Lib.hid (by have := HK1.out; have := HJ.out.1.1; omega)
    have HL2 : Hid (k2 ≤ 1048576) := Lib.hid (by have := HK2.out; have := HJ.out.2.1; omega)
    obtain ⟨_, q0, q1, _, _⟩ := FN.out.box
    go_wp2_with (go_at_call 33; refine (goodB (FN.out.cl HK1.out HK2.out HL1.out HL2.out) HJ.out).mono ?_; rintro e w6 ⟨rfl, hb6⟩; refine Hid.out ?_)
    refine Lib.hid ?_
    have F6 := Lib.hid (FN.out.on hb6)
    clear hb6 FN q0 q1 X2 X3 X4 Y3 Y4 KX HU1 HU2
    obtain ⟨_, q0, q1, _, _⟩ := F6.out.box
    obtain ⟨_, r0, r1, r2, r3⟩ := F6.out.res
    go_wp2_with fail
    obtain ⟨⟨_, s0, s1, _, _⟩, HF⟩ := F6.out.fin HK1.out HK2.out
    exact bodyPost_ret (v := .tuple #[.agg #[.slice D1 k1 d1, .slice D2 k2 d2], .bool true]) (by simp [results, Try.results16, go_sem, s0, s1]) rfl HF

set_option maxRecDepth 100000 in
set_option maxHeartbeats 8000000 in
theorem joinNo (A1 A2 B1 B2 : Option Addr) (n1 c1 n2 c2 m1 e1 m2 e2 : Nat) (we ho we' ho' : List Int) (w : World) (h : Cl w w.heap.size A1 n1 A2 n2 we ho) (h' : Cl w w.heap.size B1 m1 B2 m2 we' ho')
    (hc1 : A1 = none → c1 = 0) (hc2 : A2 = none → c2 = 0) (hd1 : B1 = none → e1 = 0) (hd2 : B2 = none → e2 = 0) (hg : GoodC we ho) (hg' : GoodC we' ho') (hj : ¬ GoodC (uni we we') (uni ho ho')) :
    Calls Try.prog 16 #[.agg #[.slice A1 n1 c1, .slice A2 n2 c2], .agg #[.slice B1 m1 e1, .slice B2 m2 e2]] w (JAns [] [] false w) := by
  have HH := Lib.hid h
  have HH' := Lib.hid h'
  have HG := Lib.hid hg
  have HG' := Lib.hid hg'
  have HJ := Lib.hid hj
  have HC := Lib.hid (And.intro hc1 (And.intro hc2 (And.intro hd1 hd2)))
  clear h h' hg hg' hj hc1 hc2 hd1 hd2
  have X0 := Lib.hid (B3.new w (.slice A1 n1 c1) (.slice A2 n2 c2) (.slice B1 m1 e1) (.slice B2 m2 e2) (.slice none 0 0) (.slice none 0 0) 26)
  go_enter Try.func16, Try.ntmps16
  go_wp2_with (go_at_call 33; refine (goodB (HH.out.on X0.out.bel) HG.out).mono ?_; rintro e w1 ⟨rfl, hb1⟩; refine Hid.out ?_)
  refine Lib.hid ?_
  have X1 := Lib.hid (X0.out.on hb1)
  clear hb1 X0
  obtain ⟨_, a0, a1, _, _⟩ := X1.out.a
  obtain ⟨_, b0, b1, _, _⟩ := X1.out.b
  go_wp2_with (go_at_call 33; refine (goodB (HH'.out.on X1.out.bel) HG'.out).mono ?_; rintro e w2 ⟨rfl, hb2⟩; refine Hid.out ?_)
  refine Lib.hid ?_
  have X2 := Lib.hid (X1.out.on hb2)
  clear hb2 X1 a0 a1 b0 b1
  obtain ⟨_, a0, a1, _, _⟩ := X2.out.a
  obtain ⟨_, b0, b1, _, _⟩ := X2.out.b
  have l2 := X2.out.a.lt
  have l3 := X2.out.b.lt
  have HU1 : Hid (∀ u, Below w.heap.size w u → Calls Try.prog 41 #[.slice A1 n1 c1, .slice B1 m1 e1] u (OwnAns (uni we we') u)) := Lib.hid fun u hu =>
    uniS HH.out.l1 HH'.out.l1 (by have := HG.out.1.1; have := HH.out.l1; omega) (by have := HG'.out.1.1; have := HH'.out.l1; omega) (HH.out.on hu).r1.is (HH'.out.on hu).r1.is HC.out.1
  have HU2 : Hid (∀ u, Below w.heap.size w u → Calls Try.prog 41 #[.slice A2 n2 c2, .slice B2 m2 e2] u (OwnAns (uni ho ho') u)) := Lib.hid fun u hu =>
    uniS HH.out.l2 HH'.out.l2 (by have := HG.out.2.1; have := HH.out.l2; omega) (by have := HG'.out.2.1; have := HH'.out.l2; omega) (HH.out.on hu).r2.is (HH'.out.on hu).r2.is HC.out.2.1
  go_wp2_with fail
  have KX : Hid (∀ v, B3 w v (.slice A1 n1 c1) (.slice A2 n2 c2) (.slice B1 m1 e1) (.slice B2 m2 e2) nl nl → v.cell? ⟨w.heap.size, 0, none⟩ = some (.slice A1 n1 c1) ∧ v.cell? ⟨w.heap.size, 1, none⟩ = some (.slice A2 n2 c2) ∧ v.cell? ⟨w.heap.size + 1, 0, none⟩ = some (.slice B1 m1 e1) ∧ v.cell? ⟨w.heap.size + 1, 1, none⟩ = some (.slice B2 m2 e2)) := Lib.hid fun v h => ⟨h.a.c0, h.a.c1, h.b.c0, h.b.c1⟩
  go_region_held3 (fun v => v.cell? ⟨w.heap.size, 0, none⟩ = some (.slice A1 n1 c1) ∧ v.cell? ⟨w.heap.size, 1, none⟩ = some (.slice A2 n2 c2) ∧ v.cell? ⟨w.heap.size + 1, 0, none⟩ = some (.slice B1 m1 e1) ∧ v.cell? ⟨w.heap.size + 1, 1, none⟩ = some (.slice B2 m2 e2)) (first
      | (apply KX.out; (repeat (first | with_reducible exact X4.out | with_reducible exact X3.out | with_reducible exact X2.out | with_reducible apply B3.drew | with_reducible apply B3.alloc)); done)
      | with_reducible exact KX.out _ (B3.put (B3.put X4.out X2.out.r.lt _ _) X2.out.r.lt _ _)
      | with_reducible exact KX.out _ (B3.put (B3.put X4.out X3.out.r.lt _ _) X3.out.r.lt _ _)
      | with_reducible exact KX.out _ (B3.put (B3.put (B3.alloc X4.out _) X4.out.r.lt _ _) X4.out.r.lt _ _))
    (first
    | (go_at_call 41; with_reducible refine (HU1.out _ (B3.bel (by first | with_reducible exact X2.out | with_reducible exact X2.out.drew | with_reducible exact B3.alloc X2.out _ | with_reducible exact B3.drew (B3.alloc X2.out _) | with_reducible exact B3.alloc (B3.drew X2.out) _))).mono ?_
       rintro e w3 ⟨D1, k1, d1, hk1, rfl, ho1, hb1⟩
       have HK1 := Lib.hid hk1
       have X3 := Lib.hid (B3.on (by first | with_reducible exact X2.out | with_reducible exact X2.out.drew | with_reducible exact B3.alloc X2.out _ | with_reducible exact B3.drew (B3.alloc X2.out _) | with_reducible exact B3.alloc (B3.drew X2.out) _) hb1)
       (first
         | have Y3 : Hid (S1 w2 w3 (.slice D1 k1 d1) (uni we we') (some w2.heap.size)) := Lib.hid (S1.box (by first | with_reducible exact Bx.drew' (Bx.new w2 _ _ _) | with_reducible exact Bx.new w2 _ _ _) (Nat.le_refl _) hb1 ho1)
         | have Y3 : Hid (S1 w2 w3 (.slice D1 k1 d1) (uni we we') none) := Lib.hid (S1.plain (by first | (simp; done) | omega) hb1 ho1))
       clear hk1 ho1 hb1
       obtain ⟨_, x0, x1, _, _⟩ := X3.out.a
       obtain ⟨_, y0, y1, _, _⟩ := X3.out.b
       have l4 := X3.out.a.lt
       have l5 := X3.out.b.lt)
    | (go_at_call 41; with_reducible refine (HU2.out _ (B3.bel (by first | with_reducible exact X3.out | with_reducible exact X3.out.drew | with_reducible exact B3.alloc X3.out _ | with_reducible exact B3.drew (B3.alloc X3.out _) | with_reducible exact B3.alloc (B3.drew X3.out) _))).mono ?_
       rintro e w4 ⟨D2, k2, d2, hk2, rfl, ho2, hb2⟩
       have HK2 := Lib.hid hk2
       have X4 := Lib.hid (B3.on (by first | with_reducible exact X3.out | with_reducible exact X3.out.drew | with_reducible exact B3.alloc X3.out _ | with_reducible exact B3.drew (B3.alloc X3.out _) | with_reducible exact B3.alloc (B3.drew X3.out) _) hb2)
       (first
         | have Y4 : Hid (S2 w2 w4 (.slice D1 k1 d1) (.slice D2 k2 d2) (uni we we') (uni ho ho') (some w3.heap.size)) := Lib.hid (S2.box Y3.out (by first | with_reducible exact below1 _ _ | with_reducible exact (below1 _ _).drew) (by first | with_reducible exact Bx.drew' (Bx.new w3 _ _ _) | with_reducible exact Bx.new w3 _ _ _) (Nat.le_refl _) hb2 ho2)
         | have Y4 := Lib.hid (S2.of (w2 := w2) Y3.out (by first | with_reducible exact Below.refl _ _ | with_reducible exact (Below.refl _ _).drew) hb2 ho2))
       clear hk2 ho2 hb2
       (try (obtain ⟨_, j0, j1, f0, f1⟩ := (Y4.out.bx _ rfl).2.1))))
  all_goals
    (first
      | have FN := Lib.hid (Fn.of X2.out X4.out Y4.out)
      | have FN := Lib.hid (Fn.new X2.out X4.out Y4.out 26))
    have HL1 : Hid (k1 ≤ 1048576) := Lib.hid (by have := HK1.out; have := length_uni we' we; have := HG.out.1.1; have := HG'.out.1.1; omega)
    have HL2 : Hid (k2 ≤ 1048576) := Lib.hid (by have := HK2.out; have := length_uni ho' ho; have := HG.out.2.1; have := HG'.out.2.1; omega)
    obtain ⟨_, q0, q1, _, _⟩ := FN.out.box
    go_wp2_with (go_at_call 33; refine (badB (FN.out.cl HK1.out HK2.out HL1.out HL2.out) HJ.out).mono ?_; rintro e w6 ⟨rfl, hb6⟩; refine Hid.out ?_)
    refine Lib.hid ?_
    have F6 := Lib.hid (FN.out.on hb6)
    clear hb6 FN q0 q1 X2 X3 X4 Y3 Y4 KX HU1 HU2
    obtain ⟨_, q0, q1, _, _⟩ := F6.out.box
    obtain ⟨_, r0, r1, r2, r3⟩ := F6.out.res
    go_wp2_with fail
    obtain ⟨⟨_, s0, s1, _, _⟩, HF⟩ := F6.out.zero
    exact bodyPost_ret (v := .tuple #[.agg #[nl, nl], .bool false]) (by simp [results, Try.results16, go_sem, s0, s1]) rfl HF

set_option maxRecDepth 100000 in
set_option maxHeartbeats 8000000 in
theorem joinBadA (A1 A2 B1 B2 : Option Addr) (n1 c1 n2 c2 m1 e1 m2 e2 : Nat) (we ho we' ho' : List Int) (w : World) (h : Cl w w.heap.size A1 n1 A2 n2 we ho) (h' : Cl w w.heap.size B1 m1 B2 m2 we' ho')
    (hg : ¬ GoodC we ho) :
    Calls Try.prog 16 #[.agg #[.slice A1 n1 c1, .slice A2 n2 c2], .agg #[.slice B1 m1 e1, .slice B2 m2 e2]] w (JAns [] [] false w) := by
  have HH := Lib.hid h
  have HG := Lib.hid hg
  clear h h' hg
  have X0 := Lib.hid (B3.new w (.slice A1 n1 c1) (.slice A2 n2 c2) (.slice B1 m1 e1) (.slice B2 m2 e2) (.slice none 0 0) (.slice none 0 0) 26)
  go_enter Try.func16, Try.ntmps16
  go_wp2_with (go_at_call 33; refine (badB (HH.out.on X0.out.bel) HG.out).mono ?_; rintro e w1 ⟨rfl, hb1⟩; refine Hid.out ?_)
  refine Lib.hid ?_
  have X1 := Lib.hid (X0.out.on hb1)
  clear hb1 X0
  obtain ⟨_, r0, r1, r2, r3⟩ := X1.out.r
  go_wp2_with fail
  obtain ⟨⟨_, s0, s1, _, _⟩, HF⟩ := X1.out.zero
  exact bodyPost_ret (v := .tuple #[.agg #[nl, nl], .bool false]) (by simp [results, Try.results16, go_sem, s0, s1]) rfl HF

set_option maxRecDepth 100000 in
set_option maxHeartbeats 8000000 in
theorem joinBadB (A1 A2 B1 B2 : Option Addr) (n1 c1 n2 c2 m1 e1 m2 e2 : Nat) (we ho we' ho' : List Int) (w : World) (h : Cl w w.heap.size A1 n1 A2 n2 we ho) (h' : Cl w w.heap.size B1 m1 B2 m2 we' ho')
    (hg : GoodC we ho) (hg' : ¬ GoodC we' ho') :
    Calls Try.prog 16 #[.agg #[.slice A1 n1 c1, .slice A2 n2 c2], .agg #[.slice B1 m1 e1, .slice B2 m2 e2]] w (JAns [] [] false w) := by
  have HH := Lib.hid h
  have HH' := Lib.hid h'
  have HG := Lib.hid hg
  have HG' := Lib.hid hg'
  clear h h' hg hg'
  have X0 := Lib.hid (B3.new w (.slice A1 n1 c1) (.slice A2 n2 c2) (.slice B1 m1 e1) (.slice B2 m2 e2) (.slice none 0 0) (.slice none 0 0) 26)
  go_enter Try.func16, Try.ntmps16
  go_wp2_with (go_at_call 33; refine (goodB (HH.out.on X0.out.bel) HG.out).mono ?_; rintro e w1 ⟨rfl, hb1⟩; refine Hid.out ?_)
  refine Lib.hid ?_
  have X1 := Lib.hid (X0.out.on hb1)
  clear hb1 X0
  obtain ⟨_, b0, b1, _, _⟩ := X1.out.b
  go_wp2_with (go_at_call 33; refine (badB (HH'.out.on X1.out.bel) HG'.out).mono ?_; rintro e w2 ⟨rfl, hb2⟩; refine Hid.out ?_)
  refine Lib.hid ?_
  have X2 := Lib.hid (X1.out.on hb2)
  clear hb2 X1 b0 b1
  obtain ⟨_, r0, r1, r2, r3⟩ := X2.out.r
  go_wp2_with fail
  obtain ⟨⟨_, s0, s1, _, _⟩, HF⟩ := X2.out.zero
  exact bodyPost_ret (v := .tuple #[.agg #[nl, nl], .bool false]) (by simp [results, Try.results16, go_sem, s0, s1]) rfl HF

end Go.Proofs.Ytglpkanegehcbaa.JoinS
