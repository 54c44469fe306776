/-
  What DrawJoinCalendars returns, whatever the code.
-/
import Derived.Test.YtglpkanegehcbaaDraw4D
namespace Go.Proofs.Ytglpkanegehcbaa.Draw4J
open Go.RowKit Go.Proofs.Ytglpkanegehcbaa.Cur Go.Proofs.Ytglpkanegehcbaa.Cal Go.Proofs.Ytglpkanegehcbaa.IRow Go.Proofs.Ytglpkanegehcbaa.CurDay Go.Proofs.Ytglpkanegehcbaa.CalLaw Go.Proofs.Ytglpkanegehcbaa.Draw4 Go.Proofs.Ytglpkanegehcbaa.Draw4A Go.Proofs.Ytglpkanegehcbaa.Draw4D
set_option linter.unusedVariables false
set_option linter.unusedSimpArgs false

/-- The results' boxes in the first two new blocks, a cursor in the third, a calendar's box and its rows. -/
structure DJ (w v : World) (kb : Nat) (A : Option Addr) (n cap k B : Nat) (v1 v2 : Value) (D1 D2 : List Int) (r1 r2 : Value) : Prop where
  ok : Ok v (w.heap.size + 1 + 1) A n cap k B
  box : Bx kb v v1 v2
  res : Bx w.heap.size v r1 r2
  rs2 : Bx (w.heap.size + 1) v (.slice none 0 0) (.slice none 0 0)
  rows : R2 (w.heap.size + 1 + 1 + 1) v v1 v2 D1 D2
  bel : Below w.heap.size w v
  kb1 : w.heap.size + 1 + 1 + 1 ≤ kb
  old : B ≤ w.heap.size
theorem DJ.grown {w v : World} {kb : Nat} {A : Option Addr} {n cap k B : Nat} {v1 v2 : Value} {D1 D2 : List Int} {r1 r2 : Value} {v' : World} {k' : Nat} (h : DJ w v kb A n cap k B v1 v2 D1 D2 r1 r2) (hok : Ok v' (w.heap.size + 1 + 1) A n cap k' B) (hg : v.grownBy v' (some (w.heap.size + 1 + 1))) : DJ w v' kb A n cap k' B v1 v2 D1 D2 r1 r2 :=
  have hk := h.kb1
  ⟨hok, Bx.kept h.box hg (fun e => by injection e with e; omega), Bx.kept h.res hg (fun e => by injection e with e; omega), Bx.kept h.rs2 hg (fun e => by injection e with e; omega), R2.kept h.rows hg (fun j hj => by injection hj with hj; omega), h.bel.grown hg (by have := h.res.lt; omega) (fun j hj => by injection hj with hj; omega), hk, h.old⟩
theorem DJ.drew {w v : World} {kb : Nat} {A : Option Addr} {n cap k B : Nat} {v1 v2 : Value} {D1 D2 : List Int} {r1 r2 : Value} (h : DJ w v kb A n cap k B v1 v2 D1 D2 r1 r2) : DJ w v.drew kb A n cap k B v1 v2 D1 D2 r1 r2 :=
  ⟨⟨h.ok.at_, h.ok.bytes, h.ok.small, h.ok.old⟩, ⟨h.box.lt, h.box.c0, h.box.c1, h.box.f0, h.box.f1⟩, ⟨h.res.lt, h.res.c0, h.res.c1, h.res.f0, h.res.f1⟩, ⟨h.rs2.lt, h.rs2.c0, h.rs2.c1, h.rs2.f0, h.rs2.f1⟩, ⟨h.rows.r1, h.rows.r2, h.rows.ne⟩, h.bel.drew, h.kb1, h.old⟩
theorem DJ.store {w v : World} {kb : Nat} {A : Option Addr} {n cap k B : Nat} {v1 v2 : Value} {D1 D2 : List Int} {r1 r2 : Value} (h : DJ w v kb A n cap k B v1 v2 D1 D2 r1 r2) : DJ w ((v.setCell ⟨w.heap.size, 0, none⟩ v1).setCell ⟨w.heap.size, 1, none⟩ v2) kb A n cap k B v1 v2 D1 D2 v1 v2 := by
  have hk := h.kb1
  have g1 := set_grown v ⟨w.heap.size, 0, none⟩ v1
  have g2 := set_grown (v.setCell ⟨w.heap.size, 0, none⟩ v1) ⟨w.heap.size, 1, none⟩ v2
  have q : ∀ j, some w.heap.size = some j → j < w.heap.size + 1 + 1 + 1 := fun j hj => by injection hj with hj; omega
  obtain ⟨sd, hat⟩ := h.ok.at_
  have e1 : ((v.setCell ⟨w.heap.size, 0, none⟩ v1).setCell ⟨w.heap.size, 1, none⟩ v2).heap[w.heap.size + 1 + 1]? = v.heap[w.heap.size + 1 + 1]? := (Below.heap_setCell _ _ _ _ (by simp; omega)).trans (Below.heap_setCell _ _ _ _ (by simp; omega))
  have hbel : Below w.heap.size w ((v.setCell ⟨w.heap.size, 0, none⟩ v1).setCell ⟨w.heap.size, 1, none⟩ v2) := (h.bel.setCell (by simp) _).setCell (by simp) _
  refine ⟨⟨⟨sd, e1.trans hat⟩, fun hp => ?_, h.ok.small, h.ok.old⟩, (h.box.far (by simp; omega) _).far (by simp; omega) _, (h.res.set0 v1).set1 v2, (h.rs2.far (by simp) _).far (by simp) _, R2.kept (R2.kept h.rows g1 q) g2 q, hbel, hk, h.old⟩
  obtain ⟨ad, e, hb, hc⟩ := h.ok.bytes hp
  refine ⟨ad, e, hb, fun j hj => ?_⟩
  obtain ⟨z, hz, h0, h1⟩ := hc j hj
  have ho := h.old
  refine ⟨z, ?_, h0, h1⟩
  rw [World.cell?_setCell_other _ _ _ _ (by intro e2; have e3 := congrArg Addr.block e2; rw [Cur.block_add] at e3; simp only at e3; omega), World.cell?_setCell_other _ _ _ _ (by intro e2; have e3 := congrArg Addr.block e2; rw [Cur.block_add] at e3; simp only at e3; omega)]
  exact hz

/-- The second calendar is drawn. -/
structure DK (w v : World) (kb : Nat) (A : Option Addr) (n cap k B : Nat) (v1 v2 : Value) (D1 D2 : List Int) (r1 r2 : Value) (y1 y2 : Value) (E1 E2 : List Int) : Prop where
  d : DJ w v kb A n cap k B v1 v2 D1 D2 r1 r2
  r : R2 (w.heap.size + 1 + 1 + 1) v y1 y2 E1 E2
theorem DK.drew {w v : World} {kb : Nat} {A : Option Addr} {n cap k B : Nat} {v1 v2 : Value} {D1 D2 : List Int} {r1 r2 : Value} {y1 y2 : Value} {E1 E2 : List Int} (h : DK w v kb A n cap k B v1 v2 D1 D2 r1 r2 y1 y2 E1 E2) : DK w v.drew kb A n cap k B v1 v2 D1 D2 r1 r2 y1 y2 E1 E2 := ⟨h.d.drew, ⟨h.r.r1, h.r.r2, h.r.ne⟩⟩
theorem DK.store {w v : World} {kb : Nat} {A : Option Addr} {n cap k B : Nat} {v1 v2 : Value} {D1 D2 : List Int} {r1 r2 : Value} {y1 y2 : Value} {E1 E2 : List Int} (h : DK w v kb A n cap k B v1 v2 D1 D2 r1 r2 y1 y2 E1 E2) : DK w ((v.setCell ⟨w.heap.size, 0, none⟩ v1).setCell ⟨w.heap.size, 1, none⟩ v2) kb A n cap k B v1 v2 D1 D2 v1 v2 y1 y2 E1 E2 :=
  have q : ∀ j, some w.heap.size = some j → j < w.heap.size + 1 + 1 + 1 := fun j hj => by injection hj with hj; omega
  ⟨h.d.store, R2.kept (R2.kept h.r (set_grown v ⟨w.heap.size, 0, none⟩ v1) q) (set_grown (v.setCell ⟨w.heap.size, 0, none⟩ v1) ⟨w.heap.size, 1, none⟩ v2) q⟩

/-- Both calendars lie in the results. -/
structure DF (w u : World) (v1 v2 : Value) (D1 D2 : List Int) (y1 y2 : Value) (E1 E2 : List Int) : Prop where
  res : Bx w.heap.size u v1 v2
  rs2 : Bx (w.heap.size + 1) u y1 y2
  r1 : R2 w.heap.size u v1 v2 D1 D2
  r2 : R2 w.heap.size u y1 y2 E1 E2
  bel : Below w.heap.size w u
theorem DK.done {w v : World} {kb : Nat} {A : Option Addr} {n cap k B : Nat} {v1 v2 : Value} {D1 D2 : List Int} {y1 y2 : Value} {E1 E2 : List Int} (h : DK w v kb A n cap k B v1 v2 D1 D2 v1 v2 y1 y2 E1 E2) : DF w ((v.setCell ⟨w.heap.size + 1, 0, none⟩ y1).setCell ⟨w.heap.size + 1, 1, none⟩ y2) v1 v2 D1 D2 y1 y2 E1 E2 :=
  have q : ∀ j, some (w.heap.size + 1) = some j → j < w.heap.size + 1 + 1 + 1 := fun j hj => by injection hj with hj; omega
  have g1 := set_grown v ⟨w.heap.size + 1, 0, none⟩ y1
  have g2 := set_grown (v.setCell ⟨w.heap.size + 1, 0, none⟩ y1) ⟨w.heap.size + 1, 1, none⟩ y2
  ⟨(h.d.res.far (by simp) _).far (by simp) _, (h.d.rs2.set0 _).set1 _, R2.less (R2.kept (R2.kept h.d.rows g1 q) g2 q) (by omega), R2.less (R2.kept (R2.kept h.r g1 q) g2 q) (by omega), (h.d.bel.setCell (by simp) _).setCell (by simp) _⟩

/-- Two calendars are drawn. -/
def ans (w : World) (e : Ending) (w' : World) : Prop :=
  ∃ (A1 : Option Addr) (c1 : Nat) (A2 : Option Addr) (c2 : Nat) (D1 D2 : List Int) (B1 : Option Addr) (e1 : Nat) (B2 : Option Addr) (e2 : Nat) (E1 E2 : List Int), e = .returned (.tuple #[.agg #[.slice A1 D1.length c1, .slice A2 D2.length c2], .agg #[.slice B1 E1.length e1, .slice B2 E2.length e2]]) ∧
    D1.length ≤ 100 ∧ D2.length ≤ 100 ∧ E1.length ≤ 100 ∧ E2.length ≤ 100 ∧ R2 w.heap.size w' (.slice A1 D1.length c1) (.slice A2 D2.length c2) D1 D2 ∧ R2 w.heap.size w' (.slice B1 E1.length e1) (.slice B2 E2.length e2) E1 E2 ∧ Below w.heap.size w w'

theorem callDJ {w v : World} {kb : Nat} {A : Option Addr} {n cap k B : Nat} {v1 v2 : Value} {D1 D2 : List Int} {r1 r2 : Value} (h : DJ w v kb A n cap k B v1 v2 D1 D2 r1 r2) (d : Int) (d0 : 0 ≤ d) (d1 : d ≤ 36524) (hk : k ≤ 1000) :
    Calls Try.prog 39 #[.pointer (some ⟨w.heap.size + 1 + 1, 0, none⟩), .int .i64 d] v fun e w' => ∃ (B1 : Option Addr) (e1 : Nat) (B2 : Option Addr) (e2 : Nat) (E1 E2 : List Int) (k' : Nat), e = .returned (.agg #[.slice B1 E1.length e1, .slice B2 E2.length e2]) ∧ E1.length ≤ 100 ∧ E2.length ≤ 100 ∧
      DK w w' kb A n cap k' B v1 v2 D1 D2 r1 r2 (.slice B1 E1.length e1) (.slice B2 E2.length e2) E1 E2 :=
  (anyCalendar (w.heap.size + 1 + 1) A n cap k B d d0 d1 v h.ok (by omega)).mono fun e w' => by
    rintro ⟨B1, _, e1, B2, _, e2, E1, E2, k', rfl, rfl, rfl, l1, l2, hk', hok, hr, hg⟩
    exact ⟨B1, e1, B2, e2, E1, E2, k', rfl, l1, l2, h.grown hok hg, R2.less hr (by have := h.ok.lt; omega)⟩

set_option maxRecDepth 100000 in
set_option maxHeartbeats 4000000 in
theorem draw (A : Option Addr) (n cap : Nat) (w : World) (hn : n ≤ 1000000) (hA : Bytes w w.heap.size A n) :
    Calls Try.prog 14 #[.slice A n cap] w (ans w) := by
  have HO : Hid (Ok (((w.alloc (.cells #[.slice none 0 0, .slice none 0 0] 26)).alloc (.cells #[.slice none 0 0, .slice none 0 0] 26)).alloc (.cells #[.slice A n cap, .int .i64 0, .int .u64 0] 50)) (w.heap.size + 1 + 1) A n cap 0 w.heap.size) := Lib.hid (by
    have := Ok.newB ((w.alloc (.cells #[.slice none 0 0, .slice none 0 0] 26)).alloc (.cells #[.slice none 0 0, .slice none 0 0] 26)) A n cap w.heap.size hn (Bytes.alloc (Bytes.alloc hA _) _) (by simp; omega)
    rwa [World.size_alloc, World.size_alloc] at this)
  have HR : Hid (Bx w.heap.size (((w.alloc (.cells #[.slice none 0 0, .slice none 0 0] 26)).alloc (.cells #[.slice none 0 0, .slice none 0 0] 26)).alloc (.cells #[.slice A n cap, .int .i64 0, .int .u64 0] 50)) (.slice none 0 0) (.slice none 0 0)) := Lib.hid (((Bx.new w _ _ _).alloc _).alloc _)
  have HQ : Hid (Bx (w.heap.size + 1) (((w.alloc (.cells #[.slice none 0 0, .slice none 0 0] 26)).alloc (.cells #[.slice none 0 0, .slice none 0 0] 26)).alloc (.cells #[.slice A n cap, .int .i64 0, .int .u64 0] 50)) (.slice none 0 0) (.slice none 0 0)) := Lib.hid (by
    have := (Bx.new (w.alloc (.cells #[.slice none 0 0, .slice none 0 0] 26)) (.slice none 0 0) (.slice none 0 0) 26).alloc (.cells #[.slice A n cap, .int .i64 0, .int .u64 0] 50)
    rwa [World.size_alloc] at this)
  have HB : Hid (Below w.heap.size w (((w.alloc (.cells #[.slice none 0 0, .slice none 0 0] 26)).alloc (.cells #[.slice none 0 0, .slice none 0 0] 26)).alloc (.cells #[.slice A n cap, .int .i64 0, .int .u64 0] 50))) := Lib.hid (((Asc.below1 _ _).alloc (by simp) _).alloc (by simp; omega) _)
  clear hA
  go_enter Try.func14, Try.ntmps14
  go_wp2_with (go_at_call 38; refine (near4 (w.heap.size + 1 + 1) A n cap 0 w.heap.size _ HO.out (by omega)).mono ?_; rintro e w1 ⟨d, k1, rfl, hd, hk1, hok1, hg1⟩; refine Hid.out ?_)
  refine Lib.hid ?_
  have O1 := Lib.hid hok1
  have R1 := Lib.hid (Bx.kept HR.out hg1 (fun e => by injection e with e; omega))
  have Q1 := Lib.hid (Bx.kept HQ.out hg1 (fun e => by injection e with e; omega))
  have B1 := Lib.hid (HB.out.grown hg1 (by simp; omega) (fun j hj => by injection hj with hj; omega))
  obtain ⟨d0, d1⟩ := hd
  clear hok1 hg1 HO HR HQ HB
  go_wp2_with (go_at_call 39; refine (anyCalendar (w.heap.size + 1 + 1) A n cap k1 w.heap.size d d0 d1 _ O1.out (by omega)).mono ?_; rintro e w2 ⟨A1, _, c1, A2, _, c2, D1, D2, k2, rfl, rfl, rfl, l1, l2, hk2, hok2, hr2, hg2⟩; refine Hid.out ?_)
  refine Lib.hid ?_
  have S0 : Hid (DJ w (w2.alloc (.cells #[.slice A1 D1.length c1, .slice A2 D2.length c2] 26)) w2.heap.size A n cap k2 w.heap.size (.slice A1 D1.length c1) (.slice A2 D2.length c2) D1 D2 (.slice none 0 0) (.slice none 0 0)) := Lib.hid (by
    have hl := O1.out.lt
    have hz := hg2.size
    have b2 := B1.out.grown hg2 (by have := R1.out.lt; omega) (fun j hj => by injection hj with hj; omega)
    exact ⟨hok2.alloc _, Bx.new w2 _ _ _, (Bx.kept R1.out hg2 (fun e => by injection e with e; omega)).alloc _, (Bx.kept Q1.out hg2 (fun e => by injection e with e; omega)).alloc _, R2.kept (R2.less hr2 (by omega)) (World.grownBy_alloc w2 _ none) (fun j hj => by cases hj), b2.alloc (by have := b2.size; omega) _, by omega, Nat.le_refl _⟩)
  have HM := Lib.hid (And.intro l1 l2)
  clear hok2 hr2 hg2 l1 l2 O1 R1 Q1 B1
  go_wp2_with fail
  have KX : Hid (∀ v k' r1 r2, DJ w v w2.heap.size A n cap k' w.heap.size (.slice A1 D1.length c1) (.slice A2 D2.length c2) D1 D2 r1 r2 → v.cell? ⟨w2.heap.size, 0, none⟩ = some (.slice A1 D1.length c1) ∧ v.cell? ⟨w2.heap.size, 1, none⟩ = some (.slice A2 D2.length c2)) := Lib.hid fun v k' r1 r2 h => ⟨h.box.c0, h.box.c1⟩
  obtain ⟨_, t0, t1, t2, t3⟩ := S0.out.res
  obtain ⟨_, v0, v1, v2, v3⟩ := S0.out.rs2
  have hres := S0.out.res.lt
  have hrs2 := S0.out.rs2.lt
  have hS : w.heap.size + 1 + 1 + 1 ≤ w2.heap.size := S0.out.kb1
  generalize w2.alloc (.cells #[.slice A1 D1.length c1, .slice A2 D2.length c2] 26) = X at *
  generalize w2.heap.size = kb at *
  have KF : Hid (∀ v k' r1 r2 y1 y2 E1 E2, DK w v kb A n cap k' w.heap.size (.slice A1 D1.length c1) (.slice A2 D2.length c2) D1 D2 r1 r2 y1 y2 E1 E2 → ((v.setCell ⟨w.heap.size + 1, 0, none⟩ y1).setCell ⟨w.heap.size + 1, 1, none⟩ y2).cell? ⟨kb, 0, none⟩ = some (.slice A1 D1.length c1) ∧ ((v.setCell ⟨w.heap.size + 1, 0, none⟩ y1).setCell ⟨w.heap.size + 1, 1, none⟩ y2).cell? ⟨kb, 1, none⟩ = some (.slice A2 D2.length c2)) := Lib.hid fun v k' r1 r2 y1 y2 E1 E2 h => by
    have hk := h.d.kb1
    have := (h.d.box.far (p := ⟨w.heap.size + 1, 0, none⟩) (by simp; omega) y1).far (p := ⟨w.heap.size + 1, 1, none⟩) (by simp; omega) y2
    exact ⟨this.c0, this.c1⟩
  go_region_held3 (fun v => v.cell? ⟨kb, 0, none⟩ = some (.slice A1 D1.length c1) ∧ v.cell? ⟨kb, 1, none⟩ = some (.slice A2 D2.length c2)) (first
      | with_reducible exact KX.out _ _ _ _ (S0.out)
      | with_reducible exact KX.out _ _ _ _ (DJ.drew S0.out)
      | with_reducible exact KX.out _ _ _ _ (DJ.store S0.out)
      | with_reducible exact KX.out _ _ _ _ (DJ.drew (DJ.store S0.out))
      | with_reducible exact KX.out _ _ _ _ (DJ.store (DJ.drew S0.out))
      | with_reducible exact KX.out _ _ _ _ (DK.d (S1.out))
      | with_reducible exact KX.out _ _ _ _ (DK.d (DK.drew S1.out))
      | with_reducible exact KX.out _ _ _ _ (DK.d (DK.store S1.out))
      | with_reducible exact KX.out _ _ _ _ (DK.d (DK.drew (DK.store S1.out)))
      | with_reducible exact KX.out _ _ _ _ (DK.d (DK.store (DK.drew S1.out)))
      | with_reducible exact KF.out _ _ _ _ _ _ _ _ (S1.out)
      | with_reducible exact KF.out _ _ _ _ _ _ _ _ (DK.drew S1.out)
      | with_reducible exact KF.out _ _ _ _ _ _ _ _ (DK.store S1.out)
      | with_reducible exact KF.out _ _ _ _ _ _ _ _ (DK.drew (DK.store S1.out))
      | with_reducible exact KF.out _ _ _ _ _ _ _ _ (DK.store (DK.drew S1.out))
      | fail)
    (first
      | (go_at_call 39; (with_reducible refine (callDJ (by first | with_reducible exact S0.out | with_reducible exact DJ.drew S0.out | with_reducible exact DJ.store S0.out | with_reducible exact DJ.drew (DJ.store S0.out) | with_reducible exact DJ.store (DJ.drew S0.out) | fail) d d0 d1 (by omega)).mono ?_)
         rintro e w3 ⟨B1, e1, B2, e2, E1, E2, k3, rfl, m1, m2, hd3⟩
         have S1 := Lib.hid hd3
         clear hd3
         obtain ⟨_, x0, x1, x2, x3⟩ := S1.out.d.res
         obtain ⟨_, y0, y1, y2, y3⟩ := S1.out.d.rs2
         have hs3 := S1.out.d.res.lt
         have hs4 := S1.out.d.rs2.lt)
      | fail)
  all_goals
    go_wp2_with fail
    have FN : Hid (DF w _ (.slice A1 D1.length c1) (.slice A2 D2.length c2) D1 D2 (.slice B1 E1.length e1) (.slice B2 E2.length e2) E1 E2) := Lib.hid (by first | exact DK.done S1.out | exact DK.done (DK.store S1.out))
    obtain ⟨_, s0, s1, _, _⟩ := FN.out.res
    obtain ⟨_, s2, s3, _, _⟩ := FN.out.rs2
    exact bodyPost_ret (v := .tuple #[.agg #[.slice A1 D1.length c1, .slice A2 D2.length c2], .agg #[.slice B1 E1.length e1, .slice B2 E2.length e2]]) (by simp [results, Try.results14, go_sem, s0, s1, s2, s3]) rfl ⟨A1, c1, A2, c2, D1, D2, B1, e1, B2, e2, E1, E2, rfl, HM.out.1, HM.out.2, m1, m2, FN.out.r1, FN.out.r2, FN.out.bel⟩

end Go.Proofs.Ytglpkanegehcbaa.Draw4J
