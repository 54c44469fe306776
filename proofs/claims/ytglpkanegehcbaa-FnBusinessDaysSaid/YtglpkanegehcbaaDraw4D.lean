/-
  What the draws of calendars with days return, whatever the code.
-/
import Derived.Test.YtglpkanegehcbaaDraw4A
import Derived.Test.YtglpkanegehcbaaValid
import Derived.Test.YtglpkanegehcbaaLen
namespace Go.Proofs.Ytglpkanegehcbaa.Draw4D
open Go.RowKit Go.Proofs.Ytglpkanegehcbaa.Cur Go.Proofs.Ytglpkanegehcbaa.Cal Go.Proofs.Ytglpkanegehcbaa.IRow Go.Proofs.Ytglpkanegehcbaa.CurDay Go.Proofs.Ytglpkanegehcbaa.CalLaw Go.Proofs.Ytglpkanegehcbaa.Draw4 Go.Proofs.Ytglpkanegehcbaa.Draw4A
set_option linter.unusedVariables false
set_option linter.unusedSimpArgs false

set_option maxHeartbeats 2000000 in
theorem near4Aux (g : Nat) (A : Option Addr) (n cap k B : Nat) (w : World) (h : Ok w g A n cap k B) (hk : k ≤ 999900)
    (HL : Hid (∀ d, Day d → ∃ Y M D L : Int, (28 ≤ L ∧ L ≤ 31) ∧ (∀ w, Calls Try.prog 58 #[.int .i64 d] w fun e w' => e = .returned (.agg #[.int .i64 Y, .int .i64 M, .int .i64 D]) ∧ Below w.heap.size w w') ∧ (∀ w, Calls Try.prog 59 #[.int .i64 Y, .int .i64 M] w fun e w' => e = .returned (.int .i64 L) ∧ w = w') ∧
      (∀ x w, 26 ≤ x → x ≤ L → ∃ z, Day z ∧ Calls Try.prog 60 #[.agg #[.int .i64 Y, .int .i64 M, .int .i64 x]] w fun e w' => e = .returned (.int .i64 z) ∧ Below w.heap.size w w'))) :
    Calls Try.prog 38 #[.pointer (some ⟨g, 0, none⟩)] w (pAns Day 12 g A n cap k B w) := by
  have HH := Lib.hid h
  clear h
  go_enter Try.func38, Try.ntmps38
  go_wp2_with (go_at_call 57; refine (day g A n cap k B _ HH.out (by omega)).mono ?_; rintro e w1 ⟨d, k1, rfl, hd, hk1, hok1, hg1⟩; refine Hid.out ?_)
  refine Lib.hid ?_
  have H1 := Lib.hid (And.intro hok1 hg1)
  have HD := Lib.hid hd
  clear hok1 hg1 HH hd
  go_wp2_with (go_at_call 49; refine (one 3 (by omega) (by omega) g A n cap k1 B _ H1.out.1 (by omega)).mono ?_; rintro e w2 ⟨f, k2, rfl, hk2, hok2, hg2⟩; refine Hid.out ?_)
  refine Lib.hid ?_
  have H2 := Lib.hid (And.intro hok2 (grow2 H1.out.2 hg2))
  clear hok2 hg2 H1
  cases f
  · go_wp2_with fail
    go_ret
    exact ⟨d, k2, rfl, HD.out, by omega, H2.out.1, H2.out.2⟩
  · obtain ⟨Y, M, D, L, ⟨L0, L1⟩, hq1, hq2, hq3⟩ := HL.out d HD.out
    have Q1 := Lib.hid hq1
    have Q2 := Lib.hid hq2
    have Q3 := Lib.hid hq3
    clear hq1 hq2 hq3 HL
    go_wp2_with (go_at_call 58; refine (Q1.out _).mono ?_; rintro e w3 ⟨rfl, hb3⟩; refine Hid.out ?_)
    refine Lib.hid ?_
    have O3 := Lib.hid ((Ok.kept H2.out.1 (below_grown hb3 none) (fun j hj => by cases hj)).alloc (.cells #[.int .i64 Y, .int .i64 M, .int .i64 D] 71))
    have G3 := Lib.hid (grow2 (grow2 H2.out.2 (below_grown hb3 _)) (World.grownBy_alloc w3 (.cells #[.int .i64 Y, .int .i64 M, .int .i64 D] 71) (some g)))
    have X3 := Lib.hid (DayOf.Box.new w3 Y M D 71)
    have N5 : w.heap.size ≤ w3.heap.size := Nat.le_trans H2.out.2.size hb3.size
    have N3 : g < w3.heap.size := by have := H2.out.1.lt; have := hb3.size; omega
    clear hb3 H2
    go_wp2_with (first
      | (go_at_call 59; refine (Q2.out _).mono ?_; rintro e w' ⟨rfl, rfl⟩)
      | (go_at_call 29; refine (pick 3 (by omega) (by omega) g A n cap k2 B _ O3.out (by omega)).mono ?_; rintro e w4 ⟨r, k4, rfl, hr4, hk4, hok4, hg4⟩; refine Hid.out ?_))
    refine Lib.hid ?_
    have O4 := Lib.hid hok4
    have G4 := Lib.hid (grow2 G3.out hg4)
    have X4 : Hid (DayOf.Box w3.heap.size w4 Y M D) := Lib.hid (by
      have e := hg4.block w3.heap.size X3.out.lt (fun e => by injection e with e; omega)
      exact ⟨Nat.lt_of_lt_of_le X3.out.lt hg4.size, (World.cell?_of_block e).trans X3.out.c0, (World.cell?_of_block e).trans X3.out.c1, (World.cell?_of_block e).trans X3.out.c2, (World.frozen?_of_block e).trans X3.out.f0, (World.frozen?_of_block e).trans X3.out.f1, (World.frozen?_of_block e).trans X3.out.f2⟩)
    clear hok4 hg4 O3 G3 X3 Q1 Q2
    have X5 := Lib.hid (DateOf.Box.set2 X4.out (L - r))
    have O5 := Lib.hid (Ok.kept O4.out (set_grown w4 ⟨w3.heap.size, 2, none⟩ (.int .i64 (L - r))) (fun j hj => by injection hj with hj; simp only at hj; omega))
    have G5 := Lib.hid (grow_row G4.out (set_grown w4 ⟨w3.heap.size, 2, none⟩ (.int .i64 (L - r))) (fun j hj => by injection hj with hj; simp only at hj; omega))
    obtain ⟨_, x0, x1, x2, x3, x4, x5⟩ := X4.out
    obtain ⟨z, hz, hcz⟩ := Q3.out (L - r) (w4.setCell ⟨w3.heap.size, 2, none⟩ (.int .i64 (L - r))) (by omega) (by omega)
    have HZ := Lib.hid hz
    have HC := Lib.hid hcz
    clear hz hcz Q3 X4
    obtain ⟨_, y0, y1, y2, _, _, _⟩ := X5.out
    go_wp2_with (go_at_call 60; refine HC.out.mono ?_; rintro e w6 ⟨rfl, hb6⟩; refine Hid.out ?_)
    refine Lib.hid ?_
    have O6 := Lib.hid (Ok.kept O5.out (below_grown hb6 none) (fun j hj => by cases hj))
    have G6 := Lib.hid (grow2 G5.out (below_grown hb6 _))
    clear hb6
    go_wp2_with fail
    go_ret
    exact ⟨z, k4, rfl, HZ.out, by omega, O6.out, G6.out⟩

theorem near4 (g : Nat) (A : Option Addr) (n cap k B : Nat) (w : World) (h : Ok w g A n cap k B) (hk : k ≤ 999900) :
    Calls Try.prog 38 #[.pointer (some ⟨g, 0, none⟩)] w (pAns Day 12 g A n cap k B w) := by
  refine near4Aux g A n cap k B w h hk (Lib.hid fun d hd => ?_)
  obtain ⟨⟨hy, hm, d1, d2⟩, _⟩ := date_is hd
  have hl := len_bd (yr d) (mo d)
  refine ⟨yr d, mo d, da d, lenM (yr d) (mo d), hl, fun w => DateOf.l3Date d hd w, fun w => Len.l3Length _ _ (by have := hy.1; omega) w, fun x w x0 x1 => ⟨num (yr d) (mo d) x, num_day ⟨hy, hm, by omega, x1⟩, ?_⟩⟩
  exact (Valid.l3Day (yr d) (mo d) x hy hm (by omega) (by omega) w).mono fun _ _ ⟨a, b⟩ => ⟨a, by rw [← b]; exact Asc.below1 _ _⟩

/-- A cursor in the second new block, a calendar's box, its rows, and the result's box in the first new block. -/
structure DR (w v : World) (kb : Nat) (A : Option Addr) (n cap k B : Nat) (v1 v2 : Value) (D1 D2 : List Int) (r1 r2 : Value) : Prop where
  ok : Ok v (w.heap.size + 1) A n cap k B
  box : Bx kb v v1 v2
  res : Bx w.heap.size v r1 r2
  rows : R2 (w.heap.size + 2) v v1 v2 D1 D2
  bel : Below w.heap.size w v
  kb1 : w.heap.size + 2 ≤ kb
  old : B ≤ w.heap.size

theorem R2.kept {S : Nat} {w w' : World} {v1 v2 : Value} {D1 D2 : List Int} {row : Option Nat} (h : R2 S w v1 v2 D1 D2) (hg : w.grownBy w' row) (hr : ∀ j, row = some j → j < S) : R2 S w' v1 v2 D1 D2 :=
  ⟨row_kept h.r1 hg (fun j hj e => by have := hr j hj; have := (h.r1.lt j e).1; omega), row_kept h.r2 hg (fun j hj e => by have := hr j hj; have := (h.r2.lt j e).1; omega), h.ne⟩

theorem DR.grown {w v v' : World} {kb : Nat} {A : Option Addr} {n cap k k' B : Nat} {v1 v2 : Value} {D1 D2 : List Int} {r1 r2 : Value} (h : DR w v kb A n cap k B v1 v2 D1 D2 r1 r2) (hok : Ok v' (w.heap.size + 1) A n cap k' B) (hg : v.grownBy v' (some (w.heap.size + 1))) : DR w v' kb A n cap k' B v1 v2 D1 D2 r1 r2 :=
  have hk := h.kb1
  ⟨hok, Bx.kept h.box hg (fun e => by injection e with e; omega), Bx.kept h.res hg (fun e => by injection e with e; omega), R2.kept h.rows hg (fun j hj => by injection hj with hj; omega), h.bel.grown hg (by have := h.res.lt; omega) (fun j hj => by injection hj with hj; omega), hk, h.old⟩
theorem DR.alloc {w v : World} {kb : Nat} {A : Option Addr} {n cap k B : Nat} {v1 v2 : Value} {D1 D2 : List Int} {r1 r2 : Value} (h : DR w v kb A n cap k B v1 v2 D1 D2 r1 r2) (o : Obj) : DR w (v.alloc o) kb A n cap k B v1 v2 D1 D2 r1 r2 := h.grown (h.ok.alloc o) (World.grownBy_alloc v o _)
theorem DR.drew {w v : World} {kb : Nat} {A : Option Addr} {n cap k B : Nat} {v1 v2 : Value} {D1 D2 : List Int} {r1 r2 : Value} (h : DR w v kb A n cap k B v1 v2 D1 D2 r1 r2) : DR w v.drew kb A n cap k B v1 v2 D1 D2 r1 r2 :=
  ⟨⟨h.ok.at_, h.ok.bytes, h.ok.small, h.ok.old⟩, ⟨h.box.lt, h.box.c0, h.box.c1, h.box.f0, h.box.f1⟩, ⟨h.res.lt, h.res.c0, h.res.c1, h.res.f0, h.res.f1⟩, ⟨h.rows.r1, h.rows.r2, h.rows.ne⟩, h.bel.drew, h.kb1, h.old⟩
theorem DR.store {w v : World} {kb : Nat} {A : Option Addr} {n cap k B : Nat} {v1 v2 : Value} {D1 D2 : List Int} {r1 r2 : Value} (h : DR w v kb A n cap k B v1 v2 D1 D2 r1 r2) : DR w ((v.setCell ⟨w.heap.size, 0, none⟩ v1).setCell ⟨w.heap.size, 1, none⟩ v2) kb A n cap k B v1 v2 D1 D2 v1 v2 := by
  have hk := h.kb1
  have g1 := set_grown v ⟨w.heap.size, 0, none⟩ v1
  have g2 := set_grown (v.setCell ⟨w.heap.size, 0, none⟩ v1) ⟨w.heap.size, 1, none⟩ v2
  have q : ∀ j, some w.heap.size = some j → j < w.heap.size + 2 := fun j hj => by injection hj with hj; omega
  obtain ⟨sd, hat⟩ := h.ok.at_
  have e1 : ((v.setCell ⟨w.heap.size, 0, none⟩ v1).setCell ⟨w.heap.size, 1, none⟩ v2).heap[w.heap.size + 1]? = v.heap[w.heap.size + 1]? := (Below.heap_setCell _ _ _ _ (by simp)).trans (Below.heap_setCell _ _ _ _ (by simp))
  have hbel : Below w.heap.size w ((v.setCell ⟨w.heap.size, 0, none⟩ v1).setCell ⟨w.heap.size, 1, none⟩ v2) := (h.bel.setCell (by simp) _).setCell (by simp) _
  refine ⟨⟨⟨sd, e1.trans hat⟩, fun hp => ?_, h.ok.small, h.ok.old⟩, (h.box.far (by simp; omega) _).far (by simp; omega) _, (h.res.set0 v1).set1 v2, R2.kept (R2.kept h.rows g1 q) g2 q, hbel, hk, h.old⟩
  obtain ⟨ad, e, hb, hc⟩ := h.ok.bytes hp
  refine ⟨ad, e, hb, fun j hj => ?_⟩
  obtain ⟨z, hz, h0, h1⟩ := hc j hj
  have ho := h.old
  refine ⟨z, ?_, h0, h1⟩
  rw [World.cell?_setCell_other _ _ _ _ (by intro e2; have e3 := congrArg Addr.block e2; rw [Cur.block_add] at e3; simp only at e3; omega), World.cell?_setCell_other _ _ _ _ (by intro e2; have e3 := congrArg Addr.block e2; rw [Cur.block_add] at e3; simp only at e3; omega)]
  exact hz

theorem Ok.newB (w : World) (A : Option Addr) (n cap B : Nat) (hn : n ≤ 1000000) (hA : Bytes w B A n) (hB : B ≤ w.heap.size) :
    Ok (w.alloc (.cells #[.slice A n cap, .int .i64 0, .int .u64 0] 50)) w.heap.size A n cap 0 B := by
  refine ⟨⟨0, heap_alloc_new w _⟩, fun hp => ?_, hn, hB⟩
  obtain ⟨ad, e, hb, hc⟩ := hA hp
  refine ⟨ad, e, hb, fun j hj => ?_⟩
  obtain ⟨z, hz, h0, h1⟩ := hc j hj
  exact ⟨z, (World.grownBy_alloc w _ none).cell hz (by simp), h0, h1⟩
theorem Bytes.alloc {w : World} {B n : Nat} {A : Option Addr} (h : Bytes w B A n) (o : Obj) : Bytes (w.alloc o) B A n := fun hp => by
  obtain ⟨ad, e, hb, hc⟩ := h hp
  refine ⟨ad, e, hb, fun j hj => ?_⟩
  obtain ⟨z, hz, h0, h1⟩ := hc j hj
  exact ⟨z, (World.grownBy_alloc w o none).cell hz (by simp), h0, h1⟩

/-- A calendar and a day are drawn. -/
def dayAns (w : World) (e : Ending) (w' : World) : Prop :=
  ∃ (A1 : Option Addr) (m1 c1 : Nat) (A2 : Option Addr) (m2 c2 : Nat) (D1 D2 : List Int) (d : Int), e = .returned (.tuple #[.agg #[.slice A1 m1 c1, .slice A2 m2 c2], .int .i64 d]) ∧ m1 = D1.length ∧ m2 = D2.length ∧ m1 ≤ 100 ∧ m2 ≤ 100 ∧ AnyDay d ∧
    R2 w.heap.size w' (.slice A1 m1 c1) (.slice A2 m2 c2) D1 D2 ∧ Below w.heap.size w w'

theorem R2.less {S S' : Nat} {w : World} {v1 v2 : Value} {D1 D2 : List Int} (h : R2 S w v1 v2 D1 D2) (hs : S' ≤ S) : R2 S' w v1 v2 D1 D2 := ⟨own_le h.r1 hs, own_le h.r2 hs, h.ne⟩
theorem R2.cl {S : Nat} {w : World} {A1 : Option Addr} {m1 c1 : Nat} {A2 : Option Addr} {m2 c2 : Nat} {D1 D2 : List Int} (h : R2 S w (.slice A1 m1 c1) (.slice A2 m2 c2) D1 D2) (h1 : m1 = D1.length) (h2 : m2 = D2.length) (l1 : m1 ≤ 100) (l2 : m2 ≤ 100) : Asc.Cl w w.heap.size A1 m1 A2 m2 D1 D2 := by
  subst h1 h2
  exact ⟨rfl, rfl, Asc.At.of_own h.r1 rfl, Asc.At.of_own h.r2 rfl, by omega, by omega⟩

set_option maxHeartbeats 2000000 in
theorem drawBiz (A : Option Addr) (n cap : Nat) (w : World) (hn : n ≤ 1000000) (hA : Bytes w w.heap.size A n) :
    Calls Try.prog 27 #[.slice A n cap] w (dayAns w) := by
  have HO : Hid (Ok ((w.alloc (.cells #[.slice none 0 0, .slice none 0 0] 26)).alloc (.cells #[.slice A n cap, .int .i64 0, .int .u64 0] 50)) (w.heap.size + 1) A n cap 0 w.heap.size) := Lib.hid (by
    have := Ok.newB (w.alloc (.cells #[.slice none 0 0, .slice none 0 0] 26)) A n cap w.heap.size hn (Bytes.alloc hA _) (by simp)
    rwa [World.size_alloc] at this)
  have HR : Hid (Bx w.heap.size ((w.alloc (.cells #[.slice none 0 0, .slice none 0 0] 26)).alloc (.cells #[.slice A n cap, .int .i64 0, .int .u64 0] 50)) (.slice none 0 0) (.slice none 0 0)) := Lib.hid ((Bx.new w _ _ _).alloc _)
  have HB : Hid (Below w.heap.size w ((w.alloc (.cells #[.slice none 0 0, .slice none 0 0] 26)).alloc (.cells #[.slice A n cap, .int .i64 0, .int .u64 0] 50))) := Lib.hid ((Asc.below1 _ _).alloc (by simp) _)
  clear hA
  go_enter Try.func27, Try.ntmps27
  go_wp2_with (go_at_call 38; refine (near4 (w.heap.size + 1) A n cap 0 w.heap.size _ HO.out (by omega)).mono ?_; rintro e w1 ⟨d, k1, rfl, hd, hk1, hok1, hg1⟩; refine Hid.out ?_)
  refine Lib.hid ?_
  have O1 := Lib.hid hok1
  have R1 := Lib.hid (Bx.kept HR.out hg1 (fun e => by injection e with e; omega))
  have B1 := Lib.hid (HB.out.grown hg1 (by simp; omega) (fun j hj => by injection hj with hj; omega))
  have HD := Lib.hid hd
  obtain ⟨d0, d1⟩ := hd
  clear hok1 hg1 HO HR HB
  go_wp2_with (go_at_call 39; refine (anyCalendar (w.heap.size + 1) A n cap k1 w.heap.size d d0 d1 _ O1.out (by omega)).mono ?_; rintro e w2 ⟨A1, _, c1, A2, _, c2, D1, D2, k2, rfl, rfl, rfl, l1, l2, hk2, hok2, hr2, hg2⟩; refine Hid.out ?_)
  refine Lib.hid ?_
  have P2 : Hid (DR w (w2.alloc (.cells #[.slice A1 D1.length c1, .slice A2 D2.length c2] 26)) w2.heap.size A n cap k2 w.heap.size (.slice A1 D1.length c1) (.slice A2 D2.length c2) D1 D2 (.slice none 0 0) (.slice none 0 0)) := Lib.hid (by
    have hl := O1.out.lt
    have hz := hg2.size
    have b2 := B1.out.grown hg2 (by have := R1.out.lt; omega) (fun j hj => by injection hj with hj; omega)
    exact ⟨hok2.alloc _, Bx.new w2 _ _ _, (Bx.kept R1.out hg2 (fun e => by injection e with e; omega)).alloc _, R2.kept (R2.less hr2 (by omega)) (World.grownBy_alloc w2 _ none) (fun j hj => by cases hj), b2.alloc (by have := b2.size; omega) _, by omega, Nat.le_refl _⟩)
  have HM := Lib.hid (And.intro l1 l2)
  clear hok2 hr2 hg2 l1 l2 O1 R1 B1
  go_wp2_with (go_at_call 49; refine (one 20 (by omega) (by omega) (w.heap.size + 1) A n cap k2 w.heap.size _ P2.out.ok (by omega)).mono ?_; rintro e w3 ⟨f, k3, rfl, hk3, hok3, hg3⟩; refine Hid.out ?_)
  refine Lib.hid ?_
  have P3 := Lib.hid (P2.out.grown hok3 hg3)
  clear hok3 hg3 P2
  cases f
  · have FN := Lib.hid P3.out.store
    obtain ⟨_, t0, t1, t2, t3⟩ := P3.out.res
    obtain ⟨_, u0, u1, _, _⟩ := P3.out.box
    go_wp2_with fail
    obtain ⟨_, s0, s1, _, _⟩ := FN.out.res
    exact bodyPost_ret (v := .tuple #[.agg #[.slice A1 D1.length c1, .slice A2 D2.length c2], .int .i64 d]) (by simp [results, Try.results27, go_sem, s0, s1]) rfl ⟨A1, _, c1, A2, _, c2, D1, D2, d, rfl, rfl, rfl, HM.out.1, HM.out.2, ⟨by omega, by omega⟩, R2.less FN.out.rows (by omega), FN.out.bel⟩
  · go_wp2_with (go_at_call 50; refine (anyDay (w.heap.size + 1) A n cap k3 w.heap.size _ P3.out.ok (by omega)).mono ?_; rintro e w4 ⟨z, k4, rfl, hz, hk4, hok4, hg4⟩; refine Hid.out ?_)
    refine Lib.hid ?_
    have P4 := Lib.hid (P3.out.grown hok4 hg4)
    have HZ := Lib.hid hz
    clear hok4 hg4 P3 hz
    have FN := Lib.hid P4.out.store
    obtain ⟨_, t0, t1, t2, t3⟩ := P4.out.res
    obtain ⟨_, u0, u1, _, _⟩ := P4.out.box
    go_wp2_with fail
    obtain ⟨_, s0, s1, _, _⟩ := FN.out.res
    exact bodyPost_ret (v := .tuple #[.agg #[.slice A1 D1.length c1, .slice A2 D2.length c2], .int .i64 z]) (by simp [results, Try.results27, go_sem, s0, s1]) rfl ⟨A1, _, c1, A2, _, c2, D1, D2, z, rfl, rfl, rfl, HM.out.1, HM.out.2, HZ.out, R2.less FN.out.rows (by omega), FN.out.bel⟩

end Go.Proofs.Ytglpkanegehcbaa.Draw4D
