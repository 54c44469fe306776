/-
  What the draws of fractions return, whatever the code.
-/
import Derived.Test.YthobejaiapdanaaDoorCurInt
import Derived.Test.YthobejaiapdanaaDoorAddMul
namespace Go.Proofs.YthobejaiapdanaaDoor.DrawFrac
open Go.RowKit Go.Proofs.YthobejaiapdanaaDoor.Cur Go.Proofs.YthobejaiapdanaaDoor.IsFrac
open Go.Proofs.YthobejaiapdanaaDoor.Make Go.Proofs.YthobejaiapdanaaDoor.Red Go.Proofs.YthobejaiapdanaaDoor.Frac

theorem grow_below {w0 w w' : World} {r : Option Nat} {N : Nat} (h : w0.grownBy w r) (hb : Below N w w') (hN : w0.heap.size ≤ N) : w0.grownBy w' r :=
  ⟨hb.os.trans h.os, hb.tape.trans h.tape, hb.output.trans h.output, Nat.le_trans h.size hb.size, fun k hk hne => (hb.block k (by omega)).trans (h.block k hk hne)⟩

theorem okBelow {w w' : World} {g : Nat} {A : Option Addr} {n cap k B N : Nat} (h : Cur.Ok w g A n cap k B) (hN : g < N) (hb : Below N w w') : Cur.Ok w' g A n cap k B := by
  obtain ⟨sd, hat⟩ := h.at_
  have ho := h.old
  refine ⟨⟨sd, (hb.block g hN).trans hat⟩, fun hp => ?_, h.small, h.old⟩
  obtain ⟨ad, e, hlt, hc⟩ := h.bytes hp
  refine ⟨ad, e, hlt, fun j hj => ?_⟩
  obtain ⟨z, hz, h0, h1⟩ := hc j hj
  exact ⟨z, (hb.cell (by rw [Cur.block_add]; omega)).trans hz, h0, h1⟩

theorem oneGrown {k g : Nat} {w w' : World} {a b : Value} (h : One k w a b) (hg : w.grownBy w' (some g)) (hne : k ≠ g) : One k w' a b := by
  have e : w'.heap[k]? = w.heap[k]? := hg.block k h.lt (fun e => hne (by injection e))
  exact ⟨Nat.lt_of_lt_of_le h.lt hg.size, (World.cell?_of_block (w := w) e).trans h.c0, (World.cell?_of_block (w := w) e).trans h.c1,
    (World.frozen?_of_block (w := w) e).trans h.f0, (World.frozen?_of_block (w := w) e).trans h.f1⟩

/-- A fraction is drawn. -/
def fracAns (c g : Nat) (A : Option Addr) (n cap k B : Nat) (w : World) (e : Ending) (w' : World) : Prop :=
  ∃ (x y : Int) (k' : Nat), e = .returned (.agg #[.int .i64 x, .int .i64 y]) ∧ k' ≤ k + c ∧ Cur.Ok w' g A n cap k' B ∧ w.grownBy w' (some g)

set_option maxHeartbeats 2000000 in
theorem fraction (g : Nat) (A : Option Addr) (n cap k B : Nat) (w : World) (h : Cur.Ok w g A n cap k B) (hk : k ≤ 999990) :
    Calls Tryd.prog 64 #[.pointer (some ⟨g, 0, none⟩)] w (fracAns 4 g A n cap k B w) := by
  have hgl := h.lt
  have HH := Lib.hid (h.alloc (.cells #[.int .i64 0, .int .i64 0] 31))
  clear h
  go_enter Tryd.func64, Tryd.ntmps64
  go_wp2_with (go_at_call 53; refine (pick 19 (by omega) (by omega) g A n cap k B _ HH.out (by omega)).mono ?_; rintro e w1 ⟨r1, k1, rfl, hr1, hk1, hok1, hg1⟩; refine Hid.out ?_)
  refine Lib.hid ?_
  have H1 := Lib.hid (And.intro hok1 hg1)
  clear hok1 hg1
  go_wp2_with (go_at_call 53; refine (pick 12 (by omega) (by omega) g A n cap k1 B w1 H1.out.1 (by omega)).mono ?_; rintro e w2 ⟨r2, k2, rfl, hr2, hk2, hok2, hg2⟩; refine Hid.out ?_)
  refine Lib.hid ?_
  have G2 : Hid (w.grownBy w2 (some g)) := Lib.hid (grow2 (grow2 (World.grownBy_alloc w _ _) H1.out.2) hg2)
  have O2 := Lib.hid hok2
  have R2 := Lib.hid (oneGrown (oneGrown (One.new w (.int .i64 0) (.int .i64 0) 31) H1.out.2 (by omega)) hg2 (by omega))
  obtain ⟨rN, hrN⟩ : ∃ x, x = resN ((r1 : Int) - 6) (1 + (r2 : Int)) := ⟨_, rfl⟩
  obtain ⟨rD, hrD⟩ : ∃ x, x = resD ((r1 : Int) - 6) (1 + (r2 : Int)) := ⟨_, rfl⟩
  obtain ⟨rB, hrB⟩ : ∃ x, x = resB ((r1 : Int) - 6) (1 + (r2 : Int)) := ⟨_, rfl⟩
  have HN := Lib.hid hrN
  have HD := Lib.hid hrD
  have HB := Lib.hid hrB
  clear hrN hrD hrB hok2 hg2 H1
  go_wp2_with (go_at_call 51; refine (redAt (ReduceSpec.spec ((r1 : Int) - 6) (1 + (r2 : Int)) (by omega) (by omega) (by omega) (by omega) (by omega) w2) HN.out HD.out HB.out).mono ?_; rintro e w3 ⟨rfl, hw3⟩; refine Hid.out ?_)
  refine Lib.hid ?_
  have hsz := G2.out.size
  have G3 := Lib.hid (grow_below G2.out hw3 hsz)
  have O3 := Lib.hid (okBelow O2.out (by omega) hw3)
  obtain ⟨lR, R0, R1, f0, f1⟩ := R2.out.below hw3
  clear hw3
  go_wp2_with fail
  refine bodyPost_ret (v := .agg #[.int .i64 rN, .int .i64 rD]) (by simp [results, Tryd.results64, go_sem, R0, R1, lR]) rfl ⟨rN, rD, k2, rfl, by omega, ?_, ?_⟩
  · have b : Below w.heap.size w3 _ := ((Below.refl w.heap.size w3).setCell (p := ⟨w.heap.size, 0, none⟩) (Nat.le_refl _) (.int .i64 rN)).setCell (p := ⟨w.heap.size, 1, none⟩) (Nat.le_refl _) (.int .i64 rD)
    exact (okBelow O3.out hgl b).alloc _
  · have b : Below w.heap.size w3 _ := ((Below.refl w.heap.size w3).setCell (p := ⟨w.heap.size, 0, none⟩) (Nat.le_refl _) (.int .i64 rN)).setCell (p := ⟨w.heap.size, 1, none⟩) (Nat.le_refl _) (.int .i64 rD)
    exact grow2 (grow_below G3.out b (Nat.le_refl _)) (World.grownBy_alloc _ _ _)

set_option maxHeartbeats 4000000 in
theorem anyFraction (g : Nat) (A : Option Addr) (n cap k B : Nat) (w : World) (h : Cur.Ok w g A n cap k B) (hk : k ≤ 999980) :
    Calls Tryd.prog 42 #[.pointer (some ⟨g, 0, none⟩)] w (fracAns 8 g A n cap k B w) := by
  have hgl := h.lt
  have HH := Lib.hid (h.alloc (.cells #[.int .i64 0, .int .i64 0] 31))
  clear h
  go_enter Tryd.func42, Tryd.ntmps42
  go_wp2_with (go_at_call 53; refine (pick 16 (by omega) (by omega) g A n cap k B _ HH.out (by omega)).mono ?_; rintro e w1 ⟨r1, k1, rfl, hr1, hk1, hok1, hg1⟩; refine Hid.out ?_)
  refine Lib.hid ?_
  have G1 : Hid (w.grownBy w1 (some g)) := Lib.hid (grow2 (World.grownBy_alloc w _ _) hg1)
  have O1 := Lib.hid hok1
  have R1' := Lib.hid (oneGrown (One.new w (.int .i64 0) (.int .i64 0) 31) hg1 (by omega))
  have hs1 := G1.out.size
  have hsl1 := O1.out.lt
  have N1 : Hid (w1.heap.size ≠ g) := Lib.hid (by omega)
  clear hok1 hg1
  by_cases h0 : r1 = 0
  · have q0 : ((r1 : Int) == 0) = true := by simp <;> omega
    clear h0
    obtain ⟨lR, R0, R1, f0, f1⟩ := R1'.out
    go_wp2_with fail
    refine bodyPost_ret (v := .agg #[.int .i64 2, .int .i64 4]) (by simp [results, Tryd.results42, go_sem, R0, R1]) rfl ⟨2, 4, k1, rfl, by omega, ?_, ?_⟩
    · have b : Below w.heap.size w1 _ := ((Below.refl w.heap.size w1).setCell (p := ⟨w.heap.size, 0, none⟩) (Nat.le_refl _) (.int .i64 2)).setCell (p := ⟨w.heap.size, 1, none⟩) (Nat.le_refl _) (.int .i64 4)
      exact okBelow O1.out hgl b
    · have b : Below w.heap.size w1 _ := ((Below.refl w.heap.size w1).setCell (p := ⟨w.heap.size, 0, none⟩) (Nat.le_refl _) (.int .i64 2)).setCell (p := ⟨w.heap.size, 1, none⟩) (Nat.le_refl _) (.int .i64 4)
      exact grow_below G1.out b (Nat.le_refl _)
  · have q0 : ((r1 : Int) == 0) = false := by simp <;> omega
    by_cases h1 : r1 = 1
    · have q1 : ((r1 : Int) == 1) = true := by simp <;> omega
      clear h0 h1
      go_wp2_with (go_at_call 53; refine (pick 3 (by omega) (by omega) g A n cap k1 B w1 O1.out (by omega)).mono ?_; rintro e w2 ⟨r2, k2, rfl, hr2, hk2, hok2, hg2⟩; refine Hid.out ?_)
      refine Lib.hid ?_
      have G2 := Lib.hid (grow2 G1.out hg2)
      have O2 := Lib.hid hok2
      have R2' := Lib.hid (oneGrown R1'.out hg2 (by omega))
      have N2 : Hid (w2.heap.size ≠ g) := Lib.hid (by have := O2.out.lt; omega)
      clear hok2 hg2
      go_wp2_with (go_at_call 43; refine (among w2.heap.size _ 1000000001 4 rfl (by omega) (by omega) g A n cap k2 B _ (O2.out.alloc _) (by omega) (heap_alloc_new w2 _) N2.out (by intro v hv; simp at hv; rcases hv with h | h | h | h <;> exact ⟨_, h, by omega, by omega⟩)).mono ?_; rintro e w3 ⟨z3, k3, rfl, hz3, hy3, hk3, hok3, hg3⟩; refine Hid.out ?_)
      refine Lib.hid ?_
      have G3 := Lib.hid (grow2 G2.out (grow2 (World.grownBy_alloc w2 _ _) hg3))
      have O3 := Lib.hid hok3
      obtain ⟨lR, R0, R1, f0, f1⟩ := oneGrown (R2'.out.alloc _) hg3 (by omega)
      clear hok3 hg3
      go_wp2_with fail
      refine bodyPost_ret (v := .agg #[.int .i64 (r2 : Int), .int .i64 z3]) (by simp [results, Tryd.results42, go_sem, R0, R1]) rfl ⟨(r2 : Int), z3, k3, rfl, by omega, ?_, ?_⟩
      · have b : Below w.heap.size w3 _ := ((Below.refl w.heap.size w3).setCell (p := ⟨w.heap.size, 0, none⟩) (Nat.le_refl _) (.int .i64 (r2 : Int))).setCell (p := ⟨w.heap.size, 1, none⟩) (Nat.le_refl _) (.int .i64 z3)
        exact okBelow O3.out hgl b
      · have b : Below w.heap.size w3 _ := ((Below.refl w.heap.size w3).setCell (p := ⟨w.heap.size, 0, none⟩) (Nat.le_refl _) (.int .i64 (r2 : Int))).setCell (p := ⟨w.heap.size, 1, none⟩) (Nat.le_refl _) (.int .i64 z3)
        exact grow_below G3.out b (Nat.le_refl _)
    · have q1 : ((r1 : Int) == 1) = false := by simp <;> omega
      by_cases h2 : r1 = 2
      · have q2 : ((r1 : Int) == 2) = true := by simp <;> omega
        clear h0 h1 h2
        go_wp2_with (go_at_call 43; refine (among w1.heap.size _ 1000000001 3 rfl (by omega) (by omega) g A n cap k1 B _ (O1.out.alloc _) (by omega) (heap_alloc_new w1 _) N1.out (by intro v hv; simp at hv; rcases hv with h | h | h <;> exact ⟨_, h, by omega, by omega⟩)).mono ?_; rintro e w2 ⟨z2, k2, rfl, hz2, hy2, hk2, hok2, hg2⟩; refine Hid.out ?_)
        refine Lib.hid ?_
        have G2 := Lib.hid (grow2 G1.out (grow2 (World.grownBy_alloc w1 _ _) hg2))
        have O2 := Lib.hid hok2
        have R2' := Lib.hid (oneGrown (R1'.out.alloc _) hg2 (by omega))
        have N2 : Hid (w2.heap.size ≠ g) := Lib.hid (by have := O2.out.lt; omega)
        clear hok2 hg2
        go_wp2_with (go_at_call 43; refine (among w2.heap.size _ 1000000001 3 rfl (by omega) (by omega) g A n cap k2 B _ (O2.out.alloc _) (by omega) (heap_alloc_new w2 _) N2.out (by intro v hv; simp at hv; rcases hv with h | h | h <;> exact ⟨_, h, by omega, by omega⟩)).mono ?_; rintro e w3 ⟨z3, k3, rfl, hz3, hy3, hk3, hok3, hg3⟩; refine Hid.out ?_)
        refine Lib.hid ?_
        have G3 := Lib.hid (grow2 G2.out (grow2 (World.grownBy_alloc w2 _ _) hg3))
        have O3 := Lib.hid hok3
        obtain ⟨lR, R0, R1, f0, f1⟩ := oneGrown (R2'.out.alloc _) hg3 (by omega)
        clear hok3 hg3
        go_wp2_with fail
        refine bodyPost_ret (v := .agg #[.int .i64 z2, .int .i64 z3]) (by simp [results, Tryd.results42, go_sem, R0, R1]) rfl ⟨z2, z3, k3, rfl, by omega, ?_, ?_⟩
        · have b : Below w.heap.size w3 _ := ((Below.refl w.heap.size w3).setCell (p := ⟨w.heap.size, 0, none⟩) (Nat.le_refl _) (.int .i64 z2)).setCell (p := ⟨w.heap.size, 1, none⟩) (Nat.le_refl _) (.int .i64 z3)
          exact okBelow O3.out hgl b
        · have b : Below w.heap.size w3 _ := ((Below.refl w.heap.size w3).setCell (p := ⟨w.heap.size, 0, none⟩) (Nat.le_refl _) (.int .i64 z2)).setCell (p := ⟨w.heap.size, 1, none⟩) (Nat.le_refl _) (.int .i64 z3)
          exact grow_below G3.out b (Nat.le_refl _)
      · have q2 : ((r1 : Int) == 2) = false := by simp <;> omega
        clear h0 h1 h2
        go_wp2_with (go_at_call 64; refine (fraction g A n cap k1 B w1 O1.out (by omega)).mono ?_; rintro e w2 ⟨x2, y2, k2, rfl, hk2, hok2, hg2⟩; refine Hid.out ?_)
        refine Lib.hid ?_
        have G2 := Lib.hid (grow2 G1.out hg2)
        have O2 := Lib.hid hok2
        obtain ⟨lR, R0, R1, f0, f1⟩ := oneGrown R1'.out hg2 (by omega)
        clear hok2 hg2
        go_wp2_with fail
        refine bodyPost_ret (v := .agg #[.int .i64 x2, .int .i64 y2]) (by simp [results, Tryd.results42, go_sem, R0, R1]) rfl ⟨x2, y2, k2, rfl, by omega, ?_, ?_⟩
        · have b : Below w.heap.size w2 _ := ((Below.refl w.heap.size w2).setCell (p := ⟨w.heap.size, 0, none⟩) (Nat.le_refl _) (.int .i64 x2)).setCell (p := ⟨w.heap.size, 1, none⟩) (Nat.le_refl _) (.int .i64 y2)
          exact okBelow O2.out hgl b
        · have b : Below w.heap.size w2 _ := ((Below.refl w.heap.size w2).setCell (p := ⟨w.heap.size, 0, none⟩) (Nat.le_refl _) (.int .i64 x2)).setCell (p := ⟨w.heap.size, 1, none⟩) (Nat.le_refl _) (.int .i64 y2)
          exact grow_below G2.out b (Nat.le_refl _)

set_option maxHeartbeats 2000000 in
theorem drawAdd (A : Option Addr) (n cap : Nat) (w : World) (hn : n ≤ 1000000) (hA : Bytes w w.heap.size A n) :
    Calls Tryd.prog 20 #[.slice A n cap] w fun e w' => ∃ x y u v : Int, e = .returned (.tuple #[.agg #[.int .i64 x, .int .i64 y], .agg #[.int .i64 u, .int .i64 v]]) ∧ Below w.heap.size w w' := by
  have hA2 : Bytes ((w.alloc (.cells #[.int .i64 0, .int .i64 0] 31)).alloc (.cells #[.int .i64 0, .int .i64 0] 31)) ((w.alloc (.cells #[.int .i64 0, .int .i64 0] 31)).alloc (.cells #[.int .i64 0, .int .i64 0] 31)).heap.size A n := fun hp => by
    obtain ⟨ad, e, hlt, hc⟩ := hA hp
    refine ⟨ad, e, by simp; omega, fun j hj => ?_⟩
    obtain ⟨z, hz, h0, h1⟩ := hc j hj
    exact ⟨z, ((World.grownBy_alloc _ _ none).cell ((World.grownBy_alloc w _ none).cell hz (by simp)) (by simp)), h0, h1⟩
  have HO := Lib.hid (Ok.new ((w.alloc (.cells #[.int .i64 0, .int .i64 0] 31)).alloc (.cells #[.int .i64 0, .int .i64 0] 31)) A n cap hn hA2)
  have es : ((w.alloc (.cells #[.int .i64 0, .int .i64 0] 31)).alloc (.cells #[.int .i64 0, .int .i64 0] 31)).heap.size = w.heap.size + 1 + 1 := by simp
  rw [es] at HO
  clear hA hA2
  go_enter Tryd.func20, Tryd.ntmps20
  go_wp2_with (go_at_call 42; refine (anyFraction (w.heap.size + 1 + 1) A n cap 0 (w.heap.size + 1 + 1) _ HO.out (by omega)).mono ?_; rintro e w1 ⟨x, y, k1, rfl, hk1, hok1, hg1⟩; refine Hid.out ?_)
  refine Lib.hid ?_
  have O1 := Lib.hid hok1
  have RA1 := Lib.hid (oneGrown (((One.new w (.int .i64 0) (.int .i64 0) 31).alloc _).alloc _) hg1 (by omega))
  have h0 := One.new (w.alloc (.cells #[.int .i64 0, .int .i64 0] 31)) (.int .i64 0) (.int .i64 0) 31
  rw [World.size_alloc] at h0
  have RB1 := Lib.hid (oneGrown (h0.alloc _) hg1 (by omega))
  have B1 : Hid (Below w.heap.size w w1) := Lib.hid (((((Below.refl _ _).alloc (Nat.le_refl _) _).alloc (by simp) _).alloc (by simp; omega) _).grown hg1 (by simp; omega) (fun k hk => by injection hk with hk; omega))
  clear hok1 hg1 h0
  go_wp2_with (go_at_call 42; refine (anyFraction (w.heap.size + 1 + 1) A n cap k1 (w.heap.size + 1 + 1) w1 O1.out (by omega)).mono ?_; rintro e w2 ⟨u, v, k2, rfl, hk2, hok2, hg2⟩; refine Hid.out ?_)
  refine Lib.hid ?_
  obtain ⟨lA, A0, A1, fA0, fA1⟩ := oneGrown RA1.out hg2 (by omega)
  obtain ⟨lB, B0, B1', fB0, fB1⟩ := oneGrown RB1.out hg2 (by omega)
  have B2 : Hid (Below w.heap.size w w2) := Lib.hid (B1.out.grown hg2 B1.out.size (fun k hk => by injection hk with hk; omega))
  clear hok2 hg2
  go_wp2_with fail
  exact bodyPost_ret (v := .tuple #[.agg #[.int .i64 x, .int .i64 y], .agg #[.int .i64 u, .int .i64 v]]) (by simp [results, Tryd.results20, go_sem, A0, A1, B0, B1']) rfl ⟨x, y, u, v, rfl, (((B2.out.setCell (Nat.le_refl _) _).setCell (Nat.le_refl _) _).setCell (by simp <;> omega) _).setCell (by simp <;> omega) _⟩

end Go.Proofs.YthobejaiapdanaaDoor.DrawFrac
