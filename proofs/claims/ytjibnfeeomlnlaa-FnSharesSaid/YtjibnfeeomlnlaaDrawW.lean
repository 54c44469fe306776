/-
  What the draws of an amount and of weights return, whatever the code.
-/
import Derived.Test.YtjibnfeeomlnlaaCurInt
import Derived.Test.YtjibnfeeomlnlaaShareSpec
import Derived.Deep.LoopGhost
namespace Go.Proofs.Ytjibnfeeomlnlaa.DrawW
open Go.RowKit Go.Proofs.Ytjibnfeeomlnlaa.Cur Go.Proofs.Ytjibnfeeomlnlaa.IRow Go.Proofs.Ytjibnfeeomlnlaa.ShareSpec
set_option linter.unusedVariables false
set_option linter.unusedSimpArgs false

/-- An int within d is drawn. -/
def numAns (d : Int) (c g : Nat) (A : Option Addr) (n cap k B : Nat) (w : World) (e : Ending) (w' : World) : Prop :=
  ∃ (z : Int) (k' : Nat), e = .returned (.int .i64 z) ∧ -d ≤ z ∧ z ≤ d ∧ k' ≤ k + c ∧ Cur.Ok w' g A n cap k' B ∧ w.grownBy w' (some g)

set_option maxHeartbeats 2000000 in
theorem amount (g : Nat) (A : Option Addr) (n cap k B : Nat) (w : World) (h : Cur.Ok w g A n cap k B) (hk : k ≤ 999990) :
    Calls Try.prog 11 #[.pointer (some ⟨g, 0, none⟩)] w (numAns 1000000001 4 g A n cap k B w) := by
  have HH := Lib.hid h
  clear h
  go_enter Try.func11, Try.ntmps11
  go_wp2_with (go_at_call 23; refine (pick 12 (by omega) (by omega) g A n cap k B _ HH.out (by omega)).mono ?_; rintro e w1 ⟨r1, k1, rfl, hr1, hk1, hok1, hg1⟩; refine Hid.out ?_)
  refine Lib.hid ?_
  have H1 := Lib.hid (And.intro hok1 hg1)
  have N1 : Hid (w1.heap.size ≠ g) := Lib.hid (by have := hok1.lt; omega)
  clear hok1 hg1
  by_cases h0 : r1 = 0
  · have q0 : ((r1 : Int) == 0) = true := by simp <;> omega
    clear h0
    go_wp2_with (go_at_call 24; refine (among w1.heap.size _ 1000000001 4 rfl (by omega) (by omega) g A n cap k1 B _ (H1.out.1.alloc _) (by omega) (heap_alloc_new w1 _) N1.out (by intro v hv; simp at hv; rcases hv with h | h | h | h <;> exact ⟨_, h, by omega, by omega⟩)).mono ?_; rintro e w2 ⟨z2, k2, rfl, hz2, hy2, hk2, hok2, hg2⟩)
    go_ret
    exact ⟨z2, k2, rfl, hz2, hy2, by omega, hok2, grow2 H1.out.2 (grow2 (World.grownBy_alloc w1 _ _) hg2)⟩
  · have q0 : ((r1 : Int) == 0) = false := by simp <;> omega
    by_cases h1 : r1 = 1
    · have q1 : ((r1 : Int) == 1) = true := by simp <;> omega
      clear h0 h1
      go_wp2_with (go_at_call 23; refine (pick 2000 (by omega) (by omega) g A n cap k1 B w1 H1.out.1 (by omega)).mono ?_; rintro e w2 ⟨r2, k2, rfl, hr2, hk2, hok2, hg2⟩)
      go_ret
      exact ⟨-(r2 : Int), k2, rfl, by omega, by omega, by omega, hok2, grow2 H1.out.2 hg2⟩
    · have q1 : ((r1 : Int) == 1) = false := by simp <;> omega
      by_cases h2 : r1 = 2
      · have q2 : ((r1 : Int) == 2) = true := by simp <;> omega
        clear h0 h1 h2
        go_wp2_with (go_at_call 23; refine (pick 60000 (by omega) (by omega) g A n cap k1 B w1 H1.out.1 (by omega)).mono ?_; rintro e w2 ⟨r2, k2, rfl, hr2, hk2, hok2, hg2⟩)
        go_ret
        exact ⟨(r2 : Int) * 101, k2, rfl, by omega, by omega, by omega, hok2, grow2 H1.out.2 hg2⟩
      · have q2 : ((r1 : Int) == 2) = false := by simp <;> omega
        clear h0 h1 h2
        go_wp2_with (go_at_call 23; refine (pick 2000 (by omega) (by omega) g A n cap k1 B w1 H1.out.1 (by omega)).mono ?_; rintro e w2 ⟨r2, k2, rfl, hr2, hk2, hok2, hg2⟩)
        go_ret
        exact ⟨(r2 : Int), k2, rfl, by omega, by omega, by omega, hok2, grow2 H1.out.2 hg2⟩

/-- The cursor, and a row of ints that grows beside it. -/
structure P (w wr : World) (g : Nat) (A : Option Addr) (n cap k B : Nat) (v : Value) (D : List Int) : Prop where
  ok : Ok wr g A n cap k B
  row : wr.ownsRow w.heap.size 3 1 v D.length (D.map (Value.int .i64))
  gr : w.grownBy wr (some g)
  lt : g < w.heap.size

theorem P.slice {w wr : World} {g : Nat} {A : Option Addr} {n cap k B : Nat} {v : Value} {D : List Int} (h : P w wr g A n cap k B v D) : ∃ a c, v = .slice a D.length c := by
  rcases h.row.2 with ⟨hv, h0⟩ | ⟨g', c, cur, hv, _⟩
  · exact ⟨none, 0, by rw [hv, h0]⟩
  · exact ⟨_, c, hv⟩

theorem P.own {w wr : World} {g : Nat} {A : Option Addr} {n cap k B : Nat} {v : Value} {D : List Int} (h : P w wr g A n cap k B v D) : ∀ j, v.ownBlock = some j → w.heap.size ≤ j ∧ g < j := fun j hj => by
  have h1 := (h.row.lt j hj).1
  have h2 := h.lt
  exact ⟨h1, by omega⟩

theorem Ok.kept {w w' : World} {g : Nat} {A : Option Addr} {n cap k B : Nat} {row : Option Nat} (h : Ok w g A n cap k B) (hg : w.grownBy w' row) (hr : ∀ j, row = some j → g < j) : Ok w' g A n cap k B := by
  obtain ⟨sd, hat⟩ := h.at_
  refine ⟨⟨sd, (hg.block g hat.lt (fun e => by have := hr g e.symm; omega)).trans hat⟩, fun hp => ?_, h.small, h.old⟩
  obtain ⟨ad, e, hb, hc⟩ := h.bytes hp
  refine ⟨ad, e, hb, fun j hj => ?_⟩
  obtain ⟨z, hz, h0, h1⟩ := hc j hj
  exact ⟨z, hg.cell hz (by rw [Cur.block_add]; intro e2; have h3 := hr _ e2.symm; have := h.old; omega), h0, h1⟩

theorem P.cur {w wr w' : World} {g : Nat} {A : Option Addr} {n cap k k' B : Nat} {v : Value} {D : List Int} (h : P w wr g A n cap k B v D) (hok : Ok w' g A n cap k' B) (hg : wr.grownBy w' (some g)) : P w w' g A n cap k' B v D :=
  ⟨hok, h.row.kept hg (by
    by_cases e : v.ownBlock = none
    · exact .inl e
    · refine .inr fun e2 => ?_
      have := (h.own g e2).2
      omega), grow2 h.gr hg, h.lt⟩

theorem grow_row {a b c : World} {g : Nat} {row : Option Nat} (h : a.grownBy b (some g)) (k : b.grownBy c row) (hr : ∀ j, row = some j → a.heap.size ≤ j) : a.grownBy c (some g) :=
  ⟨k.os.trans h.os, k.tape.trans h.tape, k.output.trans h.output, Nat.le_trans h.size k.size, fun j hj hne => (k.block j (Nat.lt_of_lt_of_le hj h.size) (fun e => by have := hr j e.symm; omega)).trans (h.block j hj hne)⟩

theorem P.app {w wr w1 : World} {g : Nat} {A : Option Addr} {n cap k B : Nat} {v v' : Value} {D : List Int} {q : Int} {o : Obj} (h : P w wr g A n cap k B v D)
    (hown' : w1.ownsRow w.heap.size 3 1 v' (D.length + 1) (D.map (Value.int .i64) ++ [.int .i64 q])) (hg : (wr.alloc o).grownBy w1 v.ownBlock) : P w w1 g A n cap k B v' (D ++ [q]) :=
  ⟨Ok.kept (h.ok.alloc o) hg (fun j hj => (h.own j hj).2), by simpa using hown', grow_row (grow2 h.gr (World.grownBy_alloc wr o _)) hg (fun j hj => (h.own j hj).1), h.lt⟩

theorem P.lit {w wr : World} {g : Nat} {A : Option Addr} {n cap k B : Nat} {v : Value} {D : List Int} (h : P w wr g A n cap k B v D) (D' : List Int) (hl : D'.length ≤ 100) :
    P w (wr.alloc (.cells (D'.map (Value.int .i64)).toArray 3)) g A n cap k B (.slice (some ⟨wr.heap.size, 0, none⟩) D'.length D'.length) D' := by
  refine ⟨h.ok.alloc _, ?_, grow2 h.gr (World.grownBy_alloc wr _ _), h.lt⟩
  have hs := h.gr.size
  refine ⟨by simp, .inr ⟨wr.heap.size, D'.length, _, rfl, hs, heap_alloc_new wr _, Nat.le_refl _, by unfold maxLen; omega, by simp, by simp only [List.toList_toArray, Nat.mul_one]; rw [List.take_of_length_le (by simp)]⟩⟩

theorem P.start {w : World} {g : Nat} {A : Option Addr} {n cap k B : Nat} (h : Ok w g A n cap k B) : P w (w.alloc (.cells #[] 3)) g A n cap k B (.slice (some ⟨w.heap.size, 0, none⟩) 0 0) [] :=
  ⟨h.alloc _, ⟨by simp, .inr ⟨w.heap.size, 0, #[], rfl, Nat.le_refl _, heap_alloc_new w _, Nat.le_refl _, by unfold maxLen; omega, by simp, by simp⟩⟩, World.grownBy_alloc w _ _, h.lt⟩

/-- Some weights are drawn. -/
def wAns (c g : Nat) (A : Option Addr) (n cap k B : Nat) (w : World) (e : Ending) (w' : World) : Prop :=
  ∃ (v : Value) (D : List Int) (k' : Nat), e = .returned v ∧ D.length ≤ 50 ∧ k' ≤ k + c ∧ P w w' g A n cap k' B v D

set_option maxHeartbeats 4000000 in
theorem weights (g : Nat) (A : Option Addr) (n cap k B : Nat) (w : World) (h : Ok w g A n cap k B) (hk : k ≤ 999000) :
    Calls Try.prog 12 #[.pointer (some ⟨g, 0, none⟩)] w (wAns 200 g A n cap k B w) := by
  have HP := Lib.hid (P.start h)
  clear h
  obtain ⟨i0, hi, hz0, hz1, hz2⟩ := info_parts infoInt
  have HZ := Lib.hid (And.intro hi (And.intro hz0 (And.intro hz1 hz2)))
  clear hi hz0 hz1 hz2
  go_enter Try.func12, Try.ntmps12
  go_wp2_with (go_at_call 23; refine (pick 5 (by omega) (by omega) g A n cap k B _ HP.out.ok (by omega)).mono ?_; rintro e w1 ⟨r, k1, rfl, hr, hk1, hok, hg⟩; refine Hid.out ?_)
  refine Lib.hid ?_
  have P1 := Lib.hid (HP.out.cur hok hg)
  clear hok hg HP
  go_wp2_with fail
  go_loopw [3, 4] (fun l i wr => ∃ (j q : Nat) (D : List Int), j ≤ 5 ∧ i = .int .i64 j ∧ D.length + j ≤ 5 ∧ q + 2 * j ≤ k + 12 ∧ Hid (P w wr g A n cap q B l D)) (fun _ i _ => (intOf i).toNat)
  case atStart => exact ⟨1 + r, k1, [], by omega, by go_num, by simp; omega, by omega, P1⟩
  case round =>
    clear P1
    obtain ⟨j, q, D, hj, rfl, hD, hq, HQ⟩ := hrel
    by_cases hlt : 0 < j
    · have hj0 : (0 : Int) < (j : Int) := by omega
      go_wp2_with (go_at_call 23; refine (pick 6 (by omega) (by omega) g A n cap q B _ HQ.out.ok (by omega)).mono ?_; rintro e w2 ⟨r2, k2, rfl, hr2, hk2, hok2, hg2⟩; refine Hid.out ?_)
      refine Lib.hid ?_
      have P2 := Lib.hid (HQ.out.cur hok2 hg2)
      clear hok2 hg2
      go_wp2_with (at_builtin; refine wpList_append_own _ rfl _ _ 24 rfl w.heap.size 3 i0 (.int .i64 0) 1 8 Try.underlying24 HZ.out.1 HZ.out.2.1 HZ.out.2.2.1 HZ.out.2.2.2 rfl (by decide) _ _ _ rfl (P2.out.row.alloc _) ⟨w2.heap.size, 0, none⟩ 1 1 [.int .i64 (r2 : Int)] rfl rfl (cell_one_new _ _ _) (one_int _) (by unfold maxLen; omega) (by omega) (by have := P2.out.gr.size; simp; omega) ?_; intro v' w3 hown' hgrow _; refine Hid.out ?_)
      refine Lib.hid ?_
      have P3 := Lib.hid (P2.out.app (q := (r2 : Int)) hown' hgrow)
      clear hown' hgrow
      go_wp2_with fail
      go_roundw
      case rel => exact ⟨j - 1, k2, D ++ [(r2 : Int)], by omega, by go_num, by simp; omega, by omega, P3⟩
      case measure => simp [intOf]; omega
    · have hj0 : j = 0 := by omega
      subst hj0
      clear hlt
      go_wp2_with (go_at_call 23; refine (pick 16 (by omega) (by omega) g A n cap q B _ HQ.out.ok (by omega)).mono ?_; rintro e w2 ⟨r2, k2, rfl, hr2, hk2, hok2, hg2⟩; refine Hid.out ?_)
      refine Lib.hid ?_
      have P2 := Lib.hid (HQ.out.cur hok2 hg2)
      clear hok2 hg2 HQ
      have N2 : Hid (w2.heap.size ≠ g) := Lib.hid (by have := P2.out.ok.lt; omega)
      by_cases h0 : r2 = 0
      · subst h0
        have P3 := Lib.hid (P2.out.lit [] (by simp))
        go_wp2_with fail
        go_ret
        exact ⟨_, [], k2, rfl, by simp, by omega, P3.out⟩
      · have q0 : ((r2 : Int) == 0) = false := by simp <;> omega
        by_cases h1 : r2 = 1
        · subst h1
          clear h0 q0
          go_wp2_with fail
          go_loopg [3] 22 (fun mm l wr => ∃ (q : Nat) (D : List Int), 22 ≤ D.length + mm ∧ D.length ≤ 21 ∧ q ≤ k + 20 + 4 * D.length ∧ Hid (P w wr g A n cap q B l D))
          case atStart => exact ⟨k2, D, by omega, by omega, by omega, P2⟩
          case round =>
            clear P2 N2
            obtain ⟨q, D, hm, hD, hq, HQ⟩ := hrel
            obtain ⟨a, c, rfl⟩ := HQ.out.slice
            go_wp2_with (go_at_call 23; refine (pick 2 (by omega) (by omega) g A n cap q B _ HQ.out.ok (by omega)).mono ?_; rintro e w3 ⟨r3, k3, rfl, hr3, hk3, hok3, hg3⟩; refine Hid.out ?_)
            refine Lib.hid ?_
            have P3 := Lib.hid (HQ.out.cur hok3 hg3)
            clear hok3 hg3 HQ
            by_cases hlt : D.length < 20 + r3
            · have hl2 : (D.length : Int) < 20 + (r3 : Int) := by omega
              go_wp2_with (go_at_call 23; refine (pick 9 (by omega) (by omega) g A n cap k3 B _ P3.out.ok (by omega)).mono ?_; rintro e w4 ⟨r4, k4, rfl, hr4, hk4, hok4, hg4⟩; refine Hid.out ?_)
              refine Lib.hid ?_
              have P4 := Lib.hid (P3.out.cur hok4 hg4)
              clear hok4 hg4 P3
              go_wp2_with (at_builtin; refine wpList_append_own _ rfl _ _ 24 rfl w.heap.size 3 i0 (.int .i64 0) 1 8 Try.underlying24 HZ.out.1 HZ.out.2.1 HZ.out.2.2.1 HZ.out.2.2.2 rfl (by decide) _ _ _ rfl (P4.out.row.alloc _) ⟨w4.heap.size, 0, none⟩ 1 1 [.int .i64 (r4 : Int)] rfl rfl (cell_one_new _ _ _) (one_int _) (by unfold maxLen; omega) (by omega) (by have := P4.out.gr.size; simp; omega) ?_; intro v' w5 hown' hgrow _; refine Hid.out ?_)
              refine Lib.hid ?_
              have P5 := Lib.hid (P4.out.app (q := (r4 : Int)) hown' hgrow)
              clear hown' hgrow P4
              go_wp2_with fail
              go_roundg (gk - 1)
              case measure => omega
              case rel => exact ⟨k4, D ++ [(r4 : Int)], by simp; omega, by simp; omega, by simp; omega, P5⟩
            · have hl2 : ¬ (D.length : Int) < 20 + (r3 : Int) := by omega
              go_wp2_with fail
              go_ret
              exact ⟨_, D, k3, rfl, by omega, by omega, P3.out⟩
        · have q1 : ((r2 : Int) == 1) = false := by simp <;> omega
          by_cases h2 : r2 = 2
          · subst h2
            clear h0 h1 q0 q1
            go_wp2_with (go_at_call 24; refine (among w2.heap.size _ 2000000 4 rfl (by omega) (by omega) g A n cap k2 B _ (P2.out.ok.alloc _) (by omega) (heap_alloc_new w2 _) N2.out (by intro v hv; simp at hv; rcases hv with h | h | h | h <;> exact ⟨_, h, by omega, by omega⟩)).mono ?_; rintro e w3 ⟨z3, k3, rfl, hz3, hy3, hk3, hok3, hg3⟩; refine Hid.out ?_)
            refine Lib.hid ?_
            have P3 := Lib.hid ((P2.out.cur (P2.out.ok.alloc _) (World.grownBy_alloc w2 _ _)).cur hok3 hg3)
            clear hok3 hg3 P2
            go_wp2_with (at_builtin; refine wpList_append_own _ rfl _ _ 24 rfl w.heap.size 3 i0 (.int .i64 0) 1 8 Try.underlying24 HZ.out.1 HZ.out.2.1 HZ.out.2.2.1 HZ.out.2.2.2 rfl (by decide) _ _ _ rfl (P3.out.row.alloc _) ⟨w3.heap.size, 0, none⟩ 1 1 [.int .i64 z3] rfl rfl (cell_one_new _ _ _) (one_int _) (by unfold maxLen; omega) (by omega) (by have := P3.out.gr.size; simp; omega) ?_; intro v' w4 hown' hgrow _; refine Hid.out ?_)
            refine Lib.hid ?_
            have P4 := Lib.hid (P3.out.app (q := z3) hown' hgrow)
            clear hown' hgrow P3
            go_wp2_with fail
            go_ret
            exact ⟨_, D ++ [z3], k3, rfl, by simp; omega, by omega, P4.out⟩
          · have q2 : ((r2 : Int) == 2) = false := by simp <;> omega
            by_cases h3 : r2 = 3
            · subst h3
              clear h0 h1 h2 q0 q1 q2
              have P3 := Lib.hid (P2.out.lit [0, 0] (by simp))
              go_wp2_with fail
              go_ret
              exact ⟨_, [0, 0], k2, rfl, by simp, by omega, P3.out⟩
            · have q3 : ((r2 : Int) == 3) = false := by simp <;> omega
              clear h0 h1 h2 h3
              go_wp2_with fail
              go_ret
              exact ⟨_, D, k2, rfl, by omega, by omega, P2.out⟩

/-- An amount and some weights are drawn. -/
def dAns (w : World) (e : Ending) (w' : World) : Prop :=
  ∃ (t : Int) (v : Value) (D : List Int), e = .returned (.tuple #[.int .i64 t, v]) ∧ -1000000001 ≤ t ∧ t ≤ 1000000001 ∧ D.length ≤ 50 ∧ w'.ownsRow w.heap.size 3 1 v D.length (D.map (Value.int .i64)) ∧ Below w.heap.size w w'

set_option maxHeartbeats 2000000 in
theorem drawShare (A : Option Addr) (n cap : Nat) (w : World) (hn : n ≤ 65536) (hA : Bytes w w.heap.size A n) :
    Calls Try.prog 6 #[.slice A n cap] w (dAns w) := by
  have HO := Lib.hid (Ok.new w A n cap (by omega) hA)
  clear hA
  go_enter Try.func6, Try.ntmps6
  go_wp2_with (go_at_call 11; refine (amount w.heap.size A n cap 0 w.heap.size _ HO.out (by omega)).mono ?_; rintro e w1 ⟨z, k1, rfl, h0, h1, hk1, hok1, hg1⟩; refine Hid.out ?_)
  refine Lib.hid ?_
  have H1 := Lib.hid (And.intro hok1 hg1)
  clear hok1 hg1
  go_wp2_with (go_at_call 12; refine (weights w.heap.size A n cap k1 w.heap.size _ H1.out.1 (by omega)).mono ?_; rintro e w2 ⟨v, D, k2, rfl, hD, hk2, HP⟩)
  go_ret2
  have hs : w.heap.size ≤ w1.heap.size := by have := H1.out.2.size; simp at this; omega
  refine ⟨z, v, D, rfl, h0, h1, hD, ⟨HP.row.1, ?_⟩, below_cur (grow2 H1.out.2 HP.gr)⟩
  rcases HP.row.2 with h1 | ⟨g, c, cur, h1, h2, h3⟩
  · exact .inl h1
  · exact .inr ⟨g, c, cur, h1, by omega, h3⟩

theorem vBigNo (A : Option Addr) (n cap : Nat) (w : World) (h : n ≤ 65536) :
    Calls Try.prog 5 #[.slice A n cap] w fun e w' => e = .returned (.bool false) ∧ w = w' := by
  go_enter Try.func5, Try.ntmps5
  go_wp2
  go_ret
  exact ⟨by simp; omega, rfl⟩

theorem vBigYes (A : Option Addr) (n cap : Nat) (w : World) (h : 65536 < n) (hm : n ≤ maxLen) :
    Calls Try.prog 5 #[.slice A n cap] w fun e w' => e = .returned (.bool true) ∧ w = w' := by
  unfold maxLen at hm
  go_enter Try.func5, Try.ntmps5
  go_wp2
  go_ret
  exact ⟨by simp; omega, rfl⟩

end Go.Proofs.Ytjibnfeeomlnlaa.DrawW
