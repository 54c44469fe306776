/-
  What the draws of FnMonths return, whatever the code.
-/
import Derived.Test.YtjibnfeeomlnlaaDoorCurDay
import Derived.Test.YtjibnfeeomlnlaaDoorMonths
import Derived.Test.YtjibnfeeomlnlaaDoorNth
import Derived.Deep.RegionHeld3
namespace Go.Proofs.YtjibnfeeomlnlaaDoor.DrawMon
open Go.RowKit Go.Proofs.YtjibnfeeomlnlaaDoor.Cur Go.Proofs.YtjibnfeeomlnlaaDoor.Cal Go.Proofs.YtjibnfeeomlnlaaDoor.Tab Go.Proofs.YtjibnfeeomlnlaaDoor.Wd Go.Proofs.YtjibnfeeomlnlaaDoor.Len Go.Proofs.YtjibnfeeomlnlaaDoor.Valid Go.Proofs.YtjibnfeeomlnlaaDoor.DayOf Go.Proofs.YtjibnfeeomlnlaaDoor.DateOf Go.Proofs.YtjibnfeeomlnlaaDoor.CurDay
set_option linter.unusedVariables false
set_option linter.unusedSimpArgs false

theorem grow_below {w0 w w' : World} {r : Option Nat} {N : Nat} (h : w0.grownBy w r) (hb : Below N w w') (hN : w0.heap.size ≤ N) : w0.grownBy w' r :=
  ⟨hb.os.trans h.os, hb.tape.trans h.tape, hb.output.trans h.output, Nat.le_trans h.size hb.size, fun k hk hne => (hb.block k (by omega)).trans (h.block k hk hne)⟩

theorem okBelow {w w' : World} {g : Nat} {A : Option Addr} {n cap k B N : Nat} (h : Cur.Ok w g A n cap k B) (hN : g < N) (hb : Below N w w') : Cur.Ok w' g A n cap k B := by
  obtain ⟨sd, hat⟩ := h.at_
  have ho := h.old
  refine ⟨⟨sd, (hb.block g hN).trans hat⟩, fun hp => ?_, h.small, h.old⟩
  obtain ⟨ad, e, hlt, hc⟩ := h.bytes hp
  refine ⟨ad, e, hlt, fun j hj => ?_⟩
  obtain ⟨z, hz, h0, h1⟩ := hc j hj
  exact ⟨z, (hb.cell (by rw [Cur.block_add]; omega)).trans hz, h0, h1⟩

theorem boxGrown {k g : Nat} {w w' : World} {a b c : Int} (h : Box k w a b c) (hg : w.grownBy w' (some g)) (hne : k ≠ g) : Box k w' a b c := by
  have e : w'.heap[k]? = w.heap[k]? := hg.block k h.lt (fun e => hne (by injection e))
  exact ⟨Nat.lt_of_lt_of_le h.lt hg.size, (World.cell?_of_block (w := w) e).trans h.c0, (World.cell?_of_block (w := w) e).trans h.c1, (World.cell?_of_block (w := w) e).trans h.c2,
    (World.frozen?_of_block (w := w) e).trans h.f0, (World.frozen?_of_block (w := w) e).trans h.f1, (World.frozen?_of_block (w := w) e).trans h.f2⟩

/-- What may be drawn for a number of months. -/
def Mon (z : Int) : Prop := -5000 ≤ z ∧ z ≤ 5000
instance (z : Int) : Decidable (Mon z) := inferInstanceAs (Decidable (_ ∧ _))

set_option maxHeartbeats 2000000 in
theorem drawAdd (A : Option Addr) (n cap : Nat) (w : World) (hn : n ≤ 1000000) (hA : Bytes w w.heap.size A n) :
    Calls Tryd.prog 22 #[.slice A n cap] w fun e w' => ∃ z k : Int, e = .returned (.tuple #[.int .i64 z, .int .i64 k]) ∧ AnyDay z ∧ Mon k ∧ Below w.heap.size w w' := by
  have HO := Lib.hid (Ok.new w A n cap hn hA)
  clear hA
  go_enter Tryd.func22, Tryd.ntmps22
  go_wp2_with (go_at_call 38; refine (anyDay w.heap.size A n cap 0 w.heap.size _ HO.out (by omega)).mono ?_; rintro e w1 ⟨z, k1, rfl, h0, hk1, hok1, hg1⟩; refine Hid.out ?_)
  refine Lib.hid ?_
  have H1 := Lib.hid (And.intro hok1 hg1)
  have HZ := Lib.hid h0
  clear hok1 hg1 h0
  go_wp2_with (go_at_call 47; refine (pick 60 (by omega) (by omega) w.heap.size A n cap k1 w.heap.size w1 H1.out.1 (by omega)).mono ?_; rintro e w2 ⟨r2, k2, rfl, hr2, hk2, hok2, hg2⟩; refine Hid.out ?_)
  refine Lib.hid ?_
  have H2 := Lib.hid (And.intro hok2 (grow2 H1.out.2 hg2))
  clear hok2 hg2 H1
  go_wp2_with (go_at_call 47; refine (pick 1300 (by omega) (by omega) w.heap.size A n cap k2 w.heap.size w2 H2.out.1 (by omega)).mono ?_; rintro e w3 ⟨r3, k3, rfl, hr3, hk3, hok3, hg3⟩; refine Hid.out ?_)
  refine Lib.hid ?_
  have H3 := Lib.hid (And.intro hok3 (grow2 H2.out.2 hg3))
  have N3 : Hid (w3.heap.size ≠ w.heap.size) := Lib.hid (by have := hok3.lt; omega)
  clear hok3 hg3 H2
  go_wp2_with (go_at_call 46; refine (amongP Mon w3.heap.size _ 11 rfl (by omega) (by omega) w.heap.size A n cap k3 w.heap.size _ (H3.out.1.alloc _) (by omega) (heap_alloc_new w3 _) N3.out (by intro v hv; simp at hv; rcases hv with h | h | h | h | h | h | h | h | h | h | h <;> exact ⟨_, h, by first | decide | exact ⟨by omega, by omega⟩⟩)).mono ?_; rintro e w4 ⟨z4, k4, rfl, hz4, hk4, hok4, hg4⟩)
  go_ret2
  exact ⟨z, z4, rfl, HZ.out, hz4, below_cur (grow2 H3.out.2 (grow2 (World.grownBy_alloc w3 _ _) hg4))⟩

/-- A date is drawn. -/
def dateAns (c g : Nat) (A : Option Addr) (n cap k B : Nat) (w : World) (e : Ending) (w' : World) : Prop :=
  ∃ (y m d : Int) (k' : Nat), e = .returned (.agg #[.int .i64 y, .int .i64 m, .int .i64 d]) ∧ k' ≤ k + c ∧ Ok w' g A n cap k' B ∧ w.grownBy w' (some g)

theorem l3DateAt (z Y M D : Int) (h : Day z) (e1 : yr z = Y) (e2 : mo z = M) (e3 : da z = D) (w : World) :
    Calls Tryd.prog 51 #[.int .i64 z] w fun e w' => e = .returned (.agg #[.int .i64 Y, .int .i64 M, .int .i64 D]) ∧ Below w.heap.size w w' := by subst e1 e2 e3; exact l3Date z h w

/-- The date of a block, stored into the result's. -/
theorem done {S L g : Nat} {A : Option Addr} {n cap k B : Nat} {w w4 : World} {y m d : Int} (hS : S = w.heap.size) (hg : g < S) (hR : Box S w4 0 0 0) (hL : Box L w4 y m d) (hne : S ≠ L) (ho : Ok w4 g A n cap k B) (hw : w.grownBy w4 (some g)) :
    Box S (((w4.setCell ⟨S, 0, none⟩ (.int .i64 y)).setCell ⟨S, 1, none⟩ (.int .i64 m)).setCell ⟨S, 2, none⟩ (.int .i64 d)) y m d ∧
    Ok (((w4.setCell ⟨S, 0, none⟩ (.int .i64 y)).setCell ⟨S, 1, none⟩ (.int .i64 m)).setCell ⟨S, 2, none⟩ (.int .i64 d)) g A n cap k B ∧
    w.grownBy (((w4.setCell ⟨S, 0, none⟩ (.int .i64 y)).setCell ⟨S, 1, none⟩ (.int .i64 m)).setCell ⟨S, 2, none⟩ (.int .i64 d)) (some g) := by
  have b : Below S w4 (((w4.setCell ⟨S, 0, none⟩ (.int .i64 y)).setCell ⟨S, 1, none⟩ (.int .i64 m)).setCell ⟨S, 2, none⟩ (.int .i64 d)) :=
    (((Below.refl S w4).setCell (p := ⟨S, 0, none⟩) (Nat.le_refl _) _).setCell (p := ⟨S, 1, none⟩) (Nat.le_refl _) _).setCell (p := ⟨S, 2, none⟩) (Nat.le_refl _) _
  exact ⟨Box.set2 (Box.set1 (Box.set0 hR y) m) d, okBelow ho hg b, grow_below hw b (by omega)⟩

set_option maxHeartbeats 4000000 in
theorem anyDate (g : Nat) (A : Option Addr) (n cap k B : Nat) (w : World) (h : Ok w g A n cap k B) (hk : k ≤ 999980) :
    Calls Tryd.prog 52 #[.pointer (some ⟨g, 0, none⟩)] w (dateAns 8 g A n cap k B w) := by
  have hgl := h.lt
  have HH := Lib.hid (h.alloc (.cells #[.int .i64 0, .int .i64 0, .int .i64 0] 26))
  have R0 := Lib.hid (Box.new w 0 0 0 26)
  clear h
  go_enter Tryd.func52, Tryd.ntmps52
  go_wp2_with (go_at_call 59; refine (day g A n cap k B _ HH.out (by omega)).mono ?_; rintro e w1 ⟨z, k1, rfl, hz, hk1, hok1, hg1⟩; refine Hid.out ?_)
  refine Lib.hid ?_
  have H1 := Lib.hid (And.intro hok1 (grow2 (World.grownBy_alloc w (.cells #[.int .i64 0, .int .i64 0, .int .i64 0] 26) (some g)) hg1))
  have R1 := Lib.hid (boxGrown R0.out hg1 (by omega))
  have hs1 := hg1.size
  obtain ⟨Y, hY⟩ : ∃ Y, yr z = Y := ⟨_, rfl⟩
  obtain ⟨M, hM⟩ : ∃ M, mo z = M := ⟨_, rfl⟩
  obtain ⟨D, hD⟩ : ∃ D, da z = D := ⟨_, rfl⟩
  have HC := Lib.hid (fun w => l3DateAt z Y M D hz hY hM hD w)
  simp only [World.size_alloc] at hs1
  clear hok1 hg1 R0 hz hY hM hD HH
  go_wp2_with (go_at_call 51; refine (HC.out w1).mono ?_; rintro e w2 ⟨rfl, hb2⟩; refine Hid.out ?_)
  refine Lib.hid ?_
  have hs2 := hb2.size
  have HX := Lib.hid (And.intro ((okBelow H1.out.1 (by omega) hb2).alloc (.cells #[.int .i64 Y, .int .i64 M, .int .i64 D] 26)) (grow2 (grow_below H1.out.2 hb2 (by omega)) (World.grownBy_alloc w2 (.cells #[.int .i64 Y, .int .i64 M, .int .i64 D] 26) (some g))))
  have RX := Lib.hid ((R1.out.below hb2).alloc (.cells #[.int .i64 Y, .int .i64 M, .int .i64 D] 26))
  have LX := Lib.hid (Box.new w2 Y M D 26)
  clear hb2 H1 R1 HC
  go_wp2_with (go_at_call 47; refine (pick 12 (by omega) (by omega) g A n cap k1 B _ HX.out.1 (by omega)).mono ?_; rintro e w3 ⟨r3, k3, rfl, hr3, hk3, hok3, hg3⟩; refine Hid.out ?_)
  refine Lib.hid ?_
  have H3 := Lib.hid (And.intro hok3 (grow2 HX.out.2 hg3))
  have R3 := Lib.hid (boxGrown RX.out hg3 (by omega))
  have L3 := Lib.hid (boxGrown LX.out hg3 (by omega))
  have hs3 := hg3.size
  simp only [World.size_alloc] at hs3
  have N3 : Hid (w3.heap.size ≠ g) := Lib.hid (by omega)
  have NE : Hid (w.heap.size ≠ w2.heap.size) := Lib.hid (by omega)
  generalize w2.heap.size = L at *
  clear hok3 hg3 HX RX LX
  rcases Nat.lt_or_ge r3 3 with hr | hr
  · have hrr : r3 = 0 ∨ r3 = 1 ∨ r3 = 2 := by omega
    clear hr hr3
    rcases hrr with rfl | rfl | rfl
    · go_wp2_with (go_at_call 46; refine (amongP Mon w3.heap.size _ 6 rfl (by omega) (by omega) g A n cap k3 B _ (H3.out.1.alloc _) (by omega) (heap_alloc_new w3 _) N3.out (by intro v hv; simp at hv; rcases hv with h | h | h | h | h | h <;> exact ⟨_, h, by decide⟩)).mono ?_; rintro e w4 ⟨z4, k4, rfl, hz4, hk4, hok4, hg4⟩; refine Hid.out ?_)
      refine Lib.hid ?_
      have R4 := Lib.hid (boxGrown (R3.out.alloc _) hg4 (by omega))
      have L4 := Lib.hid (boxGrown (L3.out.alloc _) hg4 (by omega))
      obtain ⟨_, b1, b2, b3, b4, b5, b6⟩ := L4.out
      have R5 := Lib.hid (Box.far R4.out (p := ⟨L, 2, none⟩) (by have := NE.out; show L ≠ w.heap.size; omega) (.int .i64 z4))
      have L5 := Lib.hid (Box.set2 L4.out z4)
      have B5 : Hid (Below w.heap.size w4 (w4.setCell ⟨L, 2, none⟩ (.int .i64 z4))) := Lib.hid ((Below.refl _ _).setCell (by show _ ≤ L; omega) _)
      have H5 := Lib.hid (done (S := w.heap.size) rfl hgl R5.out L5.out NE.out (okBelow hok4 hgl B5.out) (grow_below (grow2 H3.out.2 (grow2 (World.grownBy_alloc w3 _ (some g)) hg4)) B5.out (Nat.le_refl _)))
      obtain ⟨_, c1, c2, c3, c4, c5, c6⟩ := L5.out
      obtain ⟨_, r1, r2, r3, r4, r5, r6⟩ := R5.out
      clear hok4 hg4 R4 L4 R3 L3 H3
      go_wp2_with fail
      obtain ⟨⟨_, s1, s2, s3, _, _, _⟩, hok, hgr⟩ := H5.out
      exact bodyPost_ret (v := .agg #[.int .i64 Y, .int .i64 M, .int .i64 z4]) (by simp [results, Tryd.results52, go_sem, s1, s2, s3]) rfl ⟨_, _, _, k4, rfl, by omega, hok, hgr⟩
    · go_wp2_with (go_at_call 46; refine (amongP Mon w3.heap.size _ 4 rfl (by omega) (by omega) g A n cap k3 B _ (H3.out.1.alloc _) (by omega) (heap_alloc_new w3 _) N3.out (by intro v hv; simp at hv; rcases hv with h | h | h | h <;> exact ⟨_, h, by decide⟩)).mono ?_; rintro e w4 ⟨z4, k4, rfl, hz4, hk4, hok4, hg4⟩; refine Hid.out ?_)
      refine Lib.hid ?_
      have R4 := Lib.hid (boxGrown (R3.out.alloc _) hg4 (by omega))
      have L4 := Lib.hid (boxGrown (L3.out.alloc _) hg4 (by omega))
      obtain ⟨_, b1, b2, b3, b4, b5, b6⟩ := L4.out
      have R5 := Lib.hid (Box.far R4.out (p := ⟨L, 1, none⟩) (by have := NE.out; show L ≠ w.heap.size; omega) (.int .i64 z4))
      have L5 := Lib.hid (Box.set1 L4.out z4)
      have B5 : Hid (Below w.heap.size w4 (w4.setCell ⟨L, 1, none⟩ (.int .i64 z4))) := Lib.hid ((Below.refl _ _).setCell (by show _ ≤ L; omega) _)
      have H5 := Lib.hid (done (S := w.heap.size) rfl hgl R5.out L5.out NE.out (okBelow hok4 hgl B5.out) (grow_below (grow2 H3.out.2 (grow2 (World.grownBy_alloc w3 _ (some g)) hg4)) B5.out (Nat.le_refl _)))
      obtain ⟨_, c1, c2, c3, c4, c5, c6⟩ := L5.out
      obtain ⟨_, r1, r2, r3, r4, r5, r6⟩ := R5.out
      clear hok4 hg4 R4 L4 R3 L3 H3
      go_wp2_with fail
      obtain ⟨⟨_, s1, s2, s3, _, _, _⟩, hok, hgr⟩ := H5.out
      exact bodyPost_ret (v := .agg #[.int .i64 Y, .int .i64 z4, .int .i64 D]) (by simp [results, Tryd.results52, go_sem, s1, s2, s3]) rfl ⟨_, _, _, k4, rfl, by omega, hok, hgr⟩
    · go_wp2_with (go_at_call 46; refine (amongP Mon w3.heap.size _ 5 rfl (by omega) (by omega) g A n cap k3 B _ (H3.out.1.alloc _) (by omega) (heap_alloc_new w3 _) N3.out (by intro v hv; simp at hv; rcases hv with h | h | h | h | h <;> exact ⟨_, h, by decide⟩)).mono ?_; rintro e w4 ⟨z4, k4, rfl, hz4, hk4, hok4, hg4⟩; refine Hid.out ?_)
      refine Lib.hid ?_
      have R4 := Lib.hid (boxGrown (R3.out.alloc _) hg4 (by omega))
      have L4 := Lib.hid (boxGrown (L3.out.alloc _) hg4 (by omega))
      obtain ⟨_, b1, b2, b3, b4, b5, b6⟩ := L4.out
      have R5 := Lib.hid (Box.far R4.out (p := ⟨L, 0, none⟩) (by have := NE.out; show L ≠ w.heap.size; omega) (.int .i64 z4))
      have L5 := Lib.hid (Box.set0 L4.out z4)
      have B5 : Hid (Below w.heap.size w4 (w4.setCell ⟨L, 0, none⟩ (.int .i64 z4))) := Lib.hid ((Below.refl _ _).setCell (by show _ ≤ L; omega) _)
      have H5 := Lib.hid (done (S := w.heap.size) rfl hgl R5.out L5.out NE.out (okBelow hok4 hgl B5.out) (grow_below (grow2 H3.out.2 (grow2 (World.grownBy_alloc w3 _ (some g)) hg4)) B5.out (Nat.le_refl _)))
      obtain ⟨_, c1, c2, c3, c4, c5, c6⟩ := L5.out
      obtain ⟨_, r1, r2, r3, r4, r5, r6⟩ := R5.out
      clear hok4 hg4 R4 L4 R3 L3 H3
      go_wp2_with fail
      obtain ⟨⟨_, s1, s2, s3, _, _, _⟩, hok, hgr⟩ := H5.out
      exact bodyPost_ret (v := .agg #[.int .i64 z4, .int .i64 M, .int .i64 D]) (by simp [results, Tryd.results52, go_sem, s1, s2, s3]) rfl ⟨_, _, _, k4, rfl, by omega, hok, hgr⟩
  · have q0 : ((r3 : Int) == 0) = false := by simp <;> omega
    have q1 : ((r3 : Int) == 1) = false := by simp <;> omega
    have q2 : ((r3 : Int) == 2) = false := by simp <;> omega
    clear hr hr3
    have H5 := Lib.hid (done (S := w.heap.size) rfl hgl R3.out L3.out NE.out H3.out.1 H3.out.2)
    obtain ⟨_, c1, c2, c3, c4, c5, c6⟩ := L3.out
    obtain ⟨_, r1, r2, r3, r4, r5, r6⟩ := R3.out
    clear R3 L3 H3
    go_wp2_with fail
    obtain ⟨⟨_, s1, s2, s3, _, _, _⟩, hok, hgr⟩ := H5.out
    exact bodyPost_ret (v := .agg #[.int .i64 Y, .int .i64 M, .int .i64 D]) (by simp [results, Tryd.results52, go_sem, s1, s2, s3]) rfl ⟨_, _, _, k3, rfl, by omega, hok, hgr⟩

/-- The cursor, a date's block, and what has become of the caller's world. -/
structure Good (w : World) (L : Nat) (y m d : Int) (g : Nat) (A : Option Addr) (n cap B : Nat) (v : World) (c : Nat) : Prop where
  ok : ∃ k, k ≤ c ∧ Ok v g A n cap k B
  box : Box L v y m d
  grown : w.grownBy v (some g)
  ne : L ≠ g

theorem Good.drew {w : World} {L : Nat} {y m d : Int} {g : Nat} {A : Option Addr} {n cap B : Nat} {v : World} {c : Nat} (h : Good w L y m d g A n cap B v c) : Good w L y m d g A n cap B v.drew c :=
  have b : Below v.heap.size v v.drew := (Below.refl _ _).drew
  ⟨let ⟨k, hk, ho⟩ := h.ok; ⟨k, hk, okBelow ho ho.lt b⟩, h.box.below b, grow_below h.grown b h.grown.size, h.ne⟩
theorem Good.alloc {w : World} {L : Nat} {y m d : Int} {g : Nat} {A : Option Addr} {n cap B : Nat} {v : World} {c : Nat} (h : Good w L y m d g A n cap B v c) (o : Obj) : Good w L y m d g A n cap B (v.alloc o) c :=
  ⟨let ⟨k, hk, ho⟩ := h.ok; ⟨k, hk, ho.alloc o⟩, h.box.alloc o, grow2 h.grown (World.grownBy_alloc v o _), h.ne⟩

theorem drewNew (X : World) (o : Obj) : (X.alloc o).drew.heap[X.heap.size]? = some o := heap_alloc_new X o
theorem newDrew (X : World) (o : Obj) : (X.drew.alloc o).heap[X.heap.size]? = some o := heap_alloc_new X.drew o

theorem Good.sz {w : World} {L : Nat} {y m d : Int} {g : Nat} {A : Option Addr} {n cap B : Nat} {v : World} {c : Nat} (h : Good w L y m d g A n cap B v c) : v.heap.size ≠ g := by
  obtain ⟨k, _, ho⟩ := h.ok
  have := ho.lt
  omega

theorem pickG {w : World} {L : Nat} {y m d : Int} {g : Nat} {A : Option Addr} {n cap B : Nat} {v : World} {c : Nat} (h : Good w L y m d g A n cap B v c) (x : Int) (h1 : 1 ≤ x) (h2 : x ≤ 1000) (hk : c ≤ 999990) :
    Calls Tryd.prog 47 #[.pointer (some ⟨g, 0, none⟩), .int .i64 x] v fun e v' => ∃ r : Nat, e = .returned (.int .i64 (r : Int)) ∧ (r : Int) < x ∧ Good w L y m d g A n cap B v' (c + 2) ∧ ∀ j o, v.heap[j]? = some o → j ≠ g → v'.heap[j]? = some o := by
  obtain ⟨k, hkc, ho⟩ := h.ok
  refine (pick x h1 (by omega) g A n cap k B v ho (by omega)).mono fun e v' ⟨r, k', he, hr, hk', hok, hg⟩ => ⟨r, he, hr, ⟨⟨k', by omega, hok⟩, boxGrown h.box hg h.ne, grow2 h.grown hg, h.ne⟩, fun j o hj hne => ?_⟩
  exact (hg.block j (Array.getElem?_eq_some_iff.1 hj).1 (fun e => hne (by injection e))).trans hj

theorem amongG {w : World} {L : Nat} {y m d : Int} {g : Nat} {A : Option Addr} {n cap B : Nat} {v : World} {c : Nat} (h : Good w L y m d g A n cap B v c) (P : Int → Prop) (l : Nat) (cs : Array Value) (q : Nat) (hq : q = cs.size) (h1 : 1 ≤ q) (h2 : q ≤ 1000) (hk : c ≤ 999990)
    (hL : v.heap[l]? = some (.cells cs 3 (0, 0))) (hne : l ≠ g) (hs : ∀ v ∈ cs.toList, ∃ z : Int, v = .int .i64 z ∧ P z) :
    Calls Tryd.prog 46 #[.pointer (some ⟨g, 0, none⟩), .slice (some ⟨l, 0, none⟩) q q] v fun e v' => ∃ z : Int, e = .returned (.int .i64 z) ∧ P z ∧ Good w L y m d g A n cap B v' (c + 2) := by
  obtain ⟨k, hkc, ho⟩ := h.ok
  exact (amongP P l cs q hq h1 h2 g A n cap k B v ho (by omega) hL hne hs).mono fun e v' ⟨z, k', he, hz, hk', hok, hg⟩ => ⟨z, he, hz, ⟨k', by omega, hok⟩, boxGrown h.box hg h.ne, grow2 h.grown hg, h.ne⟩

set_option maxRecDepth 100000 in
set_option maxHeartbeats 4000000 in
theorem drawNth (A : Option Addr) (n cap : Nat) (w : World) (hn : n ≤ 1000000) (hA : Bytes w w.heap.size A n) :
    Calls Tryd.prog 27 #[.slice A n cap] w fun e w' => ∃ y m d k : Int, e = .returned (.tuple #[.int .i64 y, .int .i64 m, .int .i64 d, .int .i64 k]) ∧ Mon k ∧ Below w.heap.size w w' := by
  have HO := Lib.hid (Ok.new w A n cap hn hA)
  clear hA
  go_enter Tryd.func27, Tryd.ntmps27
  go_wp2_with (go_at_call 52; refine (anyDate w.heap.size A n cap 0 w.heap.size _ HO.out (by omega)).mono ?_; rintro e w1 ⟨y, m, d, k1, rfl, hk1, hok1, hg1⟩; refine Hid.out ?_)
  refine Lib.hid ?_
  have NL : Hid (w1.heap.size ≠ w.heap.size) := Lib.hid (by have := hok1.lt; omega)
  have G0 : Hid (Good (w.alloc (.cells #[.slice A n cap, .int .i64 0, .int .u64 0] 54)) w1.heap.size y m d w.heap.size A n cap w.heap.size (w1.alloc (.cells #[.int .i64 y, .int .i64 m, .int .i64 d] 26)) 8) :=
    Lib.hid ⟨⟨k1, by omega, hok1.alloc _⟩, Box.new w1 y m d _, grow2 hg1 (World.grownBy_alloc w1 _ _), NL.out⟩
  have NX : Hid ((w1.alloc (.cells #[.int .i64 y, .int .i64 m, .int .i64 d] 26)).heap.size ≠ w.heap.size) := Lib.hid (by have := hok1.lt; simp; omega)
  clear hok1 hg1 HO
  go_wp2_with fail
  have KX : Hid (∀ v c, Good (w.alloc (.cells #[.slice A n cap, .int .i64 0, .int .u64 0] 54)) w1.heap.size y m d w.heap.size A n cap w.heap.size v c → v.cell? ⟨w1.heap.size, 0, none⟩ = some (.int .i64 y) ∧ v.cell? ⟨w1.heap.size, 1, none⟩ = some (.int .i64 m)) := Lib.hid fun v c h => ⟨h.box.c0, h.box.c1⟩
  generalize w1.alloc (.cells #[.int .i64 y, .int .i64 m, .int .i64 d] 26) = X at *
  generalize w1.heap.size = L at *
  replace G0 := G0.out
  have HLIT : Hid (∀ v ∈ (#[.int .i64 1, .int .i64 2, .int .i64 3, .int .i64 4, .int .i64 5, .int .i64 (-1), .int .i64 0, .int .i64 6, .int .i64 5] : Array Value).toList, ∃ z : Int, v = .int .i64 z ∧ Mon z) :=
    Lib.hid (by intro v hv; simp at hv; rcases hv with h | h | h | h | h | h | h | h | h <;> exact ⟨_, h, by decide⟩)
  go_region_held3 (fun v => v.cell? ⟨L, 0, none⟩ = some (.int .i64 y) ∧ v.cell? ⟨L, 1, none⟩ = some (.int .i64 m)) (first
      | (refine KX.out _ 14 ?_; (repeat (first | (with_reducible exact G3) | with_reducible apply Good.drew | with_reducible apply Good.alloc)); done)
      | (refine KX.out _ 12 ?_; (repeat (first | (with_reducible exact G2) | with_reducible apply Good.drew | with_reducible apply Good.alloc)); done)
      | (refine KX.out _ 10 ?_; (repeat (first | (with_reducible exact G1) | with_reducible apply Good.drew | with_reducible apply Good.alloc)); done)
      | (refine KX.out _ 8 ?_; (repeat (first | (with_reducible exact G0) | with_reducible apply Good.drew | with_reducible apply Good.alloc)); done))
    (first
      | (go_at_call 47; (with_reducible refine (pickG (c := 8) (by (repeat (first | (with_reducible exact G0) | with_reducible apply Good.drew | with_reducible apply Good.alloc))) 8 (by omega) (by omega) (by omega)).mono ?_); rintro e v1 ⟨q1, rfl, hq1, G1, K1⟩; have N1 := G1.sz)
      | (go_at_call 47; (with_reducible refine (pickG (c := 10) (by (repeat (first | (with_reducible exact G1) | with_reducible apply Good.drew | with_reducible apply Good.alloc))) 9 (by omega) (by omega) (by omega)).mono ?_); rintro e v2 ⟨q2, rfl, hq2, G2, K2⟩; have N2 := G2.sz)
      | (go_at_call 46; (first | (with_reducible refine (amongG (c := 12) (G2.alloc _) Mon v2.heap.size _ 9 rfl (by omega) (by omega) (by omega) (heap_alloc_new v2 _) N2 HLIT.out).mono ?_) | (with_reducible refine (amongG (c := 12) G2 Mon v1.heap.size _ 9 rfl (by omega) (by omega) (by omega) (K2 _ _ (heap_alloc_new v1 _) N1) N1 HLIT.out).mono ?_) | (with_reducible refine (amongG (c := 12) G2 Mon X.heap.size _ 9 rfl (by omega) (by omega) (by omega) (K2 _ _ (K1 _ _ (drewNew X _) NX.out) NX.out) NX.out HLIT.out).mono ?_) | (with_reducible refine (amongG (c := 12) G2 Mon X.heap.size _ 9 rfl (by omega) (by omega) (by omega) (K2 _ _ (K1 _ _ (newDrew X _) NX.out) NX.out) NX.out HLIT.out).mono ?_) | (with_reducible refine (amongG (c := 12) G2 Mon X.heap.size _ 9 rfl (by omega) (by omega) (by omega) (K2 _ _ (K1 _ _ (heap_alloc_new X _) NX.out) NX.out) NX.out HLIT.out).mono ?_)); rintro e v3 ⟨z3, rfl, hz3, G3⟩))
  all_goals
    go_wp2_with fail
    exact bodyPost_ret (v := .tuple #[.int .i64 y, .int .i64 m, .int .i64 (IntKind.i64.wrap ((q1 : Int) - IntKind.i64.wrap ((q2 : Int) / 8))), .int .i64 z3]) (by simp [results, Tryd.results27, go_sem]) rfl ⟨y, m, _, z3, rfl, hz3, below_cur G3.grown⟩

end Go.Proofs.YtjibnfeeomlnlaaDoor.DrawMon
