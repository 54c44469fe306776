/-
  What the laws' helpers szCalendar, toCalendar and eqCalendar do; a block of two cells.
-/
import Derived.Test.YtglpkanegehcbaaAsc
import Derived.OneCell
import Derived.Deep.RegionHeld3
namespace Go.Proofs.Ytglpkanegehcbaa.CalLaw
open Go.RowKit Go.Proofs.Ytglpkanegehcbaa.IRow Go.Proofs.Ytglpkanegehcbaa.Cal Go.Proofs.Ytglpkanegehcbaa.Biz Go.Proofs.Ytglpkanegehcbaa.Asc

/-- A block of two cells. -/
structure Bx (k : Nat) (w : World) (a b : Value) : Prop where
  lt : k < w.heap.size
  c0 : w.cell? ⟨k, 0, none⟩ = some a
  c1 : w.cell? ⟨k, 1, none⟩ = some b
  f0 : w.frozen? ⟨k, 0, none⟩ = false
  f1 : w.frozen? ⟨k, 1, none⟩ = false
theorem Bx.below {k B : Nat} {w w' : World} {a b : Value} (h : Bx k w a b) (hb : Below B w w') (hB : k < B) : Bx k w' a b :=
  ⟨Nat.lt_of_lt_of_le h.lt hb.size, (hb.cell (p := ⟨k, 0, none⟩) hB).trans h.c0, (hb.cell (p := ⟨k, 1, none⟩) hB).trans h.c1, (hb.frozen (p := ⟨k, 0, none⟩) hB).trans h.f0, (hb.frozen (p := ⟨k, 1, none⟩) hB).trans h.f1⟩
theorem Bx.on {k : Nat} {w w' : World} {a b : Value} (h : Bx k w a b) (hb : Below w.heap.size w w') : Bx k w' a b := h.below hb h.lt
theorem Bx.new (w : World) (a b : Value) (T : TypeId) : Bx w.heap.size (w.alloc (.cells #[a, b] T)) a b :=
  ⟨by simp, by simp [go_sem], by simp [go_sem], by simp [go_sem], by simp [go_sem]⟩
theorem Bx.alloc {k : Nat} {w : World} {a b : Value} (h : Bx k w a b) (o : Obj) : Bx k (w.alloc o) a b := h.on (below1 _ _)
theorem Bx.set0 {k : Nat} {w : World} {a b : Value} (h : Bx k w a b) (x : Value) : Bx k (w.setCell ⟨k, 0, none⟩ x) x b :=
  ⟨by rw [World.size_setCell]; exact h.lt, World.cell?_setCell_same w _ _ h.c0, (World.cell?_setCell_other w _ _ _ (by simp)).trans h.c1, by simp [h.f0], by simp [h.f1]⟩
theorem Bx.set1 {k : Nat} {w : World} {a b : Value} (h : Bx k w a b) (x : Value) : Bx k (w.setCell ⟨k, 1, none⟩ x) a x :=
  ⟨by rw [World.size_setCell]; exact h.lt, (World.cell?_setCell_other w _ _ _ (by simp)).trans h.c0, World.cell?_setCell_same w _ _ h.c1, by simp [h.f0], by simp [h.f1]⟩
theorem Bx.far {k : Nat} {w : World} {a b : Value} (h : Bx k w a b) {p : Addr} (hp : p.block ≠ k) (v : Value) : Bx k (w.setCell p v) a b :=
  have hne : ∀ i : Nat, p ≠ ⟨k, i, none⟩ := fun i e => hp (by rw [e])
  ⟨by rw [World.size_setCell]; exact h.lt, (World.cell?_setCell_other w _ _ _ (hne 0)).trans h.c0, (World.cell?_setCell_other w _ _ _ (hne 1)).trans h.c1, by simp [h.f0], by simp [h.f1]⟩

theorem own_below {B : Nat} {e : TypeId} {k : Nat} {v : Value} {n : Nat} {xs : List Value} {w w' : World} (h : w.ownsRow B e k v n xs) (hb : Below w.heap.size w w') : w'.ownsRow B e k v n xs :=
  h.kept (row := none) ⟨hb.os, hb.tape, hb.output, hb.size, fun j hj _ => hb.block j hj⟩ (by cases hv : v.ownBlock <;> simp)
theorem own_le {w : World} {base base' size n : Nat} {e : TypeId} {v : Value} {xs : List Value} (h : w.ownsRow base e size v n xs) (hb : base' ≤ base) : w.ownsRow base' e size v n xs := by
  obtain ⟨h1, h2⟩ := h
  refine ⟨h1, ?_⟩
  rcases h2 with h2 | ⟨g, cap, cur, hv, hg, r⟩
  · exact .inl h2
  · exact .inr ⟨g, cap, cur, hv, by omega, r⟩

theorem szI (A : Option Addr) (n c : Nat) (m : Nat) (hm : m ≤ 1048576) (hn : n ≤ maxLen) (w : World) :
    Calls Try.prog 42 #[.slice A n c, .int .i64 m] w fun e w' => e = .returned (.int .i64 (if m < n then -1 else ((m - n : Nat) : Int))) ∧ w = w' := by
  unfold maxLen at hn
  by_cases h : m < n
  · rw [if_pos h]
    go_enter Try.func42, Try.ntmps42
    go_wp2
    go_ret
    exact ⟨rfl, rfl⟩
  · rw [if_neg h]
    go_enter Try.func42, Try.ntmps42
    go_wp2
    go_ret
    refine ⟨congrArg (fun z => Ending.returned (.int .i64 z)) ?_, rfl⟩
    omega

set_option maxHeartbeats 1000000 in
theorem szNo (A1 A2 : Option Addr) (n1 c1 n2 c2 m : Nat) (hm : m ≤ 1048576) (h1 : n1 ≤ maxLen) (h2 : n2 ≤ maxLen) (h : m < n1 + n2) (w : World) :
    Calls Try.prog 18 #[.agg #[.slice A1 n1 c1, .slice A2 n2 c2], .int .i64 m] w fun e w' => e = .returned (.int .i64 (-1)) ∧ w.alloc (.cells #[.slice A1 n1 c1, .slice A2 n2 c2] 37) = w' := by
  have H1 := Lib.hid (fun w => szI A1 n1 c1 m hm h1 w)
  by_cases g : m < n1
  · rw [if_pos g] at H1
    go_enter Try.func18, Try.ntmps18
    go_wp2_with (go_at_call 42; refine (H1.out _).mono ?_; rintro e w' ⟨rfl, rfl⟩)
    go_ret
    exact ⟨rfl, rfl⟩
  · rw [if_neg g] at H1
    have H2 := Lib.hid (fun w => szI A2 n2 c2 (m - n1) (by omega) h2 w)
    rw [if_pos (show m - n1 < n2 by omega)] at H2
    generalize m - n1 = x at *
    clear h1 h2
    go_enter Try.func18, Try.ntmps18
    go_wp2_with (go_at_call 42; refine (H1.out _).mono ?_; rintro e w' ⟨rfl, rfl⟩; refine Hid.out ?_)
    refine Lib.hid ?_
    go_wp2_with (go_at_call 42; refine (H2.out _).mono ?_; rintro e w' ⟨rfl, rfl⟩)
    go_ret
    exact ⟨rfl, rfl⟩

set_option maxHeartbeats 1000000 in
theorem szYes (A1 A2 : Option Addr) (n1 c1 n2 c2 m : Nat) (hm : m ≤ 1048576) (h : n1 + n2 ≤ m) (w : World) :
    Calls Try.prog 18 #[.agg #[.slice A1 n1 c1, .slice A2 n2 c2], .int .i64 m] w fun e w' => e = .returned (.int .i64 ((m - (n1 + n2) : Nat) : Int)) ∧ w.alloc (.cells #[.slice A1 n1 c1, .slice A2 n2 c2] 37) = w' := by
  have H1 := Lib.hid (fun w => szI A1 n1 c1 m hm (by unfold maxLen; omega) w)
  rw [if_neg (show ¬ m < n1 by omega)] at H1
  have H2 := Lib.hid (fun w => szI A2 n2 c2 (m - n1) (by omega) (by unfold maxLen; omega) w)
  rw [if_neg (show ¬ m - n1 < n2 by omega), show m - n1 - n2 = m - (n1 + n2) by omega] at H2
  generalize m - (n1 + n2) = y at *
  generalize m - n1 = x at *
  clear h
  go_enter Try.func18, Try.ntmps18
  go_wp2_with (go_at_call 42; refine (H1.out _).mono ?_; rintro e w' ⟨rfl, rfl⟩; refine Hid.out ?_)
  refine Lib.hid ?_
  go_wp2_with (go_at_call 42; refine (H2.out _).mono ?_; rintro e w' ⟨rfl, rfl⟩)
  go_ret
  exact ⟨rfl, rfl⟩

/-- A calendar of new rows. -/
structure New (B : Nat) (w : World) (b1 n1 b2 n2 : Nat) (we ho : List Int) : Prop where
  o1 : w.ownsRow B 3 1 (.slice (some ⟨b1, 0, none⟩) n1 n1) n1 (we.map (Value.int .i64))
  o2 : w.ownsRow B 3 1 (.slice (some ⟨b2, 0, none⟩) n2 n2) n2 (ho.map (Value.int .i64))
  ne : b1 < b2
  l1 : n1 = we.length
  l2 : n2 = ho.length
  m1 : n1 ≤ 1048576
  m2 : n2 ≤ 1048576
theorem New.cl {B : Nat} {w : World} {b1 n1 b2 n2 : Nat} {we ho : List Int} (h : New B w b1 n1 b2 n2 we ho) : Cl w w.heap.size (some ⟨b1, 0, none⟩) n1 (some ⟨b2, 0, none⟩) n2 we ho :=
  ⟨h.l1, h.l2, At.of_own h.o1 h.l1, At.of_own h.o2 h.l2, h.m1, h.m2⟩
theorem New.on {B : Nat} {w w' : World} {b1 n1 b2 n2 : Nat} {we ho : List Int} (h : New B w b1 n1 b2 n2 we ho) (hb : Below w.heap.size w w') : New B w' b1 n1 b2 n2 we ho :=
  ⟨own_below h.o1 hb, own_below h.o2 hb, h.ne, h.l1, h.l2, h.m1, h.m2⟩

set_option maxHeartbeats 2000000 in
theorem toC (A1 A2 : Option Addr) (n1 c1 n2 c2 : Nat) (we ho : List Int) (w : World) (h1 : n1 = we.length) (h2 : n2 = ho.length) (m1 : n1 ≤ 1048576) (m2 : n2 ≤ 1048576) (r1 : Is w w.heap.size A1 we) (r2 : Is w w.heap.size A2 ho) :
    Calls Try.prog 20 #[.agg #[.slice A1 n1 c1, .slice A2 n2 c2]] w fun e w' => ∃ b1 b2, e = .returned (.agg #[.slice (some ⟨b1, 0, none⟩) n1 n1, .slice (some ⟨b2, 0, none⟩) n2 n2]) ∧ New w.heap.size w' b1 n1 b2 n2 we ho ∧ Below w.heap.size w w' := by
  have HN1 := Lib.hid h1
  have HN2 := Lib.hid h2
  have R1 := Lib.hid r1
  have R2 := Lib.hid r2
  clear h1 h2 r1 r2
  obtain ⟨w0, hw0⟩ : ∃ w0, w0 = ((w.alloc (.cells #[.slice A1 n1 c1, .slice A2 n2 c2] 37)).alloc (.cells #[.slice none 0 0, .slice none 0 0] 26)).alloc (.cells #[.slice none 0 0, .slice none 0 0] 26) := ⟨_, rfl⟩
  have s0 : w.heap.size + 3 ≤ w0.heap.size := by rw [hw0]; simp
  have B0 : Hid (Below w.heap.size w w0) := Lib.hid (by rw [hw0]; exact ((below1 _ _).alloc (by simp) _).alloc (by simp; omega) _)
  have X0 : Hid (Bx w.heap.size w0 (.slice A1 n1 c1) (.slice A2 n2 c2)) := Lib.hid (by rw [hw0]; exact ((Bx.new w _ _ _).alloc _).alloc _)
  have Y0 : Hid (Bx (w.heap.size + 1) w0 (.slice none 0 0) (.slice none 0 0)) := Lib.hid (by rw [hw0]; have := (Bx.new (w.alloc (.cells #[.slice A1 n1 c1, .slice A2 n2 c2] 37)) (.slice none 0 0) (.slice none 0 0) 26).alloc (.cells #[.slice none 0 0, .slice none 0 0] 26); simpa using this)
  have Z0 : Hid (Bx (w.heap.size + 2) w0 (.slice none 0 0) (.slice none 0 0)) := Lib.hid (by rw [hw0]; have := Bx.new ((w.alloc (.cells #[.slice A1 n1 c1, .slice A2 n2 c2] 37)).alloc (.cells #[.slice none 0 0, .slice none 0 0] 26)) (.slice none 0 0) (.slice none 0 0) 26; simpa using this)
  have H0 := Lib.hid hw0
  clear hw0
  have Q1 : Hid (∀ w, w = w0 → Calls Try.prog 43 #[.slice A1 n1 c1] w fun e w' =>
      e = .returned (.slice (some ⟨w0.heap.size, 0, none⟩) n1 n1) ∧ w'.ownsRow w0.heap.size 3 1 (.slice (some ⟨w0.heap.size, 0, none⟩) n1 n1) n1 (we.map (Value.int .i64)) ∧ Below w0.heap.size w0 w') :=
    Lib.hid (fun w hw => by subst hw; exact toI A1 n1 c1 we w HN1.out m1 ((R1.out.below B0.out).more B0.out.size))
  go_enter Try.func20, Try.ntmps20
  go_wp2_with (go_at_call 43; refine (Q1.out _ H0.out.symm).mono ?_; rintro e w1 ⟨rfl, own1, hb1⟩; refine Hid.out ?_)
  refine Lib.hid ?_
  have O1 := Lib.hid own1
  have B1 := Lib.hid hb1
  have X1 := Lib.hid (X0.out.on hb1)
  have Y1 := Lib.hid (Y0.out.on hb1)
  have Z1 := Lib.hid (Z0.out.on hb1)
  have s1 : w0.heap.size + 1 ≤ w1.heap.size := (own1.lt w0.heap.size rfl).2
  have Z2 := Lib.hid (Z1.out.set0 (.slice (some ⟨w0.heap.size, 0, none⟩) n1 n1))
  have X2 := Lib.hid (X1.out.far (p := ⟨w.heap.size + 2, 0, none⟩) (by simp) (.slice (some ⟨w0.heap.size, 0, none⟩) n1 n1))
  have BW : Hid (Below w.heap.size w (w1.setCell ⟨w.heap.size + 2, 0, none⟩ (.slice (some ⟨w0.heap.size, 0, none⟩) n1 n1))) := Lib.hid ((B0.out.trans (hb1.mono (by omega))).setCell (by simp) _)
  have Q2 := Lib.hid (toI A2 n2 c2 ho (w1.setCell ⟨w.heap.size + 2, 0, none⟩ (.slice (some ⟨w0.heap.size, 0, none⟩) n1 n1)) HN2.out m2 ((R2.out.below BW.out).more BW.out.size))
  obtain ⟨_, z0, z1, z2, z3⟩ := Z1.out
  obtain ⟨_, x0, x1, _, _⟩ := X2.out
  clear own1 hb1
  go_wp2_with (go_at_call 43; refine Q2.out.mono ?_; rintro e w2 ⟨rfl, own2, hb2⟩; refine Hid.out ?_)
  refine Lib.hid ?_
  have e1 : (w1.setCell ⟨w.heap.size + 2, 0, none⟩ (.slice (some ⟨w0.heap.size, 0, none⟩) n1 n1)).heap.size = w1.heap.size := World.size_setCell _ _ _
  rw [e1] at own2 hb2
  have O2 := Lib.hid own2
  have Z3 := Lib.hid (Z2.out.below hb2 (by omega))
  have Y3 := Lib.hid ((Y1.out.far (p := ⟨w.heap.size + 2, 0, none⟩) (by simp) (.slice (some ⟨w0.heap.size, 0, none⟩) n1 n1)).below hb2 (by omega))
  have BW2 : Hid (Below w.heap.size w w2) := Lib.hid (BW.out.trans (hb2.mono (by omega)))
  have O3 : Hid (w2.ownsRow w0.heap.size 3 1 (.slice (some ⟨w0.heap.size, 0, none⟩) n1 n1) n1 (we.map (Value.int .i64))) :=
    Lib.hid (own_below (ownsRow_setCell_below O1.out (a := ⟨w.heap.size + 2, 0, none⟩) (by simp; omega) _) (by rw [e1]; exact hb2))
  have Z4 := Lib.hid (Z3.out.set1 (.slice (some ⟨w1.heap.size, 0, none⟩) n2 n2))
  have Y4 := Lib.hid (Y3.out.far (p := ⟨w.heap.size + 2, 1, none⟩) (by simp) (.slice (some ⟨w1.heap.size, 0, none⟩) n2 n2))
  have Y5 := Lib.hid ((Y4.out.set0 (.slice (some ⟨w0.heap.size, 0, none⟩) n1 n1)).set1 (.slice (some ⟨w1.heap.size, 0, none⟩) n2 n2))
  have HE : Hid (New w.heap.size (((w2.setCell ⟨w.heap.size + 2, 1, none⟩ (.slice (some ⟨w1.heap.size, 0, none⟩) n2 n2)).setCell ⟨w.heap.size + 1, 0, none⟩ (.slice (some ⟨w0.heap.size, 0, none⟩) n1 n1)).setCell ⟨w.heap.size + 1, 1, none⟩ (.slice (some ⟨w1.heap.size, 0, none⟩) n2 n2)) w0.heap.size n1 w1.heap.size n2 we ho) := Lib.hid
    ⟨own_le (ownsRow_setCell_below (ownsRow_setCell_below (ownsRow_setCell_below O3.out (a := ⟨w.heap.size + 2, 1, none⟩) (by simp; omega) _) (a := ⟨w.heap.size + 1, 0, none⟩) (by simp; omega) _) (a := ⟨w.heap.size + 1, 1, none⟩) (by simp; omega) _) (by omega),
     own_le (ownsRow_setCell_below (ownsRow_setCell_below (ownsRow_setCell_below O2.out (a := ⟨w.heap.size + 2, 1, none⟩) (by simp; omega) _) (a := ⟨w.heap.size + 1, 0, none⟩) (by simp; omega) _) (a := ⟨w.heap.size + 1, 1, none⟩) (by simp; omega) _) (by omega),
     by omega, HN1.out, HN2.out, m1, m2⟩
  have HB := Lib.hid (((BW2.out.setCell (p := ⟨w.heap.size + 2, 1, none⟩) (by simp) (.slice (some ⟨w1.heap.size, 0, none⟩) n2 n2)).setCell (p := ⟨w.heap.size + 1, 0, none⟩) (by simp) (.slice (some ⟨w0.heap.size, 0, none⟩) n1 n1)).setCell (p := ⟨w.heap.size + 1, 1, none⟩) (by simp) (.slice (some ⟨w1.heap.size, 0, none⟩) n2 n2))
  clear z0 z1 z2 z3 x0 x1 own2 hb2 e1
  obtain ⟨_, z0, z1, z2, z3⟩ := Z3.out
  obtain ⟨_, v0, v1, v2, v3⟩ := Z4.out
  obtain ⟨_, y0, y1, y2, y3⟩ := Y4.out
  go_wp2_with fail
  obtain ⟨_, t0, t1, _, _⟩ := Y5.out
  exact bodyPost_ret (v := .agg #[.slice (some ⟨w0.heap.size, 0, none⟩) n1 n1, .slice (some ⟨w1.heap.size, 0, none⟩) n2 n2]) (by simp [results, Try.results20, go_sem, t0, t1]) rfl ⟨_, _, rfl, HE.out, HB.out⟩

set_option maxHeartbeats 1000000 in
theorem eqC (A1 A2 A1' A2' : Option Addr) (n1 c1 n2 c2 c1' c2' : Nat) (we ho : List Int) (w : World) (h : Cl w w.heap.size A1 n1 A2 n2 we ho) (h' : Cl w w.heap.size A1' n1 A2' n2 we ho) :
    Calls Try.prog 22 #[.agg #[.slice A1 n1 c1, .slice A2 n2 c2], .agg #[.slice A1' n1 c1', .slice A2' n2 c2']] w fun e w' => e = .returned (.bool true) ∧ Below w.heap.size w w' := by
  have b2 : Below w.heap.size w ((w.alloc (.cells #[.slice A1 n1 c1, .slice A2 n2 c2] 26)).alloc (.cells #[.slice A1' n1 c1', .slice A2' n2 c2'] 26)) := (below1 _ _).alloc (by simp) _
  have H := Lib.hid (h.below b2)
  have H' := Lib.hid (h'.below b2)
  have B2 := Lib.hid b2
  have HM1 := Lib.hid h.m1
  have HM2 := Lib.hid h.m2
  clear h h' b2
  go_enter Try.func22, Try.ntmps22
  go_wp2_with (go_at_call 45; refine (eqI A1 A1' n1 c1 c1' w.heap.size we _ H.out.l1 (by have := HM1.out; omega) H.out.r1.is H'.out.r1.is).mono ?_; rintro e w' ⟨rfl, q, rfl⟩; refine Hid.out ?_)
  refine Lib.hid ?_
  go_wp2_with (go_at_call 45; refine (eqI A2 A2' n2 c2 c2' w.heap.size ho _ H.out.l2 (by have := HM2.out; omega) (H.out.r2.is.below (below_drewN (Below.refl _ _) _)) (H'.out.r2.is.below (below_drewN (Below.refl _ _) _))).mono ?_; rintro e w' ⟨rfl, q', rfl⟩)
  go_ret
  exact ⟨rfl, below_drewN B2.out _⟩

end Go.Proofs.Ytglpkanegehcbaa.CalLaw
