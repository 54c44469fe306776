/-
  JoinCalendars: what lies in memory while two calendars are joined.
-/
import Derived.Test.YtglpkanegehcbaaUniI
import Derived.Test.YtglpkanegehcbaaCalLaw
import Derived.Deep.RegionHeld3
namespace Go.Proofs.Ytglpkanegehcbaa.JoinB
open Go.RowKit Go.Proofs.Ytglpkanegehcbaa.IRow Go.Proofs.Ytglpkanegehcbaa.Cal Go.Proofs.Ytglpkanegehcbaa.Biz Go.Proofs.Ytglpkanegehcbaa.Asc Go.Proofs.Ytglpkanegehcbaa.CalLaw Go.Proofs.Ytglpkanegehcbaa.UniMath Go.Proofs.Ytglpkanegehcbaa.UniS Go.Proofs.Ytglpkanegehcbaa.UniC Go.Proofs.Ytglpkanegehcbaa.UniU Go.Proofs.Ytglpkanegehcbaa.UniI
set_option linter.unusedVariables false
set_option linter.unusedSimpArgs false

/-- The two rows of an answer, in blocks of the call's own. -/
def JAns (W H : List Int) (f : Bool) (w : World) (e : Ending) (w' : World) : Prop :=
  ∃ C1 k1 d1 C2 k2 d2, e = .returned (.tuple #[.agg #[.slice C1 k1 d1, .slice C2 k2 d2], .bool f]) ∧ k1 = W.length ∧ k2 = H.length ∧ Own w' w.heap.size (.slice C1 k1 d1) W ∧ Own w' w.heap.size (.slice C2 k2 d2) H ∧
    (∀ j, (Value.slice C1 k1 d1).ownBlock = some j → (Value.slice C2 k2 d2).ownBlock ≠ some j) ∧ Below w.heap.size w w'

theorem validB {A1 A2 : Option Addr} {n1 c1 n2 c2 : Nat} {we ho : List Int} {w : World} (h : Cl w w.heap.size A1 n1 A2 n2 we ho) (hg : GoodC we ho) :
    Calls Try.prog 21 #[.agg #[.slice A1 n1 c1, .slice A2 n2 c2]] w fun e w' => e = .returned (.bool true) ∧ Below w.heap.size w w' :=
  (validYes A1 A2 n1 c1 n2 c2 we ho w w.heap.size h (Nat.le_refl _) hg).mono fun e w' ⟨h1, h2⟩ => ⟨h1, by subst h2; exact below1 _ _⟩
theorem invalidB {A1 A2 : Option Addr} {n1 c1 n2 c2 : Nat} {we ho : List Int} {w : World} (h : Cl w w.heap.size A1 n1 A2 n2 we ho) (hg : ¬ GoodC we ho) :
    Calls Try.prog 21 #[.agg #[.slice A1 n1 c1, .slice A2 n2 c2]] w fun e w' => e = .returned (.bool false) ∧ Below w.heap.size w w' :=
  (validNo A1 A2 n1 c1 n2 c2 we ho w w.heap.size h (Nat.le_refl _) hg).mono fun e w' ⟨h1, h2⟩ => ⟨h1, by subst h2; exact below1 _ _⟩

/-- The boxes of a, b and the result. -/
structure B3 (w : World) (u : World) (x1 x2 y1 y2 z1 z2 : Value) : Prop where
  bel : Below w.heap.size w u
  a : Bx w.heap.size u x1 x2
  b : Bx (w.heap.size + 1) u y1 y2
  r : Bx (w.heap.size + 1 + 1) u z1 z2
theorem B3.on {w u v : World} {x1 x2 y1 y2 z1 z2 : Value} (h : B3 w u x1 x2 y1 y2 z1 z2) (hb : Below u.heap.size u v) : B3 w v x1 x2 y1 y2 z1 z2 :=
  ⟨h.bel.trans (hb.mono h.bel.size), h.a.on hb, h.b.on hb, h.r.on hb⟩
theorem B3.drew {w u : World} {x1 x2 y1 y2 z1 z2 : Value} (h : B3 w u x1 x2 y1 y2 z1 z2) : B3 w u.drew x1 x2 y1 y2 z1 z2 := h.on (Below.refl _ _).drew
theorem B3.alloc {w u : World} {x1 x2 y1 y2 z1 z2 : Value} (h : B3 w u x1 x2 y1 y2 z1 z2) (o : Obj) : B3 w (u.alloc o) x1 x2 y1 y2 z1 z2 := h.on (below1 _ _)
theorem Bx.drew' {k : Nat} {w : World} {a b : Value} (h : Bx k w a b) : Bx k w.drew a b := h.on (Below.refl _ _).drew
theorem own_on {w v : World} {S : Nat} {x : Value} {D : List Int} (h : Own w S x D) (hb : Below w.heap.size w v) : Own v S x D := own_below h hb

theorem B3.put {w u : World} {x1 x2 y1 y2 z1 z2 : Value} {k : Nat} (h : B3 w u x1 x2 y1 y2 z1 z2) (hk : w.heap.size + 1 + 1 < k) (i : Nat) (v : Value) : B3 w (u.setCell ⟨k, i, none⟩ v) x1 x2 y1 y2 z1 z2 :=
  ⟨h.bel.setCell (by show w.heap.size ≤ k; omega) _, h.a.far (by show k ≠ _; omega) _, h.b.far (by show k ≠ _; omega) _, h.r.far (by show k ≠ _; omega) _⟩

theorem B3.new (w : World) (x1 x2 y1 y2 z1 z2 : Value) (T : TypeId) : B3 w (((w.alloc (.cells #[x1, x2] T)).alloc (.cells #[y1, y2] T)).alloc (.cells #[z1, z2] T)) x1 x2 y1 y2 z1 z2 := by
  refine ⟨((below1 _ _).alloc (by simp) _).alloc (by simp; omega) _, ((Bx.new _ _ _ _).alloc _).alloc _, ?_, ?_⟩
  · have := (Bx.new (w.alloc (.cells #[x1, x2] T)) y1 y2 T).alloc (.cells #[z1, z2] T)
    simpa using this
  · have := Bx.new ((w.alloc (.cells #[x1, x2] T)).alloc (.cells #[y1, y2] T)) z1 z2 T
    simpa using this

abbrev nl : Value := .slice none 0 0

/-- Where a row of the call's own lies. -/
theorem own_in {w : World} {S : Nat} {x : Value} {D : List Int} (h : Own w S x D) : ∀ j, x.ownBlock = some j → S ≤ j ∧ j < w.heap.size := fun j hj => by
  rcases h.2 with ⟨hv, _⟩ | ⟨g, c, cur, hv, hS, hh, _⟩
  · subst hv; cases hj
  · subst hv; cases hj; exact ⟨hS, (Array.getElem?_eq_some_iff.1 hh).1⟩

/-- The first row is made; a box at k is there or not. -/
structure S1 (w2 w3 : World) (x : Value) (W : List Int) (J : Option Nat) : Prop where
  h : ∃ S, w2.heap.size ≤ S ∧ S ≤ w3.heap.size ∧ Own w3 S x W ∧ ∀ k, J = some k → w2.heap.size ≤ k ∧ k < S ∧ Bx k w3 nl nl
theorem S1.plain {w2 u w3 : World} {x : Value} {W : List Int} (hu : w2.heap.size ≤ u.heap.size) (hb : Below u.heap.size u w3) (ho : Own w3 u.heap.size x W) : S1 w2 w3 x W none :=
  ⟨_, hu, hb.size, ho, fun k hk => by cases hk⟩
theorem S1.box {w2 u w3 : World} {x : Value} {W : List Int} {k : Nat} (hx : Bx k u nl nl) (hk : w2.heap.size ≤ k) (hb : Below u.heap.size u w3) (ho : Own w3 u.heap.size x W) : S1 w2 w3 x W (some k) :=
  ⟨_, by have := hx.lt; omega, hb.size, ho, fun j hj => by cases hj; exact ⟨hk, hx.lt, hx.on hb⟩⟩

/-- Both rows are made. -/
structure S2 (w2 w4 : World) (x y : Value) (W H : List Int) (J : Option Nat) : Prop where
  o1 : Own w4 w2.heap.size x W
  o2 : Own w4 w2.heap.size y H
  ne : ∀ j, x.ownBlock = some j → y.ownBlock ≠ some j
  bx : ∀ k, J = some k → w2.heap.size ≤ k ∧ Bx k w4 nl nl ∧ x.ownBlock ≠ some k ∧ y.ownBlock ≠ some k
theorem S2.of {w2 w3 u w4 : World} {x y : Value} {W H : List Int} {J : Option Nat} (h : S1 w2 w3 x W J) (hu : Below w3.heap.size w3 u) (hb : Below u.heap.size u w4) (ho : Own w4 u.heap.size y H) : S2 w2 w4 x y W H J := by
  obtain ⟨S, h1, h2, h3, h4⟩ := h.h
  have b34 := hu.trans (hb.mono hu.size)
  have s1 := hu.size
  have s2 := own_in h3
  have s3 := own_in ho
  refine ⟨own_mono (own_on h3 b34) h1, own_mono ho (by omega), fun j hj hj' => ?_, fun k hk => ?_⟩
  · have := s2 j hj; have := s3 j hj'; omega
  · obtain ⟨k1, k2, k3⟩ := h4 k hk
    exact ⟨k1, k3.on b34, fun e => by have := s2 k e; omega, fun e => by have := s3 k e; omega⟩
theorem S2.box {w2 w3 u w4 : World} {x y : Value} {W H : List Int} {k : Nat} (h : S1 w2 w3 x W none) (hu : Below w3.heap.size w3 u) (hx : Bx k u nl nl) (hk : w3.heap.size ≤ k) (hb : Below u.heap.size u w4) (ho : Own w4 u.heap.size y H) : S2 w2 w4 x y W H (some k) := by
  have h' := S2.of h hu hb ho
  obtain ⟨S, h1, h2, h3, h4⟩ := h.h
  have s2 := own_in h3
  have s3 := own_in ho
  refine ⟨h'.o1, h'.o2, h'.ne, fun j hj => ?_⟩
  cases hj
  exact ⟨by omega, hx.on hb, fun e => by have := s2 k e; omega, fun e => by have := s3 k e; have := hx.lt; omega⟩
theorem S2.alloc {w2 w4 : World} {x y : Value} {W H : List Int} (h : S2 w2 w4 x y W H none) (hs : w2.heap.size ≤ w4.heap.size) (T : TypeId) : S2 w2 (w4.alloc (.cells #[nl, nl] T)) x y W H (some w4.heap.size) :=
  ⟨own_on h.o1 (below1 _ _), own_on h.o2 (below1 _ _), h.ne, fun j hj => by
    cases hj
    exact ⟨hs, Bx.new _ _ _ _, fun e => by have := own_in h.o1 _ e; omega, fun e => by have := own_in h.o2 _ e; omega⟩⟩

/-- The joined calendar lies in its box at k. -/
structure Fn (w : World) (k : Nat) (v : World) (x y : Value) (W H : List Int) : Prop where
  bel : Below w.heap.size w v
  kge : w.heap.size + 1 + 1 < k
  box : Bx k v x y
  res : Bx (w.heap.size + 1 + 1) v nl nl
  o1 : Own v (w.heap.size + 1 + 1 + 1) x W
  o2 : Own v (w.heap.size + 1 + 1 + 1) y H
  ne : ∀ j, x.ownBlock = some j → y.ownBlock ≠ some j

theorem own_put {w : World} {S k : Nat} {x : Value} {D : List Int} (h : Own w S x D) (i : Nat) (v : Value) (hk : x.ownBlock ≠ some k) : Own (w.setCell ⟨k, i, none⟩ v) S x D :=
  h.kept (row := some k) ⟨rfl, rfl, rfl, by rw [World.size_setCell]; exact Nat.le_refl _, fun j _ hj => Below.heap_setCell w _ _ j (fun e => hj (by rw [e]))⟩ (Or.inr hk)

theorem Fn.of {w w2 w4 : World} {a1 a2 b1 b2 x y : Value} {W H : List Int} {k : Nat} (X2 : B3 w w2 a1 a2 b1 b2 nl nl) (X4 : B3 w w4 a1 a2 b1 b2 nl nl) (Y : S2 w2 w4 x y W H (some k)) : Fn w k ((w4.setCell ⟨k, 0, none⟩ x).setCell ⟨k, 1, none⟩ y) x y W H := by
  obtain ⟨h1, h2, h3, h4⟩ := Y.bx k rfl
  have hr := X2.r.lt
  have P := (X4.put (k := k) (by omega) 0 x).put (k := k) (by omega) 1 y
  have hs : w.heap.size + 1 + 1 + 1 ≤ w2.heap.size := by omega
  exact ⟨P.bel, by omega, (h2.set0 x).set1 y, P.r, own_mono (own_put (own_put Y.o1 0 x h3) 1 y h3) hs, own_mono (own_put (own_put Y.o2 0 x h4) 1 y h4) hs, Y.ne⟩

theorem Fn.new {w w2 w4 : World} {a1 a2 b1 b2 x y : Value} {W H : List Int} (X2 : B3 w w2 a1 a2 b1 b2 nl nl) (X4 : B3 w w4 a1 a2 b1 b2 nl nl) (Y : S2 w2 w4 x y W H none) (T : TypeId) : Fn w w4.heap.size (w4.alloc (.cells #[x, y] T)) x y W H :=
  ⟨(X4.alloc _).bel, X4.r.lt, Bx.new _ _ _ _, (X4.alloc _).r, own_mono (own_on Y.o1 (below1 _ _)) (by have := X2.r.lt; omega), own_mono (own_on Y.o2 (below1 _ _)) (by have := X2.r.lt; omega), Y.ne⟩

theorem Fn.on {w v v' : World} {k : Nat} {x y : Value} {W H : List Int} (h : Fn w k v x y W H) (hb : Below v.heap.size v v') : Fn w k v' x y W H :=
  ⟨h.bel.trans (hb.mono h.bel.size), h.kge, h.box.on hb, h.res.on hb, own_on h.o1 hb, own_on h.o2 hb, h.ne⟩

/-- The joined calendar, as a calendar. -/
theorem Fn.cl {w v : World} {k k1 d1 k2 d2 : Nat} {C1 C2 : Option Addr} {W H : List Int} (h : Fn w k v (.slice C1 k1 d1) (.slice C2 k2 d2) W H) (h1 : k1 = W.length) (h2 : k2 = H.length) (m1 : k1 ≤ 1048576) (m2 : k2 ≤ 1048576) : Cl v v.heap.size C1 k1 C2 k2 W H :=
  ⟨h1, h2, At.of_own (by have := h.o1; unfold Own at this; rw [← h1] at this; exact this) h1, At.of_own (by have := h.o2; unfold Own at this; rw [← h2] at this; exact this) h2, m1, m2⟩

/-- It is stored into the result. -/
theorem Fn.fin {w v : World} {k k1 d1 k2 d2 : Nat} {C1 C2 : Option Addr} {W H : List Int} (h : Fn w k v (.slice C1 k1 d1) (.slice C2 k2 d2) W H) (h1 : k1 = W.length) (h2 : k2 = H.length) :
    Bx (w.heap.size + 1 + 1) ((v.setCell ⟨w.heap.size + 1 + 1, 0, none⟩ (.slice C1 k1 d1)).setCell ⟨w.heap.size + 1 + 1, 1, none⟩ (.slice C2 k2 d2)) (.slice C1 k1 d1) (.slice C2 k2 d2) ∧
    JAns W H true w (.returned (.tuple #[.agg #[.slice C1 k1 d1, .slice C2 k2 d2], .bool true])) ((v.setCell ⟨w.heap.size + 1 + 1, 0, none⟩ (.slice C1 k1 d1)).setCell ⟨w.heap.size + 1 + 1, 1, none⟩ (.slice C2 k2 d2)) := by
  have n1 : (Value.slice C1 k1 d1).ownBlock ≠ some (w.heap.size + 1 + 1) := fun e => by have := own_in h.o1 _ e; omega
  have n2 : (Value.slice C2 k2 d2).ownBlock ≠ some (w.heap.size + 1 + 1) := fun e => by have := own_in h.o2 _ e; omega
  refine ⟨(h.res.set0 _).set1 _, C1, k1, d1, C2, k2, d2, rfl, h1, h2, own_mono (own_put (own_put h.o1 0 _ n1) 1 _ n1) (by omega), own_mono (own_put (own_put h.o2 0 _ n2) 1 _ n2) (by omega), h.ne, ?_⟩
  exact (h.bel.setCell (by show w.heap.size ≤ w.heap.size + 1 + 1; omega) _).setCell (by show w.heap.size ≤ w.heap.size + 1 + 1; omega) _

/-- Nothing is joined. -/
theorem B3.zero {w v : World} {a1 a2 b1 b2 : Value} (h : B3 w v a1 a2 b1 b2 nl nl) :
    Bx (w.heap.size + 1 + 1) ((v.setCell ⟨w.heap.size + 1 + 1, 0, none⟩ nl).setCell ⟨w.heap.size + 1 + 1, 1, none⟩ nl) nl nl ∧
    JAns [] [] false w (.returned (.tuple #[.agg #[nl, nl], .bool false])) ((v.setCell ⟨w.heap.size + 1 + 1, 0, none⟩ nl).setCell ⟨w.heap.size + 1 + 1, 1, none⟩ nl) :=
  ⟨(h.r.set0 _).set1 _, none, 0, 0, none, 0, 0, rfl, rfl, rfl, World.ownsRow_nil _ _ _ _, World.ownsRow_nil _ _ _ _, fun j hj => by (cases hj), (h.bel.setCell (by show w.heap.size ≤ w.heap.size + 1 + 1; omega) _).setCell (by show w.heap.size ≤ w.heap.size + 1 + 1; omega) _⟩
theorem Fn.zero {w v : World} {k : Nat} {x y : Value} {W H : List Int} (h : Fn w k v x y W H) :
    Bx (w.heap.size + 1 + 1) ((v.setCell ⟨w.heap.size + 1 + 1, 0, none⟩ nl).setCell ⟨w.heap.size + 1 + 1, 1, none⟩ nl) nl nl ∧
    JAns [] [] false w (.returned (.tuple #[.agg #[nl, nl], .bool false])) ((v.setCell ⟨w.heap.size + 1 + 1, 0, none⟩ nl).setCell ⟨w.heap.size + 1 + 1, 1, none⟩ nl) :=
  ⟨(h.res.set0 _).set1 _, none, 0, 0, none, 0, 0, rfl, rfl, rfl, World.ownsRow_nil _ _ _ _, World.ownsRow_nil _ _ _ _, fun j hj => by (cases hj), (h.bel.setCell (by show w.heap.size ≤ w.heap.size + 1 + 1; omega) _).setCell (by show w.heap.size ≤ w.heap.size + 1 + 1; omega) _⟩

end Go.Proofs.Ytglpkanegehcbaa.JoinB
