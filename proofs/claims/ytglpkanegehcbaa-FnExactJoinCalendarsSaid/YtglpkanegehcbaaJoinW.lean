/-
  The walk of the law FnExactJoinCalendars.
-/
import Derived.Test.YtglpkanegehcbaaMarkC
namespace Go.Proofs.Ytglpkanegehcbaa.JoinW
open Go.RowKit Go.Proofs.Ytglpkanegehcbaa.IRow Go.Proofs.Ytglpkanegehcbaa.Cal Go.Proofs.Ytglpkanegehcbaa.Biz Go.Proofs.Ytglpkanegehcbaa.Asc Go.Proofs.Ytglpkanegehcbaa.CalLaw Go.Proofs.Ytglpkanegehcbaa.UniS Go.Proofs.Ytglpkanegehcbaa.MarkC
set_option linter.unusedVariables false
set_option linter.unusedSimpArgs false

/-- The two rows of an answer, in blocks of the call's own. -/
def Ans (W H : List Int) (l1 l2 : Nat) (f : Bool) (w : World) (e : Ending) (w' : World) : Prop :=
  ∃ C1 d1 C2 d2, e = .returned (.tuple #[.agg #[.slice C1 l1 d1, .slice C2 l2 d2], .bool f]) ∧ w'.ownsRow w.heap.size 3 1 (.slice C1 l1 d1) l1 (W.map (Value.int .i64)) ∧ w'.ownsRow w.heap.size 3 1 (.slice C2 l2 d2) l2 (H.map (Value.int .i64)) ∧
    (∀ j, (Value.slice C1 l1 d1).ownBlock = some j → (Value.slice C2 l2 d2).ownBlock ≠ some j) ∧ Below w.heap.size w w'

/-- A variable that holds a calendar: its box at k; box and rows lie between S and E. -/
structure Cd (u : World) (S E k : Nat) (a b : Value) (n m : Nat) (P Q : List Value) : Prop where
  box : Bx k u a b
  o1 : u.ownsRow S 3 1 a n P
  o2 : u.ownsRow S 3 1 b m Q
  ne : ∀ j, a.ownBlock = some j → b.ownBlock ≠ some j
  l1 : ∀ j, a.ownBlock = some j → j < E ∧ j ≠ k
  l2 : ∀ j, b.ownBlock = some j → j < E ∧ j ≠ k
  sk : S ≤ k
  ke : k < E
theorem Cd.two {u : World} {S E k n m : Nat} {a b : Value} {P Q : List Value} (h : Cd u S E k a b n m P Q) : ∀ j, Two a b j → S ≤ j ∧ j < E ∧ j ≠ k := fun j hj => by
  rcases hj with hj | hj
  · exact ⟨(own_lt h.o1 j hj).1, h.l1 j hj⟩
  · exact ⟨(own_lt h.o2 j hj).1, h.l2 j hj⟩
theorem Cd.kp {u v : World} {S E k n m : Nat} {a b : Value} {P Q : List Value} {T : Nat → Prop} (h : Cd u S E k a b n m P Q) (hk : Kp T u v) (hT : ∀ j, T j → j < S ∨ E ≤ j) : Cd v S E k a b n m P Q := by
  have h1 := h.two
  have sk := h.sk
  have ke := h.ke
  refine ⟨hk.bx h.box (fun e => by have := hT k e; omega), hk.own h.o1 (fun j hj e => ?_), hk.own h.o2 (fun j hj e => ?_), h.ne, h.l1, h.l2, h.sk, h.ke⟩
  · have := h1 j (Or.inl hj); have := hT j e; omega
  · have := h1 j (Or.inr hj); have := hT j e; omega
theorem Cd.on {u v : World} {S E k n m : Nat} {a b : Value} {P Q : List Value} (h : Cd u S E k a b n m P Q) (hb : Below u.heap.size u v) : Cd v S E k a b n m P Q :=
  h.kp (T := fun _ => False) (Kp.of hb) (fun j e => e.elim)
theorem Cd.make {u : World} {S n m : Nat} {a b : Value} {P Q : List Value} (o1 : u.ownsRow S 3 1 a n P) (o2 : u.ownsRow S 3 1 b m Q) (ne : ∀ j, a.ownBlock = some j → b.ownBlock ≠ some j) (hS : S ≤ u.heap.size) (T : TypeId) :
    Cd (u.alloc (.cells #[a, b] T)) S (u.heap.size + 1) u.heap.size a b n m P Q :=
  ⟨Bx.new _ _ _ _, own_below o1 (below1 _ _), own_below o2 (below1 _ _), ne, fun j hj => by have := (own_lt o1 j hj).2; omega, fun j hj => by have := (own_lt o2 j hj).2; omega, hS, by omega⟩
theorem Cd.cl {u : World} {S E k n1 c1 n2 c2 : Nat} {A1 A2 : Option Addr} {we ho : List Int} (h : Cd u S E k (.slice A1 n1 c1) (.slice A2 n2 c2) n1 n2 (we.map (Value.int .i64)) (ho.map (Value.int .i64))) (l1 : n1 = we.length) (l2 : n2 = ho.length) (m1 : n1 ≤ 1048576) (m2 : n2 ≤ 1048576) :
    Cl u u.heap.size A1 n1 A2 n2 we ho := ⟨l1, l2, At.of_own h.o1 l1, At.of_own h.o2 l2, m1, m2⟩

/-- The boxes of the law's two arguments. -/
structure P0 (w u : World) (a1 a2 b1 b2 : Value) : Prop where
  bel : Below w.heap.size w u
  a : Bx w.heap.size u a1 a2
  b : Bx (w.heap.size + 1) u b1 b2
theorem P0.kp {w u v : World} {a1 a2 b1 b2 : Value} {T : Nat → Prop} (h : P0 w u a1 a2 b1 b2) (hk : Kp T u v) (hT : ∀ j, T j → w.heap.size + 1 < j) : P0 w v a1 a2 b1 b2 :=
  ⟨h.bel.trans (hk.below (fun j hj => by have := hT j hj; omega) h.bel.size), hk.bx h.a (fun e => by have := hT _ e; omega), hk.bx h.b (fun e => by have := hT _ e; omega)⟩
theorem P0.on {w u v : World} {a1 a2 b1 b2 : Value} (h : P0 w u a1 a2 b1 b2) (hb : Below u.heap.size u v) : P0 w v a1 a2 b1 b2 :=
  h.kp (T := fun _ => False) (Kp.of hb) (fun j e => e.elim)
theorem P0.new (w : World) (a1 a2 b1 b2 : Value) (T : TypeId) : P0 w ((w.alloc (.cells #[a1, a2] T)).alloc (.cells #[b1, b2] T)) a1 a2 b1 b2 := by
  refine ⟨(below1 _ _).alloc (by simp) _, (Bx.new _ _ _ _).alloc _, ?_⟩
  have := Bx.new (w.alloc (.cells #[a1, a2] T)) b1 b2 T
  simpa using this

abbrev nl : Value := .slice none 0 0

/-- While a region runs that begins in u: the new variable's box is there, or not yet. -/
structure R0 (u v : World) (J : Option Nat) : Prop where
  bel : Below u.heap.size u v
  bx : ∀ k, J = some k → u.heap.size ≤ k ∧ Bx k v nl nl
theorem R0.start (u : World) : R0 u u none := ⟨Below.refl _ _, fun k hk => by cases hk⟩
theorem R0.on {u v w : World} {J : Option Nat} (h : R0 u v J) (hb : Below v.heap.size v w) : R0 u w J :=
  ⟨h.bel.trans (hb.mono h.bel.size), fun k hk => ⟨(h.bx k hk).1, (h.bx k hk).2.on hb⟩⟩
theorem R0.drew {u v : World} {J : Option Nat} (h : R0 u v J) : R0 u v.drew J := h.on (Below.refl _ _).drew
theorem R0.box {u v : World} (h : R0 u v none) (T : TypeId) : R0 u (v.alloc (.cells #[nl, nl] T)) (some v.heap.size) :=
  ⟨h.bel.trans ((below1 _ _).mono h.bel.size), fun k hk => by cases hk; exact ⟨h.bel.size, Bx.new _ _ _ _⟩⟩
/-- The answer's rows, behind the call: they may lie beside a box. -/
structure Rw (u v : World) (a b : Value) (n m : Nat) (P Q : List Value) (J : Option Nat) : Prop where
  r : R0 u v J
  o1 : v.ownsRow u.heap.size 3 1 a n P
  o2 : v.ownsRow u.heap.size 3 1 b m Q
  ne : ∀ j, a.ownBlock = some j → b.ownBlock ≠ some j
  n1 : ∀ k, J = some k → a.ownBlock ≠ some k ∧ b.ownBlock ≠ some k
theorem Rw.of {u v w : World} {a b : Value} {n m : Nat} {P Q : List Value} {J : Option Nat} (h : R0 u v J) (hb : Below v.heap.size v w) (o1 : w.ownsRow v.heap.size 3 1 a n P) (o2 : w.ownsRow v.heap.size 3 1 b m Q) (ne : ∀ j, a.ownBlock = some j → b.ownBlock ≠ some j) : Rw u w a b n m P Q J :=
  ⟨h.on hb, own_le o1 h.bel.size, own_le o2 h.bel.size, ne, fun k hk => ⟨fun e => by have := (own_lt o1 k e).1; have := (h.bx k hk).2.lt; omega, fun e => by have := (own_lt o2 k e).1; have := (h.bx k hk).2.lt; omega⟩⟩
theorem own_put {w : World} {S k n : Nat} {x : Value} {D : List Value} (h : w.ownsRow S 3 1 x n D) (i : Nat) (v : Value) (hk : x.ownBlock ≠ some k) : (w.setCell ⟨k, i, none⟩ v).ownsRow S 3 1 x n D :=
  h.kept (row := some k) ⟨rfl, rfl, rfl, by rw [World.size_setCell]; exact Nat.le_refl _, fun j _ hj => Below.heap_setCell w _ _ j (fun e => hj (by rw [e]))⟩ (Or.inr hk)
theorem Rw.put {u v : World} {a b : Value} {n m k : Nat} {P Q : List Value} (h : Rw u v a b n m P Q (some k)) : Cd ((v.setCell ⟨k, 0, none⟩ a).setCell ⟨k, 1, none⟩ b) u.heap.size v.heap.size k a b n m P Q := by
  obtain ⟨h1, h2⟩ := h.n1 k rfl
  obtain ⟨h3, h4⟩ := h.r.bx k rfl
  exact ⟨(h4.set0 _).set1 _, own_put (own_put h.o1 0 a h1) 1 b h1, own_put (own_put h.o2 0 a h2) 1 b h2, h.ne, fun j hj => ⟨(own_lt h.o1 j hj).2, fun e => h1 (by rw [← e]; exact hj)⟩, fun j hj => ⟨(own_lt h.o2 j hj).2, fun e => h2 (by rw [← e]; exact hj)⟩, h3, h4.lt⟩
theorem Cd.till {u : World} {S E E' k n m : Nat} {a b : Value} {P Q : List Value} (h : Cd u S E k a b n m P Q) (he : E ≤ E') : Cd u S E' k a b n m P Q :=
  ⟨h.box, h.o1, h.o2, h.ne, fun j hj => ⟨by have := (h.l1 j hj).1; omega, (h.l1 j hj).2⟩, fun j hj => ⟨by have := (h.l2 j hj).1; omega, (h.l2 j hj).2⟩, h.sk, by have := h.ke; omega⟩
theorem Rw.bel {u v : World} {a b : Value} {n m k : Nat} {P Q : List Value} (h : Rw u v a b n m P Q (some k)) : Below u.heap.size u ((v.setCell ⟨k, 0, none⟩ a).setCell ⟨k, 1, none⟩ b) :=
  (h.r.bel.setCell (h.r.bx k rfl).1 _).setCell (h.r.bx k rfl).1 _
theorem Rw.make {u v : World} {a b : Value} {n m : Nat} {P Q : List Value} (h : Rw u v a b n m P Q none) (T : TypeId) : Cd (v.alloc (.cells #[a, b] T)) u.heap.size (v.heap.size + 1) v.heap.size a b n m P Q :=
  Cd.make h.o1 h.o2 h.ne h.r.bel.size T
theorem Rw.bel0 {u v : World} {a b : Value} {n m : Nat} {P Q : List Value} (h : Rw u v a b n m P Q none) (o : Obj) : Below u.heap.size u (v.alloc o) := h.r.bel.alloc h.r.bel.size _

/-- Behind a region. -/
structure Dn (u v : World) (k : Nat) (a b : Value) (n m : Nat) (P Q : List Value) : Prop where
  cd : Cd v u.heap.size v.heap.size k a b n m P Q
  bel : Below u.heap.size u v
theorem Rw.done1 {u v : World} {a b : Value} {n m k : Nat} {P Q : List Value} (h : Rw u v a b n m P Q (some k)) : Dn u ((v.setCell ⟨k, 0, none⟩ a).setCell ⟨k, 1, none⟩ b) k a b n m P Q :=
  ⟨h.put.till (by rw [World.size_setCell, World.size_setCell]; exact Nat.le_refl _), h.bel⟩
theorem Rw.done0 {u v : World} {a b : Value} {n m : Nat} {P Q : List Value} (h : Rw u v a b n m P Q none) (T : TypeId) : Dn u (v.alloc (.cells #[a, b] T)) v.heap.size a b n m P Q :=
  ⟨(h.make T).till (by simp), h.bel0 _⟩

theorem Dn.ofNew {v w' : World} {b1 n1 b2 n2 : Nat} {we ho : List Int} (h : New v.heap.size w' b1 n1 b2 n2 we ho) (hb : Below v.heap.size v w') (T : TypeId) :
    Dn v (w'.alloc (.cells #[.slice (some ⟨b1, 0, none⟩) n1 n1, .slice (some ⟨b2, 0, none⟩) n2 n2] T)) w'.heap.size (.slice (some ⟨b1, 0, none⟩) n1 n1) (.slice (some ⟨b2, 0, none⟩) n2 n2) n1 n2 (we.map (Value.int .i64)) (ho.map (Value.int .i64)) :=
  ⟨(Cd.make h.o1 h.o2 (fun j h1 h2 => by have := h.ne; cases h1; cases h2; omega) hb.size T).till (by simp), hb.alloc hb.size _⟩
/-- The rows of a calendar are marked: the others stay. -/
theorem Cd.far {u v : World} {S E k n m S' E' k' n' m' : Nat} {a b a' b' : Value} {P Q P' Q' : List Value} (h : Cd u S E k a b n m P Q) (h' : Cd u S' E' k' a' b' n' m' P' Q') (hk : Kp (Two a' b') u v) (hd : E ≤ S' ∨ E' ≤ S) : Cd v S E k a b n m P Q :=
  h.kp hk (fun j hj => by have := h'.two j hj; omega)
theorem Cd.own {u v : World} {S E k n m : Nat} {a b : Value} {P Q P' Q' : List Value} (h : Cd u S E k a b n m P Q) (hk : Kp (Two a b) u v) (o1 : v.ownsRow S 3 1 a n P') (o2 : v.ownsRow S 3 1 b m Q') : Cd v S E k a b n m P' Q' :=
  ⟨hk.bx h.box (fun e => (h.two k e).2.2 rfl), o1, o2, h.ne, h.l1, h.l2, h.sk, h.ke⟩
theorem P0.far {w u v : World} {a1 a2 b1 b2 : Value} {S E k n m : Nat} {a b : Value} {P Q : List Value} (h : P0 w u a1 a2 b1 b2) (h' : Cd u S E k a b n m P Q) (hk : Kp (Two a b) u v) (hs : w.heap.size + 1 < S) : P0 w v a1 a2 b1 b2 :=
  h.kp hk (fun j hj => by have := h'.two j hj; omega)

/-- A region is left at one place, whatever its order was. -/
theorem cut9 {P : Program} {id : Nat} {ops : Array Oper} {b : Bool} {Q : Exit → Act → World → Prop} {a : Act} {w : World} (F : Nat → Nat → Nat → Nat → Nat → Option Addr → Nat → Option Addr → Nat → Act) (R : Nat → Option Addr → Nat → Option Addr → Nat → World → Prop)
    (h1 : (Code.region id ops b).wp P (fun e a' w' => e = .normal ∧ ∃ k a1 a2 b1 b2 C1 d1 C2 d2, Hid (R k C1 d1 C2 d2 w') ∧ a' = F k a1 a2 b1 b2 C1 d1 C2 d2) a w)
    (h2 : ∀ k a1 a2 b1 b2 C1 d1 C2 d2 w', Hid (R k C1 d1 C2 d2 w') → Q .normal (F k a1 a2 b1 b2 C1 d1 C2 d2) w') : (Code.region id ops b).wp P Q a w :=
  Code.wp_mono (fun e a w h => by obtain ⟨rfl, k, a1, a2, b1, b2, C1, d1, C2, d2, hR, rfl⟩ := h; exact h2 _ _ _ _ _ _ _ _ _ _ hR) h1
theorem cut5 {P : Program} {id : Nat} {ops : Array Oper} {b : Bool} {Q : Exit → Act → World → Prop} {a : Act} {w : World} (F : Nat → Option Addr → Nat → Option Addr → Nat → Act) (R : Nat → Option Addr → Nat → Option Addr → Nat → World → Prop)
    (h1 : (Code.region id ops b).wp P (fun e a' w' => e = .normal ∧ ∃ k C1 d1 C2 d2, Hid (R k C1 d1 C2 d2 w') ∧ a' = F k C1 d1 C2 d2) a w)
    (h2 : ∀ k C1 d1 C2 d2 w', Hid (R k C1 d1 C2 d2 w') → Q .normal (F k C1 d1 C2 d2) w') : (Code.region id ops b).wp P Q a w :=
  Code.wp_mono (fun e a w h => by obtain ⟨rfl, k, C1, d1, C2, d2, hR, rfl⟩ := h; exact h2 _ _ _ _ _ _ hR) h1

-- WALK
set_option maxRecDepth 100000 in
set_option maxHeartbeats 8000000 in
theorem walkAux (A1 A2 B1 B2 : Option Addr) (n1 c1 n2 c2 m1 e1 m2 e2 l1 l2 : Nat) (we ho we' ho' W H : List Int) (f : Bool) (w : World) (h1 : n1 = we.length) (h2 : n2 = ho.length) (h3 : m1 = we'.length) (h4 : m2 = ho'.length) (h5 : l1 = W.length) (h6 : l2 = H.length)
    (hm : n1 + n2 + (m1 + m2) ≤ 1048576) (hl1 : l1 ≤ 1048576) (hl2 : l2 ≤ 1048576) (r1 : Is w w.heap.size A1 we) (r2 : Is w w.heap.size A2 ho) (r3 : Is w w.heap.size B1 we') (r4 : Is w w.heap.size B2 ho')
    (HS : Hid (∀ (a1 a2 b1 b2 : Addr) (w : World), Cl w w.heap.size (some a1) n1 (some a2) n2 we ho → Cl w w.heap.size (some b1) m1 (some b2) m2 we' ho' → Calls Try.prog 16 #[.agg #[.slice (some a1) n1 n1, .slice (some a2) n2 n2], .agg #[.slice (some b1) m1 m1, .slice (some b2) m2 m2]] w (Ans W H l1 l2 f w)))
    (HI : Hid (∀ (a1 a2 b1 b2 : Addr) (w : World), Cl w w.heap.size (some a1) n1 (some a2) n2 we ho → Cl w w.heap.size (some b1) m1 (some b2) m2 we' ho' → Calls Try.prog 15 #[.agg #[.slice (some a1) n1 n1, .slice (some a2) n2 n2], .agg #[.slice (some b1) m1 m1, .slice (some b2) m2 m2]] w (Ans W H l1 l2 f w))) :
    Calls Try.prog 8 #[.agg #[.slice A1 n1 c1, .slice A2 n2 c2], .agg #[.slice B1 m1 e1, .slice B2 m2 e2]] w fun e w' => e = .returned (.bool true) ∧ Below w.heap.size w w' := by
  have HTA : Hid (∀ v, Below w.heap.size w v → Calls Try.prog 20 #[.agg #[.slice A1 n1 c1, .slice A2 n2 c2]] v fun e w' => ∃ b1 b2, e = .returned (.agg #[.slice (some ⟨b1, 0, none⟩) n1 n1, .slice (some ⟨b2, 0, none⟩) n2 n2]) ∧ New v.heap.size w' b1 n1 b2 n2 we ho ∧ Below v.heap.size v w') :=
    Lib.hid fun v hv => toC A1 A2 n1 c1 n2 c2 we ho v h1 h2 (by omega) (by omega) ((r1.below hv).more hv.size) ((r2.below hv).more hv.size)
  have HTB : Hid (∀ v, Below w.heap.size w v → Calls Try.prog 20 #[.agg #[.slice B1 m1 e1, .slice B2 m2 e2]] v fun e w' => ∃ b1 b2, e = .returned (.agg #[.slice (some ⟨b1, 0, none⟩) m1 m1, .slice (some ⟨b2, 0, none⟩) m2 m2]) ∧ New v.heap.size w' b1 m1 b2 m2 we' ho' ∧ Below v.heap.size v w') :=
    Lib.hid fun v hv => toC B1 B2 m1 e1 m2 e2 we' ho' v h3 h4 (by omega) (by omega) ((r3.below hv).more hv.size) ((r4.below hv).more hv.size)
  have HSA : Hid (∃ lf lg : Nat, lf ≤ 1048576 ∧ lg ≤ 1048576 ∧ (∀ w, Calls Try.prog 18 #[.agg #[.slice A1 n1 c1, .slice A2 n2 c2], .int .i64 1048576] w fun e w' => e = .returned (.int .i64 (lf : Int)) ∧ w.alloc (.cells #[.slice A1 n1 c1, .slice A2 n2 c2] 37) = w') ∧ (∀ w, Calls Try.prog 18 #[.agg #[.slice B1 m1 e1, .slice B2 m2 e2], .int .i64 (lf : Int)] w fun e w' => e = .returned (.int .i64 (lg : Int)) ∧ w.alloc (.cells #[.slice B1 m1 e1, .slice B2 m2 e2] 37) = w')) :=
    Lib.hid ⟨1048576 - (n1 + n2), 1048576 - (n1 + n2) - (m1 + m2), by omega, by omega, fun w => szYes A1 A2 n1 c1 n2 c2 1048576 (Nat.le_refl _) (by omega) w, fun w => szYes B1 B2 m1 e1 m2 e2 (1048576 - (n1 + n2)) (by omega) (by omega) w⟩
  obtain ⟨lf, lg, hlf, hlg, hsa, hsb⟩ := HSA.out
  have HA := Lib.hid hsa
  have HB := Lib.hid hsb
  clear hsa hsb HSA
  have X0 := Lib.hid (P0.new w (.slice A1 n1 c1) (.slice A2 n2 c2) (.slice B1 m1 e1) (.slice B2 m2 e2) 37)
  have HL : Hid (n1 = we.length ∧ n2 = ho.length ∧ m1 = we'.length ∧ m2 = ho'.length ∧ l1 = W.length ∧ l2 = H.length) := Lib.hid ⟨h1, h2, h3, h4, h5, h6⟩
  clear r1 r2 r3 r4 h1 h2 h3 h4 h5 h6
  go_enter Try.func8, Try.ntmps8
  go_wp2_with (first
    | (go_at_call 18; (first | with_reducible refine (HA.out _).mono ?_ | with_reducible refine (HB.out _).mono ?_); rintro e w' ⟨rfl, rfl⟩)
    | fail)
  have XB : Hid (P0 w ((((w.alloc (.cells #[.slice A1 n1 c1, .slice A2 n2 c2] 37)).alloc (.cells #[.slice B1 m1 e1, .slice B2 m2 e2] 37)).alloc (.cells #[.slice A1 n1 c1, .slice A2 n2 c2] 37)).alloc (.cells #[.slice B1 m1 e1, .slice B2 m2 e2] 37)) (.slice A1 n1 c1) (.slice A2 n2 c2) (.slice B1 m1 e1) (.slice B2 m2 e2)) := Lib.hid ((X0.out.on (below1 _ _)).on (below1 _ _))
  obtain ⟨u, hu⟩ : ∃ u, u = ((((w.alloc (.cells #[.slice A1 n1 c1, .slice A2 n2 c2] 37)).alloc (.cells #[.slice B1 m1 e1, .slice B2 m2 e2] 37)).alloc (.cells #[.slice A1 n1 c1, .slice A2 n2 c2] 37)).alloc (.cells #[.slice B1 m1 e1, .slice B2 m2 e2] 37)) := ⟨_, rfl⟩
  rw [← hu] at XB ⊢
  clear hu X0 HA HB
  have KX : Hid (∀ v, Below u.heap.size u v → v.cell? ⟨w.heap.size, 0, none⟩ = some (.slice A1 n1 c1) ∧ v.cell? ⟨w.heap.size, 1, none⟩ = some (.slice A2 n2 c2) ∧ v.cell? ⟨(w.heap.size + 1), 0, none⟩ = some (.slice B1 m1 e1) ∧ v.cell? ⟨(w.heap.size + 1), 1, none⟩ = some (.slice B2 m2 e2)) := Lib.hid fun v h => by
    have := XB.out.on h
    exact ⟨this.a.c0, this.a.c1, this.b.c0, this.b.c1⟩
  have HBW : Hid (∀ v, Below u.heap.size u v → Below w.heap.size w v) := Lib.hid fun v h => (XB.out.on h).bel
  have S0 := Lib.hid (R0.start u)
  obtain ⟨_, k0, k1, _, _⟩ := XB.out.a
  obtain ⟨_, k2, k3, _, _⟩ := XB.out.b
  have ls := XB.out.a.lt
  have lt := XB.out.b.lt
  apply cut9 (R := (fun k C1 d1 C2 d2 v => Dn u v k (.slice C1 l1 d1) (.slice C2 l2 d2) l1 l2 (W.map (Value.int .i64)) (H.map (Value.int .i64))))
  · go_region_held3 (fun v => v.cell? ⟨w.heap.size, 0, none⟩ = some (.slice A1 n1 c1) ∧ v.cell? ⟨w.heap.size, 1, none⟩ = some (.slice A2 n2 c2) ∧ v.cell? ⟨(w.heap.size + 1), 0, none⟩ = some (.slice B1 m1 e1) ∧ v.cell? ⟨(w.heap.size + 1), 1, none⟩ = some (.slice B2 m2 e2)) (first
          | with_reducible exact KX.out _ (R0.bel S0.out)
          | with_reducible exact KX.out _ (R0.bel (R0.drew S0.out))
          | with_reducible exact KX.out _ (R0.bel (R0.box S0.out _))
          | with_reducible exact KX.out _ (R0.bel (R0.drew (R0.box S0.out _)))
          | with_reducible exact KX.out _ (R0.bel (R0.box (R0.drew S0.out) _))
          | with_reducible exact KX.out _ (R0.bel S1.out)
          | with_reducible exact KX.out _ (R0.bel (R0.drew S1.out))
          | with_reducible exact KX.out _ (R0.bel (R0.box S1.out _))
          | with_reducible exact KX.out _ (R0.bel (R0.drew (R0.box S1.out _)))
          | with_reducible exact KX.out _ (R0.bel (R0.box (R0.drew S1.out) _))
          | with_reducible exact KX.out _ (R0.bel S2.out)
          | with_reducible exact KX.out _ (R0.bel (R0.drew S2.out))
          | with_reducible exact KX.out _ (R0.bel (R0.box S2.out _))
          | with_reducible exact KX.out _ (R0.bel (R0.drew (R0.box S2.out _)))
          | with_reducible exact KX.out _ (R0.bel (R0.box (R0.drew S2.out) _))
          | with_reducible exact KX.out _ (R0.bel S3.out)
          | with_reducible exact KX.out _ (R0.bel (R0.drew S3.out))
          | with_reducible exact KX.out _ (R0.bel (R0.box S3.out _))
          | with_reducible exact KX.out _ (R0.bel (R0.drew (R0.box S3.out _)))
          | with_reducible exact KX.out _ (R0.bel (R0.box (R0.drew S3.out) _))
          | with_reducible exact KX.out _ (Rw.bel Y.out)
          | with_reducible exact KX.out _ (Rw.bel0 Y.out _)
          | with_reducible exact KX.out _ (Below.drew (Rw.bel Y.out))
          | with_reducible exact KX.out _ (Below.drew (Rw.bel0 Y.out _))
          | fail)
        (first
        | (go_at_call 20; with_reducible refine (HTA.out _ (HBW.out _ (R0.bel (by first | with_reducible exact S0.out | with_reducible exact R0.drew S0.out | with_reducible exact R0.box S0.out _ | with_reducible exact R0.drew (R0.box S0.out _) | with_reducible exact R0.box (R0.drew S0.out) _ | fail)))).mono ?_
           rintro e w1 ⟨a1, a2, rfl, hn1, hb1⟩
           have S1 := Lib.hid (R0.on (by first | with_reducible exact S0.out | with_reducible exact R0.drew S0.out | with_reducible exact R0.box S0.out _ | with_reducible exact R0.drew (R0.box S0.out _) | with_reducible exact R0.box (R0.drew S0.out) _ | fail) hb1)
           have NA := Lib.hid hn1.cl
           clear hn1 hb1)
        | (go_at_call 20; with_reducible refine (HTB.out _ (HBW.out _ (R0.bel (by first | with_reducible exact S1.out | with_reducible exact R0.drew S1.out | with_reducible exact R0.box S1.out _ | with_reducible exact R0.drew (R0.box S1.out _) | with_reducible exact R0.box (R0.drew S1.out) _ | fail)))).mono ?_
           rintro e w2 ⟨b1, b2, rfl, hn2, hb2⟩
           have S2 := Lib.hid (R0.on (by first | with_reducible exact S1.out | with_reducible exact R0.drew S1.out | with_reducible exact R0.box S1.out _ | with_reducible exact R0.drew (R0.box S1.out _) | with_reducible exact R0.box (R0.drew S1.out) _ | fail) hb2)
           have MA := Lib.hid (Cl.on (Cl.on NA.out (by first | with_reducible exact Below.refl _ _ | with_reducible exact Below.drew (Below.refl _ _) | with_reducible exact below1 _ _ | with_reducible exact Below.drew (below1 _ _) | with_reducible exact Below.alloc (Below.drew (Below.refl _ _)) (Nat.le_refl _) _ | fail)) hb2)
           have NB := Lib.hid hn2.cl
           clear hn2 hb2)
        | (go_at_call 16; with_reducible refine (HS.out _ _ _ _ _ (Cl.on MA.out (by first | with_reducible exact Below.refl _ _ | with_reducible exact Below.drew (Below.refl _ _) | with_reducible exact below1 _ _ | with_reducible exact Below.drew (below1 _ _) | with_reducible exact Below.alloc (Below.drew (Below.refl _ _)) (Nat.le_refl _) _ | fail)) (Cl.on NB.out (by first | with_reducible exact Below.refl _ _ | with_reducible exact Below.drew (Below.refl _ _) | with_reducible exact below1 _ _ | with_reducible exact Below.drew (below1 _ _) | with_reducible exact Below.alloc (Below.drew (Below.refl _ _)) (Nat.le_refl _) _ | fail))).mono ?_
           rintro e w3 ⟨C1, d1, C2, d2, rfl, o1, o2, ne, hb3⟩
           have Y := Lib.hid (Rw.of (by first | with_reducible exact S2.out | with_reducible exact R0.drew S2.out | with_reducible exact R0.box S2.out _ | with_reducible exact R0.drew (R0.box S2.out _) | with_reducible exact R0.box (R0.drew S2.out) _ | fail) hb3 o1 o2 ne)
           have S3 := Lib.hid Y.out.r
           clear o1 o2 ne hb3
           (try (obtain ⟨_, j0, j1, f0, f1⟩ := (S3.out.bx _ rfl).2))))
    all_goals
      (first
        | (have D := Lib.hid (Rw.done1 Y.out))
        | (have D := Lib.hid (Rw.done0 Y.out 26)))
      (first
        | (generalize w3.heap.size = k at D ⊢; exact ⟨rfl, k, a1, a2, b1, b2, C1, d1, C2, d2, D, rfl⟩)
        | (generalize w2.heap.size = k at D ⊢; exact ⟨rfl, k, a1, a2, b1, b2, C1, d1, C2, d2, D, rfl⟩)
        | (generalize w1.heap.size = k at D ⊢; exact ⟨rfl, k, a1, a2, b1, b2, C1, d1, C2, d2, D, rfl⟩)
        | (generalize u.heap.size = k at D ⊢; exact ⟨rfl, k, a1, a2, b1, b2, C1, d1, C2, d2, D, rfl⟩)
        | fail)
  intro kw p1 p2 p3 p4 C1 d1 C2 d2 u1 D1
  have XA := Lib.hid (XB.out.on D1.out.bel)
  have CW := Lib.hid D1.out.cd
  have hwu : Hid (w.heap.size + 1 < u.heap.size) := Lib.hid lt
  clear KX HBW S0 k0 k1 k2 k3 ls lt XB D1
  obtain ⟨_, ca0, ca1, _, _⟩ := XA.out.a
  obtain ⟨_, cb0, cb1, _, _⟩ := XA.out.b
  go_wp2_with (go_at_call 20; (with_reducible refine (HTA.out _ XA.out.bel).mono ?_); rintro e w4 ⟨x1, x2, rfl, hn, hb⟩; refine Hid.out ?_)
  refine Lib.hid ?_
  have D : Hid (Dn u1 (w4.alloc (.cells #[.slice (some ⟨x1, 0, none⟩) n1 n1, .slice (some ⟨x2, 0, none⟩) n2 n2] 26)) w4.heap.size (.slice (some ⟨x1, 0, none⟩) n1 n1) (.slice (some ⟨x2, 0, none⟩) n2 n2) n1 n2 (we.map (Value.int .i64)) (ho.map (Value.int .i64))) := Lib.hid (Dn.ofNew hn hb _)
  clear ca0 ca1 cb0 cb1
  replace XA := Lib.hid (XA.out.on D.out.bel)
  replace CW := Lib.hid (CW.out.on D.out.bel)
  have CX := Lib.hid D.out.cd
  clear D hn hb
  obtain ⟨_, ca0, ca1, _, _⟩ := XA.out.a
  obtain ⟨_, cb0, cb1, _, _⟩ := XA.out.b
  go_wp2_with (go_at_call 20; (with_reducible refine (HTB.out _ XA.out.bel).mono ?_); rintro e w5 ⟨y1, y2, rfl, hn, hb⟩; refine Hid.out ?_)
  refine Lib.hid ?_
  have D : Hid (Dn (w4.alloc (.cells #[.slice (some ⟨x1, 0, none⟩) n1 n1, .slice (some ⟨x2, 0, none⟩) n2 n2] 26)) (w5.alloc (.cells #[.slice (some ⟨y1, 0, none⟩) m1 m1, .slice (some ⟨y2, 0, none⟩) m2 m2] 26)) w5.heap.size (.slice (some ⟨y1, 0, none⟩) m1 m1) (.slice (some ⟨y2, 0, none⟩) m2 m2) m1 m2 (we'.map (Value.int .i64)) (ho'.map (Value.int .i64))) := Lib.hid (Dn.ofNew hn hb _)
  clear ca0 ca1 cb0 cb1
  replace XA := Lib.hid (XA.out.on D.out.bel)
  replace CW := Lib.hid (CW.out.on D.out.bel)
  replace CX := Lib.hid (CX.out.on D.out.bel)
  have CY := Lib.hid D.out.cd
  clear D hn hb
  obtain ⟨_, cx0, cx1, _, _⟩ := CX.out.box
  obtain ⟨_, cy0, cy1, _, _⟩ := CY.out.box
  have HCX : Hid (Cl (w5.alloc (.cells #[.slice (some ⟨y1, 0, none⟩) m1 m1, .slice (some ⟨y2, 0, none⟩) m2 m2] 26)) (w5.alloc (.cells #[.slice (some ⟨y1, 0, none⟩) m1 m1, .slice (some ⟨y2, 0, none⟩) m2 m2] 26)).heap.size (some ⟨x1, 0, none⟩) n1 (some ⟨x2, 0, none⟩) n2 we ho) := Lib.hid (CX.out.cl HL.out.1 HL.out.2.1 (by omega) (by omega))
  have HCY : Hid (Cl (w5.alloc (.cells #[.slice (some ⟨y1, 0, none⟩) m1 m1, .slice (some ⟨y2, 0, none⟩) m2 m2] 26)) (w5.alloc (.cells #[.slice (some ⟨y1, 0, none⟩) m1 m1, .slice (some ⟨y2, 0, none⟩) m2 m2] 26)).heap.size (some ⟨y1, 0, none⟩) m1 (some ⟨y2, 0, none⟩) m2 we' ho') := Lib.hid (CY.out.cl HL.out.2.2.1 HL.out.2.2.2.1 (by omega) (by omega))
  go_wp2_with (go_at_call 15; (with_reducible refine (HI.out _ _ _ _ _ HCX.out HCY.out).mono ?_); rintro e w6 ⟨G1, f1, G2, f2, rfl, o1, o2, ne, hb⟩; refine Hid.out ?_)
  refine Lib.hid ?_
  have D : Hid (Dn (w5.alloc (.cells #[.slice (some ⟨y1, 0, none⟩) m1 m1, .slice (some ⟨y2, 0, none⟩) m2 m2] 26)) (w6.alloc (.cells #[.slice G1 l1 f1, .slice G2 l2 f2] 26)) w6.heap.size (.slice G1 l1 f1) (.slice G2 l2 f2) l1 l2 (W.map (Value.int .i64)) (H.map (Value.int .i64))) := Lib.hid (Rw.done0 (Rw.of (R0.start _) hb o1 o2 ne) _)
  clear cx0 cx1 cy0 cy1
  replace XA := Lib.hid (XA.out.on D.out.bel)
  replace CW := Lib.hid (CW.out.on D.out.bel)
  replace CX := Lib.hid (CX.out.on D.out.bel)
  replace CY := Lib.hid (CY.out.on D.out.bel)
  have CG := Lib.hid D.out.cd
  clear D o1 o2 ne hb HCX HCY
  have hbf : (f != f) = false := by cases f <;> rfl
  obtain ⟨_, cw0, cw1, _, _⟩ := CW.out.box
  obtain ⟨_, cg0, cg1, _, _⟩ := CG.out.box
  have HEQ : Hid (∀ v E1 E2 k1 k2 S1 S2 X1 X2 t1 t2 Y1 Y2 t3 t4, Cd v S1 E1 k1 (.slice X1 l1 t1) (.slice X2 l2 t2) l1 l2 (W.map (Value.int .i64)) (H.map (Value.int .i64)) → Cd v S2 E2 k2 (.slice Y1 l1 t3) (.slice Y2 l2 t4) l1 l2 (W.map (Value.int .i64)) (H.map (Value.int .i64)) → Calls Try.prog 22 #[.agg #[.slice X1 l1 t1, .slice X2 l2 t2], .agg #[.slice Y1 l1 t3, .slice Y2 l2 t4]] v fun e w' => e = .returned (.bool true) ∧ Below v.heap.size v w') :=
    Lib.hid fun v E1 E2 k1 k2 S1 S2 X1 X2 t1 t2 Y1 Y2 t3 t4 a b => eqC _ _ _ _ l1 t1 l2 t2 t3 t4 W H v (a.cl HL.out.2.2.2.2.1 HL.out.2.2.2.2.2 (by omega) (by omega)) (b.cl HL.out.2.2.2.2.1 HL.out.2.2.2.2.2 (by omega) (by omega))
  go_wp2_with (go_at_call 22; (with_reducible refine (HEQ.out _ _ _ _ _ _ _ _ _ _ _ _ _ _ _ CG.out CW.out).mono ?_); rintro e u5 ⟨rfl, hb⟩; refine Hid.out ?_)
  refine Lib.hid ?_
  clear cw0 cw1 cg0 cg1
  replace XA := Lib.hid (XA.out.on hb)
  replace CW := Lib.hid (CW.out.on hb)
  replace CX := Lib.hid (CX.out.on hb)
  replace CY := Lib.hid (CY.out.on hb)
  replace CG := Lib.hid (CG.out.on hb)
  clear hb
  generalize (w6.alloc (.cells #[.slice G1 l1 f1, .slice G2 l2 f2] 26)).heap.size = s4 at *
  generalize (w5.alloc (.cells #[.slice (some ⟨y1, 0, none⟩) m1 m1, .slice (some ⟨y2, 0, none⟩) m2 m2] 26)).heap.size = s3 at *
  generalize (w4.alloc (.cells #[.slice (some ⟨x1, 0, none⟩) n1 n1, .slice (some ⟨x2, 0, none⟩) n2 n2] 26)).heap.size = s2 at *
  generalize w4.heap.size = kx at *
  generalize w5.heap.size = ky at *
  generalize w6.heap.size = kg at *
  obtain ⟨_, ca0, ca1, _, _⟩ := XA.out.a
  obtain ⟨_, cb0, cb1, _, _⟩ := XA.out.b
  obtain ⟨_, cx0, cx1, _, _⟩ := CX.out.box
  obtain ⟨_, cy0, cy1, _, _⟩ := CY.out.box
  go_wp2_with fail
  have KX : Hid (∀ v, Below u5.heap.size u5 v → v.cell? ⟨w.heap.size, 0, none⟩ = some (.slice A1 n1 c1) ∧ v.cell? ⟨w.heap.size, 1, none⟩ = some (.slice A2 n2 c2) ∧ v.cell? ⟨kx, 0, none⟩ = some (.slice (some ⟨x1, 0, none⟩) n1 n1) ∧ v.cell? ⟨kx, 1, none⟩ = some (.slice (some ⟨x2, 0, none⟩) n2 n2)) := Lib.hid fun v h => by
    have hx := CX.out.on h
    have hy := XA.out.on h
    exact ⟨hy.a.c0, hy.a.c1, hx.box.c0, hx.box.c1⟩
  have HBW : Hid (∀ v, Below u5.heap.size u5 v → Below w.heap.size w v) := Lib.hid fun v h => (XA.out.on h).bel
  have b0 := Lib.hid (Below.refl u5.heap.size u5)
  go_region_held3 (fun v => v.cell? ⟨w.heap.size, 0, none⟩ = some (.slice A1 n1 c1) ∧ v.cell? ⟨w.heap.size, 1, none⟩ = some (.slice A2 n2 c2) ∧ v.cell? ⟨kx, 0, none⟩ = some (.slice (some ⟨x1, 0, none⟩) n1 n1) ∧ v.cell? ⟨kx, 1, none⟩ = some (.slice (some ⟨x2, 0, none⟩) n2 n2)) (first
      | with_reducible exact KX.out _ b0.out
      | with_reducible exact KX.out _ (Below.drew b0.out)
      | with_reducible exact KX.out _ b1.out
      | with_reducible exact KX.out _ (Below.drew b1.out)
      | with_reducible exact KX.out _ b2.out
      | with_reducible exact KX.out _ (Below.drew b2.out)
      | fail)
    (first
    | (go_at_call 20; (with_reducible refine (HTA.out _ (HBW.out _ (by first | with_reducible exact Below.refl _ _ | with_reducible exact Below.drew (Below.refl _ _) | fail))).mono ?_)
       rintro e wa ⟨a1, a2, rfl, hn, hb⟩
       have b1 : Hid (Below u5.heap.size u5 wa) := Lib.hid (Below.trans (by first | with_reducible exact Below.refl _ _ | with_reducible exact Below.drew (Below.refl _ _) | fail) (hb.mono (Nat.le_refl _)))
       have NA := Lib.hid hn.cl
       have NX := Lib.hid ((CX.out.on b1.out).cl HL.out.1 HL.out.2.1 (by omega) (by omega))
       clear hn hb)
    | (go_at_call 22; (with_reducible refine (eqC _ _ _ _ n1 n1 n2 n2 n1 n2 we ho _ (Cl.on NX.out (by first | with_reducible exact Below.refl _ _ | with_reducible exact Below.drew (Below.refl _ _) | fail)) (Cl.on NA.out (by first | with_reducible exact Below.refl _ _ | with_reducible exact Below.drew (Below.refl _ _) | fail))).mono ?_)
       rintro e u6 ⟨rfl, hb⟩
       have b2 : Hid (Below u5.heap.size u5 u6) := Lib.hid (b1.out.trans (Below.mono (Below.trans (by first | with_reducible exact Below.refl _ _ | with_reducible exact Below.drew (Below.refl _ _) | fail) (hb.mono (Nat.le_refl _))) b1.out.size))
       clear hb)
    | fail)
  clear ca0 ca1 cb0 cb1 cx0 cx1 cy0 cy1
  replace XA := Lib.hid (XA.out.on b2.out)
  replace CW := Lib.hid (CW.out.on b2.out)
  replace CX := Lib.hid (CX.out.on b2.out)
  replace CY := Lib.hid (CY.out.on b2.out)
  replace CG := Lib.hid (CG.out.on b2.out)
  clear KX HBW b0 b1 NA NX b2
  obtain ⟨_, ca0, ca1, _, _⟩ := XA.out.a
  obtain ⟨_, cb0, cb1, _, _⟩ := XA.out.b
  obtain ⟨_, cx0, cx1, _, _⟩ := CX.out.box
  obtain ⟨_, cy0, cy1, _, _⟩ := CY.out.box
  go_wp2_with fail
  have KX : Hid (∀ v, Below u6.heap.size u6 v → v.cell? ⟨(w.heap.size + 1), 0, none⟩ = some (.slice B1 m1 e1) ∧ v.cell? ⟨(w.heap.size + 1), 1, none⟩ = some (.slice B2 m2 e2) ∧ v.cell? ⟨ky, 0, none⟩ = some (.slice (some ⟨y1, 0, none⟩) m1 m1) ∧ v.cell? ⟨ky, 1, none⟩ = some (.slice (some ⟨y2, 0, none⟩) m2 m2)) := Lib.hid fun v h => by
    have hx := CY.out.on h
    have hy := XA.out.on h
    exact ⟨hy.b.c0, hy.b.c1, hx.box.c0, hx.box.c1⟩
  have HBW : Hid (∀ v, Below u6.heap.size u6 v → Below w.heap.size w v) := Lib.hid fun v h => (XA.out.on h).bel
  have b0 := Lib.hid (Below.refl u6.heap.size u6)
  go_region_held3 (fun v => v.cell? ⟨(w.heap.size + 1), 0, none⟩ = some (.slice B1 m1 e1) ∧ v.cell? ⟨(w.heap.size + 1), 1, none⟩ = some (.slice B2 m2 e2) ∧ v.cell? ⟨ky, 0, none⟩ = some (.slice (some ⟨y1, 0, none⟩) m1 m1) ∧ v.cell? ⟨ky, 1, none⟩ = some (.slice (some ⟨y2, 0, none⟩) m2 m2)) (first
      | with_reducible exact KX.out _ b0.out
      | with_reducible exact KX.out _ (Below.drew b0.out)
      | with_reducible exact KX.out _ b1.out
      | with_reducible exact KX.out _ (Below.drew b1.out)
      | with_reducible exact KX.out _ b2.out
      | with_reducible exact KX.out _ (Below.drew b2.out)
      | fail)
    (first
    | (go_at_call 20; (with_reducible refine (HTB.out _ (HBW.out _ (by first | with_reducible exact Below.refl _ _ | with_reducible exact Below.drew (Below.refl _ _) | fail))).mono ?_)
       rintro e wa ⟨a1, a2, rfl, hn, hb⟩
       have b1 : Hid (Below u6.heap.size u6 wa) := Lib.hid (Below.trans (by first | with_reducible exact Below.refl _ _ | with_reducible exact Below.drew (Below.refl _ _) | fail) (hb.mono (Nat.le_refl _)))
       have NA := Lib.hid hn.cl
       have NX := Lib.hid ((CY.out.on b1.out).cl HL.out.2.2.1 HL.out.2.2.2.1 (by omega) (by omega))
       clear hn hb)
    | (go_at_call 22; (with_reducible refine (eqC _ _ _ _ m1 m1 m2 m2 m1 m2 we' ho' _ (Cl.on NX.out (by first | with_reducible exact Below.refl _ _ | with_reducible exact Below.drew (Below.refl _ _) | fail)) (Cl.on NA.out (by first | with_reducible exact Below.refl _ _ | with_reducible exact Below.drew (Below.refl _ _) | fail))).mono ?_)
       rintro e u7 ⟨rfl, hb⟩
       have b2 : Hid (Below u6.heap.size u6 u7) := Lib.hid (b1.out.trans (Below.mono (Below.trans (by first | with_reducible exact Below.refl _ _ | with_reducible exact Below.drew (Below.refl _ _) | fail) (hb.mono (Nat.le_refl _))) b1.out.size))
       clear hb)
    | fail)
  clear ca0 ca1 cb0 cb1 cx0 cx1 cy0 cy1
  replace XA := Lib.hid (XA.out.on b2.out)
  replace CW := Lib.hid (CW.out.on b2.out)
  replace CX := Lib.hid (CX.out.on b2.out)
  replace CY := Lib.hid (CY.out.on b2.out)
  replace CG := Lib.hid (CG.out.on b2.out)
  clear KX HBW b0 b1 NA NX b2
  obtain ⟨_, cx0, cx1, _, _⟩ := CX.out.box
  obtain ⟨_, cy0, cy1, _, _⟩ := CY.out.box
  obtain ⟨t1, ht1⟩ : ∃ t : Nat, t = 1 + n1 + n2 := ⟨_, rfl⟩
  obtain ⟨t2, ht2⟩ : ∃ t : Nat, t = t1 + m1 + m2 := ⟨_, rfl⟩
  obtain ⟨t3, ht3⟩ : ∃ t : Nat, t = 1 + l1 + l2 := ⟨_, rfl⟩
  have q1 : t1 ≤ 5000000 := by omega
  have q2 : t2 ≤ 5000000 := by omega
  have q3 : t3 ≤ 5000000 := by omega
  have M1 : Hid (Calls Try.prog 25 #[.agg #[.slice (some ⟨x1, 0, none⟩) n1 n1, .slice (some ⟨x2, 0, none⟩) n2 n2], .int .i64 1] u7 fun e w' => e = .returned (.int .i64 (t1 : Int)) ∧ Kp (Two (.slice (some ⟨x1, 0, none⟩) n1 n1) (.slice (some ⟨x2, 0, none⟩) n2 n2)) u7 w') := Lib.hid (by
    refine (markC _ _ n1 n1 n2 n2 _ 1 _ _ u7 (by omega) (by omega) (by omega) CX.out.o1 CX.out.o2 CX.out.ne).mono ?_
    rintro e w' ⟨rfl, _, _, hk⟩
    exact ⟨by rw [ht1], hk⟩)
  have M2 : Hid (∀ v S E, Cd v S E ky (.slice (some ⟨y1, 0, none⟩) m1 m1) (.slice (some ⟨y2, 0, none⟩) m2 m2) m1 m2 (we'.map (Value.int .i64)) (ho'.map (Value.int .i64)) → Calls Try.prog 25 #[.agg #[.slice (some ⟨y1, 0, none⟩) m1 m1, .slice (some ⟨y2, 0, none⟩) m2 m2], .int .i64 (t1 : Int)] v fun e w' => e = .returned (.int .i64 (t2 : Int)) ∧ Kp (Two (.slice (some ⟨y1, 0, none⟩) m1 m1) (.slice (some ⟨y2, 0, none⟩) m2 m2)) v w') := Lib.hid (fun v S E h => by
    refine (markC _ _ m1 m1 m2 m2 _ t1 _ _ v (by omega) (by omega) (by omega) h.o1 h.o2 h.ne).mono ?_
    rintro e w' ⟨rfl, _, _, hk⟩
    exact ⟨by rw [ht2], hk⟩)
  have M3 : Hid (∀ v S E, Cd v S E kg (.slice G1 l1 f1) (.slice G2 l2 f2) l1 l2 (W.map (Value.int .i64)) (H.map (Value.int .i64)) → Calls Try.prog 25 #[.agg #[.slice G1 l1 f1, .slice G2 l2 f2], .int .i64 1] v fun e w' => e = .returned (.int .i64 (t3 : Int)) ∧ Kp (Two (.slice G1 l1 f1) (.slice G2 l2 f2)) v w' ∧ ∃ P Q, Cd w' S E kg (.slice G1 l1 f1) (.slice G2 l2 f2) l1 l2 P Q ∧ Marked 1 l1 P ∧ Marked (1 + l1) l2 Q) := Lib.hid (fun v S E h => by
    refine (markC _ _ l1 f1 l2 f2 _ 1 _ _ v (by omega) (by omega) (by omega) h.o1 h.o2 h.ne).mono ?_
    rintro e w' ⟨rfl, ⟨P, o1, m1⟩, ⟨Q, o2, m2⟩, hk⟩
    exact ⟨by rw [ht3], hk, P, Q, h.own hk o1 o2, m1, m2⟩)
  have M4 : Hid (∀ v S E P Q, Cd v S E kg (.slice G1 l1 f1) (.slice G2 l2 f2) l1 l2 P Q → Marked 1 l1 P → Marked (1 + l1) l2 Q → Calls Try.prog 26 #[.agg #[.slice G1 l1 f1, .slice G2 l2 f2], .int .i64 1] v fun e w' => e = .returned (.int .i64 (t3 : Int)) ∧ Below v.heap.size v w') := Lib.hid (fun v S E P Q h m1 m2 => by
    refine (heldC _ _ l1 f1 l2 f2 _ 1 _ _ v (by omega) (by omega) (by omega) h.o1 m1 h.o2 m2).mono ?_
    rintro e w' ⟨rfl, hb⟩
    exact ⟨by rw [ht3], hb⟩)
  clear ht1 ht2 ht3
  have OR : Hid (w.heap.size + 1 < u1.heap.size ∧ u1.heap.size < s2 ∧ s2 < s3 ∧ s3 < s4) := Lib.hid (by
    have := hwu.out; have := CW.out.sk; have := CW.out.ke; have := CX.out.sk; have := CX.out.ke; have := CY.out.sk; have := CY.out.ke; have := CG.out.sk; have := CG.out.ke
    omega)
  go_wp2_with (go_at_call 25; (with_reducible refine M1.out.mono ?_); rintro e u8 ⟨rfl, hk⟩; refine Hid.out ?_)
  refine Lib.hid ?_
  replace XA := Lib.hid (XA.out.far CX.out hk (by have := OR.out; omega))
  replace CW := Lib.hid (CW.out.far CX.out hk (Or.inl (Nat.le_refl _)))
  replace CY := Lib.hid (CY.out.far CX.out hk (Or.inr (Nat.le_refl _)))
  replace CG := Lib.hid (CG.out.far CX.out hk (Or.inr (by have := OR.out; omega)))
  clear cx0 cx1 cy0 cy1 CX hk M1
  obtain ⟨_, cy0, cy1, _, _⟩ := CY.out.box
  go_wp2_with (go_at_call 25; (with_reducible refine (M2.out _ _ _ CY.out).mono ?_); rintro e u9 ⟨rfl, hk⟩; refine Hid.out ?_)
  refine Lib.hid ?_
  replace XA := Lib.hid (XA.out.far CY.out hk (by have := OR.out; omega))
  replace CW := Lib.hid (CW.out.far CY.out hk (Or.inl (by have := OR.out; omega)))
  replace CG := Lib.hid (CG.out.far CY.out hk (Or.inr (Nat.le_refl _)))
  clear cy0 cy1 CY hk M2
  obtain ⟨_, cw0, cw1, _, _⟩ := CW.out.box
  obtain ⟨_, cg0, cg1, _, _⟩ := CG.out.box
  go_wp2_with (go_at_call 22; (with_reducible refine (HEQ.out _ _ _ _ _ _ _ _ _ _ _ _ _ _ _ CG.out CW.out).mono ?_); rintro e u10 ⟨rfl, hb⟩; refine Hid.out ?_)
  refine Lib.hid ?_
  clear cw0 cw1 cg0 cg1
  replace XA := Lib.hid (XA.out.on hb)
  replace CW := Lib.hid (CW.out.on hb)
  replace CG := Lib.hid (CG.out.on hb)
  clear hb
  obtain ⟨_, cg0, cg1, _, _⟩ := CG.out.box
  go_wp2_with (go_at_call 25; (with_reducible refine (M3.out _ _ _ CG.out).mono ?_); rintro e u11 ⟨rfl, hk, P, Q, cgn, mk1, mk2⟩; refine Hid.out ?_)
  refine Lib.hid ?_
  replace XA := Lib.hid (XA.out.far CG.out hk (by have := OR.out; omega))
  replace CW := Lib.hid (CW.out.far CG.out hk (Or.inl (by have := OR.out; omega)))
  replace CG := Lib.hid cgn
  have MK := Lib.hid (And.intro mk1 mk2)
  clear cg0 cg1 hk M3 cgn mk1 mk2
  obtain ⟨_, cg0, cg1, _, _⟩ := CG.out.box
  go_wp2_with (go_at_call 26; (with_reducible refine (M4.out _ _ _ _ _ CG.out MK.out.1 MK.out.2).mono ?_); rintro e u12 ⟨rfl, hb⟩; refine Hid.out ?_)
  refine Lib.hid ?_
  clear cg0 cg1
  replace XA := Lib.hid (XA.out.on hb)
  replace CW := Lib.hid (CW.out.on hb)
  replace CG := Lib.hid (CG.out.on hb)
  clear hb
  obtain ⟨_, ca0, ca1, _, _⟩ := XA.out.a
  obtain ⟨_, cb0, cb1, _, _⟩ := XA.out.b
  go_wp2_with fail
  have KX : Hid (∀ v, Below u12.heap.size u12 v → v.cell? ⟨w.heap.size, 0, none⟩ = some (.slice A1 n1 c1) ∧ v.cell? ⟨w.heap.size, 1, none⟩ = some (.slice A2 n2 c2) ∧ v.cell? ⟨(w.heap.size + 1), 0, none⟩ = some (.slice B1 m1 e1) ∧ v.cell? ⟨(w.heap.size + 1), 1, none⟩ = some (.slice B2 m2 e2)) := Lib.hid fun v h => by
    have := XA.out.on h
    exact ⟨this.a.c0, this.a.c1, this.b.c0, this.b.c1⟩
  have HBW : Hid (∀ v, Below u12.heap.size u12 v → Below w.heap.size w v) := Lib.hid fun v h => (XA.out.on h).bel
  have S0 := Lib.hid (R0.start u12)
  have ls := XA.out.a.lt
  have lt := XA.out.b.lt
  apply cut9 (R := (fun k C1 d1 C2 d2 v => Dn u12 v k (.slice C1 l1 d1) (.slice C2 l2 d2) l1 l2 (W.map (Value.int .i64)) (H.map (Value.int .i64))))
  · go_region_held3 (fun v => v.cell? ⟨w.heap.size, 0, none⟩ = some (.slice A1 n1 c1) ∧ v.cell? ⟨w.heap.size, 1, none⟩ = some (.slice A2 n2 c2) ∧ v.cell? ⟨(w.heap.size + 1), 0, none⟩ = some (.slice B1 m1 e1) ∧ v.cell? ⟨(w.heap.size + 1), 1, none⟩ = some (.slice B2 m2 e2)) (first
          | with_reducible exact KX.out _ (R0.bel S0.out)
          | with_reducible exact KX.out _ (R0.bel (R0.drew S0.out))
          | with_reducible exact KX.out _ (R0.bel (R0.box S0.out _))
          | with_reducible exact KX.out _ (R0.bel (R0.drew (R0.box S0.out _)))
          | with_reducible exact KX.out _ (R0.bel (R0.box (R0.drew S0.out) _))
          | with_reducible exact KX.out _ (R0.bel S1.out)
          | with_reducible exact KX.out _ (R0.bel (R0.drew S1.out))
          | with_reducible exact KX.out _ (R0.bel (R0.box S1.out _))
          | with_reducible exact KX.out _ (R0.bel (R0.drew (R0.box S1.out _)))
          | with_reducible exact KX.out _ (R0.bel (R0.box (R0.drew S1.out) _))
          | with_reducible exact KX.out _ (R0.bel S2.out)
          | with_reducible exact KX.out _ (R0.bel (R0.drew S2.out))
          | with_reducible exact KX.out _ (R0.bel (R0.box S2.out _))
          | with_reducible exact KX.out _ (R0.bel (R0.drew (R0.box S2.out _)))
          | with_reducible exact KX.out _ (R0.bel (R0.box (R0.drew S2.out) _))
          | with_reducible exact KX.out _ (R0.bel S3.out)
          | with_reducible exact KX.out _ (R0.bel (R0.drew S3.out))
          | with_reducible exact KX.out _ (R0.bel (R0.box S3.out _))
          | with_reducible exact KX.out _ (R0.bel (R0.drew (R0.box S3.out _)))
          | with_reducible exact KX.out _ (R0.bel (R0.box (R0.drew S3.out) _))
          | with_reducible exact KX.out _ (Rw.bel Y.out)
          | with_reducible exact KX.out _ (Rw.bel0 Y.out _)
          | with_reducible exact KX.out _ (Below.drew (Rw.bel Y.out))
          | with_reducible exact KX.out _ (Below.drew (Rw.bel0 Y.out _))
          | fail)
        (first
        | (go_at_call 20; with_reducible refine (HTA.out _ (HBW.out _ (R0.bel (by first | with_reducible exact S0.out | with_reducible exact R0.drew S0.out | with_reducible exact R0.box S0.out _ | with_reducible exact R0.drew (R0.box S0.out _) | with_reducible exact R0.box (R0.drew S0.out) _ | fail)))).mono ?_
           rintro e w1 ⟨a1, a2, rfl, hn1, hb1⟩
           have S1 := Lib.hid (R0.on (by first | with_reducible exact S0.out | with_reducible exact R0.drew S0.out | with_reducible exact R0.box S0.out _ | with_reducible exact R0.drew (R0.box S0.out _) | with_reducible exact R0.box (R0.drew S0.out) _ | fail) hb1)
           have NA := Lib.hid hn1.cl
           clear hn1 hb1)
        | (go_at_call 20; with_reducible refine (HTB.out _ (HBW.out _ (R0.bel (by first | with_reducible exact S1.out | with_reducible exact R0.drew S1.out | with_reducible exact R0.box S1.out _ | with_reducible exact R0.drew (R0.box S1.out _) | with_reducible exact R0.box (R0.drew S1.out) _ | fail)))).mono ?_
           rintro e w2 ⟨b1, b2, rfl, hn2, hb2⟩
           have S2 := Lib.hid (R0.on (by first | with_reducible exact S1.out | with_reducible exact R0.drew S1.out | with_reducible exact R0.box S1.out _ | with_reducible exact R0.drew (R0.box S1.out _) | with_reducible exact R0.box (R0.drew S1.out) _ | fail) hb2)
           have MA := Lib.hid (Cl.on (Cl.on NA.out (by first | with_reducible exact Below.refl _ _ | with_reducible exact Below.drew (Below.refl _ _) | with_reducible exact below1 _ _ | with_reducible exact Below.drew (below1 _ _) | with_reducible exact Below.alloc (Below.drew (Below.refl _ _)) (Nat.le_refl _) _ | fail)) hb2)
           have NB := Lib.hid hn2.cl
           clear hn2 hb2)
        | (go_at_call 15; with_reducible refine (HI.out _ _ _ _ _ (Cl.on MA.out (by first | with_reducible exact Below.refl _ _ | with_reducible exact Below.drew (Below.refl _ _) | with_reducible exact below1 _ _ | with_reducible exact Below.drew (below1 _ _) | with_reducible exact Below.alloc (Below.drew (Below.refl _ _)) (Nat.le_refl _) _ | fail)) (Cl.on NB.out (by first | with_reducible exact Below.refl _ _ | with_reducible exact Below.drew (Below.refl _ _) | with_reducible exact below1 _ _ | with_reducible exact Below.drew (below1 _ _) | with_reducible exact Below.alloc (Below.drew (Below.refl _ _)) (Nat.le_refl _) _ | fail))).mono ?_
           rintro e w3 ⟨C1, d1, C2, d2, rfl, o1, o2, ne, hb3⟩
           have Y := Lib.hid (Rw.of (by first | with_reducible exact S2.out | with_reducible exact R0.drew S2.out | with_reducible exact R0.box S2.out _ | with_reducible exact R0.drew (R0.box S2.out _) | with_reducible exact R0.box (R0.drew S2.out) _ | fail) hb3 o1 o2 ne)
           have S3 := Lib.hid Y.out.r
           clear o1 o2 ne hb3
           (try (obtain ⟨_, j0, j1, f0, f1⟩ := (S3.out.bx _ rfl).2))))
    all_goals
      (first
        | (have D := Lib.hid (Rw.done1 Y.out))
        | (have D := Lib.hid (Rw.done0 Y.out 26)))
      (first
        | (generalize w3.heap.size = k at D ⊢; exact ⟨rfl, k, a1, a2, b1, b2, C1, d1, C2, d2, D, rfl⟩)
        | (generalize w2.heap.size = k at D ⊢; exact ⟨rfl, k, a1, a2, b1, b2, C1, d1, C2, d2, D, rfl⟩)
        | (generalize w1.heap.size = k at D ⊢; exact ⟨rfl, k, a1, a2, b1, b2, C1, d1, C2, d2, D, rfl⟩)
        | (generalize u12.heap.size = k at D ⊢; exact ⟨rfl, k, a1, a2, b1, b2, C1, d1, C2, d2, D, rfl⟩)
        | fail)
  intro kh p5 p6 p7 p8 H1 i1 H2 i2 u13 D
  clear ca0 ca1 cb0 cb1
  replace XA := Lib.hid (XA.out.on D.out.bel)
  replace CW := Lib.hid (CW.out.on D.out.bel)
  replace CG := Lib.hid (CG.out.on D.out.bel)
  have CH := Lib.hid D.out.cd
  clear KX HBW S0 ls lt D
  obtain ⟨_, cw0, cw1, _, _⟩ := CW.out.box
  obtain ⟨_, ch0, ch1, _, _⟩ := CH.out.box
  go_wp2_with (go_at_call 22; (with_reducible refine (HEQ.out _ _ _ _ _ _ _ _ _ _ _ _ _ _ _ CH.out CW.out).mono ?_); rintro e u14 ⟨rfl, hb⟩; refine Hid.out ?_)
  refine Lib.hid ?_
  clear cw0 cw1 ch0 ch1
  replace XA := Lib.hid (XA.out.on hb)
  replace CW := Lib.hid (CW.out.on hb)
  replace CG := Lib.hid (CG.out.on hb)
  replace CH := Lib.hid (CH.out.on hb)
  clear hb
  obtain ⟨_, cg0, cg1, _, _⟩ := CG.out.box
  go_wp2_with (go_at_call 26; (with_reducible refine (M4.out _ _ _ _ _ CG.out MK.out.1 MK.out.2).mono ?_); rintro e u15 ⟨rfl, hb⟩; refine Hid.out ?_)
  refine Lib.hid ?_
  clear cg0 cg1
  replace XA := Lib.hid (XA.out.on hb)
  replace CW := Lib.hid (CW.out.on hb)
  replace CG := Lib.hid (CG.out.on hb)
  replace CH := Lib.hid (CH.out.on hb)
  clear hb
  go_wp2_with fail
  go_ret
  exact ⟨rfl, XA.out.bel⟩

theorem over (A1 A2 B1 B2 : Option Addr) (n1 c1 n2 c2 m1 e1 m2 e2 : Nat) (q1 : n1 ≤ maxLen) (q2 : n2 ≤ maxLen) (q3 : m1 ≤ maxLen) (q4 : m2 ≤ maxLen) (hm : 1048576 < n1 + n2 + (m1 + m2)) (w : World) :
    Calls Try.prog 8 #[.agg #[.slice A1 n1 c1, .slice A2 n2 c2], .agg #[.slice B1 m1 e1, .slice B2 m2 e2]] w fun e w' => e = .returned (.bool true) ∧ Below w.heap.size w w' := by
  by_cases h : 1048576 < n1 + n2
  · have HSZ := Lib.hid fun w => szNo A1 A2 n1 c1 n2 c2 1048576 (Nat.le_refl _) q1 q2 h w
    go_enter Try.func8, Try.ntmps8
    go_wp2_with (go_at_call 18; refine (HSZ.out _).mono ?_; rintro e w' ⟨rfl, rfl⟩)
    go_ret
    exact ⟨rfl, ((below1 _ _).alloc (by simp) _).alloc (by simp; omega) _⟩
  · have HSA : Hid (∃ lf : Nat, lf ≤ 1048576 ∧ (∀ w, Calls Try.prog 18 #[.agg #[.slice A1 n1 c1, .slice A2 n2 c2], .int .i64 1048576] w fun e w' => e = .returned (.int .i64 (lf : Int)) ∧ w.alloc (.cells #[.slice A1 n1 c1, .slice A2 n2 c2] 37) = w') ∧ (∀ w, Calls Try.prog 18 #[.agg #[.slice B1 m1 e1, .slice B2 m2 e2], .int .i64 (lf : Int)] w fun e w' => e = .returned (.int .i64 (-1)) ∧ w.alloc (.cells #[.slice B1 m1 e1, .slice B2 m2 e2] 37) = w')) :=
      Lib.hid ⟨1048576 - (n1 + n2), by omega, fun w => szYes A1 A2 n1 c1 n2 c2 1048576 (Nat.le_refl _) (by omega) w, fun w => szNo B1 B2 m1 e1 m2 e2 (1048576 - (n1 + n2)) (by omega) q3 q4 (by omega) w⟩
    obtain ⟨lf, hlf, hsa, hsb⟩ := HSA.out
    have HA := Lib.hid hsa
    have HB := Lib.hid hsb
    clear hsa hsb HSA
    go_enter Try.func8, Try.ntmps8
    go_wp2_with (first
      | (go_at_call 18; (first | with_reducible refine (HA.out _).mono ?_ | with_reducible refine (HB.out _).mono ?_); rintro e w' ⟨rfl, rfl⟩)
      | fail)
    go_ret
    exact ⟨rfl, (((below1 _ _).alloc (by simp) _).alloc (by simp; omega) _).alloc (by simp; omega) _⟩

end Go.Proofs.Ytglpkanegehcbaa.JoinW
