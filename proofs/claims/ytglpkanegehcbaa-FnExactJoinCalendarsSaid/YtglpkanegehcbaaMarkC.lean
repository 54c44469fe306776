/-
  The marks that the laws write into a calendar's two rows, and read back: markCalendar and heldCalendar.
-/
import Derived.Test.YtglpkanegehcbaaCalLaw
import Derived.Test.YtglpkanegehcbaaUniS
namespace Go.Proofs.Ytglpkanegehcbaa.MarkC
open Go.RowKit Go.Proofs.Ytglpkanegehcbaa.IRow Go.Proofs.Ytglpkanegehcbaa.Biz Go.Proofs.Ytglpkanegehcbaa.Asc Go.Proofs.Ytglpkanegehcbaa.CalLaw Go.Proofs.Ytglpkanegehcbaa.UniS
set_option linter.unusedVariables false
set_option linter.unusedSimpArgs false

/-- From u to v nothing has changed but the blocks of S, and what is new. -/
structure Kp (S : Nat → Prop) (u v : World) : Prop where
  os : v.os = u.os
  tape : v.tape = u.tape
  output : v.output = u.output
  size : u.heap.size ≤ v.heap.size
  block : ∀ k, k < u.heap.size → ¬ S k → v.heap[k]? = u.heap[k]?
theorem Kp.refl (S : Nat → Prop) (u : World) : Kp S u u := ⟨rfl, rfl, rfl, Nat.le_refl _, fun _ _ _ => rfl⟩
theorem Kp.trans {S : Nat → Prop} {u v w : World} (h : Kp S u v) (k : Kp S v w) : Kp S u w :=
  ⟨k.os.trans h.os, k.tape.trans h.tape, k.output.trans h.output, Nat.le_trans h.size k.size, fun i hi hs => (k.block i (Nat.lt_of_lt_of_le hi h.size) hs).trans (h.block i hi hs)⟩
theorem Kp.of {S : Nat → Prop} {u v : World} (h : Below u.heap.size u v) : Kp S u v := ⟨h.os, h.tape, h.output, h.size, fun k hk _ => h.block k hk⟩
theorem Kp.more {S T : Nat → Prop} {u v : World} (h : Kp S u v) (hs : ∀ k, S k → T k) : Kp T u v := ⟨h.os, h.tape, h.output, h.size, fun k hk hn => h.block k hk (fun e => hn (hs k e))⟩
theorem Kp.on {S : Nat → Prop} {u v w : World} (h : Kp S u v) (hb : Below v.heap.size v w) : Kp S u w := h.trans (Kp.of hb)
theorem Kp.bx {S : Nat → Prop} {u v : World} {k : Nat} {a b : Value} (h : Kp S u v) (hx : Bx k u a b) (hk : ¬ S k) : Bx k v a b :=
  have e := h.block k hx.lt hk
  ⟨Nat.lt_of_lt_of_le hx.lt h.size, (World.cell?_of_block (w := u) e).trans hx.c0, (World.cell?_of_block (w := u) e).trans hx.c1, (World.frozen?_of_block (w := u) e).trans hx.f0, (World.frozen?_of_block (w := u) e).trans hx.f1⟩
theorem Kp.own {S : Nat → Prop} {u v : World} {B n : Nat} {e : TypeId} {x : Value} {xs : List Value} (h : Kp S u v) (ho : u.ownsRow B e 1 x n xs) (hk : ∀ j, x.ownBlock = some j → ¬ S j) : v.ownsRow B e 1 x n xs := by
  refine ⟨ho.1, ?_⟩
  rcases ho.2 with hn | ⟨g, cap, cur, rfl, hb, hgg, rest⟩
  · exact .inl hn
  · exact .inr ⟨g, cap, cur, rfl, hb, (h.block g (Array.getElem?_eq_some_iff.1 hgg).1 (hk g rfl)).trans hgg, rest⟩
theorem Kp.below {S : Nat → Prop} {u v : World} {B : Nat} (h : Kp S u v) (hB : ∀ k, S k → B ≤ k) (hu : B ≤ u.heap.size) : Below B u v :=
  ⟨h.os, h.tape, h.output, h.size, fun k hk => h.block k (by omega) (fun e => by have := hB k e; omega)⟩

theorem own_at {w : World} {base e n cap : Nat} {A : Option Addr} {xs : List Value} (h : w.ownsRow base e 1 (.slice A n cap) n xs) (h0 : 0 < n) : ∃ g, A = some ⟨g, 0, none⟩ ∧ base ≤ g ∧ g < w.heap.size := by
  rcases h.2 with ⟨_, h2⟩ | ⟨g, c, cur, hv, hb, hh, _⟩
  · omega
  · injection hv with h1 h2 h3
    exact ⟨g, h1, hb, (Array.getElem?_eq_some_iff.1 hh).1⟩

/-- The first k elements are the marks from s on. -/
def Marked (s k : Nat) (xs : List Value) : Prop := ∀ j, j < k → xs[j]? = some (.int .i64 ((s + j : Nat) : Int))
theorem Marked.set {s k : Nat} {xs : List Value} (h : Marked s k xs) (hk : k < xs.length) : Marked s (k + 1) (xs.set k (.int .i64 ((s + k : Nat) : Int))) := fun j hj => by
  by_cases e : j = k
  · subst e; rw [List.getElem?_set_self hk]
  · rw [List.getElem?_set_ne (by omega)]; exact h j (by omega)

/-- The block of a slice. -/
def Blk (x : Value) : Nat → Prop := fun k => x.ownBlock = some k

theorem Kp.set {g : Nat} {w w' : World} {n c : Nat} (h : Kp (Blk (.slice (some ⟨g, 0, none⟩) n c)) w w') (k : Nat) (u : Value) : Kp (Blk (.slice (some ⟨g, 0, none⟩) n c)) w (w'.setCell ⟨g, k, none⟩ u) :=
  h.trans ⟨rfl, rfl, rfl, by rw [World.size_setCell]; exact Nat.le_refl _, fun j _ hj => Below.heap_setCell w' ⟨g, k, none⟩ u j (fun e => hj (by subst e; rfl))⟩

set_option maxHeartbeats 1000000 in
theorem markI (A : Option Addr) (n cap base s : Nat) (xs : List Value) (w : World) (hn : n ≤ 3000000) (hs : s ≤ 9000000) (hown : w.ownsRow base 3 1 (.slice A n cap) n xs) :
    Calls Try.prog 47 #[.slice A n cap, .int .i64 s] w fun e w' =>
      e = .returned (.int .i64 ((s + n : Nat) : Int)) ∧ (∃ ys, w'.ownsRow base 3 1 (.slice A n cap) n ys ∧ Marked s n ys) ∧ Kp (Blk (.slice A n cap)) w w' := by
  go_enter Try.func47, Try.ntmps47
  go_wp2_with fail
  go_loopw [1, 5] (fun m i wr => ∃ (k : Nat) (ys : List Value), k ≤ n ∧ m = .int .i64 ((s + k : Nat) : Int) ∧ i = .int .i64 k ∧ wr.ownsRow base 3 1 (.slice A n cap) n ys ∧ Hid (Marked s k ys) ∧ Hid (Kp (Blk (.slice A n cap)) w wr)) (fun _ i _ => n - (intOf i).toNat)
  case atStart => exact ⟨0, xs, Nat.zero_le _, rfl, rfl, hown, Lib.hid (fun j hj => by omega), Lib.hid (Kp.refl _ _)⟩
  case round =>
    obtain ⟨k, ys, hk, rfl, rfl, hown, HM, HB⟩ := hrel
    by_cases hlt : k < n
    · obtain ⟨g, rfl, hg, _⟩ := own_at hown (by omega)
      have hfz : wr.frozen? ⟨g, k, none⟩ = false := hown.frozenAt k
      obtain ⟨old, hold⟩ : ∃ old, wr.cell? ⟨g, k, none⟩ = some old := by
        rw [hown.cellAt k (by omega)]
        exact ⟨_, List.getElem?_eq_getElem (by rw [hown.1]; omega)⟩
      obtain ⟨p, hp⟩ : ∃ p : Nat, p = s + k := ⟨_, rfl⟩
      have hpb : p ≤ 12000000 := by omega
      have HR : Hid (∀ w4, wr.setCell ⟨g, k, none⟩ (.int .i64 p) = w4 → w4.ownsRow base 3 1 (.slice (some ⟨g, 0, none⟩) n cap) n (ys.set k (.int .i64 p)) ∧ Kp (Blk (.slice (some ⟨g, 0, none⟩) n cap)) w w4) := Lib.hid (by
        rintro _ rfl
        exact ⟨(hown.stored k (.int .i64 p)).1, HB.out.set k _⟩)
      have HL : Hid (Marked s (k + 1) (ys.set k (.int .i64 p))) := Lib.hid (by rw [hp]; exact HM.out.set (by rw [hown.1]; omega))
      have HP : Hid (p + 1 = s + (k + 1)) := Lib.hid (by omega)
      rw [← hp]
      clear hown hp HB
      go_wp2
      go_roundw
      case rel => exact ⟨k + 1, ys.set k (.int .i64 p), by omega, by rw [← HP.out]; go_num, by go_num, (HR.out _ rfl).1, Lib.hid HL.out, Lib.hid (HR.out _ rfl).2⟩
      case measure => simp [intOf]; omega
    · have e : k = n := by omega
      subst e
      go_wp2
      go_ret
      exact ⟨rfl, ⟨ys, hown, HM.out⟩, HB.out⟩

set_option maxHeartbeats 1000000 in
theorem heldI (A : Option Addr) (n cap base s : Nat) (ys : List Value) (w : World) (hn : n ≤ 3000000) (hs : s ≤ 9000000) (hown : w.ownsRow base 3 1 (.slice A n cap) n ys) (hm : Marked s n ys) :
    Calls Try.prog 48 #[.slice A n cap, .int .i64 s] w fun e w' =>
      e = .returned (.int .i64 ((s + n : Nat) : Int)) ∧ ∃ q, w' = w.drewN q := by
  have HM := Lib.hid hm
  clear hm
  go_enter Try.func48, Try.ntmps48
  go_wp2_with fail
  go_loopw [1, 5] (fun m i wr => ∃ (k q : Nat), k ≤ n ∧ m = .int .i64 ((s + k : Nat) : Int) ∧ i = .int .i64 k ∧ wr = w.drewN q) (fun _ i _ => n - (intOf i).toNat)
  case atStart => exact ⟨0, 0, Nat.zero_le _, rfl, rfl, rfl⟩
  case round =>
    obtain ⟨k, q, hk, rfl, rfl, rfl⟩ := hrel
    by_cases hlt : k < n
    · obtain ⟨g, rfl, hg, _⟩ := own_at hown (by omega)
      obtain ⟨p, hp⟩ : ∃ p : Nat, p = s + k := ⟨_, rfl⟩
      have hc : w.cell? ⟨g, k, none⟩ = some (.int .i64 p) := by rw [hown.cellAt k (by omega), hp]; exact HM.out k hlt
      have hpb : p ≤ 12000000 := by omega
      have HP : Hid (p + 1 = s + (k + 1)) := Lib.hid (by omega)
      rw [← hp]
      clear hp
      have i0 : (0 : Int) ≤ (k : Int) := by omega
      have i1 : (k : Int) < (n : Int) := by omega
      go_wp2_with fail
      go_roundw
      case rel => exact ⟨k + 1, _, by omega, by rw [← HP.out]; go_num, by go_num, rfl⟩
      case measure => simp [intOf]; omega
    · have e : k = n := by omega
      subst e
      go_wp2_with fail
      go_ret
      exact ⟨rfl, _, rfl⟩

/-- The blocks of a calendar's rows. -/
def Two (x y : Value) : Nat → Prop := fun k => x.ownBlock = some k ∨ y.ownBlock = some k

theorem own_lt {w : World} {S n : Nat} {e : TypeId} {x : Value} {xs : List Value} (h : w.ownsRow S e 1 x n xs) : ∀ j, x.ownBlock = some j → S ≤ j ∧ j < w.heap.size := fun j hj => by
  rcases h.2 with ⟨hv, _⟩ | ⟨g, c, cur, hv, hS, hh, _⟩
  · subst hv; cases hj
  · subst hv; cases hj; exact ⟨hS, (Array.getElem?_eq_some_iff.1 hh).1⟩

set_option maxHeartbeats 1000000 in
theorem markC (A1 A2 : Option Addr) (n1 c1 n2 c2 base s : Nat) (xs ys : List Value) (w : World) (h1 : n1 ≤ 2000000) (h2 : n2 ≤ 2000000) (hs : s ≤ 5000000)
    (o1 : w.ownsRow base 3 1 (.slice A1 n1 c1) n1 xs) (o2 : w.ownsRow base 3 1 (.slice A2 n2 c2) n2 ys) (ne : ∀ j, (Value.slice A1 n1 c1).ownBlock = some j → (Value.slice A2 n2 c2).ownBlock ≠ some j) :
    Calls Try.prog 25 #[.agg #[.slice A1 n1 c1, .slice A2 n2 c2], .int .i64 s] w fun e w' =>
      e = .returned (.int .i64 ((s + n1 + n2 : Nat) : Int)) ∧ (∃ zs, w'.ownsRow base 3 1 (.slice A1 n1 c1) n1 zs ∧ Marked s n1 zs) ∧ (∃ zs, w'.ownsRow base 3 1 (.slice A2 n2 c2) n2 zs ∧ Marked (s + n1) n2 zs) ∧ Kp (Two (.slice A1 n1 c1) (.slice A2 n2 c2)) w w' := by
  have X0 := Lib.hid (Bx.new w (.slice A1 n1 c1) (.slice A2 n2 c2) 26)
  have K0 : Hid (Kp (Two (.slice A1 n1 c1) (.slice A2 n2 c2)) w (w.alloc (.cells #[.slice A1 n1 c1, .slice A2 n2 c2] 26))) := Lib.hid (Kp.of (below1 _ _))
  have O1 := Lib.hid (own_below o1 (below1 w (.cells #[.slice A1 n1 c1, .slice A2 n2 c2] 26)))
  have O2 := Lib.hid (own_below o2 (below1 w (.cells #[.slice A1 n1 c1, .slice A2 n2 c2] 26)))
  have L1 := Lib.hid (own_lt o1)
  have HN := Lib.hid ne
  clear o1 o2 ne
  obtain ⟨t, ht⟩ : ∃ t : Nat, t = s + n1 := ⟨_, rfl⟩
  have hle : t ≤ 7000000 := by omega
  have H1 := Lib.hid (markI A1 n1 c1 base s xs (w.alloc (.cells #[.slice A1 n1 c1, .slice A2 n2 c2] 26)) (by omega) (by omega) O1.out)
  have H2 := Lib.hid (fun w1 (h : w1.ownsRow base 3 1 (.slice A2 n2 c2) n2 ys) => markI A2 n2 c2 base t ys w1 (by omega) (by omega) h)
  obtain ⟨r, hr⟩ : ∃ r : Nat, r = t + n2 := ⟨_, rfl⟩
  have hle2 : r ≤ 9000000 := by omega
  rw [← ht] at H1 ⊢
  rw [← hr] at H2 ⊢
  have HT := Lib.hid ht
  clear ht hr O1
  go_enter Try.func25, Try.ntmps25
  go_wp2_with (go_at_call 47; refine H1.out.mono ?_; rintro e w1 ⟨rfl, ⟨zs, q1, m1⟩, k1⟩; refine Hid.out ?_)
  refine Lib.hid ?_
  have X1 := Lib.hid (k1.bx X0.out (fun e => by have := L1.out _ e; omega))
  have Q1 := Lib.hid q1
  have M1 := Lib.hid m1
  have P1 := Lib.hid (k1.own O2.out (fun j hj e => HN.out j e hj))
  have K1 := Lib.hid (K0.out.trans (k1.more (fun k hk => Or.inl hk)))
  clear X0 K0 O2 q1 m1 k1
  obtain ⟨_, x0, x1, _, _⟩ := X1.out
  go_wp2_with (go_at_call 47; refine (H2.out _ P1.out).mono ?_; rintro e w2 ⟨rfl, ⟨us, q2, m2⟩, k2⟩; refine Hid.out ?_)
  refine Lib.hid ?_
  have F : Hid ((∃ zs, w2.ownsRow base 3 1 (.slice A1 n1 c1) n1 zs ∧ Marked s n1 zs) ∧ (∃ zs, w2.ownsRow base 3 1 (.slice A2 n2 c2) n2 zs ∧ Marked t n2 zs) ∧ Kp (Two (.slice A1 n1 c1) (.slice A2 n2 c2)) w w2) := Lib.hid
    ⟨⟨zs, k2.own Q1.out (fun j hj e => HN.out j hj e), M1.out⟩, ⟨us, q2, m2⟩, K1.out.trans (k2.more (fun k hk => Or.inr hk))⟩
  clear q2 m2 k2 X1 x0 x1
  go_wp2_with fail
  go_ret
  exact ⟨rfl, F.out⟩

set_option maxHeartbeats 1000000 in
theorem heldC (A1 A2 : Option Addr) (n1 c1 n2 c2 base s : Nat) (xs ys : List Value) (w : World) (h1 : n1 ≤ 2000000) (h2 : n2 ≤ 2000000) (hs : s ≤ 5000000)
    (o1 : w.ownsRow base 3 1 (.slice A1 n1 c1) n1 xs) (m1 : Marked s n1 xs) (o2 : w.ownsRow base 3 1 (.slice A2 n2 c2) n2 ys) (m2 : Marked (s + n1) n2 ys) :
    Calls Try.prog 26 #[.agg #[.slice A1 n1 c1, .slice A2 n2 c2], .int .i64 s] w fun e w' => e = .returned (.int .i64 ((s + n1 + n2 : Nat) : Int)) ∧ Below w.heap.size w w' := by
  have B0 := Lib.hid (below1 w (.cells #[.slice A1 n1 c1, .slice A2 n2 c2] 26))
  have O1 := Lib.hid (own_below o1 (below1 w (.cells #[.slice A1 n1 c1, .slice A2 n2 c2] 26)))
  have O2 := Lib.hid (own_below o2 (below1 w (.cells #[.slice A1 n1 c1, .slice A2 n2 c2] 26)))
  have M1 := Lib.hid m1
  have M2 := Lib.hid m2
  clear o1 o2 m1 m2
  obtain ⟨t, ht⟩ : ∃ t : Nat, t = s + n1 := ⟨_, rfl⟩
  have hle : t ≤ 7000000 := by omega
  have HT := Lib.hid ht
  rw [← ht] at M2 ⊢
  clear ht
  have H1 : Hid (∀ q, Calls Try.prog 48 #[.slice A1 n1 c1, .int .i64 s] ((w.alloc (.cells #[.slice A1 n1 c1, .slice A2 n2 c2] 26)).drewN q) fun e w' => e = .returned (.int .i64 (t : Int)) ∧ ∃ q, w' = (w.alloc (.cells #[.slice A1 n1 c1, .slice A2 n2 c2] 26)).drewN q) := Lib.hid fun q => by
    rw [HT.out]
    refine (heldI A1 n1 c1 base s xs _ (by omega) (by omega) (own_below O1.out (below_drewN (Below.refl _ _) q)) M1.out).mono ?_
    rintro e w' ⟨rfl, q', rfl⟩
    exact ⟨rfl, q + q', World.drewN_drewN _ _ _⟩
  have H2 : Hid (∀ q, Calls Try.prog 48 #[.slice A2 n2 c2, .int .i64 t] ((w.alloc (.cells #[.slice A1 n1 c1, .slice A2 n2 c2] 26)).drewN q) fun e w' => e = .returned (.int .i64 ((t + n2 : Nat) : Int)) ∧ ∃ q, w' = (w.alloc (.cells #[.slice A1 n1 c1, .slice A2 n2 c2] 26)).drewN q) := Lib.hid fun q => by
    refine (heldI A2 n2 c2 base t ys _ (by omega) (by omega) (own_below O2.out (below_drewN (Below.refl _ _) q)) M2.out).mono ?_
    rintro e w' ⟨rfl, q', rfl⟩
    exact ⟨rfl, q + q', World.drewN_drewN _ _ _⟩
  obtain ⟨r, hr⟩ : ∃ r : Nat, r = t + n2 := ⟨_, rfl⟩
  have hle2 : r ≤ 9000000 := by omega
  rw [← hr] at H2 ⊢
  clear hr O1 O2 M1 M2 HT
  go_enter Try.func26, Try.ntmps26
  go_wp2_with (go_at_call 48; refine (H1.out 0).mono ?_; rintro e w1 ⟨rfl, q, rfl⟩; refine Hid.out ?_)
  refine Lib.hid ?_
  go_wp2_with (go_at_call 48; refine (H2.out q).mono ?_; rintro e w1 ⟨rfl, q', rfl⟩; refine Hid.out ?_)
  refine Lib.hid ?_
  go_wp2_with fail
  go_ret
  exact ⟨rfl, below_drewN B0.out q'⟩

end Go.Proofs.Ytglpkanegehcbaa.MarkC
