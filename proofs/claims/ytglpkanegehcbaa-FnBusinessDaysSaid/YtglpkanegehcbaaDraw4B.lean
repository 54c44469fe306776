/-
  What DrawAddBusinessDays returns, whatever the code.
-/
import Derived.Test.YtglpkanegehcbaaDraw4D
namespace Go.Proofs.Ytglpkanegehcbaa.Draw4B
open Go.RowKit Go.Proofs.Ytglpkanegehcbaa.Cur Go.Proofs.Ytglpkanegehcbaa.Cal Go.Proofs.Ytglpkanegehcbaa.IRow Go.Proofs.Ytglpkanegehcbaa.CurDay Go.Proofs.Ytglpkanegehcbaa.CalLaw Go.Proofs.Ytglpkanegehcbaa.Draw4 Go.Proofs.Ytglpkanegehcbaa.Draw4A Go.Proofs.Ytglpkanegehcbaa.Draw4D
set_option linter.unusedVariables false
set_option linter.unusedSimpArgs false

/-- What may be drawn beside the calendar and the day. -/
def Num (z : Int) : Prop := -1001 ≤ z ∧ z ≤ 1001
instance (z : Int) : Decidable (Num z) := inferInstanceAs (Decidable (_ ∧ _))

theorem dA (X : World) (o : Obj) : X.drew.alloc o = (X.alloc o).drew := rfl
theorem dS (X : World) (p : Addr) (u : Value) : X.drew.setCell p u = (X.setCell p u).drew := rfl
theorem dH (X : World) : X.drew.heap = X.heap := rfl
theorem litA (X : World) (o : Obj) : (X.alloc o).heap[X.heap.size]? = some o := heap_alloc_new X o
theorem litB (X : World) (o : Obj) (S : Nat) (a b : Value) (h : S < X.heap.size) : (((X.alloc o).setCell ⟨S, 0, none⟩ a).setCell ⟨S, 1, none⟩ b).heap[X.heap.size]? = some o := by
  rw [Below.heap_setCell _ _ _ _ (by simp; omega), Below.heap_setCell _ _ _ _ (by simp; omega)]; exact heap_alloc_new X o
theorem litC (X : World) (o : Obj) (S : Nat) (a b : Value) : (((X.setCell ⟨S, 0, none⟩ a).setCell ⟨S, 1, none⟩ b).alloc o).heap[X.heap.size]? = some o := by
  have := heap_alloc_new ((X.setCell ⟨S, 0, none⟩ a).setCell ⟨S, 1, none⟩ b) o
  rwa [World.size_setCell, World.size_setCell] at this

set_option maxHeartbeats 1000000 in
theorem amongQ (P : Int → Prop) (L : Nat) (cs : Array Value) (m c : Nat) (hm : m ≤ cs.size) (h1 : 1 ≤ m) (h2 : m ≤ 1000) (g : Nat) (A : Option Addr) (n cap k B : Nat) (w : World)
    (h : Ok w g A n cap k B) (hk : k ≤ 999999) (hL : w.heap[L]? = some (.cells cs 3 (0, 0))) (hne : L ≠ g) (hs : ∀ v ∈ cs.toList, ∃ z : Int, v = .int .i64 z ∧ P z) :
    Calls Try.prog 28 #[.pointer (some ⟨g, 0, none⟩), .slice (some ⟨L, 0, none⟩) m c] w (pAns P 2 g A n cap k B w) := by
  have HH := Lib.hid h
  have HM := Lib.hid hm
  have HS := Lib.hid hs
  have HL := Lib.hid hL
  clear h hm hs hL
  go_enter Try.func28, Try.ntmps28
  go_wp2_with (go_at_call 29; refine (pick (m : Int) (by omega) (by omega) g A n cap k B _ HH.out hk).mono ?_; rintro e w1 ⟨r, k', rfl, hr, hk', hok, hg⟩; refine Hid.out ?_)
  refine Lib.hid ?_
  have hr' : r < cs.size := by have := HM.out; omega
  obtain ⟨z, hs1, hs2⟩ := HS.out (cs[r]) (by simp)
  have HP := Lib.hid hs2
  have hLl : L < w.heap.size := (Array.getElem?_eq_some_iff.1 HL.out).1
  have hL1 : w1.heap[L]? = some (.cells cs 3 (0, 0)) := (hg.block L hLl (fun e => by injection e with e; exact hne e)).trans HL.out
  have hcell : w1.cell? ⟨L, r, none⟩ = some (.int .i64 z) := by
    rw [cell_of_row w1 L r cs _ (0, 0) hL1, Array.getElem?_eq_getElem hr', hs1]
  have i0 : (0 : Int) ≤ (r : Int) := by omega
  have HG := Lib.hid (And.intro hok hg)
  clear hL1 hok hg hs2
  go_wp2_with fail
  go_ret
  exact ⟨z, k', rfl, HP.out, hk', HG.out.1, HG.out.2⟩

/-- Beside a cursor and a calendar: the row of a literal, or not yet. -/
structure DL (cs : Array Value) (w v : World) (kb : Nat) (A : Option Addr) (n cap k B : Nat) (v1 v2 : Value) (D1 D2 : List Int) (r1 r2 : Value) (J : Option Nat) : Prop where
  d : DR w v kb A n cap k B v1 v2 D1 D2 r1 r2
  l : ∀ L, J = some L → v.heap[L]? = some (.cells cs 3 (0, 0)) ∧ L ≠ w.heap.size + 1 ∧ L ≠ w.heap.size
theorem DL.start (cs : Array Value) {w v : World} {kb : Nat} {A : Option Addr} {n cap k B : Nat} {v1 v2 : Value} {D1 D2 : List Int} {r1 r2 : Value} (h : DR w v kb A n cap k B v1 v2 D1 D2 r1 r2) : DL cs w v kb A n cap k B v1 v2 D1 D2 r1 r2 none := ⟨h, fun L hL => by cases hL⟩
theorem DL.drew {cs : Array Value} {w v : World} {kb : Nat} {A : Option Addr} {n cap k B : Nat} {v1 v2 : Value} {D1 D2 : List Int} {r1 r2 : Value} {J : Option Nat} (h : DL cs w v kb A n cap k B v1 v2 D1 D2 r1 r2 J) : DL cs w v.drew kb A n cap k B v1 v2 D1 D2 r1 r2 J := ⟨h.d.drew, h.l⟩
theorem DL.lit {cs : Array Value} {w v : World} {kb : Nat} {A : Option Addr} {n cap k B : Nat} {v1 v2 : Value} {D1 D2 : List Int} {r1 r2 : Value} (h : DL cs w v kb A n cap k B v1 v2 D1 D2 r1 r2 none) : DL cs w (v.alloc (.cells cs 3)) kb A n cap k B v1 v2 D1 D2 r1 r2 (some v.heap.size) :=
  ⟨h.d.alloc _, fun L hL => by
    cases hL
    have := h.d.ok.lt
    have := h.d.res.lt
    exact ⟨heap_alloc_new v _, by omega, by omega⟩⟩
theorem DL.store {cs : Array Value} {w v : World} {kb : Nat} {A : Option Addr} {n cap k B : Nat} {v1 v2 : Value} {D1 D2 : List Int} {r1 r2 : Value} {J : Option Nat} (h : DL cs w v kb A n cap k B v1 v2 D1 D2 r1 r2 J) : DL cs w ((v.setCell ⟨w.heap.size, 0, none⟩ v1).setCell ⟨w.heap.size, 1, none⟩ v2) kb A n cap k B v1 v2 D1 D2 v1 v2 J :=
  ⟨h.d.store, fun L hL => by
    obtain ⟨a, b, c⟩ := h.l L hL
    exact ⟨(Below.heap_setCell _ _ _ _ (by simp; exact c)).trans ((Below.heap_setCell _ _ _ _ (by simp; exact c)).trans a), b, c⟩⟩
theorem DL.grown {cs : Array Value} {w v : World} {kb : Nat} {A : Option Addr} {n cap k B : Nat} {v1 v2 : Value} {D1 D2 : List Int} {r1 r2 : Value} {J : Option Nat} {v' : World} {k' : Nat} (h : DL cs w v kb A n cap k B v1 v2 D1 D2 r1 r2 J) (hok : Ok v' (w.heap.size + 1) A n cap k' B) (hg : v.grownBy v' (some (w.heap.size + 1))) : DL cs w v' kb A n cap k' B v1 v2 D1 D2 r1 r2 J :=
  ⟨h.d.grown hok hg, fun L hL => by
    obtain ⟨a, b, c⟩ := h.l L hL
    exact ⟨(hg.block L (Array.getElem?_eq_some_iff.1 a).1 (fun e => by injection e with e; exact b e)).trans a, b, c⟩⟩
theorem pickDL {cs : Array Value} {w v : World} {kb : Nat} {A : Option Addr} {n cap k B : Nat} {v1 v2 : Value} {D1 D2 : List Int} {r1 r2 : Value} {J : Option Nat} (h : DL cs w v kb A n cap k B v1 v2 D1 D2 r1 r2 J) (hk : k ≤ 1000) :
    Calls Try.prog 29 #[.pointer (some ⟨w.heap.size + 1, 0, none⟩), .int .i64 9] v fun e w' => ∃ (r k' : Nat), e = .returned (.int .i64 (r : Int)) ∧ r < 9 ∧ k' ≤ k + 2 ∧ DL cs w w' kb A n cap k' B v1 v2 D1 D2 r1 r2 J :=
  (pick 9 (by omega) (by omega) (w.heap.size + 1) A n cap k B v h.d.ok (by omega)).mono fun e w' ⟨r, k', he, hr, hk', hok, hg⟩ => ⟨r, k', he, by omega, hk', h.grown hok hg⟩
theorem amongDL (P : Int → Prop) {cs : Array Value} {w v : World} {kb : Nat} {A : Option Addr} {n cap k B : Nat} {v1 v2 : Value} {D1 D2 : List Int} {r1 r2 : Value} {L : Nat} (h : DL cs w v kb A n cap k B v1 v2 D1 D2 r1 r2 (some L)) (m c : Nat) (hm : m ≤ cs.size) (h1 : 1 ≤ m) (h2 : m ≤ 1000) (hk : k ≤ 1000) (hs : ∀ v ∈ cs.toList, ∃ z : Int, v = .int .i64 z ∧ P z) :
    Calls Try.prog 28 #[.pointer (some ⟨w.heap.size + 1, 0, none⟩), .slice (some ⟨L, 0, none⟩) m c] v fun e w' => ∃ (z : Int) (k' : Nat), e = .returned (.int .i64 z) ∧ P z ∧ k' ≤ k + 2 ∧ DL cs w w' kb A n cap k' B v1 v2 D1 D2 r1 r2 (some L) :=
  (amongQ P L cs m c hm h1 h2 (w.heap.size + 1) A n cap k B v h.d.ok (by omega) (h.l L rfl).1 (h.l L rfl).2.1 hs).mono fun e w' ⟨z, k', he, hz, hk', hok, hg⟩ => ⟨z, k', he, hz, hk', h.grown hok hg⟩

/-- A calendar, a day and a number are drawn. -/
def ans (w : World) (e : Ending) (w' : World) : Prop :=
  ∃ (A1 : Option Addr) (m1 c1 : Nat) (A2 : Option Addr) (m2 c2 : Nat) (D1 D2 : List Int) (d z : Int), e = .returned (.tuple #[.agg #[.slice A1 m1 c1, .slice A2 m2 c2], .int .i64 d, .int .i64 z]) ∧ m1 = D1.length ∧ m2 = D2.length ∧ m1 ≤ 100 ∧ m2 ≤ 100 ∧ AnyDay d ∧ Num z ∧
    R2 w.heap.size w' (.slice A1 m1 c1) (.slice A2 m2 c2) D1 D2 ∧ Below w.heap.size w w'

set_option maxRecDepth 100000 in
set_option maxHeartbeats 4000000 in
theorem draw (A : Option Addr) (n cap : Nat) (w : World) (hn : n ≤ 1000000) (hA : Bytes w w.heap.size A n) :
    Calls Try.prog 10 #[.slice A n cap] w (ans w) := by
  have HO : Hid (Ok ((w.alloc (.cells #[.slice none 0 0, .slice none 0 0] 26)).alloc (.cells #[.slice A n cap, .int .i64 0, .int .u64 0] 50)) (w.heap.size + 1) A n cap 0 w.heap.size) := Lib.hid (by
    have := Ok.newB (w.alloc (.cells #[.slice none 0 0, .slice none 0 0] 26)) A n cap w.heap.size hn (Bytes.alloc hA _) (by simp)
    rwa [World.size_alloc] at this)
  have HR : Hid (Bx w.heap.size ((w.alloc (.cells #[.slice none 0 0, .slice none 0 0] 26)).alloc (.cells #[.slice A n cap, .int .i64 0, .int .u64 0] 50)) (.slice none 0 0) (.slice none 0 0)) := Lib.hid ((Bx.new w _ _ _).alloc _)
  have HB : Hid (Below w.heap.size w ((w.alloc (.cells #[.slice none 0 0, .slice none 0 0] 26)).alloc (.cells #[.slice A n cap, .int .i64 0, .int .u64 0] 50))) := Lib.hid ((Asc.below1 _ _).alloc (by simp) _)
  have HC := Lib.hid (drawBiz A n cap ((w.alloc (.cells #[.slice none 0 0, .slice none 0 0] 26)).alloc (.cells #[.slice A n cap, .int .i64 0, .int .u64 0] 50)) hn (by
    have := Bytes.alloc (Bytes.alloc hA (.cells #[.slice none 0 0, .slice none 0 0] 26)) (.cells #[.slice A n cap, .int .i64 0, .int .u64 0] 50)
    intro hp
    obtain ⟨ad, e, hb, hc⟩ := this hp
    exact ⟨ad, e, by simp; omega, hc⟩))
  clear hA
  go_enter Try.func10, Try.ntmps10
  go_wp2_with (go_at_call 27; refine HC.out.mono ?_; rintro e w1 ⟨A1, _, c1, A2, _, c2, D1, D2, d, rfl, rfl, rfl, l1, l2, hd, hr, hb⟩; refine Hid.out ?_)
  refine Lib.hid ?_
  have D0 : Hid (DR w (w1.alloc (.cells #[.slice A1 D1.length c1, .slice A2 D2.length c2] 26)) w1.heap.size A n cap 0 w.heap.size (.slice A1 D1.length c1) (.slice A2 D2.length c2) D1 D2 (.slice none 0 0) (.slice none 0 0)) := Lib.hid (by
    have hz := hb.size
    simp only [World.size_alloc] at hz hr hb
    have hl := HO.out.lt
    exact ⟨(Ok.kept HO.out (below_grown (by simpa only [World.size_alloc] using hb) none) (fun j hj => by cases hj)).alloc _, Bx.new w1 _ _ _, (HR.out.on (by simpa only [World.size_alloc] using hb)).alloc _, R2.kept (R2.less hr (by omega)) (World.grownBy_alloc w1 _ none) (fun j hj => by cases hj), (HB.out.trans (hb.mono (by omega))).alloc (by omega) _, by omega, Nat.le_refl _⟩)
  have HM := Lib.hid (And.intro l1 (And.intro l2 hd))
  have hS : w.heap.size + 2 ≤ w1.heap.size := by have := hb.size; simp at this; omega
  clear l1 l2 hd hr hb HO HR HB HC
  go_wp2_with fail
  have HLIT : Hid (∀ v ∈ (#[.int .i64 1, .int .i64 2, .int .i64 5, .int .i64 0, .int .i64 (-1), .int .i64 (-3), .int .i64 20, .int .i64 (-20), .int .i64 300, .int .i64 1001, .int .i64 (-1001)] : Array Value).toList, ∃ z : Int, v = .int .i64 z ∧ Num z) := Lib.hid (by intro v hv; simp at hv; rcases hv with h | h | h | h | h | h | h | h | h | h | h <;> exact ⟨_, h, by decide⟩)
  have KX : Hid (∀ v k' r1 r2 J, DL #[.int .i64 1, .int .i64 2, .int .i64 5, .int .i64 0, .int .i64 (-1), .int .i64 (-3), .int .i64 20, .int .i64 (-20), .int .i64 300, .int .i64 1001, .int .i64 (-1001)] w v w1.heap.size A n cap k' w.heap.size (.slice A1 D1.length c1) (.slice A2 D2.length c2) D1 D2 r1 r2 J → v.cell? ⟨w1.heap.size, 0, none⟩ = some (.slice A1 D1.length c1) ∧ v.cell? ⟨w1.heap.size, 1, none⟩ = some (.slice A2 D2.length c2)) := Lib.hid fun v k' r1 r2 J h => ⟨h.d.box.c0, h.d.box.c1⟩
  have S0 := Lib.hid (DL.start #[.int .i64 1, .int .i64 2, .int .i64 5, .int .i64 0, .int .i64 (-1), .int .i64 (-3), .int .i64 20, .int .i64 (-20), .int .i64 300, .int .i64 1001, .int .i64 (-1001)] D0.out)
  clear D0
  obtain ⟨_, t0, t1, t2, t3⟩ := S0.out.d.res
  have hres := S0.out.d.res.lt
  generalize w1.alloc (.cells #[.slice A1 D1.length c1, .slice A2 D2.length c2] 26) = X at *
  go_region_held3 (fun v => v.cell? ⟨w1.heap.size, 0, none⟩ = some (.slice A1 D1.length c1) ∧ v.cell? ⟨w1.heap.size, 1, none⟩ = some (.slice A2 D2.length c2)) (first
      | with_reducible exact KX.out _ _ _ _ _ (S2.out)
      | with_reducible exact KX.out _ _ _ _ _ (DL.drew (S2.out))
      | with_reducible exact KX.out _ _ _ _ _ (DL.lit (S2.out))
      | with_reducible exact KX.out _ _ _ _ _ (DL.store (S2.out))
      | with_reducible exact KX.out _ _ _ _ _ (DL.lit (DL.drew (S2.out)))
      | with_reducible exact KX.out _ _ _ _ _ (DL.store (DL.drew (S2.out)))
      | with_reducible exact KX.out _ _ _ _ _ (DL.drew (DL.lit (S2.out)))
      | with_reducible exact KX.out _ _ _ _ _ (DL.store (DL.lit (S2.out)))
      | with_reducible exact KX.out _ _ _ _ _ (DL.drew (DL.store (S2.out)))
      | with_reducible exact KX.out _ _ _ _ _ (DL.lit (DL.store (S2.out)))
      | with_reducible exact KX.out _ _ _ _ _ (DL.store (DL.lit (DL.drew (S2.out))))
      | with_reducible exact KX.out _ _ _ _ _ (DL.lit (DL.store (DL.drew (S2.out))))
      | with_reducible exact KX.out _ _ _ _ _ (DL.store (DL.drew (DL.lit (S2.out))))
      | with_reducible exact KX.out _ _ _ _ _ (DL.drew (DL.store (DL.lit (S2.out))))
      | with_reducible exact KX.out _ _ _ _ _ (DL.lit (DL.drew (DL.store (S2.out))))
      | with_reducible exact KX.out _ _ _ _ _ (DL.drew (DL.lit (DL.store (S2.out))))
      | with_reducible exact KX.out _ _ _ _ _ (S1.out)
      | with_reducible exact KX.out _ _ _ _ _ (DL.drew (S1.out))
      | with_reducible exact KX.out _ _ _ _ _ (DL.lit (S1.out))
      | with_reducible exact KX.out _ _ _ _ _ (DL.store (S1.out))
      | with_reducible exact KX.out _ _ _ _ _ (DL.lit (DL.drew (S1.out)))
      | with_reducible exact KX.out _ _ _ _ _ (DL.store (DL.drew (S1.out)))
      | with_reducible exact KX.out _ _ _ _ _ (DL.drew (DL.lit (S1.out)))
      | with_reducible exact KX.out _ _ _ _ _ (DL.store (DL.lit (S1.out)))
      | with_reducible exact KX.out _ _ _ _ _ (DL.drew (DL.store (S1.out)))
      | with_reducible exact KX.out _ _ _ _ _ (DL.lit (DL.store (S1.out)))
      | with_reducible exact KX.out _ _ _ _ _ (DL.store (DL.lit (DL.drew (S1.out))))
      | with_reducible exact KX.out _ _ _ _ _ (DL.lit (DL.store (DL.drew (S1.out))))
      | with_reducible exact KX.out _ _ _ _ _ (DL.store (DL.drew (DL.lit (S1.out))))
      | with_reducible exact KX.out _ _ _ _ _ (DL.drew (DL.store (DL.lit (S1.out))))
      | with_reducible exact KX.out _ _ _ _ _ (DL.lit (DL.drew (DL.store (S1.out))))
      | with_reducible exact KX.out _ _ _ _ _ (DL.drew (DL.lit (DL.store (S1.out))))
      | with_reducible exact KX.out _ _ _ _ _ (S0.out)
      | with_reducible exact KX.out _ _ _ _ _ (DL.drew (S0.out))
      | with_reducible exact KX.out _ _ _ _ _ (DL.lit (S0.out))
      | with_reducible exact KX.out _ _ _ _ _ (DL.store (S0.out))
      | with_reducible exact KX.out _ _ _ _ _ (DL.lit (DL.drew (S0.out)))
      | with_reducible exact KX.out _ _ _ _ _ (DL.store (DL.drew (S0.out)))
      | with_reducible exact KX.out _ _ _ _ _ (DL.drew (DL.lit (S0.out)))
      | with_reducible exact KX.out _ _ _ _ _ (DL.store (DL.lit (S0.out)))
      | with_reducible exact KX.out _ _ _ _ _ (DL.drew (DL.store (S0.out)))
      | with_reducible exact KX.out _ _ _ _ _ (DL.lit (DL.store (S0.out)))
      | with_reducible exact KX.out _ _ _ _ _ (DL.store (DL.lit (DL.drew (S0.out))))
      | with_reducible exact KX.out _ _ _ _ _ (DL.lit (DL.store (DL.drew (S0.out))))
      | with_reducible exact KX.out _ _ _ _ _ (DL.store (DL.drew (DL.lit (S0.out))))
      | with_reducible exact KX.out _ _ _ _ _ (DL.drew (DL.store (DL.lit (S0.out))))
      | with_reducible exact KX.out _ _ _ _ _ (DL.lit (DL.drew (DL.store (S0.out))))
      | with_reducible exact KX.out _ _ _ _ _ (DL.drew (DL.lit (DL.store (S0.out))))
      | fail)
    (first
      | (go_at_call 29; (with_reducible refine (pickDL (by first | with_reducible exact S0.out | with_reducible exact DL.drew (S0.out) | with_reducible exact DL.lit (S0.out) | with_reducible exact DL.store (S0.out) | with_reducible exact DL.lit (DL.drew (S0.out)) | with_reducible exact DL.store (DL.drew (S0.out)) | with_reducible exact DL.drew (DL.lit (S0.out)) | with_reducible exact DL.store (DL.lit (S0.out)) | with_reducible exact DL.drew (DL.store (S0.out)) | with_reducible exact DL.lit (DL.store (S0.out)) | with_reducible exact DL.store (DL.lit (DL.drew (S0.out))) | with_reducible exact DL.lit (DL.store (DL.drew (S0.out))) | with_reducible exact DL.store (DL.drew (DL.lit (S0.out))) | with_reducible exact DL.drew (DL.store (DL.lit (S0.out))) | with_reducible exact DL.lit (DL.drew (DL.store (S0.out))) | with_reducible exact DL.drew (DL.lit (DL.store (S0.out))) | fail) (by omega)).mono ?_)
         rintro e w3 ⟨r, k3, rfl, hr, hk3, hd3⟩
         have S1 := Lib.hid hd3
         clear hd3
         obtain ⟨_, x0, x1, x2, x3⟩ := S1.out.d.res
         have hs3 := S1.out.d.res.lt
         obtain ⟨q, hq, hq2⟩ : ∃ q : Nat, (r : Int) / 4 = (q : Int) ∧ q ≤ 2 := ⟨r / 4, by omega, by omega⟩
         have hr0 : (0 : Int) ≤ (r : Int) := by omega
         have hr9 : (r : Int) ≤ 9223372036854775807 := by omega
         obtain ⟨p, hp, hp1, hp2⟩ : ∃ p : Nat, 9 + (q : Int) = (p : Int) ∧ 9 ≤ p ∧ p ≤ 11 := ⟨9 + q, by omega, by omega, by omega⟩
         have hw9 : IntKind.i64.wrap (9 + (q : Int)) = (p : Int) := by rw [hp, IntKind.wrap_i64]; omega
         have hwq : IntKind.i64.wrap (q : Int) = (q : Int) := by rw [IntKind.wrap_i64]; omega
         have hw8 : IntKind.i64.wrap (p : Int) = (p : Int) := by rw [IntKind.wrap_i64]; omega
         have b0 : (0 : Int) ≤ (p : Int) := by omega
         have b1 : (p : Int) ≤ 11 := by omega)
      | (go_at_call 28; (with_reducible refine (amongDL Num (by first | with_reducible exact S1.out | with_reducible exact DL.drew (S1.out) | with_reducible exact DL.lit (S1.out) | with_reducible exact DL.store (S1.out) | with_reducible exact DL.lit (DL.drew (S1.out)) | with_reducible exact DL.store (DL.drew (S1.out)) | with_reducible exact DL.drew (DL.lit (S1.out)) | with_reducible exact DL.store (DL.lit (S1.out)) | with_reducible exact DL.drew (DL.store (S1.out)) | with_reducible exact DL.lit (DL.store (S1.out)) | with_reducible exact DL.store (DL.lit (DL.drew (S1.out))) | with_reducible exact DL.lit (DL.store (DL.drew (S1.out))) | with_reducible exact DL.store (DL.drew (DL.lit (S1.out))) | with_reducible exact DL.drew (DL.store (DL.lit (S1.out))) | with_reducible exact DL.lit (DL.drew (DL.store (S1.out))) | with_reducible exact DL.drew (DL.lit (DL.store (S1.out))) | fail) _ _ (by simp; omega) (by omega) (by omega) (by omega) HLIT.out).mono ?_)
         rintro e w4 ⟨z, k4, rfl, hz, hk4, hd4⟩
         have S2 := Lib.hid hd4
         clear hd4
         obtain ⟨_, y0, y1, y2, y3⟩ := S2.out.d.res
         have hs4 := S2.out.d.res.lt)
      | fail)
  all_goals
    go_wp2_with fail
    have FN : Hid (DR w _ w1.heap.size A n cap k4 w.heap.size (.slice A1 D1.length c1) (.slice A2 D2.length c2) D1 D2 (.slice A1 D1.length c1) (.slice A2 D2.length c2)) := Lib.hid (by first | exact S2.out.d | exact (DL.store S2.out).d)
    obtain ⟨_, s0, s1, _, _⟩ := FN.out.res
    exact bodyPost_ret (v := .tuple #[.agg #[.slice A1 D1.length c1, .slice A2 D2.length c2], .int .i64 d, .int .i64 z]) (by simp [results, Try.results10, go_sem, s0, s1]) rfl ⟨A1, _, c1, A2, _, c2, D1, D2, d, z, rfl, rfl, rfl, HM.out.1, HM.out.2.1, HM.out.2.2, hz, R2.less FN.out.rows (by omega), FN.out.bel⟩

end Go.Proofs.Ytglpkanegehcbaa.Draw4B
