/-
  What DrawRollDay returns, whatever the code.
-/
import Derived.Test.YtlpblipgehlniaaDoorDraw4D
namespace Go.Proofs.YtlpblipgehlniaaDoor.Draw4R
open Go.RowKit Go.Proofs.YtlpblipgehlniaaDoor.Cur Go.Proofs.YtlpblipgehlniaaDoor.Cal Go.Proofs.YtlpblipgehlniaaDoor.IRow Go.Proofs.YtlpblipgehlniaaDoor.CurDay Go.Proofs.YtlpblipgehlniaaDoor.CalLaw Go.Proofs.YtlpblipgehlniaaDoor.Draw4 Go.Proofs.YtlpblipgehlniaaDoor.Draw4A Go.Proofs.YtlpblipgehlniaaDoor.Draw4D
set_option linter.unusedVariables false
set_option linter.unusedSimpArgs false

/-- What may be drawn beside the calendar and the day. -/
def Num (z : Int) : Prop := 0 ≤ z ∧ z ≤ 5
instance (z : Int) : Decidable (Num z) := inferInstanceAs (Decidable (_ ∧ _))

theorem dA (X : World) (o : Obj) : X.drew.alloc o = (X.alloc o).drew := rfl
theorem dS (X : World) (p : Addr) (u : Value) : X.drew.setCell p u = (X.setCell p u).drew := rfl
theorem dH (X : World) : X.drew.heap = X.heap := rfl
theorem litA (X : World) (o : Obj) : (X.alloc o).heap[X.heap.size]? = some o := heap_alloc_new X o
theorem litB (X : World) (o : Obj) (S : Nat) (a b : Value) (h : S < X.heap.size) : (((X.alloc o).setCell ⟨S, 0, none⟩ a).setCell ⟨S, 1, none⟩ b).heap[X.heap.size]? = some o := by
  rw [Below.heap_setCell _ _ _ _ (by simp; omega), Below.heap_setCell _ _ _ _ (by simp; omega)]; exact heap_alloc_new X o
theorem litC (X : World) (o : Obj) (S : Nat) (a b : Value) : (((X.setCell ⟨S, 0, none⟩ a).setCell ⟨S, 1, none⟩ b).alloc o).heap[X.heap.size]? = some o := by
  have := heap_alloc_new ((X.setCell ⟨S, 0, none⟩ a).setCell ⟨S, 1, none⟩ b) o
  rwa [World.size_setCell, World.size_setCell] at this

theorem amongDR (P : Int → Prop) {w v : World} {kb : Nat} {A : Option Addr} {n cap k B : Nat} {v1 v2 : Value} {D1 D2 : List Int} {r1 r2 : Value} (h : DR w v kb A n cap k B v1 v2 D1 D2 r1 r2) (L : Nat) (cs : Array Value) (m : Nat) (hm : m = cs.size) (h1 : 1 ≤ m) (h2 : m ≤ 1000) (hk : k ≤ 999999)
    (hL : v.heap[L]? = some (.cells cs 3 (0, 0))) (hne : L ≠ w.heap.size + 1) (hs : ∀ v ∈ cs.toList, ∃ z : Int, v = .int .i64 z ∧ P z) :
    Calls Tryd.prog 28 #[.pointer (some ⟨w.heap.size + 1, 0, none⟩), .slice (some ⟨L, 0, none⟩) m m] v fun e w' => ∃ (z : Int) (k' : Nat), e = .returned (.int .i64 z) ∧ P z ∧ k' ≤ k + 2 ∧ DR w w' kb A n cap k' B v1 v2 D1 D2 r1 r2 :=
  (amongP P L cs m hm h1 h2 (w.heap.size + 1) A n cap k B v h.ok hk hL hne hs).mono fun e w' ⟨z, k', he, hz, hk', hok, hg⟩ => ⟨z, k', he, hz, hk', h.grown hok hg⟩

/-- A calendar, a day and a number are drawn. -/
def ans (w : World) (e : Ending) (w' : World) : Prop :=
  ∃ (A1 : Option Addr) (m1 c1 : Nat) (A2 : Option Addr) (m2 c2 : Nat) (D1 D2 : List Int) (d z : Int), e = .returned (.tuple #[.agg #[.slice A1 m1 c1, .slice A2 m2 c2], .int .i64 d, .int .i64 z]) ∧ m1 = D1.length ∧ m2 = D2.length ∧ m1 ≤ 100 ∧ m2 ≤ 100 ∧ AnyDay d ∧ Num z ∧
    R2 w.heap.size w' (.slice A1 m1 c1) (.slice A2 m2 c2) D1 D2 ∧ Below w.heap.size w w'

set_option maxRecDepth 100000 in
set_option maxHeartbeats 4000000 in
theorem draw (A : Option Addr) (n cap : Nat) (w : World) (hn : n ≤ 1000000) (hA : Bytes w w.heap.size A n) :
    Calls Tryd.prog 9 #[.slice A n cap] w (ans w) := by
  have HO : Hid (Ok ((w.alloc (.cells #[.slice none 0 0, .slice none 0 0] 26)).alloc (.cells #[.slice A n cap, .int .i64 0, .int .u64 0] 58)) (w.heap.size + 1) A n cap 0 w.heap.size) := Lib.hid (by
    have := Ok.newB (w.alloc (.cells #[.slice none 0 0, .slice none 0 0] 26)) A n cap w.heap.size hn (Bytes.alloc hA _) (by simp)
    rwa [World.size_alloc] at this)
  have HR : Hid (Bx w.heap.size ((w.alloc (.cells #[.slice none 0 0, .slice none 0 0] 26)).alloc (.cells #[.slice A n cap, .int .i64 0, .int .u64 0] 58)) (.slice none 0 0) (.slice none 0 0)) := Lib.hid ((Bx.new w _ _ _).alloc _)
  have HB : Hid (Below w.heap.size w ((w.alloc (.cells #[.slice none 0 0, .slice none 0 0] 26)).alloc (.cells #[.slice A n cap, .int .i64 0, .int .u64 0] 58))) := Lib.hid ((Asc.below1 _ _).alloc (by simp) _)
  have HC := Lib.hid (drawBiz A n cap ((w.alloc (.cells #[.slice none 0 0, .slice none 0 0] 26)).alloc (.cells #[.slice A n cap, .int .i64 0, .int .u64 0] 58)) hn (by
    have := Bytes.alloc (Bytes.alloc hA (.cells #[.slice none 0 0, .slice none 0 0] 26)) (.cells #[.slice A n cap, .int .i64 0, .int .u64 0] 58)
    intro hp
    obtain ⟨ad, e, hb, hc⟩ := this hp
    exact ⟨ad, e, by simp; omega, hc⟩))
  clear hA
  go_enter Tryd.func9, Tryd.ntmps9
  go_wp2_with (go_at_call 27; refine HC.out.mono ?_; rintro e w1 ⟨A1, _, c1, A2, _, c2, D1, D2, d, rfl, rfl, rfl, l1, l2, hd, hr, hb⟩; refine Hid.out ?_)
  refine Lib.hid ?_
  have D0 : Hid (DR w (w1.alloc (.cells #[.slice A1 D1.length c1, .slice A2 D2.length c2] 26)) w1.heap.size A n cap 0 w.heap.size (.slice A1 D1.length c1) (.slice A2 D2.length c2) D1 D2 (.slice none 0 0) (.slice none 0 0)) := Lib.hid (by
    have hz := hb.size
    simp only [World.size_alloc] at hz hr hb
    have hl := HO.out.lt
    exact ⟨(Ok.kept HO.out (below_grown (by simpa only [World.size_alloc] using hb) none) (fun j hj => by cases hj)).alloc _, Bx.new w1 _ _ _, (HR.out.on (by simpa only [World.size_alloc] using hb)).alloc _, R2.kept (R2.less hr (by omega)) (World.grownBy_alloc w1 _ none) (fun j hj => by cases hj), (HB.out.trans (hb.mono (by omega))).alloc (by omega) _, by omega, Nat.le_refl _⟩)
  have HM := Lib.hid (And.intro l1 (And.intro l2 hd))
  have hS : w.heap.size + 2 ≤ w1.heap.size := by have := hb.size; simp at this; omega
  clear l1 l2 hd hr hb HO HR HB HC
  go_wp2_with fail
  have HLIT : Hid (∀ v ∈ (#[.int .i64 1, .int .i64 2, .int .i64 3, .int .i64 4, .int .i64 1, .int .i64 2, .int .i64 3, .int .i64 4, .int .i64 0, .int .i64 5] : Array Value).toList, ∃ z : Int, v = .int .i64 z ∧ Num z) := Lib.hid (by intro v hv; simp at hv; rcases hv with h | h | h | h | h | h | h | h | h | h <;> exact ⟨_, h, by decide⟩)
  have KX : Hid (∀ v k' r1 r2, DR w v w1.heap.size A n cap k' w.heap.size (.slice A1 D1.length c1) (.slice A2 D2.length c2) D1 D2 r1 r2 → v.cell? ⟨w1.heap.size, 0, none⟩ = some (.slice A1 D1.length c1) ∧ v.cell? ⟨w1.heap.size, 1, none⟩ = some (.slice A2 D2.length c2)) := Lib.hid fun v k' r1 r2 h => ⟨h.box.c0, h.box.c1⟩
  have NX : Hid (w1.heap.size + 1 ≠ w.heap.size + 1) := Lib.hid (by omega)
  obtain ⟨_, t0, t1, t2, t3⟩ := D0.out.res
  have hres := D0.out.res.lt
  have hX : (w1.alloc (.cells #[.slice A1 D1.length c1, .slice A2 D2.length c2] 26)).heap.size = w1.heap.size + 1 := by simp
  generalize w1.alloc (.cells #[.slice A1 D1.length c1, .slice A2 D2.length c2] 26) = X at *
  have HX := Lib.hid hX
  clear hX
  go_region_held3 (fun v => v.cell? ⟨w1.heap.size, 0, none⟩ = some (.slice A1 D1.length c1) ∧ v.cell? ⟨w1.heap.size, 1, none⟩ = some (.slice A2 D2.length c2)) (first
      | (apply KX.out; (repeat (first | exact D3 | exact D0.out | with_reducible apply DR.drew | with_reducible apply DR.alloc | with_reducible apply DR.store)); done))
    (first
      | (go_at_call 28; (with_reducible refine (amongDR Num (k := 0) (by (repeat (first | exact D3 | exact D0.out | with_reducible apply DR.drew | with_reducible apply DR.alloc | with_reducible apply DR.store))) X.heap.size #[.int .i64 1, .int .i64 2, .int .i64 3, .int .i64 4, .int .i64 1, .int .i64 2, .int .i64 3, .int .i64 4, .int .i64 0, .int .i64 5] 10 rfl (by omega) (by omega) (by omega) (by (try simp only [dA, dS, dH]); first | exact litA X _ | exact litB X _ w.heap.size _ _ (by omega) | exact litC X _ w.heap.size _ _) (by rw [HX.out]; exact NX.out) HLIT.out).mono ?_); rintro e w3 ⟨z, k3, rfl, hz, hk3, D3⟩; obtain ⟨_, x0, x1, x2, x3⟩ := D3.res))
  all_goals
    go_wp2_with fail
    have FN : Hid (DR w _ w1.heap.size A n cap k3 w.heap.size (.slice A1 D1.length c1) (.slice A2 D2.length c2) D1 D2 (.slice A1 D1.length c1) (.slice A2 D2.length c2)) := Lib.hid (by first | exact D3 | exact D3.store)
    obtain ⟨_, s0, s1, _, _⟩ := FN.out.res
    exact bodyPost_ret (v := .tuple #[.agg #[.slice A1 D1.length c1, .slice A2 D2.length c2], .int .i64 d, .int .i64 z]) (by simp [results, Tryd.results9, go_sem, s0, s1]) rfl ⟨A1, _, c1, A2, _, c2, D1, D2, d, z, rfl, rfl, rfl, HM.out.1, HM.out.2.1, HM.out.2.2, hz, R2.less FN.out.rows (by omega), FN.out.bel⟩

end Go.Proofs.YtlpblipgehlniaaDoor.Draw4R
