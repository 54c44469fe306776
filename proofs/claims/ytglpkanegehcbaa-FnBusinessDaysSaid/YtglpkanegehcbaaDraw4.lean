/-
  What the draws of calendars return, whatever the code.
-/
import Derived.Test.YtglpkanegehcbaaCurDay
import Derived.Test.YtglpkanegehcbaaDateOf
import Derived.Test.YtglpkanegehcbaaCalLaw
import Derived.Deep.AppendLies
import Derived.Deep.RegionHeld3
import Derived.Maps.AppendAt
namespace Go.Proofs.Ytglpkanegehcbaa.Draw4
open Go.RowKit Go.Proofs.Ytglpkanegehcbaa.Cur Go.Proofs.Ytglpkanegehcbaa.Cal Go.Proofs.Ytglpkanegehcbaa.IRow Go.Proofs.Ytglpkanegehcbaa.CurDay Go.Proofs.Ytglpkanegehcbaa.CalLaw
set_option linter.unusedVariables false
set_option linter.unusedSimpArgs false

theorem Bx.kept {k : Nat} {w w' : World} {a b : Value} {row : Option Nat} (h : Bx k w a b) (hg : w.grownBy w' row) (hne : some k ≠ row) : Bx k w' a b :=
  have e := hg.block k h.lt hne
  ⟨Nat.lt_of_lt_of_le h.lt hg.size, (World.cell?_of_block e).trans h.c0, (World.cell?_of_block e).trans h.c1, (World.frozen?_of_block e).trans h.f0, (World.frozen?_of_block e).trans h.f1⟩
theorem Ok.kept {w w' : World} {g : Nat} {A : Option Addr} {n cap k B : Nat} {row : Option Nat} (h : Ok w g A n cap k B) (hg : w.grownBy w' row) (hr : ∀ j, row = some j → g < j) : Ok w' g A n cap k B := by
  obtain ⟨sd, hat⟩ := h.at_
  refine ⟨⟨sd, (hg.block g hat.lt (fun e => by have := hr g e.symm; omega)).trans hat⟩, fun hp => ?_, h.small, h.old⟩
  obtain ⟨ad, e, hb, hc⟩ := h.bytes hp
  refine ⟨ad, e, hb, fun j hj => ?_⟩
  obtain ⟨z, hz, h0, h1⟩ := hc j hj
  exact ⟨z, hg.cell hz (by rw [Cur.block_add]; intro e2; have h3 := hr _ e2.symm; have := h.old; omega), h0, h1⟩
theorem grow_row {a b c : World} {g : Nat} {row : Option Nat} (h : a.grownBy b (some g)) (k : b.grownBy c row) (hr : ∀ j, row = some j → a.heap.size ≤ j) : a.grownBy c (some g) :=
  ⟨k.os.trans h.os, k.tape.trans h.tape, k.output.trans h.output, Nat.le_trans h.size k.size, fun j hj hne => (k.block j (Nat.lt_of_lt_of_le hj h.size) (fun e => by have := hr j e.symm; omega)).trans (h.block j hj hne)⟩
theorem set_grown (w : World) (p : Addr) (u : Value) : w.grownBy (w.setCell p u) (some p.block) :=
  ⟨rfl, rfl, rfl, by rw [World.size_setCell]; exact Nat.le_refl _, fun j _ hne => Below.heap_setCell w p u j (fun e => hne (by rw [e]))⟩
theorem below_grown {w w' : World} (h : Below w.heap.size w w') (row : Option Nat) : w.grownBy w' row := ⟨h.os, h.tape, h.output, h.size, fun j hj _ => h.block j hj⟩

theorem one_int (q : Int) : ∀ u ∈ [Value.int .i64 q], u.oneCell' = true := fun u hu => by
  rw [List.mem_singleton] at hu
  subst hu; rfl

/-- Two rows of ints in blocks of their own. -/
structure R2 (S : Nat) (w : World) (v1 v2 : Value) (D1 D2 : List Int) : Prop where
  r1 : w.ownsRow S 3 1 v1 D1.length (D1.map (Value.int .i64))
  r2 : w.ownsRow S 3 1 v2 D2.length (D2.map (Value.int .i64))
  ne : ∀ j, v1.ownBlock = some j → v2.ownBlock ≠ some j

theorem row_kept {S : Nat} {w w' : World} {v : Value} {D : List Int} {row : Option Nat} (h : w.ownsRow S 3 1 v D.length (D.map (Value.int .i64))) (hg : w.grownBy w' row) (hr : ∀ j, row = some j → v.ownBlock ≠ some j) : w'.ownsRow S 3 1 v D.length (D.map (Value.int .i64)) :=
  h.kept hg (by
    cases e : v.ownBlock with
    | none => exact .inl rfl
    | some j => exact .inr fun e2 => hr j e2.symm e)
theorem row_form {S n : Nat} {w : World} {v : Value} {xs : List Value} (h : w.ownsRow S 3 1 v n xs) : ∃ a c, v = .slice a n c := by
  rcases h.2 with ⟨hv, h0⟩ | ⟨g', c, cur, hv, _⟩
  · exact ⟨none, 0, by rw [hv, h0]⟩
  · exact ⟨_, c, hv⟩
theorem row_slice {S : Nat} {w : World} {v : Value} {D : List Int} (h : w.ownsRow S 3 1 v D.length (D.map (Value.int .i64))) : ∃ a c, v = .slice a D.length c := by
  rcases h.2 with ⟨hv, h0⟩ | ⟨g', c, cur, hv, _⟩
  · exact ⟨none, 0, by rw [hv, h0]⟩
  · exact ⟨_, c, hv⟩

/-- The cursor, a calendar's box and its two rows, and the result's box. -/
structure CP (w wr : World) (kb g : Nat) (A : Option Addr) (n cap k B : Nat) (v1 v2 : Value) (D1 D2 : List Int) : Prop where
  ok : Ok wr g A n cap k B
  box : Bx kb wr v1 v2
  res : Bx w.heap.size wr (.slice none 0 0) (.slice none 0 0)
  rows : R2 (w.heap.size + 1) wr v1 v2 D1 D2
  n1 : v1.ownBlock ≠ some kb
  n2 : v2.ownBlock ≠ some kb
  kb1 : w.heap.size < kb
  gr : w.grownBy wr (some g)
  lt : g < w.heap.size

theorem CP.own1 {w wr : World} {kb g : Nat} {A : Option Addr} {n cap k B : Nat} {v1 v2 : Value} {D1 D2 : List Int} (h : CP w wr kb g A n cap k B v1 v2 D1 D2) : ∀ j, v1.ownBlock = some j → w.heap.size + 1 ≤ j ∧ j < wr.heap.size := fun j hj => h.rows.r1.lt j hj
theorem CP.own2 {w wr : World} {kb g : Nat} {A : Option Addr} {n cap k B : Nat} {v1 v2 : Value} {D1 D2 : List Int} (h : CP w wr kb g A n cap k B v1 v2 D1 D2) : ∀ j, v2.ownBlock = some j → w.heap.size + 1 ≤ j ∧ j < wr.heap.size := fun j hj => h.rows.r2.lt j hj

theorem CP.cur {w wr w' : World} {kb g : Nat} {A : Option Addr} {n cap k k' B : Nat} {v1 v2 : Value} {D1 D2 : List Int} (h : CP w wr kb g A n cap k B v1 v2 D1 D2) (hok : Ok w' g A n cap k' B) (hg : wr.grownBy w' (some g)) : CP w w' kb g A n cap k' B v1 v2 D1 D2 :=
  have hl := h.lt
  have hk := h.kb1
  ⟨hok, Bx.kept h.box hg (fun e => by injection e with e; omega), Bx.kept h.res hg (fun e => by injection e with e; omega),
   ⟨row_kept h.rows.r1 hg (fun j hj e => by injection hj with hj; have := (h.own1 j e).1; omega), row_kept h.rows.r2 hg (fun j hj e => by injection hj with hj; have := (h.own2 j e).1; omega), h.rows.ne⟩,
   h.n1, h.n2, h.kb1, grow2 h.gr hg, h.lt⟩
theorem CP.alloc {w wr : World} {kb g : Nat} {A : Option Addr} {n cap k B : Nat} {v1 v2 : Value} {D1 D2 : List Int} (h : CP w wr kb g A n cap k B v1 v2 D1 D2) (o : Obj) : CP w (wr.alloc o) kb g A n cap k B v1 v2 D1 D2 :=
  h.cur (h.ok.alloc o) (World.grownBy_alloc wr o _)
theorem CP.drew {w wr : World} {kb g : Nat} {A : Option Addr} {n cap k B : Nat} {v1 v2 : Value} {D1 D2 : List Int} (h : CP w wr kb g A n cap k B v1 v2 D1 D2) : CP w wr.drew kb g A n cap k B v1 v2 D1 D2 :=
  ⟨⟨h.ok.at_, h.ok.bytes, h.ok.small, h.ok.old⟩, ⟨h.box.lt, h.box.c0, h.box.c1, h.box.f0, h.box.f1⟩, ⟨h.res.lt, h.res.c0, h.res.c1, h.res.f0, h.res.f1⟩, ⟨h.rows.r1, h.rows.r2, h.rows.ne⟩, h.n1, h.n2, h.kb1, ⟨h.gr.os, h.gr.tape, h.gr.output, h.gr.size, h.gr.block⟩, h.lt⟩

theorem CP.core1 {w wx w1 : World} {kb g : Nat} {A : Option Addr} {n cap k B : Nat} {v1 v2 v' : Value} {D1 D2 D' : List Int} (h : CP w wx kb g A n cap k B v1 v2 D1 D2) (hg : wx.grownBy w1 v1.ownBlock)
    (hown : w1.ownsRow (w.heap.size + 1) 3 1 v' D'.length (D'.map (Value.int .i64))) (hat : v'.ownBlock = v1.ownBlock ∨ v'.ownBlock = some wx.heap.size) : CP w (w1.setCell ⟨kb, 0, none⟩ v') kb g A n cap k B v' v2 D' D2 := by
  have hl := h.lt
  have hk := h.kb1
  have hbl := h.box.lt
  have ho : ∀ j, v1.ownBlock = some j → w.heap.size + 1 ≤ j ∧ j < wx.heap.size := h.own1
  have ho2 : ∀ j, v2.ownBlock = some j → w.heap.size + 1 ≤ j ∧ j < wx.heap.size := h.own2
  have hn : v'.ownBlock ≠ some kb := fun e => by
    rcases hat with q | q
    · exact h.n1 (q.symm.trans e)
    · rw [q] at e; injection e with e; omega
  have hv : ∀ j, v'.ownBlock = some j → v2.ownBlock ≠ some j := fun j hj e => by
    rcases hat with q | q
    · exact h.rows.ne j (q.symm.trans hj) e
    · rw [q] at hj; injection hj with hj; have := (ho2 j e).2; omega
  have hgs := set_grown w1 ⟨kb, 0, none⟩ v'
  refine ⟨Ok.kept (Ok.kept h.ok hg (fun j hj => by have := (ho j hj).1; omega)) hgs (fun j hj => by injection hj with hj; simp only at hj; omega), ?_, ?_, ?_, hn, h.n2, h.kb1, ?_, h.lt⟩
  · exact (Bx.kept h.box hg (fun e => h.n1 e.symm)).set0 v'
  · exact (Bx.kept h.res hg (fun e => by have := (ho _ e.symm).1; omega)).far (by simp; omega) _
  · exact ⟨ownsRow_setCell_other hown hn _, ownsRow_setCell_other (row_kept h.rows.r2 hg (fun j hj e => h.rows.ne j hj e)) h.n2 _, hv⟩
  · exact grow_row (grow_row h.gr hg (fun j hj => by have := (ho j hj).1; omega)) hgs (fun j hj => by injection hj with hj; simp only at hj; omega)

theorem CP.core2 {w wx w1 : World} {kb g : Nat} {A : Option Addr} {n cap k B : Nat} {v1 v2 v' : Value} {D1 D2 D' : List Int} (h : CP w wx kb g A n cap k B v1 v2 D1 D2) (hg : wx.grownBy w1 v2.ownBlock)
    (hown : w1.ownsRow (w.heap.size + 1) 3 1 v' D'.length (D'.map (Value.int .i64))) (hat : v'.ownBlock = v2.ownBlock ∨ v'.ownBlock = some wx.heap.size) : CP w (w1.setCell ⟨kb, 1, none⟩ v') kb g A n cap k B v1 v' D1 D' := by
  have hl := h.lt
  have hk := h.kb1
  have hbl := h.box.lt
  have ho : ∀ j, v2.ownBlock = some j → w.heap.size + 1 ≤ j ∧ j < wx.heap.size := h.own2
  have ho2 : ∀ j, v1.ownBlock = some j → w.heap.size + 1 ≤ j ∧ j < wx.heap.size := h.own1
  have hn : v'.ownBlock ≠ some kb := fun e => by
    rcases hat with q | q
    · exact h.n2 (q.symm.trans e)
    · rw [q] at e; injection e with e; omega
  have hv : ∀ j, v'.ownBlock = some j → v1.ownBlock ≠ some j := fun j hj e => by
    rcases hat with q | q
    · exact h.rows.ne j e (q.symm.trans hj)
    · rw [q] at hj; injection hj with hj; have := (ho2 j e).2; omega
  have hgs := set_grown w1 ⟨kb, 1, none⟩ v'
  refine ⟨Ok.kept (Ok.kept h.ok hg (fun j hj => by have := (ho j hj).1; omega)) hgs (fun j hj => by injection hj with hj; simp only at hj; omega), ?_, ?_, ?_, h.n1, hn, h.kb1, ?_, h.lt⟩
  · exact (Bx.kept h.box hg (fun e => h.n2 e.symm)).set1 v'
  · exact (Bx.kept h.res hg (fun e => by have := (ho _ e.symm).1; omega)).far (by simp; omega) _
  · exact ⟨ownsRow_setCell_other (row_kept h.rows.r1 hg (fun j hj e => h.rows.ne j e hj)) h.n1 _, ownsRow_setCell_other hown hn _, fun j hj e => hv j e hj⟩
  · exact grow_row (grow_row h.gr hg (fun j hj => by have := (ho j hj).1; omega)) hgs (fun j hj => by injection hj with hj; simp only at hj; omega)

theorem lit_own (w : World) (S : Nat) (D : List Int) (hS : S ≤ w.heap.size) (hl : D.length ≤ 100) : (w.alloc (.cells (D.map (Value.int .i64)).toArray 3)).ownsRow S 3 1 (.slice (some ⟨w.heap.size, 0, none⟩) D.length D.length) D.length (D.map (Value.int .i64)) :=
  ⟨by simp, .inr ⟨w.heap.size, D.length, _, rfl, hS, heap_alloc_new w _, Nat.le_refl _, by unfold maxLen; omega, by simp, by simp only [List.toList_toArray, Nat.mul_one]; rw [List.take_of_length_le (by simp)]⟩⟩

theorem CP.put1 {w wr : World} {kb g : Nat} {A : Option Addr} {n cap k B : Nat} {v1 v2 : Value} {D1 D2 : List Int} (h : CP w wr kb g A n cap k B v1 v2 D1 D2) (D' : List Int) (hl : D'.length ≤ 100) :
    CP w ((wr.alloc (.cells (D'.map (Value.int .i64)).toArray 3)).setCell ⟨kb, 0, none⟩ (.slice (some ⟨wr.heap.size, 0, none⟩) D'.length D'.length)) kb g A n cap k B (.slice (some ⟨wr.heap.size, 0, none⟩) D'.length D'.length) v2 D' D2 :=
  h.core1 (World.grownBy_alloc wr _ _) (lit_own wr _ D' (by have := h.box.lt; have := h.kb1; omega) hl) (.inr rfl)
theorem CP.put2 {w wr : World} {kb g : Nat} {A : Option Addr} {n cap k B : Nat} {v1 v2 : Value} {D1 D2 : List Int} (h : CP w wr kb g A n cap k B v1 v2 D1 D2) (D' : List Int) (hl : D'.length ≤ 100) :
    CP w ((wr.alloc (.cells (D'.map (Value.int .i64)).toArray 3)).setCell ⟨kb, 1, none⟩ (.slice (some ⟨wr.heap.size, 0, none⟩) D'.length D'.length)) kb g A n cap k B v1 (.slice (some ⟨wr.heap.size, 0, none⟩) D'.length D'.length) D1 D' :=
  h.core2 (World.grownBy_alloc wr _ _) (lit_own wr _ D' (by have := h.box.lt; have := h.kb1; omega) hl) (.inr rfl)
theorem snoc_own {S : Nat} {w : World} {v : Value} {D : List Int} {q : Int} (h : w.ownsRow S 3 1 v (D.length + 1) (D.map (Value.int .i64) ++ [.int .i64 q])) : w.ownsRow S 3 1 v (D ++ [q]).length ((D ++ [q]).map (Value.int .i64)) := by simpa using h

/-- A calendar is drawn. -/
def calAns (c bd g : Nat) (A : Option Addr) (n cap k B : Nat) (w : World) (e : Ending) (w' : World) : Prop :=
  ∃ (A1 : Option Addr) (m1 c1 : Nat) (A2 : Option Addr) (m2 c2 : Nat) (D1 D2 : List Int) (k' : Nat), e = .returned (.agg #[.slice A1 m1 c1, .slice A2 m2 c2]) ∧ m1 = D1.length ∧ m2 = D2.length ∧ m1 ≤ bd ∧ m2 ≤ bd ∧ k' ≤ k + c ∧
    Ok w' g A n cap k' B ∧ R2 (w.heap.size + 1) w' (.slice A1 m1 c1) (.slice A2 m2 c2) D1 D2 ∧ w.grownBy w' (some g)

/-- The box is stored into the result. -/
theorem CP.fin {w wr : World} {kb g : Nat} {A : Option Addr} {n cap k B : Nat} {v1 v2 : Value} {D1 D2 : List Int} (h : CP w wr kb g A n cap k B v1 v2 D1 D2) :
    Bx w.heap.size ((wr.setCell ⟨w.heap.size, 0, none⟩ v1).setCell ⟨w.heap.size, 1, none⟩ v2) v1 v2 ∧ Ok ((wr.setCell ⟨w.heap.size, 0, none⟩ v1).setCell ⟨w.heap.size, 1, none⟩ v2) g A n cap k B ∧
    R2 (w.heap.size + 1) ((wr.setCell ⟨w.heap.size, 0, none⟩ v1).setCell ⟨w.heap.size, 1, none⟩ v2) v1 v2 D1 D2 ∧ w.grownBy ((wr.setCell ⟨w.heap.size, 0, none⟩ v1).setCell ⟨w.heap.size, 1, none⟩ v2) (some g) := by
  have hl := h.lt
  have g1 := set_grown wr ⟨w.heap.size, 0, none⟩ v1
  have g2 := set_grown (wr.setCell ⟨w.heap.size, 0, none⟩ v1) ⟨w.heap.size, 1, none⟩ v2
  have o1 : ∀ j, some w.heap.size = some j → v1.ownBlock ≠ some j := fun j hj e => by injection hj with hj; have := (h.own1 j e).1; omega
  have o2 : ∀ j, some w.heap.size = some j → v2.ownBlock ≠ some j := fun j hj e => by injection hj with hj; have := (h.own2 j e).1; omega
  refine ⟨(h.res.set0 v1).set1 v2, Ok.kept (Ok.kept h.ok g1 (fun j hj => by injection hj with hj; simp only at hj; omega)) g2 (fun j hj => by injection hj with hj; simp only at hj; omega), ⟨row_kept (row_kept h.rows.r1 g1 o1) g2 o1, row_kept (row_kept h.rows.r2 g1 o2) g2 o2, h.rows.ne⟩, ?_⟩
  exact grow_row (grow_row h.gr g1 (fun j hj => by injection hj with hj; simp only at hj; omega)) g2 (fun j hj => by injection hj with hj; simp only at hj; omega)

theorem CP.start {w : World} {g : Nat} {A : Option Addr} {n cap k B : Nat} (h : Ok w g A n cap k B) : CP w ((w.alloc (.cells #[.slice none 0 0, .slice none 0 0] 26)).alloc (.cells #[.slice none 0 0, .slice none 0 0] 26)) (w.heap.size + 1) g A n cap k B (.slice none 0 0) (.slice none 0 0) [] [] :=
  have hl := h.lt
  ⟨(h.alloc _).alloc _, by have := Bx.new (w.alloc (.cells #[.slice none 0 0, .slice none 0 0] 26)) (.slice none 0 0) (.slice none 0 0) 26; rwa [World.size_alloc] at this, (Bx.new w _ _ _).alloc _, ⟨World.ownsRow_nil _ _ _ _, World.ownsRow_nil _ _ _ _, fun j hj => by simp [Value.ownBlock] at hj⟩,
   by simp [Value.ownBlock], by simp [Value.ownBlock], by omega, grow2 (World.grownBy_alloc w _ _) (World.grownBy_alloc _ _ _), hl⟩

theorem CP.enter {w w1 : World} {g : Nat} {A : Option Addr} {n cap k k' B : Nat} {v1 v2 : Value} {D1 D2 : List Int} (h0 : Ok w g A n cap k B) (hok : Ok w1 g A n cap k' B) (hr : R2 ((w.alloc (.cells #[.slice none 0 0, .slice none 0 0] 26)).heap.size + 1) w1 v1 v2 D1 D2) (hg : (w.alloc (.cells #[.slice none 0 0, .slice none 0 0] 26)).grownBy w1 (some g)) :
    CP w (w1.alloc (.cells #[v1, v2] 26)) w1.heap.size g A n cap k' B v1 v2 D1 D2 := by
  have hl := h0.lt
  have hz := hg.size
  rw [World.size_alloc] at hz
  have b1 : ∀ j, v1.ownBlock = some j → j < w1.heap.size := fun j hj => (hr.r1.lt j hj).2
  have b2 : ∀ j, v2.ownBlock = some j → j < w1.heap.size := fun j hj => (hr.r2.lt j hj).2
  refine ⟨hok.alloc _, Bx.new w1 v1 v2 _, ?_, ⟨own_le (hr.r1.alloc _) (by rw [World.size_alloc]; omega), own_le (hr.r2.alloc _) (by rw [World.size_alloc]; omega), hr.ne⟩, fun e => by have := b1 _ e; omega, fun e => by have := b2 _ e; omega, by omega, grow2 (grow2 (World.grownBy_alloc w _ _) hg) (World.grownBy_alloc w1 _ _), hl⟩
  exact (Bx.kept (Bx.new w _ _ _) hg (fun e => by injection e with e; omega)).alloc _

theorem mostD (a b m : Int) (hm : m = max a b) (w : World) :
    Calls Try.prog 63 #[.int .i64 a, .int .i64 b] w fun e w' => e = .returned (.int .i64 m) ∧ w = w' := by
  by_cases h : b < a
  · have e : m = a := by omega
    subst e
    clear hm
    go_enter Try.func63, Try.ntmps63
    go_wp2
    go_ret
    exact ⟨rfl, rfl⟩
  · have e : m = b := by omega
    subst e
    clear hm
    go_enter Try.func63, Try.ntmps63
    go_wp2
    go_ret
    exact ⟨rfl, rfl⟩
theorem leastD (a b m : Int) (hm : m = min a b) (w : World) :
    Calls Try.prog 62 #[.int .i64 a, .int .i64 b] w fun e w' => e = .returned (.int .i64 m) ∧ w = w' := by
  by_cases h : a < b
  · have e : m = a := by omega
    subst e
    clear hm
    go_enter Try.func62, Try.ntmps62
    go_wp2
    go_ret
    exact ⟨rfl, rfl⟩
  · have e : m = b := by omega
    subst e
    clear hm
    go_enter Try.func62, Try.ntmps62
    go_wp2
    go_ret
    exact ⟨rfl, rfl⟩

end Go.Proofs.Ytglpkanegehcbaa.Draw4
