/-
  Rows of conditions that a call makes by append; a condition over such a row.
-/
import Derived.Test.YtlaogladhadliaaGreatDoorSmP
import Derived.Maps.AppendAt
namespace Go.Proofs.YtlaogladhadliaaGreatDoor.Cond
open Go.RowKit
set_option linter.unusedVariables false

def K.cells (k : K) : List Value := [.int .i64 k.op, .string k.nm, .int .i64 k.day, .slice k.A k.ps.length k.cap]
def cellsL (rs : List K) : List Value := rs.flatMap K.cells
theorem cellsL_len (rs : List K) : (cellsL rs).length = rs.length * 4 := by
  induction rs with
  | nil => rfl
  | cons r rs ih =>
    unfold cellsL at ih ⊢
    rw [List.flatMap_cons, List.length_append, ih]
    simp [K.cells]; omega
theorem cellsL_app (rs : List K) (r : K) : cellsL (rs ++ [r]) = cellsL rs ++ r.cells := by simp [cellsL]
theorem cellsL_get : ∀ (rs : List K) (i : Nat) (h : i < rs.length) (j : Nat), j < 4 → (cellsL rs)[i * 4 + j]? = rs[i].cells[j]?
  | r :: rs, 0, _, j, hj => by
    simp only [cellsL, List.flatMap_cons]
    rw [List.getElem?_append_left (by simp [K.cells]; omega)]
    simp
  | r :: rs, i + 1, h, j, hj => by
    have := cellsL_get rs i (by simpa using h) j hj
    simp only [cellsL, List.flatMap_cons] at this ⊢
    rw [List.getElem?_append_right (by simp [K.cells]; omega)]
    have e : (i + 1) * 4 + j - r.cells.length = i * 4 + j := by simp [K.cells]; omega
    rw [e, this]
    simp
theorem one_cells (r : K) : ∀ u ∈ r.cells, u.oneCell' = true := fun u hu => by
  simp only [K.cells, List.mem_cons, List.not_mem_nil, or_false] at hu
  rcases hu with rfl | rfl | rfl | rfl <;> rfl

abbrev OwnC (w : World) (S : Nat) (v : Value) (rs : List K) : Prop := w.ownsRow S 26 4 v rs.length (cellsL rs)
theorem ownC_form {S : Nat} {w : World} {v : Value} {n : Nat} {xs : List Value} (h : w.ownsRow S 26 4 v n xs) : ∃ a c, v = .slice a n c := by
  rcases h.2 with ⟨hv, h0⟩ | ⟨g', c, cur, hv, _⟩
  · exact ⟨none, 0, by rw [hv, h0]⟩
  · exact ⟨_, c, hv⟩
theorem ownC_el {w : World} {S n cap : Nat} {A : Option Addr} {rs : List K} (h : OwnC w S (.slice A n cap) rs) {i : Nat} (hi : i < rs.length) : ∃ g, A = some ⟨g, 0, none⟩ ∧ S ≤ g ∧ g < w.heap.size ∧ El w g (i * 4) rs[i] := by
  rcases h.2 with ⟨_, h0⟩ | ⟨g, c, cur, hv, hS, hh, hnc, _, hcs, htk⟩
  · omega
  · injection hv with h1 h2 h3
    subst h1
    have hc : ∀ j, j < 4 → w.cell? ⟨g, i * 4 + j, none⟩ = rs[i].cells[j]? := fun j hj => by
      have h4 := cellsL_get rs i hi j hj
      have hlt : i * 4 + j < rs.length * 4 := by omega
      rw [← htk, List.getElem?_take_of_lt hlt] at h4
      rw [← h4]
      simp [World.cell?, hh]
    refine ⟨g, rfl, hS, (Array.getElem?_eq_some_iff.1 hh).1, ?_, ?_, ?_, ?_⟩
    · exact hc 0 (by omega)
    · exact hc 1 (by omega)
    · exact hc 2 (by omega)
    · exact hc 3 (by omega)
theorem ownC_lt {w : World} {S : Nat} {v : Value} {n : Nat} {xs : List Value} (h : w.ownsRow S 26 4 v n xs) {g : Nat} (hg : v.ownBlock = some g) : S ≤ g ∧ g < w.heap.size ∧ ∀ o, w.frozen? ⟨g, o, none⟩ = false := by
  rcases h.2 with ⟨hv, _⟩ | ⟨g', c, cur, hv, hS, hh, _⟩
  · rw [hv] at hg; cases hg
  · rw [hv] at hg
    injection hg with hg
    subst hg
    exact ⟨hS, (Array.getElem?_eq_some_iff.1 hh).1, fun o => by simp [World.frozen?, hh]⟩
theorem ownC_on {B : Nat} {e : TypeId} {k : Nat} {v : Value} {n : Nat} {xs : List Value} {w w' : World} (h : w.ownsRow B e k v n xs) (hb : Below w.heap.size w w') : w'.ownsRow B e k v n xs :=
  h.kept (row := none) ⟨hb.os, hb.tape, hb.output, hb.size, fun j hj _ => hb.block j hj⟩ (by cases hv : v.ownBlock <;> simp)

/-- append of one condition to a row of one's own. -/
theorem wp_appC {u : World} {ops : Array Oper} {rest : List Oper} {o : Oper} {a : Act} {Q : Exit → Act → World → Prop} (hgd : o.guard = none) (s x : Operand)
    (ho : o.op = .call { callee := .builtin .append, args := #[s, x], argTypes := #[24, 24] }) (S : Nat) (v : Value) (rs : List K) (hs : a.eval s = v) (h : OwnC u S v rs) (g c : Nat) (r : K) (hx : a.eval x = .slice (some ⟨g, 0, none⟩) 1 c) (he : El u g 0 r) (hl : rs.length + 1 ≤ 1000000) (hS : S ≤ u.heap.size)
    (hK : ∀ a3 c3 w1, OwnC w1 S (.slice a3 (rs.length + 1) c3) (rs ++ [r]) → u.grownBy w1 v.ownBlock → ((Value.slice a3 (rs.length + 1) c3).ownBlock = v.ownBlock ∨ (Value.slice a3 (rs.length + 1) c3).ownBlock = some u.heap.size) → wpList Tryz.prog ops Q rest (a.put o.dst (.slice a3 (rs.length + 1) c3)) w1) :
    wpList Tryz.prog ops Q (o :: rest) a u := by
  refine wpList_plain hgd fun Kp hK' => ?_
  obtain ⟨i0, hi, hz0, hz1, hz2⟩ := info_parts infoCond
  obtain ⟨v', w', hr, h2, h3, _, h5⟩ := run_append_own_at (P := Tryz.prog) u S 24 o.type 26 i0 _ 4 56 Tryz.underlying24 hi hz0 hz1 hz2 rfl (by decide) v rs.length (cellsL rs) h ⟨g, 0, none⟩ 1 c r.cells (by simp [K.cells])
    (fun j u' hu => by
      have hj : j < 4 := by
        rcases Nat.lt_or_ge j 4 with h | h
        · exact h
        · rw [List.getElem?_eq_none (by simpa [K.cells] using h)] at hu; cases hu
      match j, hj with
      | 0, _ => simp [K.cells] at hu; subst hu; exact he.c0
      | 1, _ => simp [K.cells] at hu; subst hu; exact he.c1
      | 2, _ => simp [K.cells] at hu; subst hu; exact he.c2
      | 3, _ => simp [K.cells] at hu; subst hu; exact he.c3) (one_cells r) (by unfold maxLen; omega) (by omega) hS
  obtain ⟨a3, c3, rfl⟩ := ownC_form h2
  unfold Oper.wp execOp
  simp only [ho, resolve, invoke, builtin, Sem.run_bind, Sem.run_pure, Result.andThen_ok, List.map_toArray, List.map_cons, List.map_nil, hs, hx, hr]
  exact hK' _ _ (hK a3 c3 w' (by unfold OwnC; rw [cellsL_app, List.length_append]; exact h2) h3 h5)

/-- The parts that a call has made so far, from world X on. -/
structure Pts (X u : World) (v : Value) (rs : List K) : Prop where
  own : OwnC u X.heap.size v rs
  nil : rs = [] → v = .slice none 0 0
  wr : ∀ r ∈ rs, Wr u r
  ge : ∀ x ∈ blocks rs, X.heap.size ≤ x
  nd : (blocks rs).Nodup
  ap : ∀ g, v.ownBlock = some g → g ∉ blocks rs
  bel : Below X.heap.size X u
theorem Pts.start (X : World) : Pts X X (.slice none 0 0) [] :=
  ⟨World.ownsRow_nil X _ _ _, fun _ => rfl, by simp, by simp [blocks], by simp [blocks], by simp [blocks], Below.refl _ _⟩
theorem Pts.lt {X u : World} {v : Value} {rs : List K} (h : Pts X u v rs) : ∀ x ∈ blocks rs, x < u.heap.size := fun x hx => by
  obtain ⟨r, hr, hx'⟩ := blocks_mem.1 hx
  exact (h.wr r hr).lt x hx'
theorem blocks_app (rs : List K) (r : K) : blocks (rs ++ [r]) = blocks rs ++ r.blocks := by
  induction rs with
  | nil => simp [blocks]
  | cons p rs ih => simp [blocks, ih]
theorem Pts.app {X u u1 w1 : World} {v v' : Value} {rs : List K} {r : K} (h : Pts X u v rs) (hb : Below u.heap.size u u1) (hr : Wr u1 r) (hge : ∀ x ∈ r.blocks, u.heap.size ≤ x)
    (ho : OwnC w1 X.heap.size v' (rs ++ [r])) (hg : u1.grownBy w1 v.ownBlock) (hat : v'.ownBlock = v.ownBlock ∨ v'.ownBlock = some u1.heap.size) : Pts X w1 v' (rs ++ [r]) := by
  have hXu := h.bel.size
  have hold : ∀ g, v.ownBlock = some g → g < u.heap.size := fun g e => (ownC_lt h.own e).2.1
  refine ⟨ho, fun e => by simp at e, fun p hp => ?_, fun x hx => ?_, ?_, fun g e => ?_, ?_⟩
  · rcases List.mem_append.1 hp with hp | hp
    · have h1 : Wr u1 p := (h.wr p hp).on hb
      exact h1.same (fun b hb' => hg.block b (h1.lt b hb') (fun e => h.ap b e.symm (blocks_mem.2 ⟨p, hp, hb'⟩))) hg.size
    · have : p = r := by simpa using hp
      subst this
      exact hr.same (fun b hb' => hg.block b (hr.lt b hb') (fun e => by have := hold b e.symm; have := hge b hb'; omega)) hg.size
  · rw [blocks_app, List.mem_append] at hx
    rcases hx with hx | hx
    · exact h.ge x hx
    · have := hge x hx; omega
  · rw [blocks_app]
    exact List.nodup_append.2 ⟨h.nd, hr.nd, fun x hx y hy e => by have := h.lt x hx; have := hge y hy; omega⟩
  · rw [blocks_app, List.mem_append]
    rintro (hx | hx)
    · rcases hat with e' | e'
      · exact h.ap g (e'.symm.trans e) hx
      · rw [e'] at e; injection e with e; have := h.lt g hx; have := hb.size; omega
    · rcases hat with e' | e'
      · have := hold g (e'.symm.trans e); have := hge g hx; omega
      · rw [e'] at e; injection e with e; have := hr.lt g hx; omega
  · refine (h.bel.trans (hb.mono hXu)).grown hg (by have := hb.size; omega) fun k e => (ownC_lt h.own e).1
def frontL (A : Option Addr) (rs : List K) : List Nat := match A, rs with | some a, _ :: _ => [a.block] | _, _ => []
theorem blocks_front (op : Int) (nm : ByteArray) (day : Int) (A : Option Addr) (cap : Nat) (rs : List K) : (K.mk op nm day A cap rs).blocks = frontL A rs ++ blocks rs := by
  cases A <;> cases rs <;> rfl
theorem Pts.whole {X u : World} {A : Option Addr} {n cap : Nat} {rs : List K} (h : Pts X u (.slice A n cap) rs) (hn : n = rs.length) (op : Int) (nm : ByteArray) (day : Int) (hs : nm.size ≤ maxLen) :
    Wr u (.mk op nm day A cap rs) ∧ ∀ x ∈ (K.mk op nm day A cap rs).blocks, X.heap.size ≤ x := by
  have hfront : ∀ x, x ∈ frontL A rs → (Value.slice A n cap).ownBlock = some x := fun x hx => by
    cases A with
    | none => cases rs <;> simp [frontL] at hx
    | some a =>
      cases rs with
      | nil => simp [frontL] at hx
      | cons r rs => simp [frontL] at hx; rw [hx]; rfl
  have hin : (K.mk op nm day A cap rs).In u := by
    refine ⟨fun hp => ?_, ⟨hs, ?_, ?_⟩, ins_mem.2 fun p hp => (h.wr p hp).has⟩
    · obtain ⟨g, rfl, _, _, _⟩ := ownC_el h.own hp
      refine ⟨g, 0, rfl, fun i hi => ?_⟩
      obtain ⟨g', e, _, _, he⟩ := ownC_el h.own hi
      cases e
      simpa using he
    · rcases h.own.2 with ⟨hv, h0⟩ | ⟨g, c, cur, hv, _, _, hnc, _, _, _⟩
      · omega
      · injection hv with h1 h2 h3; omega
    · rcases h.own.2 with ⟨hv, h0⟩ | ⟨g, c, cur, hv, _, _, _, hcm, _, _⟩
      · injection hv with h1 h2 h3; rw [h3]; simp [maxLen]
      · injection hv with h1 h2 h3; rw [h3]; exact hcm
  have hge : ∀ x ∈ (K.mk op nm day A cap rs).blocks, X.heap.size ≤ x := fun x hx => by
    rw [blocks_front, List.mem_append] at hx
    rcases hx with hx | hx
    · exact (ownC_lt h.own (hfront x hx)).1
    · exact h.ge x hx
  refine ⟨⟨hin, fun x hx => ?_, ?_, fun x hx => ?_⟩, hge⟩
  · rw [blocks_front, List.mem_append] at hx
    rcases hx with hx | hx
    · exact (ownC_lt h.own (hfront x hx)).2.1
    · exact h.lt x hx
  · rw [blocks_front]
    refine List.nodup_append.2 ⟨?_, h.nd, fun x hx y hy e => h.ap x (hfront x hx) (e ▸ hy)⟩
    cases A with
    | none => cases rs <;> simp [frontL]
    | some a => cases rs <;> simp [frontL]
  · rw [blocks_front, List.mem_append] at hx
    rcases hx with hx | hx
    · exact (ownC_lt h.own (hfront x hx)).2.2
    · obtain ⟨r, hr, hx'⟩ := blocks_mem.1 hx
      exact (h.wr r hr).fz x hx'

end Go.Proofs.YtlaogladhadliaaGreatDoor.Cond
