/-
  Cells side by side: a struct of any number of cells in memory, a box, a row of structs.
-/
import Derived.Test.YtomloodakabcbaaCoEq
namespace Go.Proofs.Ytomloodakabcbaa.Gx
open Go.RowKit Go.Proofs.Ytomloodakabcbaa.Cond
set_option linter.unusedVariables false

/-- The values vs lie from offset o on in block b. -/
def El (w : World) (b o : Nat) (vs : List Value) : Prop := ∀ i, ∀ h : i < vs.length, w.cell? ⟨b, o + i, none⟩ = some vs[i]
theorem El.alike {w w' : World} {b o : Nat} {vs : List Value} (h : El w b o vs) (hb : w'.heap[b]? = w.heap[b]?) : El w' b o vs := fun i hi => (World.cell?_of_block (a := ⟨b, o + i, none⟩) hb).trans (h i hi)
theorem El.drew {w : World} {b o : Nat} {vs : List Value} (h : El w b o vs) : El w.drew b o vs := h
/-- The values vs are stored, one behind the other. -/
def putL (w : World) (b o : Nat) : List Value → World
  | [] => w
  | v :: vs => putL (w.setCell ⟨b, o, none⟩ v) b (o + 1) vs
theorem putL_block {b k : Nat} (h : k ≠ b) : ∀ (vs : List Value) (w : World) (o : Nat), (putL w b o vs).heap[k]? = w.heap[k]?
  | [], w, o => rfl
  | v :: vs, w, o => by
    unfold putL
    rw [putL_block h vs]
    exact Below.heap_setCell w ⟨b, o, none⟩ v k h
theorem putL_size {b : Nat} : ∀ (vs : List Value) (w : World) (o : Nat), (putL w b o vs).heap.size = w.heap.size
  | [], w, o => rfl
  | v :: vs, w, o => by
    unfold putL
    rw [putL_size vs]
    exact World.size_setCell _ _ _
theorem putL_below {B b : Nat} (hb : B ≤ b) : ∀ (vs : List Value) {w0 w : World} (o : Nat), Below B w0 w → Below B w0 (putL w b o vs)
  | [], w0, w, o, h => h
  | v :: vs, w0, w, o, h => by
    unfold putL
    exact putL_below hb vs (o + 1) (h.setCell (p := ⟨b, o, none⟩) hb v)
theorem putL_blk {b g m : Nat} : ∀ (vs : List Value) {w : World} (o : Nat), Blk w g m → Blk (putL w b o vs) g m
  | [], w, o, h => h
  | v :: vs, w, o, h => by
    unfold putL
    exact putL_blk vs (o + 1) (h.set _ _)
theorem putL_other {b p : Nat} : ∀ (vs : List Value) (w : World) (o : Nat), (p < o ∨ o + vs.length ≤ p) → (putL w b o vs).cell? ⟨b, p, none⟩ = w.cell? ⟨b, p, none⟩
  | [], w, o, h => rfl
  | v :: vs, w, o, h => by
    unfold putL
    rw [putL_other vs _ _ (by simp only [List.length_cons] at h; omega)]
    exact World.cell?_setCell_other _ _ _ _ (fun e => by injection e with _ e _; simp only [List.length_cons] at h; omega)
theorem putL_el {b m : Nat} : ∀ (vs : List Value) {w : World} (o : Nat), Blk w b m → o + vs.length ≤ m → El (putL w b o vs) b o vs
  | [], w, o, h, hm => fun i hi => by simp at hi
  | v :: vs, w, o, h, hm => fun i hi => by
    simp only [List.length_cons] at hm
    unfold putL
    cases i with
    | zero =>
      rw [Nat.add_zero, putL_other vs _ _ (.inl (by omega))]
      obtain ⟨x, hx⟩ := h.cell (o := o) (by omega)
      exact World.cell?_setCell_same _ _ _ hx
    | succ i =>
      have := putL_el vs (w := w.setCell ⟨b, o, none⟩ v) (o + 1) (h.set _ _) (by omega) i (by simpa using hi)
      rw [show o + (i + 1) = o + 1 + i by omega]
      exact this
theorem putL_fz {b : Nat} (a : Addr) : ∀ (vs : List Value) (w : World) (o : Nat), (putL w b o vs).frozen? a = w.frozen? a
  | [], w, o => rfl
  | v :: vs, w, o => by
    unfold putL
    rw [putL_fz a vs]
    simp
theorem putL_els {b o p : Nat} {vs us : List Value} {w : World} (h : El w b p us) (hp : p + us.length ≤ o ∨ o + vs.length ≤ p) : El (putL w b o vs) b p us := fun i hi => by
  rw [putL_other vs w o (by omega)]
  exact h i hi
theorem putL_grown (w : World) (b o : Nat) (vs : List Value) : w.grownBy (putL w b o vs) (some b) :=
  have hb := putL_below (B := b) (Nat.le_refl _) vs o (Below.refl b w)
  ⟨hb.os, hb.tape, hb.output, hb.size, fun j _ hne => putL_block (fun e => hne (by rw [e])) vs w o⟩

/-- A block of its own with these cells. -/
structure Bk (k : Nat) (w : World) (vs : List Value) : Prop where
  blk : Blk w k vs.length
  el : El w k 0 vs
theorem Bk.lt {k : Nat} {w : World} {vs : List Value} (h : Bk k w vs) : k < w.heap.size := h.blk.lt
theorem Bk.fz {k : Nat} {w : World} {vs : List Value} (h : Bk k w vs) (o : Nat) : w.frozen? ⟨k, o, none⟩ = false := h.blk.frozen o
theorem Bk.c {k : Nat} {w : World} {vs : List Value} (h : Bk k w vs) (i : Nat) (hi : i < vs.length) : w.cell? ⟨k, i, none⟩ = some vs[i] := by have := h.el i hi; rwa [Nat.zero_add] at this
theorem Bk.alike {k : Nat} {w w' : World} {vs : List Value} (h : Bk k w vs) (hb : w'.heap[k]? = w.heap[k]?) : Bk k w' vs := ⟨h.blk.alike hb, h.el.alike hb⟩
theorem Bk.below {k B : Nat} {w w' : World} {vs : List Value} (h : Bk k w vs) (hb : Below B w w') (hB : k < B) : Bk k w' vs := h.alike (hb.block k hB)
theorem Bk.on {k : Nat} {w w' : World} {vs : List Value} (h : Bk k w vs) (hb : Below w.heap.size w w') : Bk k w' vs := h.below hb h.lt
theorem Bk.kept {k : Nat} {w w' : World} {vs : List Value} {row : Option Nat} (h : Bk k w vs) (hg : w.grownBy w' row) (hne : some k ≠ row) : Bk k w' vs := h.alike (hg.block k h.lt hne)
theorem Bk.new (w : World) (arr : Array Value) (T : TypeId) : Bk w.heap.size (w.alloc (.cells arr T)) arr.toList :=
  ⟨⟨arr, T, heap_alloc_new w _, by simp⟩, fun i hi => by
    rw [cell_of_row (w.alloc (.cells arr T)) w.heap.size (0 + i) arr T (0, 0) (heap_alloc_new w _)]
    simp only [Array.length_toList] at hi
    simp [hi]⟩
theorem Bk.alloc {k : Nat} {w : World} {vs : List Value} (h : Bk k w vs) (o : Obj) : Bk k (w.alloc o) vs := h.on (below1 _ _)
theorem Bk.far {k : Nat} {w : World} {vs : List Value} (h : Bk k w vs) {p : Addr} (hp : p.block ≠ k) (v : Value) : Bk k (w.setCell p v) vs := h.alike (Below.heap_setCell w p v k (fun e => hp e.symm))
theorem Bk.set {k : Nat} {w : World} {vs : List Value} (h : Bk k w vs) (i : Nat) (hi : i < vs.length) (v : Value) : Bk k (w.setCell ⟨k, i, none⟩ v) (vs.set i v) := by
  refine ⟨by rw [List.length_set]; exact h.blk.set _ _, fun j hj => ?_⟩
  have hj' : j < vs.length := by simpa using hj
  rw [Nat.zero_add]
  by_cases e : j = i
  · subst e
    rw [List.getElem_set_self]
    exact World.cell?_setCell_same _ _ _ (h.c j hj')
  · rw [List.getElem_set_ne (fun e2 => e e2.symm)]
    exact (World.cell?_setCell_other _ _ _ _ (fun e2 => by injection e2 with _ e2 _; exact e e2.symm)).trans (h.c j hj')
theorem Bk.put {k : Nat} {w : World} {vs us : List Value} (h : Bk k w vs) (hl : us.length = vs.length) : Bk k (putL w k 0 us) us :=
  ⟨by rw [hl]; exact putL_blk us 0 h.blk, putL_el us 0 h.blk (by omega)⟩
theorem Bk.drew {k : Nat} {w : World} {vs : List Value} (h : Bk k w vs) : Bk k w.drew vs := ⟨h.blk.alike rfl, h.el.drew⟩

/-- The cells of a row of structs. -/
def flat {α : Type} (f : α → List Value) (rs : List α) : List Value := rs.flatMap f
theorem flat_len {α : Type} {f : α → List Value} {n : Nat} (hf : ∀ r, (f r).length = n) (rs : List α) : (flat f rs).length = rs.length * n := by
  induction rs with
  | nil => simp [flat]
  | cons r rs ih =>
    unfold flat at ih ⊢
    rw [List.flatMap_cons, List.length_append, ih, hf, List.length_cons, Nat.add_mul]
    omega
theorem flat_app {α : Type} (f : α → List Value) (rs qs : List α) : flat f (rs ++ qs) = flat f rs ++ flat f qs := by simp [flat]
theorem flat_one {α : Type} (f : α → List Value) (r : α) : flat f [r] = f r := by simp [flat]
theorem flat_get {α : Type} {f : α → List Value} {n : Nat} (hf : ∀ r, (f r).length = n) : ∀ (rs : List α) (i : Nat) (h : i < rs.length) (j : Nat), j < n → (flat f rs)[i * n + j]? = (f rs[i])[j]?
  | r :: rs, 0, _, j, hj => by
    simp only [flat, List.flatMap_cons, Nat.zero_mul, Nat.zero_add]
    rw [List.getElem?_append_left (by rw [hf]; omega)]
    simp
  | r :: rs, i + 1, h, j, hj => by
    have := flat_get hf rs i (by simpa using h) j hj
    simp only [flat, List.flatMap_cons] at this ⊢
    rw [List.getElem?_append_right (by rw [hf, Nat.add_mul]; omega)]
    have e : (i + 1) * n + j - (f r).length = i * n + j := by rw [hf, Nat.add_mul]; omega
    rw [e, this]
    simp
/-- The elements of an owned row. -/
theorem own_el {α : Type} {f : α → List Value} {n : Nat} (hf : ∀ r, (f r).length = n) {w : World} {S m cap : Nat} {T : TypeId} {A : Option Addr} {rs : List α} (h : w.ownsRow S T n (.slice A m cap) rs.length (flat f rs)) {i : Nat} (hi : i < rs.length) :
    ∃ g, A = some ⟨g, 0, none⟩ ∧ S ≤ g ∧ g < w.heap.size ∧ (∀ o, w.frozen? ⟨g, o, none⟩ = false) ∧ El w g (i * n) (f rs[i]) := by
  rcases h.2 with ⟨_, h0⟩ | ⟨g, c, cur, hv, hS, hh, hnc, _, hcs, htk⟩
  · omega
  · injection hv with h1 h2 h3
    subst h1
    refine ⟨g, rfl, hS, (Array.getElem?_eq_some_iff.1 hh).1, fun o => by simp [World.frozen?, hh], fun j hj => ?_⟩
    rw [hf] at hj
    have h4 := flat_get hf rs i hi j hj
    have hlt : i * n + j < rs.length * n := by
      have : (i + 1) * n ≤ rs.length * n := Nat.mul_le_mul_right n hi
      rw [Nat.add_mul] at this; omega
    rw [← htk, List.getElem?_take_of_lt hlt] at h4
    rw [← List.getElem?_eq_getElem, ← h4]
    simp [World.cell?, hh]
/-- A row of structs that begins at A, below block B. -/
def AtR {α : Type} (f : α → List Value) (n : Nat) (w : World) (B : Nat) (A : Option Addr) (rs : List α) : Prop :=
  0 < rs.length → ∃ b o, A = some ⟨b, o, none⟩ ∧ b < B ∧ ∀ i, ∀ h : i < rs.length, El w b (o + i * n) (f rs[i])
theorem AtR.below {α : Type} {f : α → List Value} {n : Nat} {w w' : World} {B : Nat} {A : Option Addr} {rs : List α} (h : AtR f n w B A rs) (hb : Below B w w') : AtR f n w' B A rs := fun hp => by
  obtain ⟨b, o, e, hB, hc⟩ := h hp
  exact ⟨b, o, e, hB, fun i hi => (hc i hi).alike (hb.block b hB)⟩
theorem AtR.more {α : Type} {f : α → List Value} {n : Nat} {w : World} {B B' : Nat} {A : Option Addr} {rs : List α} (h : AtR f n w B A rs) (hB : B ≤ B') : AtR f n w B' A rs := fun hp => by
  obtain ⟨b, o, e, hB', hc⟩ := h hp
  exact ⟨b, o, e, by omega, hc⟩
theorem AtR.of_own {α : Type} {f : α → List Value} {n : Nat} (hf : ∀ r, (f r).length = n) {w : World} {S m cap : Nat} {T : TypeId} {A : Option Addr} {rs : List α} (h : w.ownsRow S T n (.slice A m cap) rs.length (flat f rs)) : AtR f n w w.heap.size A rs := fun hp => by
  obtain ⟨g, rfl, _, hg, _, _⟩ := own_el hf h hp
  refine ⟨g, 0, rfl, hg, fun i hi => ?_⟩
  obtain ⟨g', e, _, _, _, he⟩ := own_el hf h hi
  cases e
  rw [Nat.zero_add]
  exact he

end Go.Proofs.Ytomloodakabcbaa.Gx
