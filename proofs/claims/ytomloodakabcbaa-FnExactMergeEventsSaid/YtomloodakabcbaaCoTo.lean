/-
  What the laws' helper toCondition returns: a copy of the condition in new memory of its own.
-/
import Derived.Test.YtomloodakabcbaaSz
import Derived.OneCell
import Derived.Deep.RegionHeld3
namespace Go.Proofs.Ytomloodakabcbaa.Cond
open Go.RowKit

/-- A block of m cells, none frozen. -/
def Blk (w : World) (g m : Nat) : Prop := ∃ arr T, w.heap[g]? = some (.cells arr T (0, 0)) ∧ arr.size = m
theorem Blk.lt {w : World} {g m : Nat} (h : Blk w g m) : g < w.heap.size := by
  obtain ⟨arr, T, h, _⟩ := h
  exact (Array.getElem?_eq_some_iff.1 h).1
theorem Blk.frozen {w : World} {g m : Nat} (h : Blk w g m) (o : Nat) : w.frozen? ⟨g, o, none⟩ = false := by
  obtain ⟨arr, T, h, _⟩ := h
  simp [World.frozen?, h]
theorem Blk.cell {w : World} {g m : Nat} (h : Blk w g m) {o : Nat} (ho : o < m) : ∃ v, w.cell? ⟨g, o, none⟩ = some v := by
  obtain ⟨arr, T, h, hs⟩ := h
  exact ⟨arr[o]'(by omega), by simp [World.cell?, h, hs, ho]⟩
theorem Blk.set {w : World} {g m : Nat} (h : Blk w g m) (a : Addr) (v : Value) : Blk (w.setCell a v) g m := by
  obtain ⟨arr, T, h, hs⟩ := h
  by_cases e : g = a.block
  · subst e
    refine ⟨_, T, by simp only [World.setCell, Array.getElem?_modify, h]; rfl, ?_⟩
    split
    · exact hs
    · simpa using hs
  · exact ⟨arr, T, (Below.heap_setCell w a v g e).trans h, hs⟩
theorem Blk.alike {w w' : World} {g m : Nat} (h : Blk w g m) (hb : w'.heap[g]? = w.heap[g]?) : Blk w' g m := by
  obtain ⟨arr, T, h, hs⟩ := h
  exact ⟨arr, T, hb.trans h, hs⟩
theorem Blk.of_own {w : World} {base n cap g : Nat} {e : TypeId} {ez : Nat} {xs : List Value} (h : w.ownsRow base e ez (.slice (some ⟨g, 0, none⟩) n cap) n xs) : Blk w g (cap * ez) := by
  rcases h.2 with ⟨hv, _⟩ | ⟨g', cap', cur, hv, _, hh, _, _, hs, _⟩
  · cases hv
  · injection hv with h1 h2 h3
    injection h1 with h1
    injection h1 with h1
    subst h1; subst h3
    exact ⟨cur, e, hh, hs⟩

/-- Four cells are stored. -/
def put4 (w : World) (g o : Nat) (a b c d : Value) : World := (((w.setCell ⟨g, o, none⟩ a).setCell ⟨g, o + 1, none⟩ b).setCell ⟨g, o + 2, none⟩ c).setCell ⟨g, o + 3, none⟩ d
theorem put4_blk {w : World} {g m : Nat} (h : Blk w g m) {g' o : Nat} {a b c d : Value} : Blk (put4 w g' o a b c d) g m := (((h.set _ _).set _ _).set _ _).set _ _
theorem put4_block {w : World} {g o : Nat} {a b c d : Value} {k : Nat} (h : k ≠ g) : (put4 w g o a b c d).heap[k]? = w.heap[k]? := by
  unfold put4
  rw [Below.heap_setCell _ _ _ _ h, Below.heap_setCell _ _ _ _ h, Below.heap_setCell _ _ _ _ h, Below.heap_setCell _ _ _ _ h]
theorem put4_size {w : World} {g o : Nat} {a b c d : Value} : (put4 w g o a b c d).heap.size = w.heap.size := by
  unfold put4; simp only [World.size_setCell]
theorem put4_below {B : Nat} {w0 w : World} {g o : Nat} {a b c d : Value} (h : Below B w0 w) (hg : B ≤ g) : Below B w0 (put4 w g o a b c d) :=
  (((h.setCell (p := ⟨g, o, none⟩) hg _).setCell (p := ⟨g, o + 1, none⟩) hg _).setCell (p := ⟨g, o + 2, none⟩) hg _).setCell (p := ⟨g, o + 3, none⟩) hg _
theorem put4_other {w : World} {g o : Nat} {a b c d : Value} {p : Nat} (h : p < o ∨ o + 4 ≤ p) : (put4 w g o a b c d).cell? ⟨g, p, none⟩ = w.cell? ⟨g, p, none⟩ := by
  unfold put4
  have ne : ∀ j, j < 4 → (⟨g, o + j, none⟩ : Addr) ≠ ⟨g, p, none⟩ := fun j hj e => by
    injection e with _ e _
    omega
  rw [World.cell?_setCell_other _ _ _ _ (ne 3 (by omega)), World.cell?_setCell_other _ _ _ _ (ne 2 (by omega)), World.cell?_setCell_other _ _ _ _ (ne 1 (by omega))]
  exact World.cell?_setCell_other _ _ _ _ (ne 0 (by omega))
theorem put4_el {w : World} {g o m : Nat} {k : K} (h : Blk w g m) (ho : o + 4 ≤ m) :
    El (put4 w g o (.int .i64 k.op) (.string k.nm) (.int .i64 k.day) (.slice k.A k.ps.length k.cap)) g o k := by
  obtain ⟨x0, h0⟩ := h.cell (o := o) (by omega)
  obtain ⟨x1, h1⟩ := (h.set ⟨g, o, none⟩ (.int .i64 k.op)).cell (o := o + 1) (by omega)
  obtain ⟨x2, h2⟩ := ((h.set ⟨g, o, none⟩ (.int .i64 k.op)).set ⟨g, o + 1, none⟩ (.string k.nm)).cell (o := o + 2) (by omega)
  obtain ⟨x3, h3⟩ := (((h.set ⟨g, o, none⟩ (.int .i64 k.op)).set ⟨g, o + 1, none⟩ (.string k.nm)).set ⟨g, o + 2, none⟩ (.int .i64 k.day)).cell (o := o + 3) (by omega)
  refine ⟨?_, ?_, ?_, ?_⟩ <;> unfold put4
  · rw [World.cell?_setCell_other _ _ _ _ (by simp), World.cell?_setCell_other _ _ _ _ (by simp), World.cell?_setCell_other _ _ _ _ (by simp)]
    exact World.cell?_setCell_same _ _ _ h0
  · rw [World.cell?_setCell_other _ _ _ _ (by simp), World.cell?_setCell_other _ _ _ _ (by simp)]
    exact World.cell?_setCell_same _ _ _ h1
  · rw [World.cell?_setCell_other _ _ _ _ (by simp)]
    exact World.cell?_setCell_same _ _ _ h2
  · exact World.cell?_setCell_same _ _ _ h3
theorem put4_els {w : World} {g o : Nat} {a b c d : Value} {p : Nat} {k : K} (h : El w g p k) (hp : p + 4 ≤ o ∨ o + 4 ≤ p) : El (put4 w g o a b c d) g p k :=
  ⟨(put4_other (by omega)).trans h.c0, (put4_other (by omega)).trans h.c1, (put4_other (by omega)).trans h.c2, (put4_other (by omega)).trans h.c3⟩

/-- A condition in memory of its own, in the blocks from S to E. -/
structure Own (w : World) (S E : Nat) (k : K) : Prop where
  has : k.In w
  ge : ∀ b ∈ k.blocks, S ≤ b
  lt : ∀ b ∈ k.blocks, b < E
  nd : k.blocks.Nodup
  fz : ∀ b ∈ k.blocks, ∀ o, w.frozen? ⟨b, o, none⟩ = false
theorem Own.lies {w : World} {S E : Nat} {k : K} (h : Own w S E k) : Lies w E k := ⟨h.has, h.lt⟩
theorem Own.same {w w' : World} {S E : Nat} {k : K} (h : Own w S E k) (hb : ∀ b, S ≤ b → b < E → w'.heap[b]? = w.heap[b]?) : Own w' S E k :=
  ⟨h.has.alike fun b hb' => hb b (h.ge b hb') (h.lt b hb'), h.ge, h.lt, h.nd, fun b hb' o => (World.frozen?_of_block (a := ⟨b, o, none⟩) (hb b (h.ge b hb') (h.lt b hb'))).trans (h.fz b hb' o)⟩
theorem Own.below {w w' : World} {S E B : Nat} {k : K} (h : Own w S E k) (hb : Below B w w') (hE : E ≤ B) : Own w' S E k := h.same fun b _ hb' => hb.block b (by omega)
theorem Own.wide {w : World} {S E S' E' : Nat} {k : K} (h : Own w S E k) (hS : S' ≤ S) (hE : E ≤ E') : Own w S' E' k :=
  ⟨h.has, fun b hb => Nat.le_trans hS (h.ge b hb), fun b hb => Nat.lt_of_lt_of_le (h.lt b hb) hE, h.nd, h.fz⟩

/-- A row of conditions in memory of its own: the row in block g, all else between g and E. -/
structure Rw (w : World) (g E n : Nat) (ks : List K) : Prop where
  blk : Blk w g (n * 4)
  el : ∀ i, ∀ h : i < ks.length, El w g (0 + i * 4) ks[i]
  ins : ∀ k ∈ ks, k.In w
  ge : ∀ b ∈ blocks ks, g < b
  lt : ∀ b ∈ blocks ks, b < E
  nd : (blocks ks).Nodup
  fz : ∀ b ∈ blocks ks, ∀ o, w.frozen? ⟨b, o, none⟩ = false
theorem Rw.below {w w' : World} {g E n B : Nat} {ks : List K} (h : Rw w g E n ks) (hb : Below B w w') (hg : g < B) (hE : E ≤ B) : Rw w' g E n ks :=
  ⟨h.blk.alike (hb.block g hg), fun i hi => (h.el i hi).alike (hb.block g hg), fun k hk => (h.ins k hk).alike fun b hb' => hb.block b (by have := h.lt b (blocks_mem.2 ⟨k, hk, hb'⟩); omega),
   h.ge, h.lt, h.nd, fun b hb' o => (World.frozen?_of_block (a := ⟨b, o, none⟩) (hb.block b (by have := h.lt b hb'; omega))).trans (h.fz b hb' o)⟩
theorem Rw.wide {w : World} {g E E' n : Nat} {ks : List K} (h : Rw w g E n ks) (hE : E ≤ E') : Rw w g E' n ks :=
  ⟨h.blk, h.el, h.ins, h.ge, fun b hb => Nat.lt_of_lt_of_le (h.lt b hb) hE, h.nd, h.fz⟩
theorem blocks_append (a b : List K) : blocks (a ++ b) = blocks a ++ blocks b := by
  induction a with
  | nil => rfl
  | cons p a ih => simp [blocks, ih]
/-- One condition more is stored. -/
theorem Rw.snoc {w : World} {g E F n : Nat} {ks : List K} {k : K} (h : Rw w g E n ks) (hk : Own w E F k) (hEF : E ≤ F) (hg : g < E) (hl : ks.length < n) :
    Rw (put4 w g (ks.length * 4) (.int .i64 k.op) (.string k.nm) (.int .i64 k.day) (.slice k.A k.ps.length k.cap)) g F n (ks ++ [k]) := by
  have hne : ∀ b, g < b → (put4 w g (ks.length * 4) (.int .i64 k.op) (.string k.nm) (.int .i64 k.day) (.slice k.A k.ps.length k.cap)).heap[b]? = w.heap[b]? := fun b hb => put4_block (by omega)
  refine ⟨put4_blk h.blk, fun i hi => ?_, fun x hx => ?_, fun b hb => ?_, fun b hb => ?_, ?_, fun b hb o => ?_⟩
  · by_cases e : i = ks.length
    · subst e
      have e2 : (ks ++ [k])[ks.length]'hi = k := by simp
      rw [e2, Nat.zero_add]
      exact put4_el h.blk (by omega)
    · have hi' : i < ks.length := by simp at hi; omega
      have e2 : (ks ++ [k])[i]'hi = ks[i] := by simp [hi']
      rw [e2]
      exact put4_els (h.el i hi') (by omega)
  · rcases List.mem_append.1 hx with hx | hx
    · exact (h.ins x hx).alike fun b hb => hne b (h.ge b (blocks_mem.2 ⟨x, hx, hb⟩))
    · have : x = k := by simpa using hx
      subst this
      exact hk.has.alike fun b hb => hne b (by have := hk.ge b hb; omega)
  · rw [blocks_append, List.mem_append] at hb
    rcases hb with hb | hb
    · exact h.ge b hb
    · simp [blocks] at hb
      have := hk.ge b hb; omega
  · rw [blocks_append, List.mem_append] at hb
    rcases hb with hb | hb
    · have := h.lt b hb; omega
    · simp [blocks] at hb
      exact hk.lt b hb
  · rw [blocks_append]
    simp only [blocks, List.append_nil]
    exact List.nodup_append.2 ⟨h.nd, hk.nd, fun a ha b hb e => by have := h.lt a ha; have := hk.ge b hb; omega⟩
  · have hgb : g < b := by
      rw [blocks_append, List.mem_append] at hb
      rcases hb with hb | hb
      · exact h.ge b hb
      · simp [blocks] at hb
        have := hk.ge b hb; omega
    rw [World.frozen?_of_block (a := ⟨b, o, none⟩) (hne b hgb)]
    rw [blocks_append, List.mem_append] at hb
    rcases hb with hb | hb
    · exact h.fz b hb o
    · simp [blocks] at hb
      exact hk.fz b hb o

theorem Rw.own {w : World} {g E : Nat} {ks : List K} {cap : Nat} (h : Rw w g E cap ks) (hg : g < E) (hc : ks.length ≤ cap) (hm : cap ≤ maxLen) (op : Int) (nm : ByteArray) (day : Int) (hn : nm.size ≤ maxLen) : Own w g E (.mk op nm day (some ⟨g, 0, none⟩) cap ks) := by
  have hb : ∀ b ∈ (K.mk op nm day (some ⟨g, 0, none⟩) cap ks).blocks, b = g ∨ b ∈ blocks ks := fun b hb => by
    simp only [K.blocks, List.mem_append] at hb
    rcases hb with hb | hb
    · cases ks with
      | nil => simp at hb
      | cons p ps => left; simpa using hb
    · exact .inr hb
  refine ⟨⟨fun hp => ⟨g, 0, rfl, h.el⟩, ⟨hn, hc, hm⟩, ins_mem.2 h.ins⟩, fun b hb' => ?_, fun b hb' => ?_, ?_, fun b hb' o => ?_⟩
  · rcases hb b hb' with rfl | hb
    · exact Nat.le_refl _
    · exact Nat.le_of_lt (h.ge b hb)
  · rcases hb b hb' with rfl | hb
    · exact hg
    · exact h.lt b hb
  · simp only [K.blocks]
    refine List.nodup_append.2 ⟨?_, h.nd, fun a ha b hb e => ?_⟩
    · cases ks <;> simp
    · have : a = g := by
        cases ks with
        | nil => simp at ha
        | cons p ps => simpa using ha
      have := h.ge b hb; omega
  · rcases hb b hb' with rfl | hb
    · exact h.blk.frozen o
    · exact h.fz b hb o

/-- A block of four cells. -/
structure B4 (k : Nat) (w : World) (a b c d : Value) : Prop where
  lt : k < w.heap.size
  c0 : w.cell? ⟨k, 0, none⟩ = some a
  c1 : w.cell? ⟨k, 1, none⟩ = some b
  c2 : w.cell? ⟨k, 2, none⟩ = some c
  c3 : w.cell? ⟨k, 3, none⟩ = some d
  fz : ∀ o, w.frozen? ⟨k, o, none⟩ = false
theorem B4.below {k B : Nat} {w w' : World} {a b c d : Value} (h : B4 k w a b c d) (hb : Below B w w') (hB : k < B) : B4 k w' a b c d :=
  ⟨Nat.lt_of_lt_of_le h.lt hb.size, (hb.cell (p := ⟨k, 0, none⟩) hB).trans h.c0, (hb.cell (p := ⟨k, 1, none⟩) hB).trans h.c1, (hb.cell (p := ⟨k, 2, none⟩) hB).trans h.c2, (hb.cell (p := ⟨k, 3, none⟩) hB).trans h.c3, fun o => (hb.frozen (p := ⟨k, o, none⟩) hB).trans (h.fz o)⟩
theorem B4.on {k : Nat} {w w' : World} {a b c d : Value} (h : B4 k w a b c d) (hb : Below w.heap.size w w') : B4 k w' a b c d := h.below hb h.lt
theorem B4.new (w : World) (a b c d : Value) (T : TypeId) : B4 w.heap.size (w.alloc (.cells #[a, b, c, d] T)) a b c d :=
  ⟨by simp, by simp [go_sem], by simp [go_sem], by simp [go_sem], by simp [go_sem], fun o => by simp [go_sem]⟩
theorem B4.alloc {k : Nat} {w : World} {a b c d : Value} (h : B4 k w a b c d) (o : Obj) : B4 k (w.alloc o) a b c d := h.on (below1 _ _)
theorem B4.set3 {k : Nat} {w : World} {a b c d : Value} (h : B4 k w a b c d) (x : Value) : B4 k (w.setCell ⟨k, 3, none⟩ x) a b c x :=
  ⟨by rw [World.size_setCell]; exact h.lt, (World.cell?_setCell_other w _ _ _ (by simp)).trans h.c0, (World.cell?_setCell_other w _ _ _ (by simp)).trans h.c1, (World.cell?_setCell_other w _ _ _ (by simp)).trans h.c2, World.cell?_setCell_same w _ _ h.c3, fun o => by simp [h.fz]⟩
theorem B4.far {k : Nat} {w : World} {a b c d : Value} (h : B4 k w a b c d) {p : Addr} (hp : p.block ≠ k) (v : Value) : B4 k (w.setCell p v) a b c d :=
  have hne : ∀ i : Nat, p ≠ ⟨k, i, none⟩ := fun i e => hp (by rw [e])
  ⟨by rw [World.size_setCell]; exact h.lt, (World.cell?_setCell_other w _ _ _ (hne 0)).trans h.c0, (World.cell?_setCell_other w _ _ _ (hne 1)).trans h.c1, (World.cell?_setCell_other w _ _ _ (hne 2)).trans h.c2, (World.cell?_setCell_other w _ _ _ (hne 3)).trans h.c3, fun o => by simp [h.fz]⟩
theorem B4.put {k : Nat} {w : World} {a b c d : Value} (h : B4 k w a b c d) (x y z t : Value) : B4 k (put4 w k 0 x y z t) x y z t := by
  have h1 := World.cell?_setCell_same w ⟨k, 0, none⟩ x h.c0
  have h2 := World.cell?_setCell_same (w.setCell ⟨k, 0, none⟩ x) ⟨k, 0 + 1, none⟩ y ((World.cell?_setCell_other w _ _ _ (by simp)).trans h.c1)
  have h3 := World.cell?_setCell_same ((w.setCell ⟨k, 0, none⟩ x).setCell ⟨k, 0 + 1, none⟩ y) ⟨k, 0 + 2, none⟩ z ((World.cell?_setCell_other _ _ _ _ (by simp)).trans ((World.cell?_setCell_other w _ _ _ (by simp)).trans h.c2))
  have h4 := World.cell?_setCell_same (((w.setCell ⟨k, 0, none⟩ x).setCell ⟨k, 0 + 1, none⟩ y).setCell ⟨k, 0 + 2, none⟩ z) ⟨k, 0 + 3, none⟩ t ((World.cell?_setCell_other _ _ _ _ (by simp)).trans ((World.cell?_setCell_other _ _ _ _ (by simp)).trans ((World.cell?_setCell_other w _ _ _ (by simp)).trans h.c3)))
  refine ⟨by rw [put4_size]; exact h.lt, ?_, ?_, ?_, h4, fun o => by unfold put4; simp [h.fz]⟩
  · exact (World.cell?_setCell_other _ _ _ _ (by simp)).trans ((World.cell?_setCell_other _ _ _ _ (by simp)).trans ((World.cell?_setCell_other _ _ _ _ (by simp)).trans h1))
  · exact (World.cell?_setCell_other _ _ _ _ (by simp)).trans ((World.cell?_setCell_other _ _ _ _ (by simp)).trans h2)
  · exact (World.cell?_setCell_other _ _ _ _ (by simp)).trans h3

end Go.Proofs.Ytomloodakabcbaa.Cond
