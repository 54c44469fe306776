/-
  What the laws' helper toCondition returns: a copy of the condition in new memory of its own.
-/
import Derived.Test.YtomloodakabcbabGreatSz
import Derived.OneCell
import Derived.Deep.RegionHeld3
namespace Go.Proofs.YtomloodakabcbabGreat.Cond
open Go.RowKit

/-- A block of m cells, none frozen. -/
def Blk (w : World) (g m : Nat) : Prop := ∃ arr T, w.heap[g]? = some (.cells arr T (0, 0)) ∧ arr.size = m
theorem Blk.lt {w : World} {g m : Nat} (h : Blk w g m) : g < w.heap.size := by
  obtain ⟨arr, T, h, _⟩ := h
  exact (Array.getElem?_eq_some_iff.1 h).1
theorem Blk.frozen {w : World} {g m : Nat} (h : Blk w g m) (o : Nat) : w.frozen? ⟨g, o, none⟩ = false := by
  obtain ⟨arr, T, h, _⟩ := h
  simp [World.frozen?, h]
theorem Blk.cell {w : World} {g m : Nat} (h : Blk w g m) {o : Nat} (ho : o < m) : ∃ v, w.cell? ⟨g, o, none⟩ = some v := by
  obtain ⟨arr, T, h, hs⟩ := h
  exact ⟨arr[o]'(by omega), by simp [World.cell?, h, hs, ho]⟩
theorem Blk.set {w : World} {g m : Nat} (h : Blk w g m) (a : Addr) (v : Value) : Blk (w.setCell a v) g m := by
  obtain ⟨arr, T, h, hs⟩ := h
  by_cases e : g = a.block
  · subst e
    refine ⟨_, T, by simp only [World.setCell, Array.getElem?_modify, h]; rfl, ?_⟩
    split
    · exact hs
    · simpa using hs
  · exact ⟨arr, T, (Below.heap_setCell w a v g e).trans h, hs⟩
theorem Blk.alike {w w' : World} {g m : Nat} (h : Blk w g m) (hb : w'.heap[g]? = w.heap[g]?) : Blk w' g m := by
  obtain ⟨arr, T, h, hs⟩ := h
  exact ⟨arr, T, hb.trans h, hs⟩
theorem Blk.of_own {w : World} {base n cap g : Nat} {e : TypeId} {ez : Nat} {xs : List Value} (h : w.ownsRow base e ez (.slice (some ⟨g, 0, none⟩) n cap) n xs) : Blk w g (cap * ez) := by
  rcases h.2 with ⟨hv, _⟩ | ⟨g', cap', cur, hv, _, hh, _, _, hs, _⟩
  · cases hv
  · injection hv with h1 h2 h3
    injection h1 with h1
    injection h1 with h1
    subst h1; subst h3
    exact ⟨cur, e, hh, hs⟩

/-- Four cells are stored. -/
def put4 (w : World) (g o : Nat) (a b c d : Value) : World := (((w.setCell ⟨g, o, none⟩ a).setCell ⟨g, o + 1, none⟩ b).setCell ⟨g, o + 2, none⟩ c).setCell ⟨g, o + 3, none⟩ d
theorem put4_blk {w : World} {g m : Nat} (h : Blk w g m) {g' o : Nat} {a b c d : Value} : Blk (put4 w g' o a b c d) g m := (((h.set _ _).set _ _).set _ _).set _ _
theorem put4_block {w : World} {g o : Nat} {a b c d : Value} {k : Nat} (h : k ≠ g) : (put4 w g o a b c d).heap[k]? = w.heap[k]? := by
  unfold put4
  rw [Below.heap_setCell _ _ _ _ h, Below.heap_setCell _ _ _ _ h, Below.heap_setCell _ _ _ _ h, Below.heap_setCell _ _ _ _ h]
theorem put4_size {w : World} {g o : Nat} {a b c d : Value} : (put4 w g o a b c d).heap.size = w.heap.size := by
  unfold put4; simp only [World.size_setCell]
theorem put4_below {B : Nat} {w0 w : World} {g o : Nat} {a b c d : Value} (h : Below B w0 w) (hg : B ≤ g) : Below B w0 (put4 w g o a b c d) :=
  (((h.setCell (p := ⟨g, o, none⟩) hg _).setCell (p := ⟨g, o + 1, none⟩) hg _).setCell (p := ⟨g, o + 2, none⟩) hg _).setCell (p := ⟨g, o + 3, none⟩) hg _
theorem put4_other {w : World} {g o : Nat} {a b c d : Value} {p : Nat} (h : p < o ∨ o + 4 ≤ p) : (put4 w g o a b c d).cell? ⟨g, p, none⟩ = w.cell? ⟨g, p, none⟩ := by
  unfold put4
  have ne : ∀ j, j < 4 → (⟨g, o + j, none⟩ : Addr) ≠ ⟨g, p, none⟩ := fun j hj e => by
    injection e with _ e _
    omega
  rw [World.cell?_setCell_other _ _ _ _ (ne 3 (by omega)), World.cell?_setCell_other _ _ _ _ (ne 2 (by omega)), World.cell?_setCell_other _ _ _ _ (ne 1 (by omega))]
  exact World.cell?_setCell_other _ _ _ _ (ne 0 (by omega))
theorem put4_el {w : World} {g o m : Nat} {k : K} (h : Blk w g m) (ho : o + 4 ≤ m) :
    El (put4 w g o (.int .i64 k.op) (.string k.nm) (.int .i64 k.day) (.slice k.A k.ps.length k.cap)) g o k := by
  obtain ⟨x0, h0⟩ := h.cell (o := o) (by omega)
  obtain ⟨x1, h1⟩ := (h.set ⟨g, o, none⟩ (.int .i64 k.op)).cell (o := o + 1) (by omega)
  obtain ⟨x2, h2⟩ := ((h.set ⟨g, o, none⟩ (.int .i64 k.op)).set ⟨g, o + 1, none⟩ (.string k.nm)).cell (o := o + 2) (by omega)
  obtain ⟨x3, h3⟩ := (((h.set ⟨g, o, none⟩ (.int .i64 k.op)).set ⟨g, o + 1, none⟩ (.string k.nm)).set ⟨g, o + 2, none⟩ (.int .i64 k.day)).cell (o := o + 3) (by omega)
  refine ⟨?_, ?_, ?_, ?_⟩ <;> unfold put4
  · rw [World.cell?_setCell_other _ _ _ _ (by simp), World.cell?_setCell_other _ _ _ _ (by simp), World.cell?_setCell_other _ _ _ _ (by simp)]
    exact World.cell?_setCell_same _ _ _ h0
  · rw [World.cell?_setCell_other _ _ _ _ (by simp), World.cell?_setCell_other _ _ _ _ (by simp)]
    exact World.cell?_setCell_same _ _ _ h1
  · rw [World.cell?_setCell_other _ _ _ _ (by simp)]
    exact World.cell?_setCell_same _ _ _ h2
  · exact World.cell?_setCell_same _ _ _ h3
theorem put4_els {w : World} {g o : Nat} {a b c d : Value} {p : Nat} {k : K} (h : El w g p k) (hp : p + 4 ≤ o ∨ o + 4 ≤ p) : El (put4 w g o a b c d) g p k :=
  ⟨(put4_other (by omega)).trans h.c0, (put4_other (by omega)).trans h.c1, (put4_other (by omega)).trans h.c2, (put4_other (by omega)).trans h.c3⟩

/-- A condition in memory of its own, in the blocks from S to E. -/
structure Own (w : World) (S E : Nat) (k : K) : Prop where
  has : k.In w
  ge : ∀ b ∈ k.blocks, S ≤ b
  lt : ∀ b ∈ k.blocks, b < E
  nd : k.blocks.Nodup
  fz : ∀ b ∈ k.blocks, ∀ o, w.frozen? ⟨b, o, none⟩ = false
theorem Own.lies {w : World} {S E : Nat} {k : K} (h : Own w S E k) : Lies w E k := ⟨h.has, h.lt⟩
theorem Own.same {w w' : World} {S E : Nat} {k : K} (h : Own w S E k) (hb : ∀ b, S ≤ b → b < E → w'.heap[b]? = w.heap[b]?) : Own w' S E k :=
  ⟨h.has.alike fun b hb' => hb b (h.ge b hb') (h.lt b hb'), h.ge, h.lt, h.nd, fun b hb' o => (World.frozen?_of_block (a := ⟨b, o, none⟩) (hb b (h.ge b hb') (h.lt b hb'))).trans (h.fz b hb' o)⟩
theorem Own.below {w w' : World} {S E B : Nat} {k : K} (h : Own w S E k) (hb : Below B w w') (hE : E ≤ B) : Own w' S E k := h.same fun b _ hb' => hb.block b (by omega)
theorem Own.wide {w : World} {S E S' E' : Nat} {k : K} (h : Own w S E k) (hS : S' ≤ S) (hE : E ≤ E') : Own w S' E' k :=
  ⟨h.has, fun b hb => Nat.le_trans hS (h.ge b hb), fun b hb => Nat.lt_of_lt_of_le (h.lt b hb) hE, h.nd, h.fz⟩

/-- A row of conditions in memory of its own: the row in block g, all else between g and E. -/
structure Rw (w : World) (g E n : Nat) (ks : List K) : Prop where
  blk : Blk w g (n * 4)
  el : ∀ i, ∀ h : i < ks.length, El w g (0 + i * 4) ks[i]
  ins : ∀ k ∈ ks, k.In w
  ge : ∀ b ∈ blocks ks, g < b
  lt : ∀ b ∈ blocks ks, b < E
  nd : (blocks ks).Nodup
  fz : ∀ b ∈ blocks ks, ∀ o, w.frozen? ⟨b, o, none⟩ = false
theorem Rw.below {w w' : World} {g E n B : Nat} {ks : List K} (h : Rw w g E n ks) (hb : Below B w w') (hg : g < B) (hE : E ≤ B) : Rw w' g E n ks :=
  ⟨h.blk.alike (hb.block g hg), fun i hi => (h.el i hi).alike (hb.block g hg), fun k hk => (h.ins k hk).alike fun b hb' => hb.block b (by have := h.lt b (blocks_mem.2 ⟨k, hk, hb'⟩); omega),
   h.ge, h.lt, h.nd, fun b hb' o => (World.frozen?_of_block (a := ⟨b, o, none⟩) (hb.block b (by have := h.lt b hb'; omega))).trans (h.fz b hb' o)⟩
theorem Rw.wide {w : World} {g E E' n : Nat} {ks : List K} (h : Rw w g E n ks) (hE : E ≤ E') : Rw w g E' n ks :=
  ⟨h.blk, h.el, h.ins, h.ge, fun b hb => Nat.lt_of_lt_of_le (h.lt b hb) hE, h.nd, h.fz⟩
theorem blocks_append (a b : List K) : blocks (a ++ b) = blocks a ++ blocks b := by
  induction a with
  | nil => rfl
  | cons p a ih => simp [blocks, ih]
/-- One condition more is stored. -/
theorem Rw.snoc {w : World} {g E F n : Nat} {ks : List K} {k : K} (h : Rw w g E n ks) (hk : Own w E F k) (hEF : E ≤ F) (hg : g < E) (hl : ks.length < n) :
    Rw (put4 w g (ks.length * 4) (.int .i64 k.op) (.string k.nm) (.int .i64 k.day) (.slice k.A k.ps.length k.cap)) g F n (ks ++ [k]) := by
  have hne : ∀ b, g < b → (put4 w g (ks.length * 4) (.int .i64 k.op) (.string k.nm) (.int .i64 k.day) (.slice k.A k.ps.length k.cap)).heap[b]? = w.heap[b]? := fun b hb => put4_block (by omega)
  refine ⟨put4_blk h.blk, fun i hi => ?_, fun x hx => ?_, fun b hb => ?_, fun b hb => ?_, ?_, fun b hb o => ?_⟩
  · by_cases e : i = ks.length
    · subst e
      have e2 : (ks ++ [k])[ks.length]'hi = k := by simp
      rw [e2, Nat.zero_add]
      exact put4_el h.blk (by omega)
    · have hi' : i < ks.length := by simp at hi; omega
      have e2 : (ks ++ [k])[i]'hi = ks[i] := by simp [hi']
      rw [e2]
      exact put4_els (h.el i hi') (by omega)
  · rcases List.mem_append.1 hx with hx | hx
    · exact (h.ins x hx).alike fun b hb => hne b (h.ge b (blocks_mem.2 ⟨x, hx, hb⟩))
    · have : x = k := by simpa using hx
      subst this
      exact hk.has.alike fun b hb => hne b (by have := hk.ge b hb; omega)
  · rw [blocks_append, List.mem_append] at hb
    rcases hb with hb | hb
    · exact h.ge b hb
    · simp [blocks] at hb
      have := hk.ge b hb; omega
  · rw [blocks_append, List.mem_append] at hb
    rcases hb with hb | hb
    · have := h.lt b hb; omega
    · simp [blocks] at hb
      exact hk.lt b hb
  · rw [blocks_append]
    simp only [blocks, List.append_nil]
    exact List.nodup_append.2 ⟨h.nd, hk.nd, fun a ha b hb e => by have := h.lt a ha; have := hk.ge b hb; omega⟩
  · have hgb : g < b := by
      rw [blocks_append, List.mem_append] at hb
      rcases hb with hb | hb
      · exact h.ge b hb
      · simp [blocks] at hb
        have := hk.ge b hb; omega
    rw [World.frozen?_of_block (a := ⟨b, o, none⟩) (hne b hgb)]
    rw [blocks_append, List.mem_append] at hb
    rcases hb with hb | hb
    · exact h.fz b hb o
    · simp [blocks] at hb
      exact hk.fz b hb o

theorem Rw.own {w : World} {g E : Nat} {ks : List K} {cap : Nat} (h : Rw w g E cap ks) (hg : g < E) (hc : ks.length ≤ cap) (hm : cap ≤ maxLen) (op : Int) (nm : ByteArray) (day : Int) (hn : nm.size ≤ maxLen) : Own w g E (.mk op nm day (some ⟨g, 0, none⟩) cap ks) := by
  have hb : ∀ b ∈ (K.mk op nm day (some ⟨g, 0, none⟩) cap ks).blocks, b = g ∨ b ∈ blocks ks := fun b hb => by
    simp only [K.blocks, List.mem_append] at hb
    rcases hb with hb | hb
    · cases ks with
      | nil => simp at hb
      | cons p ps => left; simpa using hb
    · exact .inr hb
  refine ⟨⟨fun hp => ⟨g, 0, rfl, h.el⟩, ⟨hn, hc, hm⟩, ins_mem.2 h.ins⟩, fun b hb' => ?_, fun b hb' => ?_, ?_, fun b hb' o => ?_⟩
  · rcases hb b hb' with rfl | hb
    · exact Nat.le_refl _
    · exact Nat.le_of_lt (h.ge b hb)
  · rcases hb b hb' with rfl | hb
    · exact hg
    · exact h.lt b hb
  · simp only [K.blocks]
    refine List.nodup_append.2 ⟨?_, h.nd, fun a ha b hb e => ?_⟩
    · cases ks <;> simp
    · have : a = g := by
        cases ks with
        | nil => simp at ha
        | cons p ps => simpa using ha
      have := h.ge b hb; omega
  · rcases hb b hb' with rfl | hb
    · exact h.blk.frozen o
    · exact h.fz b hb o

/-- A block of four cells. -/
structure B4 (k : Nat) (w : World) (a b c d : Value) : Prop where
  lt : k < w.heap.size
  c0 : w.cell? ⟨k, 0, none⟩ = some a
  c1 : w.cell? ⟨k, 1, none⟩ = some b
  c2 : w.cell? ⟨k, 2, none⟩ = some c
  c3 : w.cell? ⟨k, 3, none⟩ = some d
  fz : ∀ o, w.frozen? ⟨k, o, none⟩ = false
theorem B4.below {k B : Nat} {w w' : World} {a b c d : Value} (h : B4 k w a b c d) (hb : Below B w w') (hB : k < B) : B4 k w' a b c d :=
  ⟨Nat.lt_of_lt_of_le h.lt hb.size, (hb.cell (p := ⟨k, 0, none⟩) hB).trans h.c0, (hb.cell (p := ⟨k, 1, none⟩) hB).trans h.c1, (hb.cell (p := ⟨k, 2, none⟩) hB).trans h.c2, (hb.cell (p := ⟨k, 3, none⟩) hB).trans h.c3, fun o => (hb.frozen (p := ⟨k, o, none⟩) hB).trans (h.fz o)⟩
theorem B4.on {k : Nat} {w w' : World} {a b c d : Value} (h : B4 k w a b c d) (hb : Below w.heap.size w w') : B4 k w' a b c d := h.below hb h.lt
theorem B4.new (w : World) (a b c d : Value) (T : TypeId) : B4 w.heap.size (w.alloc (.cells #[a, b, c, d] T)) a b c d :=
  ⟨by simp, by simp [go_sem], by simp [go_sem], by simp [go_sem], by simp [go_sem], fun o => by simp [go_sem]⟩
theorem B4.alloc {k : Nat} {w : World} {a b c d : Value} (h : B4 k w a b c d) (o : Obj) : B4 k (w.alloc o) a b c d := h.on (below1 _ _)
theorem B4.set3 {k : Nat} {w : World} {a b c d : Value} (h : B4 k w a b c d) (x : Value) : B4 k (w.setCell ⟨k, 3, none⟩ x) a b c x :=
  ⟨by rw [World.size_setCell]; exact h.lt, (World.cell?_setCell_other w _ _ _ (by simp)).trans h.c0, (World.cell?_setCell_other w _ _ _ (by simp)).trans h.c1, (World.cell?_setCell_other w _ _ _ (by simp)).trans h.c2, World.cell?_setCell_same w _ _ h.c3, fun o => by simp [h.fz]⟩
theorem B4.far {k : Nat} {w : World} {a b c d : Value} (h : B4 k w a b c d) {p : Addr} (hp : p.block ≠ k) (v : Value) : B4 k (w.setCell p v) a b c d :=
  have hne : ∀ i : Nat, p ≠ ⟨k, i, none⟩ := fun i e => hp (by rw [e])
  ⟨by rw [World.size_setCell]; exact h.lt, (World.cell?_setCell_other w _ _ _ (hne 0)).trans h.c0, (World.cell?_setCell_other w _ _ _ (hne 1)).trans h.c1, (World.cell?_setCell_other w _ _ _ (hne 2)).trans h.c2, (World.cell?_setCell_other w _ _ _ (hne 3)).trans h.c3, fun o => by simp [h.fz]⟩
theorem B4.put {k : Nat} {w : World} {a b c d : Value} (h : B4 k w a b c d) (x y z t : Value) : B4 k (put4 w k 0 x y z t) x y z t := by
  have h1 := World.cell?_setCell_same w ⟨k, 0, none⟩ x h.c0
  have h2 := World.cell?_setCell_same (w.setCell ⟨k, 0, none⟩ x) ⟨k, 0 + 1, none⟩ y ((World.cell?_setCell_other w _ _ _ (by simp)).trans h.c1)
  have h3 := World.cell?_setCell_same ((w.setCell ⟨k, 0, none⟩ x).setCell ⟨k, 0 + 1, none⟩ y) ⟨k, 0 + 2, none⟩ z ((World.cell?_setCell_other _ _ _ _ (by simp)).trans ((World.cell?_setCell_other w _ _ _ (by simp)).trans h.c2))
  have h4 := World.cell?_setCell_same (((w.setCell ⟨k, 0, none⟩ x).setCell ⟨k, 0 + 1, none⟩ y).setCell ⟨k, 0 + 2, none⟩ z) ⟨k, 0 + 3, none⟩ t ((World.cell?_setCell_other _ _ _ _ (by simp)).trans ((World.cell?_setCell_other _ _ _ _ (by simp)).trans ((World.cell?_setCell_other w _ _ _ (by simp)).trans h.c3)))
  refine ⟨by rw [put4_size]; exact h.lt, ?_, ?_, ?_, h4, fun o => by unfold put4; simp [h.fz]⟩
  · exact (World.cell?_setCell_other _ _ _ _ (by simp)).trans ((World.cell?_setCell_other _ _ _ _ (by simp)).trans ((World.cell?_setCell_other _ _ _ _ (by simp)).trans h1))
  · exact (World.cell?_setCell_other _ _ _ _ (by simp)).trans ((World.cell?_setCell_other _ _ _ _ (by simp)).trans h2)
  · exact (World.cell?_setCell_other _ _ _ _ (by simp)).trans h3

theorem infoCond : (Tryz.prog.info? 68).map (fun i => (i.zero, i.size, i.bytes)) = some (some (.agg #[.int .i64 0, .string ByteArray.empty, .int .i64 0, .slice none 0 0]), 4, 56) := by kernel_rfl

set_option maxHeartbeats 2000000 in
theorem toS (A : Option Addr) (cap : Nat) (ps : List K) (hl : ps.length ≤ 1048576) (w : World) (hA : At w w.heap.size A ps)
    (ih : ∀ p ∈ ps, ∀ v, Below w.heap.size w v → Calls Tryz.prog 49 #[p.val] v fun e w' => ∃ k, e = .returned k.val ∧ k.cond = p.cond ∧ Own w' v.heap.size w'.heap.size k ∧ Below v.heap.size v w') :
    Calls Tryz.prog 62 #[.slice A ps.length cap] w fun e w' => ∃ ks, e = .returned (.slice (some ⟨w.heap.size, 0, none⟩) ps.length ps.length) ∧ conds ks = conds ps ∧ Rw w' w.heap.size w'.heap.size ps.length ks ∧ Below w.heap.size w w' := by
  have HC : Hid ((conds ps).length = ps.length) := Lib.hid (by rw [conds_map]; simp)
  obtain ⟨n, hn⟩ : ∃ n, n = ps.length := ⟨_, rfl⟩
  have HN := Lib.hid hn
  rw [← hn] at hl ⊢
  clear hn
  obtain ⟨i0, hi, hz0, hz1, hz2⟩ := info_parts infoCond
  have HZ := Lib.hid hz2
  have IH := Lib.hid ih
  clear hz2 ih
  go_enter Tryz.func62, Tryz.ntmps62
  go_wp2_with (at_make; refine wpList_make_full _ rfl _ _ 66 rfl w.heap.size 68 i0 (.agg #[.int .i64 0, .string ByteArray.empty, .int .i64 0, .slice none 0 0]) 4 Tryz.underlying66 hi hz0 hz1 .i64 .i64 _ _ n rfl rfl rfl rfl (by rw [HZ.out]; omega) (by unfold maxLen; omega) (Nat.le_refl _) ?_; intro w1 hown1 hgrow1; refine Hid.out ?_)
  refine Lib.hid ?_
  have hb1 : Below w.heap.size w w1 := (Below.refl _ _).grown hgrow1 (Nat.le_refl _) (fun k hk => by cases hk)
  have HR0 : Hid (Rw w1 w.heap.size w1.heap.size n []) := Lib.hid ⟨Blk.of_own hown1, fun i hi => by simp at hi, fun k hk => by simp at hk, fun b hb => by simp [blocks] at hb, fun b hb => by simp [blocks] at hb, by simp [blocks], fun b hb => by simp [blocks] at hb⟩
  have HB1 := Lib.hid hb1
  clear hown1 hgrow1 hb1
  go_wp2_with fail
  go_loopw [4] (fun i wr => ∃ (k : Nat) (ks : List K), k ≤ n ∧ i = .int .i64 k ∧ Hid (ks.length = k) ∧ Hid (conds ks = (conds ps).take k) ∧ Hid (Rw wr w.heap.size wr.heap.size n ks) ∧ Hid (Below w.heap.size w wr)) (fun i _ => n - (intOf i).toNat)
  case atStart => exact ⟨0, [], Nat.zero_le _, rfl, Lib.hid rfl, Lib.hid rfl, HR0, HB1⟩
  case round =>
    obtain ⟨k, ks, hk, rfl, HK, HS, HR, HB⟩ := hrel
    by_cases hlt : k < n
    · have hk' : k < ps.length := by have := HN.out; omega
      obtain ⟨b, o, rfl, hB, hc⟩ := hA (by omega)
      obtain ⟨p, hp⟩ : ∃ p, p = ps[k] := ⟨_, rfl⟩
      have hE := (hc k hk').alike (HB.out.block b hB)
      rw [← hp] at hE
      obtain ⟨c0, c1, c2, c3⟩ := hE
      have HT : Hid ((conds ps).take (k + 1) = (conds ps).take k ++ [p.cond]) := Lib.hid (by
        have hkc : k < (conds ps).length := by have := HC.out; omega
        have e : (conds ps)[k] = p.cond := by simp [conds_map, hp]
        rw [List.take_succ_eq_append_getElem hkc, e])
      have IHp := Lib.hid (IH.out p (by rw [hp]; exact List.getElem_mem hk') wr HB.out)
      clear hp hc HR0 HB1
      go_wp2_with (go_at_call 49; refine IHp.out.mono ?_; rintro e w2 ⟨q, rfl, hqc, hqo, hb2⟩; refine Hid.out ?_)
      refine Lib.hid ?_
      have HQC := Lib.hid hqc
      have hg : w.heap.size < wr.heap.size := HR.out.blk.lt
      have HR2 := Lib.hid ((HR.out.below hb2 hg (Nat.le_refl _)))
      have HW : Hid (Rw (put4 w2 w.heap.size (ks.length * 4) (.int .i64 q.op) (.string q.nm) (.int .i64 q.day) (.slice q.A q.ps.length q.cap)) w.heap.size (put4 w2 w.heap.size (ks.length * 4) (.int .i64 q.op) (.string q.nm) (.int .i64 q.day) (.slice q.A q.ps.length q.cap)).heap.size n (ks ++ [q])) := Lib.hid (by rw [put4_size]; exact HR2.out.snoc hqo hb2.size hg (by have := HK.out; omega))
      have HBB := Lib.hid (put4_below (o := k * 4) (a := .int .i64 q.op) (b := .string q.nm) (c := .int .i64 q.day) (d := .slice q.A q.ps.length q.cap) (HB.out.trans (hb2.mono HB.out.size)) (Nat.le_refl _))
      rw [HK.out] at HW
      have hblk := HR2.out.blk
      obtain ⟨x0, d0⟩ := hblk.cell (o := k * 4) (by omega)
      obtain ⟨x1, d1⟩ := hblk.cell (o := k * 4 + 1) (by omega)
      obtain ⟨x2, d2⟩ := hblk.cell (o := k * 4 + 2) (by omega)
      obtain ⟨x3, d3⟩ := hblk.cell (o := k * 4 + 3) (by omega)
      have f0 := hblk.frozen (k * 4)
      have f1 := hblk.frozen (k * 4 + 1)
      have f2 := hblk.frozen (k * 4 + 2)
      have f3 := hblk.frozen (k * 4 + 3)
      clear hqc hqo hb2 hblk
      go_wp2_with fail
      go_roundw
      case rel => exact ⟨k + 1, ks ++ [q], by omega, by go_num, Lib.hid (by rw [List.length_append, HK.out]; rfl), Lib.hid (by rw [HT.out, conds_map, List.map_append, ← conds_map, HS.out]; simp [HQC.out]), HW, HBB⟩
      case measure => simp [intOf]; omega
    · have HE : Hid ((conds ps).take k = conds ps) := Lib.hid (List.take_of_length_le (by have := HN.out; have := HC.out; omega))
      go_wp2_with fail
      go_ret
      exact ⟨ks, rfl, by rw [HS.out, HE.out], HR.out, HB.out⟩

set_option maxHeartbeats 2000000 in
theorem toC (k : K) : ∀ w, Lies w w.heap.size k → k.cond.wt ≤ 1048576 →
    Calls Tryz.prog 49 #[k.val] w fun e w' => ∃ q, e = .returned q.val ∧ q.cond = k.cond ∧ Own w' w.heap.size w'.heap.size q ∧ Below w.heap.size w w' := by
  induction k using K.ind with
  | h op nm day A cap ps ih =>
    intro w hin hw
    have hlen : ps.length ≤ 1048576 := by
      have h1 := wts_len (conds ps) 0 (Nat.zero_le _)
      have h2 : (conds ps).length = ps.length := by rw [conds_map]; simp
      simp only [K.cond, C.wt] at hw
      omega
    have hA := Lib.hid hin.at
    have HN := Lib.hid hin.sz.1
    have IH : Hid (∀ p ∈ ps, ∀ v, Below w.heap.size w v → Calls Tryz.prog 49 #[p.val] v fun e w' => ∃ k, e = .returned k.val ∧ k.cond = p.cond ∧ Own w' v.heap.size w'.heap.size k ∧ Below v.heap.size v w') :=
      Lib.hid fun p hp v hb => ih p hp v ((hin.part hp).on hb) (by
        have : ∀ l : List K, p ∈ l → p.cond.wt ≤ wts (conds l) := fun l => by
          induction l with
          | nil => intro h; simp at h
          | cons x l ihl =>
            intro h
            rcases List.mem_cons.1 h with rfl | h
            · simp only [conds, wts]; omega
            · have := ihl h; simp only [conds, wts]; omega
        have := this ps hp
        simp only [K.cond, C.wt] at hw
        omega)
    clear ih hin hw
    show Calls Tryz.prog 49 #[.agg #[.int .i64 op, .string nm, .int .i64 day, .slice A ps.length cap]] w fun e w' => ∃ q : K, e = .returned q.val ∧ q.cond = .mk op nm day (conds ps) ∧ Own w' w.heap.size w'.heap.size q ∧ Below w.heap.size w w'
    obtain ⟨w0, hw0⟩ : ∃ w0, w0 = ((w.alloc (.cells #[.int .i64 op, .string nm, .int .i64 day, .slice A ps.length cap] 62)).alloc (.cells #[.int .i64 0, .string ⟨#[]⟩, .int .i64 0, .slice none 0 0] 68)).alloc (.cells #[.int .i64 op, .string nm, .int .i64 day, .slice none 0 0] 68) := ⟨_, rfl⟩
    have S0 : Hid (w0.heap.size = w.heap.size + 1 + 1 + 1) := Lib.hid (by rw [hw0]; simp)
    have B0 : Hid (Below w.heap.size w w0) := Lib.hid (by rw [hw0]; exact ((below1 _ _).alloc (by simp) _).alloc (by simp; omega) _)
    have Y0 : Hid (B4 (w.heap.size + 1) w0 (.int .i64 0) (.string ⟨#[]⟩) (.int .i64 0) (.slice none 0 0)) := Lib.hid (by
      rw [hw0]
      have := (B4.new (w.alloc (.cells #[.int .i64 op, .string nm, .int .i64 day, .slice A ps.length cap] 62)) (.int .i64 0) (.string ⟨#[]⟩) (.int .i64 0) (.slice none 0 0) 68).alloc (.cells #[.int .i64 op, .string nm, .int .i64 day, .slice none 0 0] 68)
      simpa using this)
    have Z0 : Hid (B4 (w.heap.size + 1 + 1) w0 (.int .i64 op) (.string nm) (.int .i64 day) (.slice none 0 0)) := Lib.hid (by
      rw [hw0]
      have := B4.new ((w.alloc (.cells #[.int .i64 op, .string nm, .int .i64 day, .slice A ps.length cap] 62)).alloc (.cells #[.int .i64 0, .string ⟨#[]⟩, .int .i64 0, .slice none 0 0] 68)) (.int .i64 op) (.string nm) (.int .i64 day) (.slice none 0 0) 68
      simpa using this)
    have Q1 : Hid (∀ v, v = w0 → Calls Tryz.prog 62 #[.slice A ps.length cap] v fun e w' => ∃ ks, e = .returned (.slice (some ⟨w0.heap.size, 0, none⟩) ps.length ps.length) ∧ conds ks = conds ps ∧ Rw w' w0.heap.size w'.heap.size ps.length ks ∧ Below w0.heap.size w0 w') :=
      Lib.hid (fun v hv => by subst hv; exact toS A cap ps hlen v ((hA.out.below B0.out).more B0.out.size) (fun p hp v' hb => IH.out p hp v' (B0.out.trans (hb.mono B0.out.size))))
    have H0 := Lib.hid hw0
    clear hw0
    have HNL : Hid (ps.length = (conds ps).length) := Lib.hid (by rw [conds_map]; simp)
    have HLE : Hid (ps.length ≤ maxLen) := Lib.hid (by unfold maxLen; omega)
    generalize ps.length = n at *
    go_enter Tryz.func49, Tryz.ntmps49
    go_wp2_with (go_at_call 62; refine (Q1.out _ H0.out.symm).mono ?_; rintro e w2 ⟨ks, rfl, hkc, hr, hb2⟩; refine Hid.out ?_)
    refine Lib.hid ?_
    have Y1 := Lib.hid (Y0.out.on hb2)
    have Z1 := Lib.hid (Z0.out.on hb2)
    have Y2 := Lib.hid (Y1.out.far (p := ⟨w.heap.size + 1 + 1, 3, none⟩) (by simp) (.slice (some ⟨w0.heap.size, 0, none⟩) n n))
    have Z2 := Lib.hid (Z1.out.set3 (.slice (some ⟨w0.heap.size, 0, none⟩) n n))
    have Y3 := Lib.hid (Y2.out.put (.int .i64 op) (.string nm) (.int .i64 day) (.slice (some ⟨w0.heap.size, 0, none⟩) n n))
    have HL2 : Hid (ks.length = n) := Lib.hid (by rw [HNL.out, ← hkc, conds_map]; simp)
    have HB : Hid (Below w.heap.size w (put4 (w2.setCell ⟨w.heap.size + 1 + 1, 3, none⟩ (.slice (some ⟨w0.heap.size, 0, none⟩) n n)) (w.heap.size + 1) 0 (.int .i64 op) (.string nm) (.int .i64 day) (.slice (some ⟨w0.heap.size, 0, none⟩) n n))) :=
      Lib.hid (put4_below ((B0.out.trans (hb2.mono B0.out.size)).setCell (p := ⟨w.heap.size + 1 + 1, 3, none⟩) (by simp; omega) _) (by omega))
    have HO : Hid (Own (put4 (w2.setCell ⟨w.heap.size + 1 + 1, 3, none⟩ (.slice (some ⟨w0.heap.size, 0, none⟩) n n)) (w.heap.size + 1) 0 (.int .i64 op) (.string nm) (.int .i64 day) (.slice (some ⟨w0.heap.size, 0, none⟩) n n)) w.heap.size (put4 (w2.setCell ⟨w.heap.size + 1 + 1, 3, none⟩ (.slice (some ⟨w0.heap.size, 0, none⟩) n n)) (w.heap.size + 1) 0 (.int .i64 op) (.string nm) (.int .i64 day) (.slice (some ⟨w0.heap.size, 0, none⟩) n n)).heap.size (.mk op nm day (some ⟨w0.heap.size, 0, none⟩) n ks)) :=
      Lib.hid (Own.wide ((hr.own hr.blk.lt (by rw [HL2.out]; exact Nat.le_refl _) HLE.out op nm day HN.out).same fun b hb _ => (put4_block (by have := S0.out; omega)).trans (Below.heap_setCell _ _ _ _ (by have := S0.out; simp; omega))) (by have := S0.out; omega) (by rw [put4_size, World.size_setCell]; exact Nat.le_refl _))
    have HF : Hid ((K.mk op nm day (some ⟨w0.heap.size, 0, none⟩) n ks).cond = .mk op nm day (conds ps)) := Lib.hid (by simp only [K.cond, hkc])
    have HE : Hid (Ending.returned (.agg #[.int .i64 op, .string nm, .int .i64 day, .slice (some ⟨w0.heap.size, 0, none⟩) n n]) = Ending.returned (K.mk op nm day (some ⟨w0.heap.size, 0, none⟩) n ks).val) := Lib.hid (by simp only [K.val, K.op, K.nm, K.day, K.A, K.ps, K.cap, HL2.out])
    clear hb2 hr hkc
    obtain ⟨_, z0, z1, z2, z3, zf⟩ := Z1.out
    have zf3 := zf 3
    obtain ⟨_, v0, v1, v2, v3, _⟩ := Z2.out
    obtain ⟨_, y0, y1, y2, y3, _⟩ := Y2.out
    obtain ⟨_, _, _, _, _, yf⟩ := Y1.out
    have yf0 := yf 0
    have yf1 := yf 1
    have yf2 := yf 2
    have yf3 := yf 3
    clear zf yf
    go_wp2_with fail
    obtain ⟨_, t0, t1, t2, t3, _⟩ := Y3.out
    simp only [put4] at t0 t1 t2 t3
    exact bodyPost_ret (v := .agg #[.int .i64 op, .string nm, .int .i64 day, .slice (some ⟨w0.heap.size, 0, none⟩) n n]) (by simp [results, Tryz.results49, go_sem, t0, t1, t2, t3]) rfl ⟨.mk op nm day (some ⟨w0.heap.size, 0, none⟩) n ks, HE.out, HF.out, HO.out, HB.out⟩

end Go.Proofs.YtomloodakabcbabGreat.Cond
