/-
  The marks that the laws write into a condition, and read back: markCondition and heldCondition.
-/
import Derived.Test.YtomloodakabcbaaCoEq
import Derived.Test.YtomloodakabcbaaVisit
import Derived.Test.YtomloodakabcbaaMark
namespace Go.Proofs.Ytomloodakabcbaa.Cond
open Go.RowKit Go.Proofs.Ytomloodakabcbaa.Mark
set_option linter.unusedVariables false

theorem digs_len (k : Nat) : (digs k).length ≤ k := by
  induction k using Nat.strongRecOn with
  | ind k ih =>
    rcases Nat.eq_zero_or_pos k with e | e
    · subst e; rw [digs_zero]; simp
    · rw [digs_step e, List.length_append]
      have := ih (k / 10) (by omega)
      simp; omega
theorem mt_size (k : Nat) : (mt k).size ≤ k + 1 := by
  have := digs_len k
  unfold Mark.mt
  simp [ByteArray.size]; omega

mutual
/-- A condition with marks from m on. -/
def mkK : K → Nat → K
  | .mk _ _ _ A cap qs, m => .mk (m : Int) (mt (m + 1)) ((m + 2 : Nat) : Int) A cap (mkL qs (m + 3))
def mkL : List K → Nat → List K
  | [], _ => []
  | p :: ps, m => mkK p m :: mkL ps (m + 3 * p.cond.size)
end
theorem mkL_length : ∀ (ps : List K) (m : Nat), (mkL ps m).length = ps.length
  | [], _ => rfl
  | p :: ps, m => by simp [mkL, mkL_length ps]
theorem mkL_get : ∀ (ps : List K) (m i : Nat) (h : i < ps.length), (mkL ps m)[i]'(by rw [mkL_length]; exact h) = mkK ps[i] (m + 3 * sizes (conds (ps.take i)))
  | p :: ps, m, 0, h => by simp [mkL, conds, sizes]
  | p :: ps, m, i + 1, h => by
    have := mkL_get ps (m + 3 * p.cond.size) i (by simpa using h)
    simp only [mkL, List.getElem_cons_succ, this, List.take_succ_cons, conds, sizes]
    congr 1; omega
mutual
theorem mkK_blocks : ∀ (k : K) (m : Nat), (mkK k m).blocks = k.blocks
  | .mk op nm day A cap qs, m => by
    simp only [mkK, K.blocks, mkL_blocks qs]
    congr 1
    cases A with
    | none => rfl
    | some a =>
      cases qs with
      | nil => rfl
      | cons p ps => rfl
theorem mkL_blocks : ∀ (ps : List K) (m : Nat), blocks (mkL ps m) = blocks ps
  | [], _ => rfl
  | p :: ps, m => by simp only [mkL, blocks, mkK_blocks p, mkL_blocks ps]
end
theorem conds_take (ps : List K) (i : Nat) : conds (ps.take i) = (conds ps).take i := by rw [conds_map, conds_map, List.map_take]

/-- A condition in memory that may be written. -/
structure Wr (w : World) (k : K) : Prop where
  has : k.In w
  lt : ∀ b ∈ k.blocks, b < w.heap.size
  nd : k.blocks.Nodup
  fz : ∀ b ∈ k.blocks, ∀ o, w.frozen? ⟨b, o, none⟩ = false
theorem Own.wr {w : World} {S E : Nat} {k : K} (h : Own w S E k) (hE : E ≤ w.heap.size) : Wr w k := ⟨h.has, fun b hb => by have := h.lt b hb; omega, h.nd, h.fz⟩
theorem Wr.same {w w' : World} {k : K} (h : Wr w k) (hb : ∀ b ∈ k.blocks, w'.heap[b]? = w.heap[b]?) (hs : w.heap.size ≤ w'.heap.size) : Wr w' k :=
  ⟨h.has.alike hb, fun b hb' => by have := h.lt b hb'; omega, h.nd, fun b hb' o => (World.frozen?_of_block (a := ⟨b, o, none⟩) (hb b hb')).trans (h.fz b hb' o)⟩

theorem blocks_disj {ps : List K} (h : (blocks ps).Nodup) {i j : Nat} (hi : i < ps.length) (hj : j < ps.length) (hne : i ≠ j) {b : Nat} (h1 : b ∈ ps[i].blocks) (h2 : b ∈ ps[j].blocks) : False := by
  induction ps generalizing i j with
  | nil => simp at hi
  | cons p ps ih =>
    simp only [blocks] at h
    obtain ⟨n1, n2, n3⟩ := List.nodup_append.1 h
    cases i with
    | zero =>
      cases j with
      | zero => exact hne rfl
      | succ j => exact n3 b (by simpa using h1) b (blocks_mem.2 ⟨ps[j]'(by simpa using hj), List.getElem_mem _, by simpa using h2⟩) rfl
    | succ i =>
      cases j with
      | zero => exact n3 b (by simpa using h2) b (blocks_mem.2 ⟨ps[i]'(by simpa using hi), List.getElem_mem _, by simpa using h1⟩) rfl
      | succ j => exact ih n2 (i := i) (j := j) (by simpa using hi) (by simpa using hj) (by omega) (by simpa using h1) (by simpa using h2)
theorem part_nodup {ps : List K} (h : (blocks ps).Nodup) {i : Nat} (hi : i < ps.length) : ps[i].blocks.Nodup := by
  induction ps generalizing i with
  | nil => simp at hi
  | cons p ps ih =>
    simp only [blocks] at h
    obtain ⟨n1, n2, _⟩ := List.nodup_append.1 h
    cases i with
    | zero => exact n1
    | succ i => exact ih n2 (by simpa using hi)

theorem In_lt {w : World} {k : K} (h : k.In w) : ∀ b ∈ k.blocks, b < w.heap.size := by
  induction k using K.ind with
  | h op nm day A cap ps ih =>
    obtain ⟨h1, _, h2⟩ := h
    intro b hb
    simp only [K.blocks, List.mem_append] at hb
    rcases hb with hb | hb
    · cases ps with
      | nil => cases A <;> simp at hb
      | cons p ps =>
        obtain ⟨b', o, rfl, he⟩ := h1 (by simp)
        have : b = b' := by simpa using hb
        subst this
        exact World.block_lt_of_cell? w ⟨b, o + 0 * 4, none⟩ (he 0 (by simp)).c0
    · obtain ⟨p, hp, hb'⟩ := blocks_mem.1 hb
      exact ih p hp (ins_mem.1 h2 p hp) b hb'

/-- The first i parts of a row at b, o bear their marks; the others stand as they were. -/
structure Mid (w0 w : World) (b o m : Nat) (ps : List K) (i : Nat) : Prop where
  nb : b ∉ blocks ps
  nd : (blocks ps).Nodup
  lb : b < w.heap.size
  fb : ∀ x, w.frozen? ⟨b, x, none⟩ = false
  e1 : ∀ j, ∀ h : j < ps.length, j < i → El w b (o + j * 4) (mkK ps[j] (m + 3 * sizes (conds (ps.take j)))) ∧ (mkK ps[j] (m + 3 * sizes (conds (ps.take j)))).In w
  e2 : ∀ j, ∀ h : j < ps.length, i ≤ j → El w b (o + j * 4) ps[j] ∧ Wr w ps[j]
  mv : Mv (fun x => x = b ∨ x ∈ blocks ps) (fun x => x = b ∨ x ∈ blocks ps) w0 w

theorem Mid.step {w0 wr w2 w5 : World} {b o m : Nat} {ps : List K} {i : Nat} (h : Mid w0 wr b o m ps i) (hi : i < ps.length)
    (hb : Below wr.heap.size (wr.setCell ⟨b, o + i * 4, none⟩ (.int .i64 ((m + 3 * sizes (conds (ps.take i)) : Nat) : Int))) w2)
    (hm : Mv (· ∈ ps[i].blocks) (· ∈ ps[i].blocks) ((w2.setCell ⟨b, o + i * 4 + 1, none⟩ (.string (mt (m + 3 * sizes (conds (ps.take i)) + 1)))).setCell ⟨b, o + i * 4 + 2, none⟩ (.int .i64 ((m + 3 * sizes (conds (ps.take i)) + 2 : Nat) : Int))) w5)
    (hin : (mkK ps[i] (m + 3 * sizes (conds (ps.take i)))).In w5) : Mid w0 w5 b o m ps (i + 1) := by
  obtain ⟨hE, hW⟩ := h.e2 i hi (Nat.le_refl _)
  have hbi : b ∉ ps[i].blocks := fun hh => h.nb (blocks_mem.2 ⟨_, List.getElem_mem hi, hh⟩)
  have hsz : wr.heap.size ≤ w2.heap.size := by have := hb.size; rwa [World.size_setCell] at this
  have s4 : ∀ x, x ≠ b → ((w2.setCell ⟨b, o + i * 4 + 1, none⟩ (.string (mt (m + 3 * sizes (conds (ps.take i)) + 1)))).setCell ⟨b, o + i * 4 + 2, none⟩ (.int .i64 ((m + 3 * sizes (conds (ps.take i)) + 2 : Nat) : Int))).heap[x]? = w2.heap[x]? := fun x hx => (Below.heap_setCell _ _ _ _ hx).trans (Below.heap_setCell _ _ _ _ hx)
  have z4 : ((w2.setCell ⟨b, o + i * 4 + 1, none⟩ (.string (mt (m + 3 * sizes (conds (ps.take i)) + 1)))).setCell ⟨b, o + i * 4 + 2, none⟩ (.int .i64 ((m + 3 * sizes (conds (ps.take i)) + 2 : Nat) : Int))).heap.size = w2.heap.size := by rw [World.size_setCell, World.size_setCell]
  have ob : ∀ x, x < wr.heap.size → x ≠ b → x ∉ ps[i].blocks → w5.heap[x]? = wr.heap[x]? := fun x hx hne hnp =>
    (hm.block x (by rw [z4]; omega) hnp).trans ((s4 x hne).trans ((hb.block x hx).trans (Below.heap_setCell _ _ _ _ hne)))
  have b5 : w5.heap[b]? = ((w2.setCell ⟨b, o + i * 4 + 1, none⟩ (.string (mt (m + 3 * sizes (conds (ps.take i)) + 1)))).setCell ⟨b, o + i * 4 + 2, none⟩ (.int .i64 ((m + 3 * sizes (conds (ps.take i)) + 2 : Nat) : Int))).heap[b]? := hm.block b (by rw [z4]; have := h.lb; omega) hbi
  have c2 : ∀ x, w2.cell? ⟨b, x, none⟩ = (wr.setCell ⟨b, o + i * 4, none⟩ (.int .i64 ((m + 3 * sizes (conds (ps.take i)) : Nat) : Int))).cell? ⟨b, x, none⟩ := fun x => World.cell?_of_block (a := ⟨b, x, none⟩) (hb.block b h.lb)
  have far : ∀ x, x ≠ o + i * 4 → x ≠ o + i * 4 + 1 → x ≠ o + i * 4 + 2 → w5.cell? ⟨b, x, none⟩ = wr.cell? ⟨b, x, none⟩ := fun x h0 h1 h2 => by
    rw [World.cell?_of_block (a := ⟨b, x, none⟩) b5, World.cell?_setCell_other _ _ _ _ (fun e => h2 (by injection e with _ e _; exact e.symm)), World.cell?_setCell_other _ _ _ _ (fun e => h1 (by injection e with _ e _; exact e.symm)), c2,
      World.cell?_setCell_other _ _ _ _ (fun e => h0 (by injection e with _ e _; exact e.symm))]
  have farEl : ∀ (j : Nat) (q : K), j ≠ i → El wr b (o + j * 4) q → El w5 b (o + j * 4) q := fun j q hne hq =>
    ⟨(far _ (by omega) (by omega) (by omega)).trans hq.c0, (far _ (by omega) (by omega) (by omega)).trans hq.c1, (far _ (by omega) (by omega) (by omega)).trans hq.c2, (far _ (by omega) (by omega) (by omega)).trans hq.c3⟩
  have ne01 : (⟨b, o + i * 4, none⟩ : Addr) ≠ ⟨b, o + i * 4 + 1, none⟩ := by simp
  have ne02 : (⟨b, o + i * 4, none⟩ : Addr) ≠ ⟨b, o + i * 4 + 2, none⟩ := by simp
  have ne12 : (⟨b, o + i * 4 + 1, none⟩ : Addr) ≠ ⟨b, o + i * 4 + 2, none⟩ := by simp
  have d0 : w5.cell? ⟨b, o + i * 4, none⟩ = some (.int .i64 ((m + 3 * sizes (conds (ps.take i)) : Nat) : Int)) := by
    rw [World.cell?_of_block (a := ⟨b, o + i * 4, none⟩) b5, World.cell?_setCell_other _ _ _ _ ne02.symm, World.cell?_setCell_other _ _ _ _ ne01.symm, c2]
    exact World.cell?_setCell_same _ _ _ hE.c0
  have d1 : w5.cell? ⟨b, o + i * 4 + 1, none⟩ = some (.string (mt (m + 3 * sizes (conds (ps.take i)) + 1))) := by
    rw [World.cell?_of_block (a := ⟨b, o + i * 4 + 1, none⟩) b5, World.cell?_setCell_other _ _ _ _ ne12.symm]
    exact World.cell?_setCell_same _ _ _ ((c2 _).trans ((World.cell?_setCell_other _ _ _ _ ne01).trans hE.c1))
  have d2 : w5.cell? ⟨b, o + i * 4 + 2, none⟩ = some (.int .i64 ((m + 3 * sizes (conds (ps.take i)) + 2 : Nat) : Int)) := by
    rw [World.cell?_of_block (a := ⟨b, o + i * 4 + 2, none⟩) b5]
    exact World.cell?_setCell_same _ _ _ ((World.cell?_setCell_other _ _ _ _ ne12).trans ((c2 _).trans ((World.cell?_setCell_other _ _ _ _ ne02).trans hE.c2)))
  have d3 : w5.cell? ⟨b, o + i * 4 + 3, none⟩ = some (.slice ps[i].A ps[i].ps.length ps[i].cap) := (far _ (by omega) (by omega) (by omega)).trans hE.c3
  have sz5 : wr.heap.size ≤ w5.heap.size := by have := hm.size; rw [z4] at this; omega
  have keepIn : ∀ (q : K), q.In wr → (∀ x ∈ q.blocks, x < wr.heap.size ∧ x ≠ b ∧ x ∉ ps[i].blocks) → q.In w5 := fun q hq hh => hq.alike fun x hx => ob x (hh x hx).1 (hh x hx).2.1 (hh x hx).2.2
  refine ⟨h.nb, h.nd, Nat.lt_of_lt_of_le h.lb sz5, fun x => ?_, fun j hj hji => ?_, fun j hj hij => ?_, h.mv.trans ?_⟩
  · rw [World.frozen?_of_block (a := ⟨b, x, none⟩) b5]
    have := h.fb x
    have h2 : w2.frozen? ⟨b, x, none⟩ = false := by
      rw [World.frozen?_of_block (a := ⟨b, x, none⟩) (hb.block b h.lb)]
      simp [this]
    simp [h2]
  · by_cases e : j = i
    · subst e
      refine ⟨?_, hin⟩
      cases hk : ps[j] with
      | mk op nm day A cap qs =>
        rw [hk] at d3
        simp only [mkK]
        refine ⟨d0, d1, d2, ?_⟩
        simp only [K.A, K.ps, K.cap, mkL_length] at d3 ⊢
        exact d3
    · obtain ⟨f1, f2⟩ := h.e1 j hj (by omega)
      refine ⟨farEl j _ e f1, keepIn _ f2 fun x hx => ?_⟩
      rw [mkK_blocks] at hx
      have hxb : x ∈ blocks ps := blocks_mem.2 ⟨_, List.getElem_mem hj, hx⟩
      refine ⟨?_, fun e2 => h.nb (e2 ▸ hxb), fun h2 => blocks_disj h.nd hj hi e hx h2⟩
      have := f2
      exact Classical.byContradiction fun hge => by
        have := In_lt f2 x (by rw [mkK_blocks]; exact hx)
        omega
  · obtain ⟨f1, f2⟩ := h.e2 j hj (by omega)
    have hne : j ≠ i := by omega
    refine ⟨farEl j _ hne f1, f2.same (fun x hx => ob x (f2.lt x hx) ?_ ?_) sz5⟩
    · intro e2
      exact h.nb (e2 ▸ blocks_mem.2 ⟨_, List.getElem_mem hj, hx⟩)
    · exact fun h2 => blocks_disj h.nd hj hi hne hx h2
  · refine ⟨?_, ?_, ?_, sz5, fun x hx hn => ob x hx (fun e => hn (.inl e)) (fun h2 => hn (.inr (blocks_mem.2 ⟨_, List.getElem_mem hi, h2⟩))), fun x hx => .inl hx⟩
    · exact hm.os.trans hb.os
    · exact hm.tape.trans hb.tape
    · exact hm.output.trans hb.output

theorem mid_start {w : World} {b o m : Nat} {ps : List K} {op : Int} {nm : ByteArray} {day : Int} {cap : Nat} (h : Wr w (.mk op nm day (some ⟨b, o, none⟩) cap ps)) (hp : 0 < ps.length) (he : ∀ i, ∀ h : i < ps.length, El w b (o + i * 4) ps[i]) : Mid w w b o m ps 0 := by
  have hb : (K.mk op nm day (some ⟨b, o, none⟩) cap ps).blocks = b :: blocks ps := by
    cases ps with
    | nil => simp at hp
    | cons p ps => simp [K.blocks]
  have hnd := h.nd
  rw [hb, List.nodup_cons] at hnd
  have hbb : b ∈ (K.mk op nm day (some ⟨b, o, none⟩) cap ps).blocks := by rw [hb]; simp
  refine ⟨hnd.1, hnd.2, h.lt b hbb, fun x => h.fz b hbb x, fun j hj hji => by omega, fun j hj _ => ⟨he j hj, h.has.part (List.getElem_mem hj), fun x hx => h.lt x (part_blocks (List.getElem_mem hj) hx), part_nodup hnd.2 hj, fun x hx => h.fz x (part_blocks (List.getElem_mem hj) hx)⟩, ⟨rfl, rfl, rfl, Nat.le_refl _, fun _ _ _ => rfl, fun _ h => .inl h⟩⟩

theorem sizes_conds_le (ps : List K) (i : Nat) : sizes (conds (ps.take i)) ≤ sizes (conds ps) := by rw [conds_take]; exact sizes_take_le _ _
theorem sizes_conds_step {ps : List K} {i : Nat} (hi : i < ps.length) : sizes (conds (ps.take (i + 1))) = sizes (conds (ps.take i)) + ps[i].cond.size := by
  have h1 : i < (conds ps).length := by rw [conds_len]; exact hi
  rw [conds_take, conds_take, size_part h1]
  simp [conds_map]

end Go.Proofs.Ytomloodakabcbaa.Cond
