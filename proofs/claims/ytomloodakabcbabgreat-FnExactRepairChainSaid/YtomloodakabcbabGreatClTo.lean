/-
  What the laws' helpers toClause, toClauseS and toContract return: a copy in new memory of its own.
-/
import Derived.Test.YtomloodakabcbabGreatCl
import Derived.Test.YtomloodakabcbabGreatRowTo
import Derived.Test.YtomloodakabcbabGreatCoMk
namespace Go.Proofs.YtomloodakabcbabGreat.Cl
open Go.RowKit Go.Proofs.YtomloodakabcbabGreat.Cond Go.Proofs.YtomloodakabcbabGreat.Gx
set_option linter.unusedVariables false
set_option linter.unusedSimpArgs false

/-- A row of clauses in memory of its own: the row in block g (room for n), all else between g and E. -/
structure RwM (w : World) (g E n : Nat) (ms : List M) : Prop where
  blk : Blk w g (n * 12)
  el : ∀ i, ∀ h : i < ms.length, El w g (i * 12) ms[i].cells
  ins : ∀ m ∈ ms, m.k.In w
  si : ∀ m ∈ ms, m.id.size ≤ maxLen ∧ m.act.size ≤ maxLen ∧ m.rep.size ≤ maxLen
  ge : ∀ b ∈ blocks (ms.map M.k), g < b
  lt : ∀ b ∈ blocks (ms.map M.k), b < E
  nd : (blocks (ms.map M.k)).Nodup
  fz : ∀ b ∈ blocks (ms.map M.k), ∀ o, w.frozen? ⟨b, o, none⟩ = false
theorem mk_mem {ms : List M} {m : M} (h : m ∈ ms) {b : Nat} (hb : b ∈ m.k.blocks) : b ∈ blocks (ms.map M.k) := blocks_mem.2 ⟨m.k, List.mem_map.2 ⟨m, h, rfl⟩, hb⟩
theorem RwM.alike {w w' : World} {g E n : Nat} {ms : List M} (h : RwM w g E n ms) (hg : w'.heap[g]? = w.heap[g]?) (hb : ∀ b ∈ blocks (ms.map M.k), w'.heap[b]? = w.heap[b]?) : RwM w' g E n ms :=
  ⟨h.blk.alike hg, fun i hi => (h.el i hi).alike hg, fun m hm => (h.ins m hm).alike fun b hb' => hb b (mk_mem hm hb'), h.si, h.ge, h.lt, h.nd, fun b hb' o => (World.frozen?_of_block (a := ⟨b, o, none⟩) (hb b hb')).trans (h.fz b hb' o)⟩
theorem RwM.below {w w' : World} {g E n B : Nat} {ms : List M} (h : RwM w g E n ms) (hb : Below B w w') (hg : g < B) (hE : E ≤ B) : RwM w' g E n ms :=
  h.alike (hb.block g hg) fun b hb' => hb.block b (by have := h.lt b hb'; omega)
theorem RwM.wide {w : World} {g E E' n : Nat} {ms : List M} (h : RwM w g E n ms) (hE : E ≤ E') : RwM w g E' n ms :=
  ⟨h.blk, h.el, h.ins, h.si, h.ge, fun b hb => Nat.lt_of_lt_of_le (h.lt b hb) hE, h.nd, h.fz⟩
/-- One clause more is stored. -/
theorem RwM.snoc {w : World} {g E F n : Nat} {ms : List M} {m : M} (h : RwM w g E n ms) (hk : Own w E F m.k) (hs : m.id.size ≤ maxLen ∧ m.act.size ≤ maxLen ∧ m.rep.size ≤ maxLen) (hEF : E ≤ F) (hg : g < E) (hl : ms.length < n) :
    RwM (putL w g (ms.length * 12) m.cells) g F n (ms ++ [m]) := by
  have hne : ∀ b, g < b → (putL w g (ms.length * 12) m.cells).heap[b]? = w.heap[b]? := fun b hb => putL_block (by omega) _ _ _
  have e0 : (ms ++ [m]).map M.k = ms.map M.k ++ [m.k] := by simp
  have e1 : blocks ((ms ++ [m]).map M.k) = blocks (ms.map M.k) ++ m.k.blocks := by rw [e0, blocks_append]; simp [blocks]
  have hml := M.len m
  refine ⟨putL_blk _ _ h.blk, fun i hi => ?_, fun x hx => ?_, fun x hx => ?_, fun b hb => ?_, fun b hb => ?_, ?_, fun b hb o => ?_⟩
  · by_cases e : i = ms.length
    · subst e
      have e2 : (ms ++ [m])[ms.length]'hi = m := by simp
      rw [e2]
      exact putL_el _ _ h.blk (by rw [hml]; omega)
    · have hi' : i < ms.length := by simp at hi; omega
      have e2 : (ms ++ [m])[i]'hi = ms[i] := by simp [hi']
      rw [e2]
      exact putL_els (h.el i hi') (by rw [M.len]; omega)
  · rcases List.mem_append.1 hx with hx | hx
    · exact (h.ins x hx).alike fun b hb => hne b (h.ge b (mk_mem hx hb))
    · have : x = m := by simpa using hx
      subst this
      exact hk.has.alike fun b hb => hne b (by have := hk.ge b hb; omega)
  · rcases List.mem_append.1 hx with hx | hx
    · exact h.si x hx
    · have : x = m := by simpa using hx
      subst this; exact hs
  · rw [e1, List.mem_append] at hb
    rcases hb with hb | hb
    · exact h.ge b hb
    · have := hk.ge b hb; omega
  · rw [e1, List.mem_append] at hb
    rcases hb with hb | hb
    · have := h.lt b hb; omega
    · exact hk.lt b hb
  · rw [e1]
    exact List.nodup_append.2 ⟨h.nd, hk.nd, fun a ha b hb e => by have := h.lt a ha; have := hk.ge b hb; omega⟩
  · rw [e1, List.mem_append] at hb
    rcases hb with hb | hb
    · rw [World.frozen?_of_block (a := ⟨b, o, none⟩) (hne b (h.ge b hb))]
      exact h.fz b hb o
    · rw [World.frozen?_of_block (a := ⟨b, o, none⟩) (hne b (by have := hk.ge b hb; omega))]
      exact hk.fz b hb o

def tcAns (x : L) (w : World) (e : Ending) (w' : World) : Prop :=
  ∃ q : M, e = .returned q.val ∧ q.cl = x ∧ Own w' w.heap.size w'.heap.size q.k ∧ Below w.heap.size w w'

set_option maxRecDepth 100000 in
set_option maxHeartbeats 4000000 in
theorem toM (m : M) (w : World) (h : LiM w w.heap.size m) (hw : m.cl.wt ≤ 1048576) :
    Calls Tryz.prog 34 #[m.val] w (tcAns m.cl w) := by
  obtain ⟨w0, hw0⟩ : ∃ w0, w0 = ((w.alloc (.cells #[.string m.id, .int .i64 m.kind, .int .i64 m.party, .string m.act, .int .i64 m.other, .int .i64 m.amt, .int .i64 m.k.op, .string m.k.nm, .int .i64 m.k.day, .slice m.k.A m.k.ps.length m.k.cap, .int .i64 m.within, .string m.rep] 64)).alloc (.cells #[.string ⟨#[]⟩, .int .i64 0, .int .i64 0, .string ⟨#[]⟩, .int .i64 0, .int .i64 0, .int .i64 0, .string ⟨#[]⟩, .int .i64 0, .slice none 0 0, .int .i64 0, .string ⟨#[]⟩] 70)).alloc (.cells #[.string m.id, .int .i64 m.kind, .int .i64 m.party, .string m.act, .int .i64 m.other, .int .i64 m.amt, .int .i64 0, .string ⟨#[]⟩, .int .i64 0, .slice none 0 0, .int .i64 0, .string ⟨#[]⟩] 70) := ⟨_, rfl⟩
  have S0 : Hid (w0.heap.size = w.heap.size + 1 + 1 + 1) := Lib.hid (by rw [hw0]; simp)
  have B0 : Hid (Below w.heap.size w w0) := Lib.hid (by rw [hw0]; exact ((below1 _ _).alloc (by simp) _).alloc (by simp; omega) _)
  have P0 : Hid (Bk w.heap.size w0 m.cells) := Lib.hid (by rw [hw0]; exact ((Bk.new w #[.string m.id, .int .i64 m.kind, .int .i64 m.party, .string m.act, .int .i64 m.other, .int .i64 m.amt, .int .i64 m.k.op, .string m.k.nm, .int .i64 m.k.day, .slice m.k.A m.k.ps.length m.k.cap, .int .i64 m.within, .string m.rep] 64).alloc _).alloc _)
  have Y0 : Hid (Bk (w.heap.size + 1) w0 [.string ⟨#[]⟩, .int .i64 0, .int .i64 0, .string ⟨#[]⟩, .int .i64 0, .int .i64 0, .int .i64 0, .string ⟨#[]⟩, .int .i64 0, .slice none 0 0, .int .i64 0, .string ⟨#[]⟩]) := Lib.hid (by
    rw [hw0]
    have := (Bk.new (w.alloc (.cells #[.string m.id, .int .i64 m.kind, .int .i64 m.party, .string m.act, .int .i64 m.other, .int .i64 m.amt, .int .i64 m.k.op, .string m.k.nm, .int .i64 m.k.day, .slice m.k.A m.k.ps.length m.k.cap, .int .i64 m.within, .string m.rep] 64)) #[.string ⟨#[]⟩, .int .i64 0, .int .i64 0, .string ⟨#[]⟩, .int .i64 0, .int .i64 0, .int .i64 0, .string ⟨#[]⟩, .int .i64 0, .slice none 0 0, .int .i64 0, .string ⟨#[]⟩] 70).alloc (.cells #[.string m.id, .int .i64 m.kind, .int .i64 m.party, .string m.act, .int .i64 m.other, .int .i64 m.amt, .int .i64 0, .string ⟨#[]⟩, .int .i64 0, .slice none 0 0, .int .i64 0, .string ⟨#[]⟩] 70)
    rw [World.size_alloc] at this
    exact this)
  have Z0 : Hid (Bk (w.heap.size + 1 + 1) w0 [.string m.id, .int .i64 m.kind, .int .i64 m.party, .string m.act, .int .i64 m.other, .int .i64 m.amt, .int .i64 0, .string ⟨#[]⟩, .int .i64 0, .slice none 0 0, .int .i64 0, .string ⟨#[]⟩]) := Lib.hid (by
    rw [hw0]
    have := Bk.new ((w.alloc (.cells #[.string m.id, .int .i64 m.kind, .int .i64 m.party, .string m.act, .int .i64 m.other, .int .i64 m.amt, .int .i64 m.k.op, .string m.k.nm, .int .i64 m.k.day, .slice m.k.A m.k.ps.length m.k.cap, .int .i64 m.within, .string m.rep] 64)).alloc (.cells #[.string ⟨#[]⟩, .int .i64 0, .int .i64 0, .string ⟨#[]⟩, .int .i64 0, .int .i64 0, .int .i64 0, .string ⟨#[]⟩, .int .i64 0, .slice none 0 0, .int .i64 0, .string ⟨#[]⟩] 70)) #[.string m.id, .int .i64 m.kind, .int .i64 m.party, .string m.act, .int .i64 m.other, .int .i64 m.amt, .int .i64 0, .string ⟨#[]⟩, .int .i64 0, .slice none 0 0, .int .i64 0, .string ⟨#[]⟩] 70
    rw [World.size_alloc, World.size_alloc] at this
    exact this)
  have HC : Hid (Calls Tryz.prog 49 #[m.k.val] w0 fun e w' => ∃ q, e = .returned q.val ∧ q.cond = m.k.cond ∧ Own w' w0.heap.size w'.heap.size q ∧ Below w0.heap.size w0 w') := Lib.hid (toC m.k w0 (h.k.on B0.out) (by simp only [L.wt, M.cl] at hw; omega))
  have H0 := Lib.hid hw0
  have HS := Lib.hid (And.intro h.si (And.intro h.sa h.sr))
  clear hw0 h hw
  go_enter Tryz.func34, Tryz.ntmps34
  go_wp2_with (go_at_call 49; (try rw [← H0.out]); refine HC.out.mono ?_; rintro e w2 ⟨q, rfl, hqc, hqo, hb2⟩; refine Hid.out ?_)
  refine Lib.hid ?_
  have P2 := Lib.hid (P0.out.on hb2)
  have Y2 := Lib.hid (Y0.out.on hb2)
  have Z2 := Lib.hid (Z0.out.on hb2)
  have Z3 : Hid (Bk (w.heap.size + 1 + 1) ((((((w2.setCell ⟨w.heap.size + 1 + 1, 6, none⟩ (.int .i64 q.op)).setCell ⟨w.heap.size + 1 + 1, 7, none⟩ (.string q.nm)).setCell ⟨w.heap.size + 1 + 1, 8, none⟩ (.int .i64 q.day)).setCell ⟨w.heap.size + 1 + 1, 9, none⟩ (.slice q.A q.ps.length q.cap)).setCell ⟨w.heap.size + 1 + 1, 10, none⟩ (.int .i64 m.within)).setCell ⟨w.heap.size + 1 + 1, 11, none⟩ (.string m.rep)) (M.mk m.id m.kind m.party m.act m.other m.amt q m.within m.rep).cells) := Lib.hid ((((((Z2.out.set 6 (by simp) (.int .i64 q.op)).set 7 (by simp) (.string q.nm)).set 8 (by simp) (.int .i64 q.day)).set 9 (by simp) (.slice q.A q.ps.length q.cap)).set 10 (by simp) (.int .i64 m.within)).set 11 (by simp) (.string m.rep))
  have Y3 : Hid (Bk (w.heap.size + 1) ((((((w2.setCell ⟨w.heap.size + 1 + 1, 6, none⟩ (.int .i64 q.op)).setCell ⟨w.heap.size + 1 + 1, 7, none⟩ (.string q.nm)).setCell ⟨w.heap.size + 1 + 1, 8, none⟩ (.int .i64 q.day)).setCell ⟨w.heap.size + 1 + 1, 9, none⟩ (.slice q.A q.ps.length q.cap)).setCell ⟨w.heap.size + 1 + 1, 10, none⟩ (.int .i64 m.within)).setCell ⟨w.heap.size + 1 + 1, 11, none⟩ (.string m.rep)) [.string ⟨#[]⟩, .int .i64 0, .int .i64 0, .string ⟨#[]⟩, .int .i64 0, .int .i64 0, .int .i64 0, .string ⟨#[]⟩, .int .i64 0, .slice none 0 0, .int .i64 0, .string ⟨#[]⟩]) := Lib.hid ((((((Y2.out.far (by simp) _).far (by simp) _).far (by simp) _).far (by simp) _).far (by simp) _).far (by simp) _)
  have Y4 := Lib.hid (Y3.out.put (us := (M.mk m.id m.kind m.party m.act m.other m.amt q m.within m.rep).cells) rfl)
  have HF : Hid (tcAns m.cl w (.returned (M.mk m.id m.kind m.party m.act m.other m.amt q m.within m.rep).val) (putL ((((((w2.setCell ⟨w.heap.size + 1 + 1, 6, none⟩ (.int .i64 q.op)).setCell ⟨w.heap.size + 1 + 1, 7, none⟩ (.string q.nm)).setCell ⟨w.heap.size + 1 + 1, 8, none⟩ (.int .i64 q.day)).setCell ⟨w.heap.size + 1 + 1, 9, none⟩ (.slice q.A q.ps.length q.cap)).setCell ⟨w.heap.size + 1 + 1, 10, none⟩ (.int .i64 m.within)).setCell ⟨w.heap.size + 1 + 1, 11, none⟩ (.string m.rep)) (w.heap.size + 1) 0 (M.mk m.id m.kind m.party m.act m.other m.amt q m.within m.rep).cells)) := Lib.hid (by
    have s0 := S0.out
    have hb0 := B0.out.trans (hb2.mono B0.out.size)
    have hbo : Below w.heap.size w ((((((w2.setCell ⟨w.heap.size + 1 + 1, 6, none⟩ (.int .i64 q.op)).setCell ⟨w.heap.size + 1 + 1, 7, none⟩ (.string q.nm)).setCell ⟨w.heap.size + 1 + 1, 8, none⟩ (.int .i64 q.day)).setCell ⟨w.heap.size + 1 + 1, 9, none⟩ (.slice q.A q.ps.length q.cap)).setCell ⟨w.heap.size + 1 + 1, 10, none⟩ (.int .i64 m.within)).setCell ⟨w.heap.size + 1 + 1, 11, none⟩ (.string m.rep)) := (((((hb0.setCell (p := ⟨w.heap.size + 1 + 1, 6, none⟩) (by simp; omega) _).setCell (p := ⟨w.heap.size + 1 + 1, 7, none⟩) (by simp; omega) _).setCell (p := ⟨w.heap.size + 1 + 1, 8, none⟩) (by simp; omega) _).setCell (p := ⟨w.heap.size + 1 + 1, 9, none⟩) (by simp; omega) _).setCell (p := ⟨w.heap.size + 1 + 1, 10, none⟩) (by simp; omega) _).setCell (p := ⟨w.heap.size + 1 + 1, 11, none⟩) (by simp; omega) _
    refine ⟨_, rfl, by simp only [M.cl, hqc], ?_, putL_below (by omega) _ _ hbo⟩
    refine Own.wide (hqo.same fun b hb _ => ?_) (by omega) (by rw [putL_size]; simp only [World.size_setCell]; exact Nat.le_refl _)
    rw [putL_block (by omega), Below.heap_setCell _ _ _ _ (by simp; omega), Below.heap_setCell _ _ _ _ (by simp; omega), Below.heap_setCell _ _ _ _ (by simp; omega), Below.heap_setCell _ _ _ _ (by simp; omega), Below.heap_setCell _ _ _ _ (by simp; omega), Below.heap_setCell _ _ _ _ (by simp; omega)])
  clear hqc hqo hb2
  obtain ⟨p0, p1, p2, p3, p4, p5, p6, p7, p8, p9, p10, p11⟩ := b12 P2.out
  obtain ⟨z6, z7, z8, z9, z10, z11⟩ := And.intro (Z2.out.c 6 (by simp)) (And.intro (Z2.out.c 7 (by simp)) (And.intro (Z2.out.c 8 (by simp)) (And.intro (Z2.out.c 9 (by simp)) (And.intro (Z2.out.c 10 (by simp)) (Z2.out.c 11 (by simp))))))
  simp only [List.getElem_cons_succ, List.getElem_cons_zero] at z6 z7 z8 z9 z10 z11
  obtain ⟨v0, v1, v2, v3, v4, v5, v6, v7, v8, v9, v10, v11⟩ := b12 Z3.out
  have y0 := Y3.out.c 0 (by simp)
  have y1 := Y3.out.c 1 (by simp)
  have y2 := Y3.out.c 2 (by simp)
  have y3 := Y3.out.c 3 (by simp)
  have y4 := Y3.out.c 4 (by simp)
  have y5 := Y3.out.c 5 (by simp)
  have y6 := Y3.out.c 6 (by simp)
  have y7 := Y3.out.c 7 (by simp)
  have y8 := Y3.out.c 8 (by simp)
  have y9 := Y3.out.c 9 (by simp)
  have y10 := Y3.out.c 10 (by simp)
  have y11 := Y3.out.c 11 (by simp)
  simp only [List.getElem_cons_succ, List.getElem_cons_zero] at y0 y1 y2 y3 y4 y5 y6 y7 y8 y9 y10 y11
  have zf6 := Z2.out.fz 6
  have zf7 := Z2.out.fz 7
  have zf8 := Z2.out.fz 8
  have zf9 := Z2.out.fz 9
  have zf10 := Z2.out.fz 10
  have zf11 := Z2.out.fz 11
  have yf0 := Y2.out.fz 0
  have yf1 := Y2.out.fz 1
  have yf2 := Y2.out.fz 2
  have yf3 := Y2.out.fz 3
  have yf4 := Y2.out.fz 4
  have yf5 := Y2.out.fz 5
  have yf6 := Y2.out.fz 6
  have yf7 := Y2.out.fz 7
  have yf8 := Y2.out.fz 8
  have yf9 := Y2.out.fz 9
  have yf10 := Y2.out.fz 10
  have yf11 := Y2.out.fz 11
  go_wp2_with fail
  obtain ⟨t0, t1, t2, t3, t4, t5, t6, t7, t8, t9, t10, t11⟩ := b12 Y4.out
  have hf := HF.out
  simp only [putL, M.cells, Nat.reduceAdd, Nat.zero_add] at t0 t1 t2 t3 t4 t5 t6 t7 t8 t9 t10 t11 hf
  exact bodyPost_ret (v := (M.mk m.id m.kind m.party m.act m.other m.amt q m.within m.rep).val) (by simp [results, Tryz.results34, go_sem, t0, t1, t2, t3, t4, t5, t6, t7, t8, t9, t10, t11]) rfl hf

theorem infoClause : (Tryz.prog.info? 70).map (fun i => (i.zero, i.size, i.bytes)) = some (some (.agg #[.string ByteArray.empty, .int .i64 0, .int .i64 0, .string ByteArray.empty, .int .i64 0, .int .i64 0, .int .i64 0, .string ByteArray.empty, .int .i64 0, .slice none 0 0, .int .i64 0, .string ByteArray.empty]), 12, 144) := by kernel_rfl
theorem cl_take (ms : List M) (k : Nat) (hk : k < ms.length) : (ms.map M.cl).take (k + 1) = (ms.map M.cl).take k ++ [ms[k].cl] := by
  rw [List.take_succ_eq_append_getElem (by simpa using hk)]; simp

set_option maxRecDepth 100000 in
set_option maxHeartbeats 4000000 in
theorem toMS (A : Option Addr) (n cap : Nat) (ms : List M) (w : World) (h : LiR w w.heap.size A n cap ms) (hl : n ≤ 1048576) (hw : wtL (ms.map M.cl) ≤ 1048576) :
    Calls Tryz.prog 19 #[.slice A n cap] w fun e w' => ∃ qs : List M, e = .returned (.slice (some ⟨w.heap.size, 0, none⟩) n n) ∧ qs.map M.cl = ms.map M.cl ∧ RwM w' w.heap.size w'.heap.size n qs ∧ Below w.heap.size w w' := by
  have HN := Lib.hid h.len
  have HL := Lib.hid h
  have HW := Lib.hid hw
  obtain ⟨i0, hi, hz0, hz1, hz2⟩ := info_parts infoClause
  have HZ := Lib.hid hz2
  clear hz2 h hw
  go_enter Tryz.func19, Tryz.ntmps19
  go_wp2_with (at_make; refine wpList_make_full _ rfl _ _ 30 rfl w.heap.size 70 i0 (.agg #[.string ByteArray.empty, .int .i64 0, .int .i64 0, .string ByteArray.empty, .int .i64 0, .int .i64 0, .int .i64 0, .string ByteArray.empty, .int .i64 0, .slice none 0 0, .int .i64 0, .string ByteArray.empty]) 12 Tryz.underlying30 hi hz0 hz1 .i64 .i64 _ _ n rfl rfl rfl rfl (by rw [HZ.out]; omega) (by unfold maxLen; omega) (Nat.le_refl _) ?_; intro w1 hown1 hgrow1; refine Hid.out ?_)
  refine Lib.hid ?_
  have hb1 : Below w.heap.size w w1 := (Below.refl _ _).grown hgrow1 (Nat.le_refl _) (fun k hk => by cases hk)
  have HR0 : Hid (RwM w1 w.heap.size w1.heap.size n []) := Lib.hid ⟨Blk.of_own hown1, fun i hi => by simp at hi, fun k hk => by simp at hk, fun k hk => by simp at hk, fun b hb => by simp [blocks] at hb, fun b hb => by simp [blocks] at hb, by simp [blocks], fun b hb => by simp [blocks] at hb⟩
  have HB1 := Lib.hid hb1
  clear hown1 hgrow1 hb1
  go_wp2_with fail
  go_loopw [4] (fun i wr => ∃ (k : Nat) (ks : List M), k ≤ n ∧ i = .int .i64 k ∧ Hid (ks.length = k) ∧ Hid (ks.map M.cl = (ms.map M.cl).take k) ∧ Hid (RwM wr w.heap.size wr.heap.size n ks) ∧ Hid (Below w.heap.size w wr)) (fun i _ => n - (intOf i).toNat)
  case atStart => exact ⟨0, [], Nat.zero_le _, rfl, Lib.hid rfl, Lib.hid rfl, HR0, HB1⟩
  case round =>
    obtain ⟨k, ks, hk, rfl, HK, HS, HR, HB⟩ := hrel
    by_cases hlt : k < n
    · have hk' : k < ms.length := by have := HN.out; omega
      obtain ⟨b, o, rfl, hB, hc⟩ := HL.out.at_ (by omega)
      obtain ⟨p, hp⟩ : ∃ p, p = ms[k] := ⟨_, rfl⟩
      have hE := (hc k hk').alike (HB.out.block b hB)
      rw [← hp] at hE
      obtain ⟨c0, c1, c2, c3, c4, c5, c6, c7, c8, c9, c10, c11⟩ := e12 hE
      have HT : Hid ((ms.map M.cl).take (k + 1) = (ms.map M.cl).take k ++ [p.cl]) := Lib.hid (by rw [hp]; exact cl_take ms k hk')
      have hpm : p ∈ ms := by rw [hp]; exact List.getElem_mem hk'
      have IHp := Lib.hid (toM p wr (((HL.out.all p hpm).below HB.out).more HB.out.size) (Nat.le_trans (wtL_mem (List.mem_map.2 ⟨p, hpm, rfl⟩)) HW.out))
      have HSI : Hid (p.id.size ≤ maxLen ∧ p.act.size ≤ maxLen ∧ p.rep.size ≤ maxLen) := Lib.hid ⟨(HL.out.all p hpm).si, (HL.out.all p hpm).sa, (HL.out.all p hpm).sr⟩
      clear hp hc HR0 HB1 hE hpm
      go_wp2_with (go_at_call 34; refine IHp.out.mono ?_; rintro e w2 ⟨q, rfl, hqc, hqo, hb2⟩; refine Hid.out ?_)
      refine Lib.hid ?_
      have HQC := Lib.hid hqc
      have hg : w.heap.size < wr.heap.size := HR.out.blk.lt
      have HR2 := Lib.hid ((HR.out.below hb2 hg (Nat.le_refl _)))
      have HSQ : Hid (q.id.size ≤ maxLen ∧ q.act.size ≤ maxLen ∧ q.rep.size ≤ maxLen) := Lib.hid (by
        have e1 : q.id = p.id := congrArg L.id hqc
        have e2 : q.act = p.act := congrArg L.act hqc
        have e3 : q.rep = p.rep := congrArg L.rep hqc
        rw [e1, e2, e3]; exact HSI.out)
      have HW2 : Hid (RwM (putL w2 w.heap.size (ks.length * 12) q.cells) w.heap.size (putL w2 w.heap.size (ks.length * 12) q.cells).heap.size n (ks ++ [q])) := Lib.hid (by rw [putL_size]; exact HR2.out.snoc hqo HSQ.out hb2.size hg (by have := HK.out; omega))
      have HBB := Lib.hid (putL_below (Nat.le_refl _) q.cells (k * 12) (HB.out.trans (hb2.mono HB.out.size)))
      rw [HK.out] at HW2
      have hblk := HR2.out.blk
      obtain ⟨x0, d0⟩ := hblk.cell (o := k * 12) (by omega)
      have f0 := hblk.frozen (k * 12)
      obtain ⟨x1, d1⟩ := hblk.cell (o := k * 12 + 1) (by omega)
      have f1 := hblk.frozen (k * 12 + 1)
      obtain ⟨x2, d2⟩ := hblk.cell (o := k * 12 + 2) (by omega)
      have f2 := hblk.frozen (k * 12 + 2)
      obtain ⟨x3, d3⟩ := hblk.cell (o := k * 12 + 3) (by omega)
      have f3 := hblk.frozen (k * 12 + 3)
      obtain ⟨x4, d4⟩ := hblk.cell (o := k * 12 + 4) (by omega)
      have f4 := hblk.frozen (k * 12 + 4)
      obtain ⟨x5, d5⟩ := hblk.cell (o := k * 12 + 5) (by omega)
      have f5 := hblk.frozen (k * 12 + 5)
      obtain ⟨x6, d6⟩ := hblk.cell (o := k * 12 + 6) (by omega)
      have f6 := hblk.frozen (k * 12 + 6)
      obtain ⟨x7, d7⟩ := hblk.cell (o := k * 12 + 7) (by omega)
      have f7 := hblk.frozen (k * 12 + 7)
      obtain ⟨x8, d8⟩ := hblk.cell (o := k * 12 + 8) (by omega)
      have f8 := hblk.frozen (k * 12 + 8)
      obtain ⟨x9, d9⟩ := hblk.cell (o := k * 12 + 9) (by omega)
      have f9 := hblk.frozen (k * 12 + 9)
      obtain ⟨x10, d10⟩ := hblk.cell (o := k * 12 + 10) (by omega)
      have f10 := hblk.frozen (k * 12 + 10)
      obtain ⟨x11, d11⟩ := hblk.cell (o := k * 12 + 11) (by omega)
      have f11 := hblk.frozen (k * 12 + 11)
      clear hqc hqo hb2 hblk
      go_wp2_with fail
      go_roundw
      case rel =>
        have h8 := HW2.out
        have h9 := HBB.out
        simp only [putL, M.cells, Nat.add_assoc, Nat.reduceAdd] at h8 h9
        exact ⟨k + 1, ks ++ [q], by omega, by go_num, Lib.hid (by rw [List.length_append, HK.out]; rfl), Lib.hid (by rw [HT.out, List.map_append, HS.out]; simp [HQC.out]), Lib.hid h8, Lib.hid h9⟩
      case measure => simp [intOf]; omega
    · have HE : Hid ((ms.map M.cl).take k = ms.map M.cl) := Lib.hid (List.take_of_length_le (by rw [List.length_map]; have := HN.out; omega))
      go_wp2_with fail
      go_ret
      exact ⟨ks, rfl, by rw [HS.out, HE.out], HR.out, HB.out⟩

/-- The blocks in which a contract lies. -/
def frontN (A : Option Addr) (n : Nat) : List Nat := match A, n with | some a, _ + 1 => [a.block] | _, _ => []
def Kt.blocks (x : Kt) : List Nat := frontN x.A1 x.n1 ++ (frontN x.A2 x.n2 ++ Cond.blocks (x.ms.map M.k))
/-- A contract that may be written. -/
structure WrC (w : World) (x : Kt) : Prop where
  has : LiC w w.heap.size x
  nd : x.blocks.Nodup
  fz : ∀ b ∈ x.blocks, ∀ o, w.frozen? ⟨b, o, none⟩ = false
theorem frontN_mem {A : Option Addr} {n b : Nat} (h : b ∈ frontN A n) : 0 < n ∧ ∃ a, A = some a ∧ a.block = b := by
  cases A with
  | none => simp [frontN] at h
  | some a =>
    cases n with
    | zero => simp [frontN] at h
    | succ n => simp [frontN] at h; exact ⟨by omega, a, rfl, h.symm⟩
theorem LiC.lt {w : World} {B : Nat} {x : Kt} (h : LiC w B x) : ∀ b ∈ x.blocks, b < B := fun b hb => by
  simp only [Kt.blocks, List.mem_append] at hb
  rcases hb with hb | hb | hb
  · obtain ⟨h0, a, e, rfl⟩ := frontN_mem hb
    obtain ⟨ad, e2, hB, _⟩ := h.p.is (by have := h.p.len; omega)
    rw [e] at e2
    injection e2 with e2
    rw [e2]; exact hB
  · obtain ⟨h0, a, e, rfl⟩ := frontN_mem hb
    obtain ⟨b', o, e2, hB, _⟩ := h.c.at_ (by have := h.c.len; omega)
    rw [e] at e2
    injection e2 with e2
    rw [e2]; exact hB
  · obtain ⟨k, hk, hb⟩ := blocks_mem.1 hb
    obtain ⟨m, hm, rfl⟩ := List.mem_map.1 hk
    exact (h.c.all m hm).k.lt b hb
theorem LiC.alike {w w' : World} {B B' : Nat} {x : Kt} (h : LiC w B x) (hB : B ≤ B') (hb : ∀ b ∈ x.blocks, w'.heap[b]? = w.heap[b]?) : LiC w' B' x := by
  refine ⟨⟨fun hp => ?_, h.p.len, h.p.nc, h.p.cm, h.p.szs, h.p.sp⟩, ⟨fun hp => ?_, fun m hm => ⟨⟨(h.c.all m hm).k.has.alike fun b hb' => hb b ?_, fun b hb' => Nat.lt_of_lt_of_le ((h.c.all m hm).k.lt b hb') hB⟩, (h.c.all m hm).si, (h.c.all m hm).sa, (h.c.all m hm).sr⟩, h.c.len, h.c.nc, h.c.cm⟩⟩
  · obtain ⟨ad, e, hlt, hc⟩ := h.p.is hp
    refine ⟨ad, e, by omega, fun j hj => (World.cell?_of_block (a := ad.add j) ?_).trans (hc j hj)⟩
    rw [Row.block_add]
    refine hb _ ?_
    have hn := h.p.len
    obtain ⟨n, hn'⟩ : ∃ n, x.n1 = n + 1 := ⟨x.n1 - 1, by omega⟩
    simp [Kt.blocks, frontN, e, hn']
  · obtain ⟨b, o, e, hlt, hc⟩ := h.c.at_ hp
    refine ⟨b, o, e, by omega, fun i hi => (hc i hi).alike (hb b ?_)⟩
    have hn := h.c.len
    obtain ⟨n, hn'⟩ : ∃ n, x.n2 = n + 1 := ⟨x.n2 - 1, by omega⟩
    simp [Kt.blocks, frontN, e, hn']
  · simp only [Kt.blocks, List.mem_append]
    exact .inr (.inr (mk_mem hm hb'))
theorem WrC.same {w w' : World} {x : Kt} (h : WrC w x) (hb : ∀ b ∈ x.blocks, w'.heap[b]? = w.heap[b]?) (hs : w.heap.size ≤ w'.heap.size) : WrC w' x :=
  ⟨h.has.alike hs hb, h.nd, fun b hb' o => (World.frozen?_of_block (a := ⟨b, o, none⟩) (hb b hb')).trans (h.fz b hb' o)⟩
theorem WrC.on {w w' : World} {x : Kt} (h : WrC w x) (hb : Below w.heap.size w w') : WrC w' x := h.same (fun b hb' => hb.block b (h.has.lt b hb')) hb.size
/-- The rows of a copy. -/
theorem RwM.lir {w : World} {g E cap : Nat} {ms : List M} (h : RwM w g E cap ms) (hg : g < w.heap.size) (hE : E ≤ w.heap.size) (hc : ms.length ≤ cap) (hm : cap ≤ maxLen) : LiR w w.heap.size (some ⟨g, 0, none⟩) ms.length cap ms :=
  ⟨fun hp => ⟨g, 0, rfl, hg, fun i hi => by rw [Nat.zero_add]; exact h.el i hi⟩, fun m hm' => ⟨⟨h.ins m hm', fun b hb => by have := h.lt b (mk_mem hm' hb); omega⟩, (h.si m hm').1, (h.si m hm').2.1, (h.si m hm').2.2⟩, rfl, hc, hm⟩
theorem LiN.of_own {w : World} {S n cap : Nat} {A : Option Addr} {ss : List ByteArray} (h : w.ownsRow S 9 1 (.slice A n cap) n (ss.map Value.string)) (hn : n = ss.length) (hs : ∀ p ∈ ss, p.size ≤ maxLen) : LiN w w.heap.size A n cap ss := by
  refine ⟨Row.Is.of_own h hn, hn, ?_, ?_, hs, ?_⟩
  · rcases h.2 with ⟨hv, h0⟩ | ⟨g, c, cur, hv, _, _, hnc, _, _, _⟩
    · omega
    · injection hv with h1 h2 h3; omega
  · rcases h.2 with ⟨hv, h0⟩ | ⟨g, c, cur, hv, _, _, _, hcm, _, _⟩
    · injection hv with h1 h2 h3; rw [h3]; simp [maxLen]
    · injection hv with h1 h2 h3; rw [h3]; exact hcm
  · intro ad e h0
    rcases h.2 with ⟨hv, _⟩ | ⟨g, c, cur, hv, _⟩
    · cases hv; cases e
    · injection hv with h1 h2 h3
      rw [h1] at e
      injection e with e
      rw [← e]

/-- A copy of a contract. -/
def ctAns (x : Ct) (w : World) (e : Ending) (w' : World) : Prop :=
  ∃ q : Kt, e = .returned q.val ∧ q.ct = x ∧ WrC w' q ∧ (∀ b ∈ q.blocks, w.heap.size ≤ b) ∧ Below w.heap.size w w'

set_option maxRecDepth 100000 in
set_option maxHeartbeats 4000000 in
theorem toCt (x : Kt) (w : World) (h : LiC w w.heap.size x) (hw : x.ct.wt ≤ 1048576) : Calls Tryz.prog 6 #[x.val] w (ctAns x.ct w) := by
  obtain ⟨w0, hw0⟩ : ∃ w0, w0 = ((w.alloc (.cells #[.slice x.A1 x.n1 x.c1, .slice x.A2 x.n2 x.c2] 25)).alloc (.cells #[.slice none 0 0, .slice none 0 0] 32)).alloc (.cells #[.slice none 0 0, .slice none 0 0] 32) := ⟨_, rfl⟩
  have S0 : Hid (w0.heap.size = w.heap.size + 1 + 1 + 1) := Lib.hid (by rw [hw0]; simp)
  have B0 : Hid (Below w.heap.size w w0) := Lib.hid (by rw [hw0]; exact ((below1 _ _).alloc (by simp) _).alloc (by simp; omega) _)
  have P0 : Hid (Bk w.heap.size w0 [.slice x.A1 x.n1 x.c1, .slice x.A2 x.n2 x.c2]) := Lib.hid (by rw [hw0]; exact ((Bk.new w #[.slice x.A1 x.n1 x.c1, .slice x.A2 x.n2 x.c2] 25).alloc _).alloc _)
  have Y0 : Hid (Bk (w.heap.size + 1) w0 [.slice none 0 0, .slice none 0 0]) := Lib.hid (by
    rw [hw0]
    have := (Bk.new (w.alloc (.cells #[.slice x.A1 x.n1 x.c1, .slice x.A2 x.n2 x.c2] 25)) #[.slice none 0 0, .slice none 0 0] 32).alloc (.cells #[.slice none 0 0, .slice none 0 0] 32)
    rw [World.size_alloc] at this
    exact this)
  have Z0 : Hid (Bk (w.heap.size + 1 + 1) w0 [.slice none 0 0, .slice none 0 0]) := Lib.hid (by
    rw [hw0]
    have := Bk.new ((w.alloc (.cells #[.slice x.A1 x.n1 x.c1, .slice x.A2 x.n2 x.c2] 25)).alloc (.cells #[.slice none 0 0, .slice none 0 0] 32)) #[.slice none 0 0, .slice none 0 0] 32
    rw [World.size_alloc, World.size_alloc] at this
    exact this)
  have hn1 : x.n1 ≤ 1048576 := by have := h.p.len; simp only [Ct.wt, Kt.ct] at hw; omega
  have hn2 : x.n2 ≤ 1048576 := by have := h.c.len; simp only [Ct.wt, Kt.ct, List.length_map] at hw; omega
  have HC := Lib.hid (Row.toS x.A1 x.n1 x.c1 x.ss w0 h.p.len hn1 ((h.p.is.below B0.out).more B0.out.size))
  have HWL : Hid (wtL (x.ms.map M.cl) ≤ 1048576) := Lib.hid (by simp only [Ct.wt, Kt.ct] at hw; omega)
  have HSS := Lib.hid h.p.szs
  have HLN := Lib.hid (And.intro h.p.len h.c.len)
  have H0 := Lib.hid hw0
  have HTT : Hid (∀ v, Below w.heap.size w v → Calls Tryz.prog 19 #[.slice x.A2 x.n2 x.c2] v fun e w' => ∃ qs : List M, e = .returned (.slice (some ⟨v.heap.size, 0, none⟩) x.n2 x.n2) ∧ qs.map M.cl = x.ms.map M.cl ∧ RwM w' v.heap.size w'.heap.size x.n2 qs ∧ Below v.heap.size v w') := Lib.hid fun v hv => toMS x.A2 x.n2 x.c2 x.ms v ((h.c.below hv).more hv.size) hn2 HWL.out
  clear hw0 h hw
  go_enter Tryz.func6, Tryz.ntmps6
  go_wp2_with (go_at_call 18; (try rw [← H0.out]); refine HC.out.mono ?_; rintro e w1 ⟨rfl, hown, hb1⟩; refine Hid.out ?_)
  refine Lib.hid ?_
  have s0' := S0.out
  have hz1 := hb1.size
  have P2 := Lib.hid ((P0.out.on hb1).far (p := ⟨w.heap.size + 1 + 1, 0, none⟩) (by simp; omega) (.slice (some ⟨w0.heap.size, 0, none⟩) x.n1 x.n1))
  have Y2 := Lib.hid ((Y0.out.on hb1).far (p := ⟨w.heap.size + 1 + 1, 0, none⟩) (by simp) (.slice (some ⟨w0.heap.size, 0, none⟩) x.n1 x.n1))
  have Z2 := Lib.hid ((Z0.out.on hb1).set 0 (by simp) (.slice (some ⟨w0.heap.size, 0, none⟩) x.n1 x.n1))
  have O2 : Hid ((w1.setCell ⟨w.heap.size + 1 + 1, 0, none⟩ (.slice (some ⟨w0.heap.size, 0, none⟩) x.n1 x.n1)).ownsRow w0.heap.size 9 1 (.slice (some ⟨w0.heap.size, 0, none⟩) x.n1 x.n1) x.n1 (x.ss.map Value.string)) := Lib.hid (ownsRow_setCell_other hown (by simp [Value.ownBlock]; omega) _)
  have BW2 : Hid (Below w.heap.size w (w1.setCell ⟨w.heap.size + 1 + 1, 0, none⟩ (.slice (some ⟨w0.heap.size, 0, none⟩) x.n1 x.n1))) := Lib.hid ((B0.out.trans (hb1.mono B0.out.size)).setCell (p := ⟨w.heap.size + 1 + 1, 0, none⟩) (by simp; omega) _)
  have HT2 := Lib.hid (HTT.out _ BW2.out)
  have z10 := (Z0.out.on hb1).c 0 (by simp)
  have zf10 := (Z0.out.on hb1).fz 0
  have p10 := (P0.out.on hb1).c 1 (by simp)
  simp only [List.getElem_cons_succ, List.getElem_cons_zero] at z10 p10
  have SZ2 : Hid ((w1.setCell ⟨w.heap.size + 1 + 1, 0, none⟩ (.slice (some ⟨w0.heap.size, 0, none⟩) x.n1 x.n1)).heap.size = w1.heap.size) := Lib.hid (World.size_setCell _ _ _)
  have hlt0 : w0.heap.size < w1.heap.size ∨ True := .inr trivial
  clear hown hb1 hlt0 s0'
  obtain ⟨V, hV⟩ : ∃ V, V = w1.setCell ⟨w.heap.size + 1 + 1, 0, none⟩ (.slice (some ⟨w0.heap.size, 0, none⟩) x.n1 x.n1) := ⟨_, rfl⟩
  rw [← hV] at P2 Y2 Z2 O2 BW2 HT2 SZ2
  have HV := Lib.hid hV
  clear hV
  go_wp2_with (go_at_call 19; (try rw [← HV.out]); refine HT2.out.mono ?_; rintro e w3 ⟨qs, rfl, hqs, hrw, hb3⟩; refine Hid.out ?_)
  refine Lib.hid ?_
  have Z3 := Lib.hid (Z2.out.on hb3)
  have Y3 := Lib.hid (Y2.out.on hb3)
  have Z4 := Lib.hid (Z3.out.set 1 (by simp) (.slice (some ⟨V.heap.size, 0, none⟩) x.n2 x.n2))
  have Y4 := Lib.hid (Y3.out.far (p := ⟨w.heap.size + 1 + 1, 1, none⟩) (by simp) (.slice (some ⟨V.heap.size, 0, none⟩) x.n2 x.n2))
  have Y5 := Lib.hid (Y4.out.put (us := [.slice (some ⟨w0.heap.size, 0, none⟩) x.n1 x.n1, .slice (some ⟨V.heap.size, 0, none⟩) x.n2 x.n2]) rfl)
  have HF : Hid (ctAns x.ct w (.returned (Kt.mk (some ⟨w0.heap.size, 0, none⟩) x.n1 x.n1 x.ss (some ⟨V.heap.size, 0, none⟩) x.n2 x.n2 qs).val) (putL (w3.setCell ⟨w.heap.size + 1 + 1, 1, none⟩ (.slice (some ⟨V.heap.size, 0, none⟩) x.n2 x.n2)) (w.heap.size + 1) 0 [.slice (some ⟨w0.heap.size, 0, none⟩) x.n1 x.n1, .slice (some ⟨V.heap.size, 0, none⟩) x.n2 x.n2])) := Lib.hid (by
    have s0 := S0.out
    have s2 := SZ2.out
    have s3 := hb3.size
    have hfar : ∀ b, w0.heap.size ≤ b → (putL (w3.setCell ⟨w.heap.size + 1 + 1, 1, none⟩ (.slice (some ⟨V.heap.size, 0, none⟩) x.n2 x.n2)) (w.heap.size + 1) 0 [.slice (some ⟨w0.heap.size, 0, none⟩) x.n1 x.n1, .slice (some ⟨V.heap.size, 0, none⟩) x.n2 x.n2]).heap[b]? = w3.heap[b]? := fun b hb => by
      rw [putL_block (by omega), Below.heap_setCell _ _ _ _ (by simp; omega)]
    obtain ⟨F, hFd⟩ : ∃ F, F = putL (w3.setCell ⟨w.heap.size + 1 + 1, 1, none⟩ (.slice (some ⟨V.heap.size, 0, none⟩) x.n2 x.n2)) (w.heap.size + 1) 0 [.slice (some ⟨w0.heap.size, 0, none⟩) x.n1 x.n1, .slice (some ⟨V.heap.size, 0, none⟩) x.n2 x.n2] := ⟨_, rfl⟩
    have hFs : F.heap.size = w3.heap.size := by rw [hFd, putL_size, World.size_setCell]
    have hFb : Below w.heap.size w F := by
      rw [hFd]
      exact putL_below (by omega) _ _ ((BW2.out.trans (hb3.mono BW2.out.size)).setCell (p := ⟨w.heap.size + 1 + 1, 1, none⟩) (by simp; omega) _)
    rw [← hFd] at hfar ⊢
    have hown3 : F.ownsRow w0.heap.size 9 1 (.slice (some ⟨w0.heap.size, 0, none⟩) x.n1 x.n1) x.n1 (x.ss.map Value.string) := by
      rcases O2.out with ⟨hl, hr⟩
      refine ⟨hl, ?_⟩
      rcases hr with ⟨hv, _⟩ | ⟨g, c, cur, hv, hS, hh, hrest⟩
      · cases hv
      · injection hv with h1 h2 h3
        injection h1 with h1
        injection h1 with h1
        subst h1
        have hlt : w0.heap.size < V.heap.size := (Array.getElem?_eq_some_iff.1 hh).1
        exact .inr ⟨w0.heap.size, c, cur, by rw [h3], hS, by rw [hfar _ (Nat.le_refl _), hb3.block _ hlt]; exact hh, hrest⟩
    have hlt0 : w0.heap.size < V.heap.size := by
      rcases O2.out.2 with ⟨hv, _⟩ | ⟨g, c, cur, hv, hS, hh, hrest⟩
      · cases hv
      · injection hv with h1 h2 h3
        injection h1 with h1
        injection h1 with h1
        subst h1
        exact (Array.getElem?_eq_some_iff.1 hh).1
    have hrwF : RwM F V.heap.size F.heap.size x.n2 qs := (hrw.alike (hfar _ (by omega)) (fun b hb => hfar b (by have := hrw.ge b hb; omega))).wide (by omega)
    have hql : qs.length = x.n2 := by rw [HLN.out.2]; have := congrArg List.length hqs; simpa using this
    have hbl : (Kt.mk (some ⟨w0.heap.size, 0, none⟩) x.n1 x.n1 x.ss (some ⟨V.heap.size, 0, none⟩) x.n2 x.n2 qs).blocks = frontN (some ⟨w0.heap.size, 0, none⟩) x.n1 ++ (frontN (some ⟨V.heap.size, 0, none⟩) x.n2 ++ Cond.blocks (qs.map M.k)) := rfl
    have hfr : ∀ (g n b : Nat), b ∈ frontN (some ⟨g, 0, none⟩) n → b = g := fun g n b hb => by
      obtain ⟨_, a, e, rfl⟩ := frontN_mem hb
      injection e with e
      rw [← e]
    have hfn : ∀ (g n : Nat), (frontN (some ⟨g, 0, none⟩) n).Nodup := fun g n => by cases n <;> simp [frontN]
    refine ⟨_, rfl, by simp only [Kt.ct, hqs], ⟨⟨LiN.of_own hown3 HLN.out.1 HSS.out, ?_⟩, ?_, fun b hb o => ?_⟩, fun b hb => ?_, hFb⟩
    · have := hrwF.lir hrwF.blk.lt (Nat.le_refl _) (by omega) (by unfold maxLen; omega)
      rw [hql] at this
      exact this
    · rw [hbl]
      refine List.nodup_append.2 ⟨hfn _ _, List.nodup_append.2 ⟨hfn _ _, hrwF.nd, fun a ha b hb e => ?_⟩, fun a ha b hb e => ?_⟩
      · have := hfr _ _ _ ha; have := hrwF.ge b hb; omega
      · have h1 := hfr _ _ _ ha
        rcases List.mem_append.1 hb with hb | hb
        · have := hfr _ _ _ hb; omega
        · have := hrwF.ge b hb; omega
    · rw [hbl, List.mem_append, List.mem_append] at hb
      rcases hb with hb | hb | hb
      · rw [hfr _ _ _ hb]; exact hown3.frozenAt o
      · rw [hfr _ _ _ hb]; exact hrwF.blk.frozen o
      · exact hrwF.fz b hb o
    · rw [hbl, List.mem_append, List.mem_append] at hb
      rcases hb with hb | hb | hb
      · rw [hfr _ _ _ hb]; omega
      · rw [hfr _ _ _ hb]; omega
      · have := hrwF.ge b hb; omega)
  clear hqs hrw hb3
  have z30 := Z3.out.c 1 (by simp)
  have zf30 := Z3.out.fz 1
  have v0 := Z4.out.c 0 (by simp)
  have v1 := Z4.out.c 1 (by simp)
  have y0 := Y4.out.c 0 (by simp)
  have y1 := Y4.out.c 1 (by simp)
  have yf0 := Y3.out.fz 0
  have yf1 := Y3.out.fz 1
  simp only [List.set_cons_zero, List.set_cons_succ, List.getElem_cons_succ, List.getElem_cons_zero] at z30 v0 v1 y0 y1
  go_wp2_with fail
  have t0 := Y5.out.c 0 (by simp)
  have t1 := Y5.out.c 1 (by simp)
  have hf := HF.out
  simp only [List.getElem_cons_succ, List.getElem_cons_zero, putL, Nat.reduceAdd, Nat.zero_add] at t0 t1 hf
  exact bodyPost_ret (v := (Kt.mk (some ⟨w0.heap.size, 0, none⟩) x.n1 x.n1 x.ss (some ⟨V.heap.size, 0, none⟩) x.n2 x.n2 qs).val) (by simp [results, Tryz.results6, go_sem, t0, t1]) rfl hf

end Go.Proofs.YtomloodakabcbabGreat.Cl

