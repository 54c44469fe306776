/-
  l5Read of the model.
-/
import Derived.Test.YtlaogladhadliaaGreatDoorPcS
import Derived.Test.YtlaogladhadliaaGreatDoorPSpec
import Derived.Test.YtlaogladhadliaaGreatDoorSmS
namespace Go.Proofs.YtlaogladhadliaaGreatDoor.Cond
open Go.RowKit
set_option linter.unusedVariables false
set_option linter.unusedSimpArgs false

/-- What l5Read answers. -/
def RdAns (s : ByteArray) (o : Option (Q × List UInt8)) (w : World) (e : Ending) (w' : World) : Prop :=
  Below w.heap.size w w' ∧ (match o with
    | some (q, r) => ∃ k : K, e = .returned (.tuple #[k.val, .int .i64 ((s.size - r.length : Nat) : Int)]) ∧ k.cond = q.c ∧ Wr w' k ∧ ∀ x ∈ k.blocks, w.heap.size ≤ x
    | none => ∃ k : K, e = .returned (.tuple #[k.val, .int .i64 (-1)]))
theorem rd_bad {s : ByteArray} {w v : World} {kb : Nat} {k : K} {x0 x1 x2 x3 : Value} (hb : Below w.heap.size w v) (hk : w.heap.size ≤ kb) : RdAns s none w (.returned (.tuple #[k.val, .int .i64 (-1)])) (put4 v kb 0 x0 x1 x2 x3) :=
  ⟨put4_below hb hk, k, rfl⟩
theorem rd_good {s : ByteArray} {w v : World} {kb : Nat} {k : K} {q : Q} {r : List UInt8} {x0 x1 x2 x3 : Value} {t : Int} (ht : t = ((s.size - r.length : Nat) : Int)) (hb : Below w.heap.size w v) (hq : k.cond = q.c) (hw : Wr v k) (hge : ∀ x ∈ k.blocks, w.heap.size ≤ x) (hn : kb ∉ k.blocks) (hk : w.heap.size ≤ kb) : RdAns s (some (q, r)) w (.returned (.tuple #[k.val, .int .i64 t])) (put4 v kb 0 x0 x1 x2 x3) := by
  subst ht
  exact ⟨put4_below hb hk, k, rfl, hq, put_wr hw hn, hge⟩

theorem blk_new (w : World) (arr : Array Value) (T : TypeId) : Blk (w.alloc (.cells arr T)) w.heap.size arr.size := ⟨arr, T, heap_alloc_new w _, rfl⟩
theorem el_new (w : World) (k : K) (T : TypeId) : El (w.alloc (.cells #[.int .i64 k.op, .string k.nm, .int .i64 k.day, .slice k.A k.ps.length k.cap] T)) w.heap.size 0 k := by
  obtain ⟨_, h0, h1, h2, h3, _⟩ := B4.new w (.int .i64 k.op) (.string k.nm) (.int .i64 k.day) (.slice k.A k.ps.length k.cap) T
  exact ⟨h0, h1, h2, h3⟩
theorem neg_end {s : ByteArray} {w w2 : World} {kb S : Nat} {k : K} {q : Q} {r : List UInt8} {x0 x1 x2 x3 : Value} {T : TypeId} {t : Int} (ht : t = ((s.size - r.length : Nat) : Int)) (hb : Below w.heap.size w w2) (hq : k.cond = q.c) (hw : Wr w2 k) (hge : ∀ x ∈ k.blocks, S ≤ x) (hS : w.heap.size ≤ S) (hk : w.heap.size ≤ kb) (hkS : kb < S) :
    RdAns s (some (.neg q, r)) w (.returned (.tuple #[(K.mk 4 .empty 0 (some ⟨w2.heap.size + 1, 0, none⟩) 1 [k]).val, .int .i64 t])) (((put4 w2 kb 0 x0 x1 x2 x3).alloc (.cells #[.int .i64 k.op, .string k.nm, .int .i64 k.day, .slice k.A k.ps.length k.cap] T)).alloc (.cells #[.int .i64 k.op, .string k.nm, .int .i64 k.day, .slice k.A k.ps.length k.cap] T)) := by
  subst ht
  obtain ⟨V, hV⟩ : ∃ V, V = put4 w2 kb 0 x0 x1 x2 x3 := ⟨_, rfl⟩
  have hVs : V.heap.size = w2.heap.size := by rw [hV, put4_size]
  have hVb : Below w.heap.size w V := by rw [hV]; exact put4_below hb hk
  have hVw : Wr V k := by rw [hV]; exact put_wr hw (fun h => by have := hge _ h; omega)
  rw [← hV]
  obtain ⟨U, hU⟩ : ∃ U, U = V.alloc (.cells #[.int .i64 k.op, .string k.nm, .int .i64 k.day, .slice k.A k.ps.length k.cap] T) := ⟨_, rfl⟩
  have hUs : U.heap.size = w2.heap.size + 1 := by rw [hU]; simp [hVs]
  rw [← hU, ← hUs]
  have hUb : Below V.heap.size V U := by rw [hU]; exact below1 _ _
  have h2 : Wr (U.alloc (.cells #[.int .i64 k.op, .string k.nm, .int .i64 k.day, .slice k.A k.ps.length k.cap] T)) k := (hVw.on hUb).on (below1 _ _)
  have hnot : U.heap.size ∉ k.blocks := fun h => by have := hVw.lt _ h; omega
  have hlt := hb.size
  refine ⟨(hVb.trans (hUb.mono hVb.size)).trans ((below1 _ _).mono (by omega)), _, rfl, ?_, wr_one h2 (blk_new _ _ _) (el_new _ _ _) hnot, fun x hx => ?_⟩
  · simp only [K.cond, conds, Q.c, hq]
  · simp only [K.blocks, blocks, List.append_nil, List.mem_append, List.mem_singleton] at hx
    rcases hx with rfl | hx
    · omega
    · have := hge x hx; omega
theorem neg_bad {s : ByteArray} {w w2 : World} {kb : Nat} {k : K} {x0 x1 x2 x3 : Value} {T : TypeId} (hb : Below w.heap.size w w2) (hk : w.heap.size ≤ kb) :
    RdAns s none w (.returned (.tuple #[(K.mk 4 .empty 0 (some ⟨w2.heap.size + 1, 0, none⟩) 1 [k]).val, .int .i64 (-1)])) (((put4 w2 kb 0 x0 x1 x2 x3).alloc (.cells #[.int .i64 k.op, .string k.nm, .int .i64 k.day, .slice k.A k.ps.length k.cap] T)).alloc (.cells #[.int .i64 k.op, .string k.nm, .int .i64 k.day, .slice k.A k.ps.length k.cap] T)) :=
  ⟨((put4_below hb hk).alloc (by rw [put4_size]; exact hb.size) _).alloc (by simp [put4_size]; have := hb.size; omega) _, _, rfl⟩
theorem pair_end {s : ByteArray} {w v : World} {kb S : Nat} {ka kc : K} {qa qb q : Q} {op : Int} {r : List UInt8} {x0 x1 x2 x3 : Value} {T : TypeId} {t : Int} (hop : q = .and qa qb ∧ op = 5 ∨ q = .or qa qb ∧ op = 6) (ht : t = ((s.size - r.length : Nat) : Int)) (hb : Below w.heap.size w v) (ha : ka.cond = qa.c) (hc : kc.cond = qb.c) (hwa : Wr v ka) (hwc : Wr v kc) (hd : Dj ka kc) (hga : ∀ x ∈ ka.blocks, S ≤ x) (hgc : ∀ x ∈ kc.blocks, S ≤ x) (hS : w.heap.size ≤ S) (hk : w.heap.size ≤ kb) (hkS : kb < S) :
    RdAns s (some (q, r)) w (.returned (.tuple #[(K.mk op .empty 0 (some ⟨v.heap.size, 0, none⟩) 2 [ka, kc]).val, .int .i64 t])) ((put4 v kb 0 x0 x1 x2 x3).alloc (.cells #[.int .i64 ka.op, .string ka.nm, .int .i64 ka.day, .slice ka.A ka.ps.length ka.cap, .int .i64 kc.op, .string kc.nm, .int .i64 kc.day, .slice kc.A kc.ps.length kc.cap] T)) := by
  subst ht
  obtain ⟨V, hV⟩ : ∃ V, V = put4 v kb 0 x0 x1 x2 x3 := ⟨_, rfl⟩
  have hVs : V.heap.size = v.heap.size := by rw [hV, put4_size]
  have hVb : Below w.heap.size w V := by rw [hV]; exact put4_below hb hk
  have hVa : Wr V ka := by rw [hV]; exact put_wr hwa (fun h => by have := hga _ h; omega)
  have hVc : Wr V kc := by rw [hV]; exact put_wr hwc (fun h => by have := hgc _ h; omega)
  rw [← hV, ← hVs]
  have hlt := hb.size
  have e1 : El (V.alloc (.cells #[.int .i64 ka.op, .string ka.nm, .int .i64 ka.day, .slice ka.A ka.ps.length ka.cap, .int .i64 kc.op, .string kc.nm, .int .i64 kc.day, .slice kc.A kc.ps.length kc.cap] T)) V.heap.size 0 ka := ⟨by simp [go_sem], by simp [go_sem], by simp [go_sem], by simp [go_sem]⟩
  have e2 : El (V.alloc (.cells #[.int .i64 ka.op, .string ka.nm, .int .i64 ka.day, .slice ka.A ka.ps.length ka.cap, .int .i64 kc.op, .string kc.nm, .int .i64 kc.day, .slice kc.A kc.ps.length kc.cap] T)) V.heap.size 4 kc := ⟨by simp [go_sem], by simp [go_sem], by simp [go_sem], by simp [go_sem]⟩
  refine ⟨hVb.trans ((below1 _ _).mono hVb.size), _, rfl, ?_, wr_two (hVa.on (below1 _ _)) (hVc.on (below1 _ _)) hd (blk_new _ _ _) e1 e2 (fun h => by have := hVa.lt _ h; omega) (fun h => by have := hVc.lt _ h; omega), fun x hx => ?_⟩
  · rcases hop with ⟨rfl, rfl⟩ | ⟨rfl, rfl⟩ <;> simp only [K.cond, conds, Q.c, ha, hc]
  · simp only [K.blocks, blocks, List.append_nil, List.mem_append, List.mem_singleton] at hx
    rcases hx with rfl | hx | hx
    · omega
    · have := hga x hx; omega
    · have := hgc x hx; omega

theorem rd_not {dt : List UInt8 → Option Int} {n : Nat} {l : List UInt8} (h : st wNot l = true) : rd dt (n + 1) l = match rd dt n (l.drop 4) with | some (q, r) => some (.neg q, r) | none => none := by
  rw [rd, if_pos h]
  first | rfl | (cases rd dt n (l.drop 4) <;> rfl)
theorem rd_from {dt : List UInt8 → Option Int} {n : Nat} {l : List UInt8} (h1 : st wNot l = false) (h : st wFrom l = true) : rd dt (n + 1) l = match dt ((l.drop 5).take 10) with | some x => some (.frm x, l.drop 15) | none => none := by
  rw [rd, if_neg (by rw [h1]; decide), if_pos h]
  first | rfl | (cases dt ((l.drop 5).take 10) <;> rfl)
theorem rd_par {dt : List UInt8 → Option Int} {n : Nat} {l : List UInt8} (h1 : st wNot l = false) (h2 : st wFrom l = false) (h : st wPar l = true) : rd dt (n + 1) l = match rd dt n (l.drop 1) with
       | none => none
       | some (a, r) =>
         if st wOr r then (match rd dt n (r.drop 4) with | none => none | some (b, r2) => if st wEnd r2 then some (.or a b, r2.drop 1) else none)
         else if st wAnd r then (match rd dt n (r.drop 5) with | none => none | some (b, r2) => if st wEnd r2 then some (.and a b, r2.drop 1) else none)
         else none := by
  rw [rd, if_neg (by rw [h1]; decide), if_neg (by rw [h2]; decide), if_pos h]
  first | rfl | (cases rd dt n (l.drop 1) with
    | none => rfl
    | some p => rfl)
theorem rd_word {dt : List UInt8 → Option Int} {n : Nat} {l : List UInt8} (h1 : st wNot l = false) (h2 : st wFrom l = false) (h3 : st wPar l = false) : rd dt (n + 1) l = if word l = wTrue then some (.tru, l.drop 4) else if isNm (ba (word l)) then some (.fact (ba (word l)), l.drop (word l).length) else none := by
  rw [rd, if_neg (by rw [h1]; decide), if_neg (by rw [h2]; decide), if_neg (by rw [h3]; decide)]

end Go.Proofs.YtlaogladhadliaaGreatDoor.Cond
