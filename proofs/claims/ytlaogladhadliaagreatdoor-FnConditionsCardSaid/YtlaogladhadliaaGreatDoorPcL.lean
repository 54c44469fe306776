/-
  readNot and readFrom of the program's reader.
-/
import Derived.Test.YtlaogladhadliaaGreatDoorPcK
import Derived.Test.YtlaogladhadliaaGreatDoorPImpl
namespace Go.Proofs.YtlaogladhadliaaGreatDoor.Cond
open Go.RowKit
set_option linter.unusedVariables false
set_option linter.unusedSimpArgs false

/-- An answer of the reader: a condition of its own, and the reader behind it; or none. -/
def PG (b : Nat) (q : Q) (r : List UInt8) (L : Nat) (w : World) (e : Ending) (w' : World) : Prop :=
  Mv (· = b) (· = b) w w' ∧ ∃ k : K, e = .returned (.tuple #[k.val, .bool true]) ∧ k.cond = q.c ∧ Wr w' k ∧ (∀ x ∈ k.blocks, w.heap.size ≤ x) ∧ Rr b w' r L
def PB (b : Nat) (w : World) (e : Ending) (w' : World) : Prop :=
  Mv (· = b) (· = b) w w' ∧ ∃ k : K, e = .returned (.tuple #[k.val, .bool false])
theorem Mv.put4 {b kb : Nat} {w v : World} {x0 x1 x2 x3 : Value} (h : Mv (· = b) (· = b) w v) (hk : w.heap.size ≤ kb) : Mv (· = b) (· = b) w (Cond.put4 v kb 0 x0 x1 x2 x3) :=
  ⟨by have := h.os; exact this, by have := h.tape; exact this, by have := h.output; exact this, by rw [put4_size]; exact h.size, fun i hi hn => (put4_block (by omega)).trans (h.block i hi hn), fun i hi => .inl hi⟩
theorem Mv.alloc {b : Nat} {w v : World} (h : Mv (· = b) (· = b) w v) (ob : Obj) : Mv (· = b) (· = b) w (v.alloc ob) := h.trans (Mv.of_below (below1 _ _))
theorem Rr.put4 {b kb L : Nat} {v : World} {r : List UInt8} {x0 x1 x2 x3 : Value} (h : Rr b v r L) (hk : b ≠ kb) : Rr b (Cond.put4 v kb 0 x0 x1 x2 x3) r L := h.alike (put4_block hk) (by rw [put4_size]; exact Nat.le_refl _)
theorem B4.mv {b k : Nat} {w w' : World} {a c d e : Value} (h : B4 k w a c d e) (hm : Mv (· = b) (· = b) w w') (hk : k ≠ b) : B4 k w' a c d e := h.alike (hm.block k h.lt hk) hm.size
theorem Wr.mv {b : Nat} {w w' : World} {k : K} (h : Wr w k) (hm : Mv (· = b) (· = b) w w') (hk : b ∉ k.blocks) : Wr w' k := h.same (fun x hx => hm.block x (h.lt x hx) (fun e => hk (e ▸ hx))) hm.size
theorem pg_leaf {b kb L : Nat} {q : Q} {r : List UInt8} {w v : World} {k : K} {x0 x1 x2 x3 : Value} (hm : Mv (· = b) (· = b) w v) (hq : k.cond = q.c) (hw : Wr v k) (hge : ∀ x ∈ k.blocks, w.heap.size ≤ x) (hn : kb ∉ k.blocks) (hr : Rr b v r L) (hk : w.heap.size ≤ kb) (hb : b ≠ kb) :
    PG b q r L w (.returned (.tuple #[k.val, .bool true])) (Cond.put4 v kb 0 x0 x1 x2 x3) := ⟨hm.put4 hk, k, rfl, hq, put_wr hw hn, hge, hr.put4 hb⟩
theorem pb_any {b kb : Nat} {w v : World} {x0 x1 x2 x3 : Value} (k : K) (hm : Mv (· = b) (· = b) w v) (hk : w.heap.size ≤ kb) : PB b w (.returned (.tuple #[k.val, .bool false])) (Cond.put4 v kb 0 x0 x1 x2 x3) := ⟨hm.put4 hk, k, rfl⟩
theorem pg_neg {b kb L S : Nat} {q : Q} {r : List UInt8} {w w2 : World} {k : K} {x0 x1 x2 x3 : Value} {T : TypeId} (hm : Mv (· = b) (· = b) w w2) (hq : k.cond = q.c) (hw : Wr w2 k) (hge : ∀ x ∈ k.blocks, S ≤ x) (hr : Rr b w2 r L) (hk : w.heap.size ≤ kb) (hkS : kb < S) (hb : b < w.heap.size) :
    PG b (.neg q) r L w (.returned (.tuple #[(K.mk 4 .empty 0 (some ⟨w2.heap.size + 1, 0, none⟩) 1 [k]).val, .bool true])) (((Cond.put4 w2 kb 0 x0 x1 x2 x3).alloc (.cells #[.int .i64 k.op, .string k.nm, .int .i64 k.day, .slice k.A k.ps.length k.cap] T)).alloc (.cells #[.int .i64 k.op, .string k.nm, .int .i64 k.day, .slice k.A k.ps.length k.cap] T)) := by
  have hr2 := (hr.put4 (x0 := x0) (x1 := x1) (x2 := x2) (x3 := x3) (show b ≠ kb by omega))
  have hmV := hm.put4 (x0 := x0) (x1 := x1) (x2 := x2) (x3 := x3) hk
  have hVw : Wr (Cond.put4 w2 kb 0 x0 x1 x2 x3) k := put_wr hw (fun h => by have := hge _ h; omega)
  have hVs : (Cond.put4 w2 kb 0 x0 x1 x2 x3).heap.size = w2.heap.size := put4_size
  generalize Cond.put4 w2 kb 0 x0 x1 x2 x3 = V at *
  obtain ⟨U, hU⟩ : ∃ U, U = V.alloc (.cells #[.int .i64 k.op, .string k.nm, .int .i64 k.day, .slice k.A k.ps.length k.cap] T) := ⟨_, rfl⟩
  have hUs : U.heap.size = w2.heap.size + 1 := by rw [hU]; simp [hVs]
  have hUb : Below V.heap.size V U := by rw [hU]; exact below1 _ _
  rw [← hU, ← hUs]
  have h2 : Wr (U.alloc (.cells #[.int .i64 k.op, .string k.nm, .int .i64 k.day, .slice k.A k.ps.length k.cap] T)) k := (hVw.on hUb).on (below1 _ _)
  have hnot : U.heap.size ∉ k.blocks := fun h => by have := hVw.lt _ h; omega
  have hlt := hm.size
  refine ⟨(hmV.trans (Mv.of_below hUb)).alloc _, _, rfl, by simp only [K.cond, conds, Q.c, hq], wr_one h2 (blk_new _ _ _) (el_new _ _ _) hnot, fun x hx => ?_, (hr2.on hUb).on (below1 _ _)⟩
  simp only [K.blocks, blocks, List.append_nil, List.mem_append, List.mem_singleton] at hx
  rcases hx with rfl | hx
  · omega
  · have := hge x hx; omega

/-- What the calls of read inside give. -/
structure Sub (dt : List UInt8 → Option Int) (n b : Nat) (W : World) : Prop where
  good : ∀ l L q r v, rd dt n l = some (q, r) → q.size ≤ L → L ≤ 15 → l.length < n → Rr b v l L → Below W.heap.size W v → Calls Tryz.prog 28 #[.pointer (some ⟨b, 0, none⟩)] v (PG b q r (L - q.size) v)
  bad : ∀ l L v, (∀ q r, rd dt n l = some (q, r) → L < q.size) → L ≤ 15 → l.length < n → Rr b v l L → Below W.heap.size W v → Calls Tryz.prog 28 #[.pointer (some ⟨b, 0, none⟩)] v (PB b v)

set_option maxRecDepth 100000 in
set_option maxHeartbeats 4000000 in
theorem notGood {dt : List UInt8 → Option Int} {n b : Nat} {W : World} (hS : Sub dt n b W) (hbW : W.heap.size ≤ b) (l : List UInt8) (L : Nat) (q : Q) (r : List UInt8) (w : World) (h1 : st [32] l = true) (hr : rd dt n (l.drop 1) = some (q, r)) (hq : q.size ≤ L) (hL : L ≤ 15) (hl : l.length ≤ n) (h : Rr b w l L) (hW : Below W.heap.size W w) :
    Calls Tryz.prog 55 #[.pointer (some ⟨b, 0, none⟩)] w (PG b (.neg q) r (L - q.size) w) := by
  have hl1 := st_len h1
  simp only [List.length_cons, List.length_nil] at hl1
  obtain ⟨X, hX⟩ : ∃ X, X = w.alloc (.cells #[.int .i64 0, .string ⟨#[]⟩, .int .i64 0, .slice none 0 0] 26) := ⟨_, rfl⟩
  have b0 : Below w.heap.size w X := by rw [hX]; exact below1 _ _
  have P0 : Hid (B4 w.heap.size X (.int .i64 0) (.string ⟨#[]⟩) (.int .i64 0) (.slice none 0 0)) := Lib.hid (by rw [hX]; exact B4.new _ _ _ _ _ _)
  have hRX := h.on b0
  have HSK := skip b L l ⟨#[32]⟩ X hRX
  rw [show (⟨#[32]⟩ : ByteArray).data.toList = [32] from rfl, h1, show trim [32] l = l.drop 1 by rw [trim, h1]; rfl] at HSK
  obtain ⟨X1, hX1⟩ : ∃ X1, X1 = X.setCell ⟨b, 0, none⟩ (.string (ba (l.drop 1))) := ⟨_, rfl⟩
  have hR1 : Rr b X1 (l.drop 1) L := by rw [hX1]; exact hRX.set0 _
  have hm1 : Mv (· = b) (· = b) w X1 := (Mv.of_below b0).trans (by rw [hX1]; exact mv_set b 0 X _)
  have hW1 : Below W.heap.size W X1 := by
    have := hW.trans (b0.mono hW.size)
    rw [hX1]; exact this.setCell (p := ⟨b, 0, none⟩) hbW _
  have hbw : b < w.heap.size := h.lt
  have P1 : Hid (B4 w.heap.size X1 (.int .i64 0) (.string ⟨#[]⟩) (.int .i64 0) (.slice none 0 0)) := Lib.hid (by rw [hX1]; exact P0.out.far (by simp; omega) _)
  have HRD := Lib.hid (hS.good (l.drop 1) L q r X1 hr hq hL (by rw [List.length_drop]; omega) hR1 hW1)
  have hXs : w.heap.size < X1.heap.size := P1.out.lt
  have M1 := Lib.hid hm1
  have HXX := Lib.hid hX
  have HX1 := Lib.hid hX1
  have HSKH := Lib.hid HSK
  clear hX hX1 HSK hR1 hRX hm1 hW1 hr h1 b0 h hW hS
  go_enter Tryz.func55, Tryz.ntmps55
  go_wp2_with (first | (go_at_call 50; (try rw [← HXX.out]); refine HSKH.out.mono ?_; rintro e w' ⟨rfl, rfl⟩; (try rw [← HX1.out])) | (go_at_call 28; (try rw [← HX1.out]); refine HRD.out.mono ?_; rintro e w2 ⟨hm2, k, rfl, hk, hwk, hge, hrr⟩; refine Hid.out ?_))
  refine Lib.hid ?_
  have M2 := Lib.hid (M1.out.trans hm2)
  have P2 := Lib.hid (P1.out.mv hm2 (by omega))
  have HF : Hid (∀ x0 x1 x2 x3, PG b (.neg q) r (L - q.size) w (.returned (.tuple #[(K.mk 4 .empty 0 (some ⟨w2.heap.size + 1, 0, none⟩) 1 [k]).val, .bool true])) (((Cond.put4 w2 w.heap.size 0 x0 x1 x2 x3).alloc (.cells #[.int .i64 k.op, .string k.nm, .int .i64 k.day, .slice k.A k.ps.length k.cap] 26)).alloc (.cells #[.int .i64 k.op, .string k.nm, .int .i64 k.day, .slice k.A k.ps.length k.cap] 26))) := Lib.hid fun x0 x1 x2 x3 => pg_neg M2.out hk hwk hge hrr (Nat.le_refl _) hXs hbw
  obtain ⟨_, p0, p1, p2, p3, pf⟩ := P2.out
  have pf0 := pf 0
  have pf1 := pf 1
  have pf2 := pf 2
  have pf3 := pf 3
  clear pf
  clear hm2 hk hwk hge hrr
  go_wp2_with fail
  obtain ⟨_, t0, t1, t2, t3, _⟩ := ((P2.out.put (.int .i64 4) (.string ⟨#[]⟩) (.int .i64 0) (.slice (some ⟨w2.heap.size + 1, 0, none⟩) 1 1)).alloc (.cells #[.int .i64 k.op, .string k.nm, .int .i64 k.day, .slice k.A k.ps.length k.cap] 26)).alloc (.cells #[.int .i64 k.op, .string k.nm, .int .i64 k.day, .slice k.A k.ps.length k.cap] 26)
  have hf := HF.out (.int .i64 4) (.string ⟨#[]⟩) (.int .i64 0) (.slice (some ⟨w2.heap.size + 1, 0, none⟩) 1 1)
  simp only [Cond.put4] at t0 t1 t2 t3 hf
  exact bodyPost_ret (v := .tuple #[(K.mk 4 .empty 0 (some ⟨w2.heap.size + 1, 0, none⟩) 1 [k]).val, .bool true]) (by simp [results, Tryz.results55, go_sem, t0, t1, t2, t3]; first | done | exact ⟨rfl, rfl, rfl, rfl, rfl, rfl⟩) rfl hf

set_option maxRecDepth 100000 in
set_option maxHeartbeats 4000000 in
theorem notNo {b : Nat} {W : World} (hbW : W.heap.size ≤ b) (l : List UInt8) (L : Nat) (w : World) (h1 : st [32] l = false) (h : Rr b w l L) (hW : Below W.heap.size W w) :
    Calls Tryz.prog 55 #[.pointer (some ⟨b, 0, none⟩)] w (PB b w) := by
  obtain ⟨X, hX⟩ : ∃ X, X = w.alloc (.cells #[.int .i64 0, .string ⟨#[]⟩, .int .i64 0, .slice none 0 0] 26) := ⟨_, rfl⟩
  have b0 : Below w.heap.size w X := by rw [hX]; exact below1 _ _
  have P0 : Hid (B4 w.heap.size X (.int .i64 0) (.string ⟨#[]⟩) (.int .i64 0) (.slice none 0 0)) := Lib.hid (by rw [hX]; exact B4.new _ _ _ _ _ _)
  have hRX := h.on b0
  have HSK := skip b L l ⟨#[32]⟩ X hRX
  rw [show (⟨#[32]⟩ : ByteArray).data.toList = [32] from rfl, h1, show trim [32] l = l by rw [trim, h1]; rfl] at HSK
  obtain ⟨X1, hX1⟩ : ∃ X1, X1 = X.setCell ⟨b, 0, none⟩ (.string (ba l)) := ⟨_, rfl⟩
  have hR1 : Rr b X1 l L := by rw [hX1]; exact hRX.set0 _
  have hm1 : Mv (· = b) (· = b) w X1 := (Mv.of_below b0).trans (by rw [hX1]; exact mv_set b 0 X _)
  have hW1 : Below W.heap.size W X1 := by
    have := hW.trans (b0.mono hW.size)
    rw [hX1]; exact this.setCell (p := ⟨b, 0, none⟩) hbW _
  have hbw : b < w.heap.size := h.lt
  have P1 : Hid (B4 w.heap.size X1 (.int .i64 0) (.string ⟨#[]⟩) (.int .i64 0) (.slice none 0 0)) := Lib.hid (by rw [hX1]; exact P0.out.far (by simp; omega) _)
  have hXs : w.heap.size < X1.heap.size := P1.out.lt
  have M1 := Lib.hid hm1
  have HXX := Lib.hid hX
  have HX1 := Lib.hid hX1
  have HSKH := Lib.hid HSK
  have P2 := P1
  have M2 := M1
  clear hX hX1 HSK hR1 hRX hm1 hW1 h1 b0 h hW
  go_enter Tryz.func55, Tryz.ntmps55
  go_wp2_with (go_at_call 50; (try rw [← HXX.out]); refine HSKH.out.mono ?_; rintro e w' ⟨rfl, rfl⟩; (try rw [← HX1.out]); refine Hid.out ?_)
  refine Lib.hid ?_
  obtain ⟨_, p0, p1, p2, p3, pf⟩ := P2.out
  have pf0 := pf 0
  have pf1 := pf 1
  have pf2 := pf 2
  have pf3 := pf 3
  clear pf
  go_wp2_with fail
  obtain ⟨_, t0, t1, t2, t3, _⟩ := P2.out.put (.int .i64 0) (.string ⟨#[]⟩) (.int .i64 0) (.slice none 0 0)
  have hf := pb_any (b := b) (kb := w.heap.size) (x0 := .int .i64 0) (x1 := .string ⟨#[]⟩) (x2 := .int .i64 0) (x3 := .slice none 0 0) (.mk 0 .empty 0 none 0 []) M2.out (Nat.le_refl _)
  simp only [Cond.put4] at t0 t1 t2 t3 hf
  exact bodyPost_ret (v := .tuple #[.agg #[.int .i64 0, .string ⟨#[]⟩, .int .i64 0, .slice none 0 0], .bool false]) (by simp [results, Tryz.results55, go_sem, t0, t1, t2, t3]) rfl hf

set_option maxRecDepth 100000 in
set_option maxHeartbeats 4000000 in
theorem fromNo {b : Nat} {W : World} (hbW : W.heap.size ≤ b) (l : List UInt8) (L : Nat) (w : World) (h1 : st [32] l = false) (h : Rr b w l L) (hW : Below W.heap.size W w) :
    Calls Tryz.prog 54 #[.pointer (some ⟨b, 0, none⟩)] w (PB b w) := by
  obtain ⟨X, hX⟩ : ∃ X, X = w.alloc (.cells #[.int .i64 0, .string ⟨#[]⟩, .int .i64 0, .slice none 0 0] 26) := ⟨_, rfl⟩
  have b0 : Below w.heap.size w X := by rw [hX]; exact below1 _ _
  have P0 : Hid (B4 w.heap.size X (.int .i64 0) (.string ⟨#[]⟩) (.int .i64 0) (.slice none 0 0)) := Lib.hid (by rw [hX]; exact B4.new _ _ _ _ _ _)
  have hRX := h.on b0
  have HSK := skip b L l ⟨#[32]⟩ X hRX
  rw [show (⟨#[32]⟩ : ByteArray).data.toList = [32] from rfl, h1, show trim [32] l = l by rw [trim, h1]; rfl] at HSK
  obtain ⟨X1, hX1⟩ : ∃ X1, X1 = X.setCell ⟨b, 0, none⟩ (.string (ba l)) := ⟨_, rfl⟩
  have hR1 : Rr b X1 l L := by rw [hX1]; exact hRX.set0 _
  have hm1 : Mv (· = b) (· = b) w X1 := (Mv.of_below b0).trans (by rw [hX1]; exact mv_set b 0 X _)
  have hW1 : Below W.heap.size W X1 := by
    have := hW.trans (b0.mono hW.size)
    rw [hX1]; exact this.setCell (p := ⟨b, 0, none⟩) hbW _
  have hbw : b < w.heap.size := h.lt
  have P1 : Hid (B4 w.heap.size X1 (.int .i64 0) (.string ⟨#[]⟩) (.int .i64 0) (.slice none 0 0)) := Lib.hid (by rw [hX1]; exact P0.out.far (by simp; omega) _)
  have hXs : w.heap.size < X1.heap.size := P1.out.lt
  have M1 := Lib.hid hm1
  have HXX := Lib.hid hX
  have HX1 := Lib.hid hX1
  have HSKH := Lib.hid HSK
  have P2 := P1
  have M2 := M1
  clear hX hX1 HSK hR1 hRX hm1 hW1 h1 b0 h hW
  go_enter Tryz.func54, Tryz.ntmps54
  go_wp2_with (go_at_call 50; (try rw [← HXX.out]); refine HSKH.out.mono ?_; rintro e w' ⟨rfl, rfl⟩; (try rw [← HX1.out]); refine Hid.out ?_)
  refine Lib.hid ?_
  obtain ⟨_, p0, p1, p2, p3, pf⟩ := P2.out
  have pf0 := pf 0
  have pf1 := pf 1
  have pf2 := pf 2
  have pf3 := pf 3
  clear pf
  go_wp2_with fail
  obtain ⟨_, t0, t1, t2, t3, _⟩ := P2.out.put (.int .i64 0) (.string ⟨#[]⟩) (.int .i64 0) (.slice none 0 0)
  have hf := pb_any (b := b) (kb := w.heap.size) (x0 := .int .i64 0) (x1 := .string ⟨#[]⟩) (x2 := .int .i64 0) (x3 := .slice none 0 0) (.mk 0 .empty 0 none 0 []) M2.out (Nat.le_refl _)
  simp only [Cond.put4] at t0 t1 t2 t3 hf
  exact bodyPost_ret (v := .tuple #[.agg #[.int .i64 0, .string ⟨#[]⟩, .int .i64 0, .slice none 0 0], .bool false]) (by simp [results, Tryz.results54, go_sem, t0, t1, t2, t3]) rfl hf

set_option maxRecDepth 100000 in
set_option maxHeartbeats 4000000 in
theorem notBad {dt : List UInt8 → Option Int} {n b : Nat} {W : World} (hS : Sub dt n b W) (hbW : W.heap.size ≤ b) (l : List UInt8) (L : Nat) (w : World) (h1 : st [32] l = true) (hr : ∀ q r, rd dt n (l.drop 1) = some (q, r) → L < q.size) (hL : L ≤ 15) (hl : l.length ≤ n) (h : Rr b w l L) (hW : Below W.heap.size W w) :
    Calls Tryz.prog 55 #[.pointer (some ⟨b, 0, none⟩)] w (PB b w) := by
  have hl1 := st_len h1
  simp only [List.length_cons, List.length_nil] at hl1
  obtain ⟨X, hX⟩ : ∃ X, X = w.alloc (.cells #[.int .i64 0, .string ⟨#[]⟩, .int .i64 0, .slice none 0 0] 26) := ⟨_, rfl⟩
  have b0 : Below w.heap.size w X := by rw [hX]; exact below1 _ _
  have P0 : Hid (B4 w.heap.size X (.int .i64 0) (.string ⟨#[]⟩) (.int .i64 0) (.slice none 0 0)) := Lib.hid (by rw [hX]; exact B4.new _ _ _ _ _ _)
  have hRX := h.on b0
  have HSK := skip b L l ⟨#[32]⟩ X hRX
  rw [show (⟨#[32]⟩ : ByteArray).data.toList = [32] from rfl, h1, show trim [32] l = l.drop 1 by rw [trim, h1]; rfl] at HSK
  obtain ⟨X1, hX1⟩ : ∃ X1, X1 = X.setCell ⟨b, 0, none⟩ (.string (ba (l.drop 1))) := ⟨_, rfl⟩
  have hR1 : Rr b X1 (l.drop 1) L := by rw [hX1]; exact hRX.set0 _
  have hm1 : Mv (· = b) (· = b) w X1 := (Mv.of_below b0).trans (by rw [hX1]; exact mv_set b 0 X _)
  have hW1 : Below W.heap.size W X1 := by
    have := hW.trans (b0.mono hW.size)
    rw [hX1]; exact this.setCell (p := ⟨b, 0, none⟩) hbW _
  have hbw : b < w.heap.size := h.lt
  have P1 : Hid (B4 w.heap.size X1 (.int .i64 0) (.string ⟨#[]⟩) (.int .i64 0) (.slice none 0 0)) := Lib.hid (by rw [hX1]; exact P0.out.far (by simp; omega) _)
  have hXs : w.heap.size < X1.heap.size := P1.out.lt
  have M1 := Lib.hid hm1
  have HXX := Lib.hid hX
  have HX1 := Lib.hid hX1
  have HSKH := Lib.hid HSK
  have HRD := Lib.hid (hS.bad (l.drop 1) L X1 hr hL (by rw [List.length_drop]; omega) hR1 hW1)
  clear hX hX1 HSK hR1 hRX hm1 hW1 hr h1 b0 h hW hS
  go_enter Tryz.func55, Tryz.ntmps55
  go_wp2_with (first | (go_at_call 50; (try rw [← HXX.out]); refine HSKH.out.mono ?_; rintro e w' ⟨rfl, rfl⟩; (try rw [← HX1.out])) | (go_at_call 28; (try rw [← HX1.out]); refine HRD.out.mono ?_; rintro e w2 ⟨hm2, k, rfl⟩; refine Hid.out ?_))
  refine Lib.hid ?_
  have M2 := Lib.hid (M1.out.trans hm2)
  have P2 := Lib.hid (P1.out.mv hm2 (by omega))
  have HF : Hid (∀ x0 x1 x2 x3, PB b w (.returned (.tuple #[(K.mk 4 .empty 0 (some ⟨w2.heap.size + 1, 0, none⟩) 1 [k]).val, .bool false])) (((Cond.put4 w2 w.heap.size 0 x0 x1 x2 x3).alloc (.cells #[.int .i64 k.op, .string k.nm, .int .i64 k.day, .slice k.A k.ps.length k.cap] 26)).alloc (.cells #[.int .i64 k.op, .string k.nm, .int .i64 k.day, .slice k.A k.ps.length k.cap] 26))) := Lib.hid fun x0 x1 x2 x3 => ⟨((M2.out.put4 (Nat.le_refl _)).alloc _).alloc _, _, rfl⟩
  obtain ⟨_, p0, p1, p2, p3, pf⟩ := P2.out
  have pf0 := pf 0
  have pf1 := pf 1
  have pf2 := pf 2
  have pf3 := pf 3
  clear pf
  clear hm2
  go_wp2_with fail
  obtain ⟨_, t0, t1, t2, t3, _⟩ := ((P2.out.put (.int .i64 4) (.string ⟨#[]⟩) (.int .i64 0) (.slice (some ⟨w2.heap.size + 1, 0, none⟩) 1 1)).alloc (.cells #[.int .i64 k.op, .string k.nm, .int .i64 k.day, .slice k.A k.ps.length k.cap] 26)).alloc (.cells #[.int .i64 k.op, .string k.nm, .int .i64 k.day, .slice k.A k.ps.length k.cap] 26)
  have hf := HF.out (.int .i64 4) (.string ⟨#[]⟩) (.int .i64 0) (.slice (some ⟨w2.heap.size + 1, 0, none⟩) 1 1)
  simp only [Cond.put4] at t0 t1 t2 t3 hf
  exact bodyPost_ret (v := .tuple #[(K.mk 4 .empty 0 (some ⟨w2.heap.size + 1, 0, none⟩) 1 [k]).val, .bool false]) (by simp [results, Tryz.results55, go_sem, t0, t1, t2, t3]; first | done | exact ⟨rfl, rfl, rfl, rfl, rfl, rfl⟩) rfl hf

set_option maxRecDepth 100000 in
set_option maxHeartbeats 4000000 in
theorem fromGood {dt : List UInt8 → Option Int} (hdt : Dt dt) {b : Nat} {W : World} (hT : Tab.Tab W) (hLi : LiesD.Lies W) (hbW : W.heap.size ≤ b) (l : List UInt8) (L : Nat) (w : World) (h1 : st [32] l = true) (d : Int) (hd : dt ((l.drop 1).take 10) = some d) (hl : l.length ≤ 1900000) (h : Rr b w l L) (hW : Below W.heap.size W w) :
    Calls Tryz.prog 54 #[.pointer (some ⟨b, 0, none⟩)] w (PG b (.frm d) (l.drop 11) L w) := by
  obtain ⟨X, hX⟩ : ∃ X, X = w.alloc (.cells #[.int .i64 0, .string ⟨#[]⟩, .int .i64 0, .slice none 0 0] 26) := ⟨_, rfl⟩
  have b0 : Below w.heap.size w X := by rw [hX]; exact below1 _ _
  have P0 : Hid (B4 w.heap.size X (.int .i64 0) (.string ⟨#[]⟩) (.int .i64 0) (.slice none 0 0)) := Lib.hid (by rw [hX]; exact B4.new _ _ _ _ _ _)
  have hRX := h.on b0
  have HSK := skip b L l ⟨#[32]⟩ X hRX
  rw [show (⟨#[32]⟩ : ByteArray).data.toList = [32] from rfl, h1, show trim [32] l = l.drop 1 by rw [trim, h1]; rfl] at HSK
  obtain ⟨X1, hX1⟩ : ∃ X1, X1 = X.setCell ⟨b, 0, none⟩ (.string (ba (l.drop 1))) := ⟨_, rfl⟩
  have hR1 : Rr b X1 (l.drop 1) L := by rw [hX1]; exact hRX.set0 _
  have hm1 : Mv (· = b) (· = b) w X1 := (Mv.of_below b0).trans (by rw [hX1]; exact mv_set b 0 X _)
  have hW1 : Below W.heap.size W X1 := by
    have := hW.trans (b0.mono hW.size)
    rw [hX1]; exact this.setCell (p := ⟨b, 0, none⟩) hbW _
  have hbw : b < w.heap.size := h.lt
  have P1 : Hid (B4 w.heap.size X1 (.int .i64 0) (.string ⟨#[]⟩) (.int .i64 0) (.slice none 0 0)) := Lib.hid (by rw [hX1]; exact P0.out.far (by simp; omega) _)
  have hXs : w.heap.size < X1.heap.size := P1.out.lt
  have M1 := Lib.hid hm1
  have HXX := Lib.hid hX
  have HX1 := Lib.hid hX1
  have HSKH := Lib.hid HSK
  have HTK := take_ b L 10 (l.drop 1) X1 hR1 (by rw [List.length_drop]; omega) (by omega)
  have e10 : ((10 : Nat) : Int) = 10 := rfl
  rw [e10, List.drop_drop] at HTK
  obtain ⟨X2, hX2⟩ : ∃ X2, X2 = X1.setCell ⟨b, 0, none⟩ (.string (ba (l.drop (1 + 10)))) := ⟨_, rfl⟩
  have hR2 : Rr b X2 (l.drop (1 + 10)) L := by rw [hX2]; exact hR1.set0 _
  have hm2 : Mv (· = b) (· = b) w X2 := hm1.trans (by rw [hX2]; exact mv_set b 0 X1 _)
  have hW2 : Below W.heap.size W X2 := by rw [hX2]; exact hW1.setCell (p := ⟨b, 0, none⟩) hbW _
  have PX2 : Hid (B4 w.heap.size X2 (.int .i64 0) (.string ⟨#[]⟩) (.int .i64 0) (.slice none 0 0)) := Lib.hid (by rw [hX2]; exact P1.out.far (by simp; omega) _)
  obtain ⟨x, hx⟩ : ∃ x, x = ba ((l.drop 1).take 10) := ⟨_, rfl⟩
  have hxl : x.data.toList = (l.drop 1).take 10 := by rw [hx]
  have HPD : Hid (Calls Tryz.prog 69 #[.string x] X2 fun e w' => e = .returned (.tuple #[.int .i64 d, .bool true]) ∧ Below X2.heap.size X2 w') := Lib.hid ((PImpl.impl x (by rw [hx]; simp [ByteArray.size]; omega) X2 (hT.below hW2) (hLi.below hW2)).mono fun e w' ⟨a1, a2⟩ => by
    rw [← hxl] at hd
    unfold PImpl.Ans at a1
    rcases a1 with ⟨d', a, rfl⟩ | ⟨a, _⟩
    · rw [a.uniq ((hdt _ _).1 hd)]; exact ⟨rfl, a2⟩
    · exact absurd ((hdt _ _).1 hd) (a d))
  rw [← hx] at HTK
  have HX2 := Lib.hid hX2
  have HTKH := Lib.hid HTK
  have M2 := Lib.hid hm2
  have R2 := Lib.hid hR2
  clear hX hX1 hX2 HSK HTK hR1 hR2 hRX hm1 hm2 hW1 hW2 h1 b0 h hW hd hx hxl e10 hT hLi
  go_enter Tryz.func54, Tryz.ntmps54
  go_wp2_with (first | (go_at_call 50; (try rw [← HXX.out]); refine HSKH.out.mono ?_; rintro e w' ⟨rfl, rfl⟩; (try rw [← HX1.out])) | (go_at_call 52; (try rw [← HX1.out]); refine HTKH.out.mono ?_; rintro e w' ⟨rfl, rfl⟩; (try rw [← HX2.out])) | (go_at_call 69; (try rw [← HX2.out]); refine HPD.out.mono ?_; rintro e w3 ⟨rfl, hb3⟩; refine Hid.out ?_))
  refine Lib.hid ?_
  have P2 := Lib.hid (PX2.out.on hb3)
  have M3 := Lib.hid (M2.out.trans (Mv.of_below hb3))
  have R3 := Lib.hid (R2.out.on hb3)
  obtain ⟨_, p0, p1, p2, p3, pf⟩ := P2.out
  have pf0 := pf 0
  have pf1 := pf 1
  have pf2 := pf 2
  have pf3 := pf 3
  clear pf
  clear hb3
  go_wp2_with fail
  obtain ⟨_, t0, t1, t2, t3, _⟩ := P2.out.put (.int .i64 3) (.string ⟨#[]⟩) (.int .i64 d) (.slice none 0 0)
  have hf := pg_leaf (b := b) (kb := w.heap.size) (k := .mk 3 .empty d none 0 []) (q := .frm d) (x0 := .int .i64 3) (x1 := .string ⟨#[]⟩) (x2 := .int .i64 d) (x3 := .slice none 0 0) M3.out rfl (wr_none 3 .empty d (by simp [maxLen])) (by simp [K.blocks, blocks]) (by simp [K.blocks, blocks]) R3.out (Nat.le_refl _) (by omega)
  simp only [Cond.put4] at t0 t1 t2 t3 hf
  exact bodyPost_ret (v := .tuple #[.agg #[.int .i64 3, .string ⟨#[]⟩, .int .i64 d, .slice none 0 0], .bool true]) (by simp [results, Tryz.results54, go_sem, t0, t1, t2, t3]) rfl hf

set_option maxRecDepth 100000 in
set_option maxHeartbeats 4000000 in
theorem fromBad {dt : List UInt8 → Option Int} (hdt : Dt dt) {b : Nat} {W : World} (hT : Tab.Tab W) (hLi : LiesD.Lies W) (hbW : W.heap.size ≤ b) (l : List UInt8) (L : Nat) (w : World) (h1 : st [32] l = true) (hd : dt ((l.drop 1).take 10) = none) (hl : l.length ≤ 1900000) (h : Rr b w l L) (hW : Below W.heap.size W w) :
    Calls Tryz.prog 54 #[.pointer (some ⟨b, 0, none⟩)] w (PB b w) := by
  obtain ⟨X, hX⟩ : ∃ X, X = w.alloc (.cells #[.int .i64 0, .string ⟨#[]⟩, .int .i64 0, .slice none 0 0] 26) := ⟨_, rfl⟩
  have b0 : Below w.heap.size w X := by rw [hX]; exact below1 _ _
  have P0 : Hid (B4 w.heap.size X (.int .i64 0) (.string ⟨#[]⟩) (.int .i64 0) (.slice none 0 0)) := Lib.hid (by rw [hX]; exact B4.new _ _ _ _ _ _)
  have hRX := h.on b0
  have HSK := skip b L l ⟨#[32]⟩ X hRX
  rw [show (⟨#[32]⟩ : ByteArray).data.toList = [32] from rfl, h1, show trim [32] l = l.drop 1 by rw [trim, h1]; rfl] at HSK
  obtain ⟨X1, hX1⟩ : ∃ X1, X1 = X.setCell ⟨b, 0, none⟩ (.string (ba (l.drop 1))) := ⟨_, rfl⟩
  have hR1 : Rr b X1 (l.drop 1) L := by rw [hX1]; exact hRX.set0 _
  have hm1 : Mv (· = b) (· = b) w X1 := (Mv.of_below b0).trans (by rw [hX1]; exact mv_set b 0 X _)
  have hW1 : Below W.heap.size W X1 := by
    have := hW.trans (b0.mono hW.size)
    rw [hX1]; exact this.setCell (p := ⟨b, 0, none⟩) hbW _
  have hbw : b < w.heap.size := h.lt
  have P1 : Hid (B4 w.heap.size X1 (.int .i64 0) (.string ⟨#[]⟩) (.int .i64 0) (.slice none 0 0)) := Lib.hid (by rw [hX1]; exact P0.out.far (by simp; omega) _)
  have hXs : w.heap.size < X1.heap.size := P1.out.lt
  have M1 := Lib.hid hm1
  have HXX := Lib.hid hX
  have HX1 := Lib.hid hX1
  have HSKH := Lib.hid HSK
  have HTK := take_ b L 10 (l.drop 1) X1 hR1 (by rw [List.length_drop]; omega) (by omega)
  have e10 : ((10 : Nat) : Int) = 10 := rfl
  rw [e10, List.drop_drop] at HTK
  obtain ⟨X2, hX2⟩ : ∃ X2, X2 = X1.setCell ⟨b, 0, none⟩ (.string (ba (l.drop (1 + 10)))) := ⟨_, rfl⟩
  have hR2 : Rr b X2 (l.drop (1 + 10)) L := by rw [hX2]; exact hR1.set0 _
  have hm2 : Mv (· = b) (· = b) w X2 := hm1.trans (by rw [hX2]; exact mv_set b 0 X1 _)
  have hW2 : Below W.heap.size W X2 := by rw [hX2]; exact hW1.setCell (p := ⟨b, 0, none⟩) hbW _
  have PX2 : Hid (B4 w.heap.size X2 (.int .i64 0) (.string ⟨#[]⟩) (.int .i64 0) (.slice none 0 0)) := Lib.hid (by rw [hX2]; exact P1.out.far (by simp; omega) _)
  obtain ⟨x, hx⟩ : ∃ x, x = ba ((l.drop 1).take 10) := ⟨_, rfl⟩
  have hxl : x.data.toList = (l.drop 1).take 10 := by rw [hx]
  have HPD : Hid (Calls Tryz.prog 69 #[.string x] X2 fun e w' => e = .returned (.tuple #[.int .i64 0, .bool false]) ∧ Below X2.heap.size X2 w') := Lib.hid ((PImpl.impl x (by rw [hx]; simp [ByteArray.size]; omega) X2 (hT.below hW2) (hLi.below hW2)).mono fun e w' ⟨a1, a2⟩ => by
    rw [← hxl] at hd
    unfold PImpl.Ans at a1
    rcases a1 with ⟨d', a, _⟩ | ⟨_, rfl⟩
    · rw [(hdt _ _).2 a] at hd; cases hd
    · exact ⟨rfl, a2⟩)
  rw [← hx] at HTK
  have HX2 := Lib.hid hX2
  have HTKH := Lib.hid HTK
  have M2 := Lib.hid hm2
  have R2 := Lib.hid hR2
  clear hX hX1 hX2 HSK HTK hR1 hR2 hRX hm1 hm2 hW1 hW2 h1 b0 h hW hd hx hxl e10 hT hLi
  go_enter Tryz.func54, Tryz.ntmps54
  go_wp2_with (first | (go_at_call 50; (try rw [← HXX.out]); refine HSKH.out.mono ?_; rintro e w' ⟨rfl, rfl⟩; (try rw [← HX1.out])) | (go_at_call 52; (try rw [← HX1.out]); refine HTKH.out.mono ?_; rintro e w' ⟨rfl, rfl⟩; (try rw [← HX2.out])) | (go_at_call 69; (try rw [← HX2.out]); refine HPD.out.mono ?_; rintro e w3 ⟨rfl, hb3⟩; refine Hid.out ?_))
  refine Lib.hid ?_
  have P2 := Lib.hid (PX2.out.on hb3)
  have M3 := Lib.hid (M2.out.trans (Mv.of_below hb3))
  have R3 := Lib.hid (R2.out.on hb3)
  obtain ⟨_, p0, p1, p2, p3, pf⟩ := P2.out
  have pf0 := pf 0
  have pf1 := pf 1
  have pf2 := pf 2
  have pf3 := pf 3
  clear pf
  clear hb3
  go_wp2_with fail
  obtain ⟨_, t0, t1, t2, t3, _⟩ := P2.out.put (.int .i64 3) (.string ⟨#[]⟩) (.int .i64 0) (.slice none 0 0)
  have hf := pb_any (b := b) (kb := w.heap.size) (x0 := .int .i64 3) (x1 := .string ⟨#[]⟩) (x2 := .int .i64 0) (x3 := .slice none 0 0) (.mk 3 .empty 0 none 0 []) M3.out (Nat.le_refl _)
  simp only [Cond.put4] at t0 t1 t2 t3 hf
  exact bodyPost_ret (v := .tuple #[.agg #[.int .i64 3, .string ⟨#[]⟩, .int .i64 0, .slice none 0 0], .bool false]) (by simp [results, Tryz.results54, go_sem, t0, t1, t2, t3]) rfl hf

end Go.Proofs.YtlaogladhadliaaGreatDoor.Cond
