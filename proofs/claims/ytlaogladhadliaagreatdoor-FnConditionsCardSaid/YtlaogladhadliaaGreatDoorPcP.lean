/-
  readPair of the program's reader.
-/
import Derived.Test.YtlaogladhadliaaGreatDoorPcL
import Derived.Deep.RegionWith
namespace Go.Proofs.YtlaogladhadliaaGreatDoor.Cond
open Go.RowKit
set_option linter.unusedVariables false
set_option linter.unusedSimpArgs false

theorem PG.drew {b L : Nat} {q : Q} {r : List UInt8} {w w' : World} {e : Ending} (h : PG b q r L w e w') : PG b q r L w e w'.drew := by
  obtain ⟨h1, k, h2, h3, h4, h5, h6⟩ := h
  exact ⟨h1.trans (Mv.of_below (drew_below _ _)), k, h2, h3, h4.on (drew_below _ _), h5, h6.on (drew_below _ _)⟩
theorem PB.drew {b : Nat} {w w' : World} {e : Ending} (h : PB b w e w') : PB b w e w'.drew := ⟨h.1.trans (Mv.of_below (drew_below _ _)), h.2⟩
theorem pg_pair {b kb L S : Nat} {qa qb q : Q} {op : Int} {r : List UInt8} {w v : World} {k kc : K} {x0 x1 x2 x3 : Value} {T : TypeId} (hop : q = .and qa qb ∧ op = 5 ∨ q = .or qa qb ∧ op = 6) (hm : Mv (· = b) (· = b) w v) (ha : k.cond = qa.c) (hc : kc.cond = qb.c) (hwa : Wr v k) (hwc : Wr v kc) (hd : Dj k kc) (hga : ∀ x ∈ k.blocks, S ≤ x) (hgc : ∀ x ∈ kc.blocks, S ≤ x) (hr : Rr b v r L) (hk : w.heap.size ≤ kb) (hkS : kb < S) (hb : b < w.heap.size) :
    PG b q r L w (.returned (.tuple #[(K.mk op .empty 0 (some ⟨v.heap.size, 0, none⟩) 2 [k, kc]).val, .bool true])) ((Cond.put4 v kb 0 x0 x1 x2 x3).alloc (.cells #[.int .i64 k.op, .string k.nm, .int .i64 k.day, .slice k.A k.ps.length k.cap, .int .i64 kc.op, .string kc.nm, .int .i64 kc.day, .slice kc.A kc.ps.length kc.cap] T)) := by
  have hr2 := (hr.put4 (x0 := x0) (x1 := x1) (x2 := x2) (x3 := x3) (show b ≠ kb by omega))
  have hmV := hm.put4 (x0 := x0) (x1 := x1) (x2 := x2) (x3 := x3) hk
  have hVa : Wr (Cond.put4 v kb 0 x0 x1 x2 x3) k := put_wr hwa (fun h => by have := hga _ h; omega)
  have hVc : Wr (Cond.put4 v kb 0 x0 x1 x2 x3) kc := put_wr hwc (fun h => by have := hgc _ h; omega)
  have hVs : (Cond.put4 v kb 0 x0 x1 x2 x3).heap.size = v.heap.size := put4_size
  generalize Cond.put4 v kb 0 x0 x1 x2 x3 = V at *
  rw [← hVs]
  have hlt := hm.size
  have e1 : El (V.alloc (.cells #[.int .i64 k.op, .string k.nm, .int .i64 k.day, .slice k.A k.ps.length k.cap, .int .i64 kc.op, .string kc.nm, .int .i64 kc.day, .slice kc.A kc.ps.length kc.cap] T)) V.heap.size 0 k := ⟨by simp [go_sem], by simp [go_sem], by simp [go_sem], by simp [go_sem]⟩
  have e2 : El (V.alloc (.cells #[.int .i64 k.op, .string k.nm, .int .i64 k.day, .slice k.A k.ps.length k.cap, .int .i64 kc.op, .string kc.nm, .int .i64 kc.day, .slice kc.A kc.ps.length kc.cap] T)) V.heap.size 4 kc := ⟨by simp [go_sem], by simp [go_sem], by simp [go_sem], by simp [go_sem]⟩
  refine ⟨hmV.alloc _, _, rfl, ?_, wr_two (hVa.on (below1 _ _)) (hVc.on (below1 _ _)) hd (blk_new _ _ _) e1 e2 (fun h => by have := hVa.lt _ h; omega) (fun h => by have := hVc.lt _ h; omega), fun x hx => ?_, hr2.on (below1 _ _)⟩
  · rcases hop with ⟨rfl, rfl⟩ | ⟨rfl, rfl⟩ <;> simp only [K.cond, conds, Q.c, ha, hc]
  · simp only [K.blocks, blocks, List.append_nil, List.mem_append, List.mem_singleton] at hx
    rcases hx with rfl | hx | hx
    · omega
    · have := hga x hx; omega
    · have := hgc x hx; omega

def Sm (u : World) (i j : Nat) (v : World) : Prop := v.heap[i]? = u.heap[i]? ∧ v.heap[j]? = u.heap[j]? ∧ i < v.heap.size ∧ j < v.heap.size
theorem Sm.drew {u v : World} {i j : Nat} (h : Sm u i j v) : Sm u i j v.drew := h
theorem Sm.alloc {u v : World} {i j : Nat} (h : Sm u i j v) (ob : Obj) : Sm u i j (v.alloc ob) := ⟨(Below.block (below1 v ob) i h.2.2.1).trans h.1, (Below.block (below1 v ob) j h.2.2.2).trans h.2.1, by have := h.2.2.1; simp; omega, by have := h.2.2.2; simp; omega⟩
theorem Sm.set {u v : World} {i j b o : Nat} (h : Sm u i j v) (hi : i ≠ b) (hj : j ≠ b) (x : Value) : Sm u i j (v.setCell ⟨b, o, none⟩ x) := ⟨(Below.heap_setCell v _ x i hi).trans h.1, (Below.heap_setCell v _ x j hj).trans h.2.1, by simpa using h.2.2.1, by simpa using h.2.2.2⟩

set_option maxRecDepth 100000 in
set_option maxHeartbeats 4000000 in
theorem pairNone {dt : List UInt8 → Option Int} {n b : Nat} {W : World} (hS : Sub dt n b W) (hbW : W.heap.size ≤ b) (l : List UInt8) (L : Nat) (w : World) (hr : ∀ q r, rd dt n l = some (q, r) → L < q.size) (hL : L ≤ 15) (hl : l.length < n) (h : Rr b w l L) (hW : Below W.heap.size W w) :
    Calls Tryz.prog 51 #[.pointer (some ⟨b, 0, none⟩)] w (PB b w) := by
  obtain ⟨X, hX⟩ : ∃ X, X = w.alloc (.cells #[.int .i64 0, .string ⟨#[]⟩, .int .i64 0, .slice none 0 0] 26) := ⟨_, rfl⟩
  have b0 : Below w.heap.size w X := by rw [hX]; exact below1 _ _
  have P0 : Hid (B4 w.heap.size X (.int .i64 0) (.string ⟨#[]⟩) (.int .i64 0) (.slice none 0 0)) := Lib.hid (by rw [hX]; exact B4.new _ _ _ _ _ _)
  have HRD := Lib.hid (hS.bad l L X hr hL hl (h.on b0) (hW.trans (b0.mono hW.size)))
  have hbw : b < w.heap.size := h.lt
  have M0 : Hid (Mv (· = b) (· = b) w X) := Lib.hid (Mv.of_below b0)
  have HXX := Lib.hid hX
  clear hX b0 hr h hW hS
  go_enter Tryz.func51, Tryz.ntmps51
  go_wp2_with (go_at_call 28; (try rw [← HXX.out]); refine HRD.out.mono ?_; rintro e w2 ⟨hm2, k, rfl⟩; refine Hid.out ?_)
  refine Lib.hid ?_
  have M2 := Lib.hid (M0.out.trans hm2)
  have P2 := Lib.hid (P0.out.mv hm2 (by omega))
  obtain ⟨_, p0, p1, p2, p3, pf⟩ := P2.out
  have pf0 := pf 0
  have pf1 := pf 1
  have pf2 := pf 2
  have pf3 := pf 3
  clear pf
  clear hm2
  go_wp2_with fail
  obtain ⟨_, t0, t1, t2, t3, _⟩ := (P2.out.put (.int .i64 0) (.string ⟨#[]⟩) (.int .i64 0) (.slice none 0 0)).alloc (.cells #[.int .i64 k.op, .string k.nm, .int .i64 k.day, .slice k.A k.ps.length k.cap] 26)
  have hf : PB b w (.returned (.tuple #[.agg #[.int .i64 0, .string ⟨#[]⟩, .int .i64 0, .slice none 0 0], .bool false])) ((Cond.put4 w2 w.heap.size 0 (.int .i64 0) (.string ⟨#[]⟩) (.int .i64 0) (.slice none 0 0)).alloc (.cells #[.int .i64 k.op, .string k.nm, .int .i64 k.day, .slice k.A k.ps.length k.cap] 26)) := ⟨(M2.out.put4 (Nat.le_refl _)).alloc _, .mk 0 .empty 0 none 0 [], rfl⟩
  simp only [Cond.put4] at t0 t1 t2 t3 hf
  exact bodyPost_ret (v := .tuple #[.agg #[.int .i64 0, .string ⟨#[]⟩, .int .i64 0, .slice none 0 0], .bool false]) (by simp [results, Tryz.results51, go_sem, t0, t1, t2, t3]) rfl hf

set_option maxRecDepth 100000 in
set_option maxHeartbeats 8000000 in
theorem pairNo {dt : List UInt8 → Option Int} {n b : Nat} {W : World} (hS : Sub dt n b W) (hbW : W.heap.size ≤ b) (l : List UInt8) (L : Nat) (w : World) (qa : Q) (r1 : List UInt8) (hr : rd dt n l = some (qa, r1)) (hqa : qa.size ≤ L) (hr1 : r1.length < l.length) (hA : st wAnd r1 = false) (hO : st wOr r1 = false) (hL : L ≤ 15) (hl : l.length < n) (h : Rr b w l L) (hW : Below W.heap.size W w) :
    Calls Tryz.prog 51 #[.pointer (some ⟨b, 0, none⟩)] w (PB b w) := by
  obtain ⟨X, hX⟩ : ∃ X, X = w.alloc (.cells #[.int .i64 0, .string ⟨#[]⟩, .int .i64 0, .slice none 0 0] 26) := ⟨_, rfl⟩
  have b0 : Below w.heap.size w X := by rw [hX]; exact below1 _ _
  have P0 : Hid (B4 w.heap.size X (.int .i64 0) (.string ⟨#[]⟩) (.int .i64 0) (.slice none 0 0)) := Lib.hid (by rw [hX]; exact B4.new _ _ _ _ _ _)
  have HRD := Lib.hid (hS.good l L qa r1 X hr hqa hL hl (h.on b0) (hW.trans (b0.mono hW.size)))
  have hbw : b < w.heap.size := h.lt
  have M0 : Hid (Mv (· = b) (· = b) w X) := Lib.hid (Mv.of_below b0)
  have WX : Hid (Below W.heap.size W X) := Lib.hid (hW.trans (b0.mono hW.size))
  have SX : Hid (w.heap.size < X.heap.size) := Lib.hid P0.out.lt
  have HSU := Lib.hid hS
  have HXX := Lib.hid hX
  clear hX b0 hr h hW hS
  go_enter Tryz.func51, Tryz.ntmps51
  go_wp2_with (go_at_call 28; (try rw [← HXX.out]); refine HRD.out.mono ?_; rintro e w2 ⟨hm2, k, rfl, hk, hwk, hge, hrr⟩; refine Hid.out ?_)
  refine Lib.hid ?_
  have hW2 : Below W.heap.size W w2 := WX.out.trans (hm2.below (fun x hx => by rw [hx]; exact hbW) WX.out.size)
  obtain ⟨W3, hW3⟩ : ∃ V, V = w2.alloc (.cells #[.int .i64 k.op, .string k.nm, .int .i64 k.day, .slice k.A k.ps.length k.cap] 26) := ⟨_, rfl⟩
  have hb3 : Below w2.heap.size w2 W3 := by rw [hW3]; exact below1 _ _
  have M3 := Lib.hid ((M0.out.trans hm2).trans (Mv.of_below hb3))
  have P3 := Lib.hid ((P0.out.mv hm2 (by omega)).on hb3)
  have C3 : Hid (B4 w2.heap.size W3 (.int .i64 k.op) (.string k.nm) (.int .i64 k.day) (.slice k.A k.ps.length k.cap)) := Lib.hid (by rw [hW3]; exact B4.new _ _ _ _ _ _)
  have K3 := Lib.hid (hwk.on hb3)
  have R3 := Lib.hid (hrr.on hb3)
  have G3 : Hid (∀ x ∈ k.blocks, X.heap.size ≤ x ∧ x < w2.heap.size) := Lib.hid fun x hx => ⟨hge x hx, hwk.lt x hx⟩
  have Q3 := Lib.hid hk
  have BW3 : Hid (Below W.heap.size W W3) := Lib.hid (hW2.trans (hb3.mono hW2.size))
  have S3 : Hid (X.heap.size ≤ w2.heap.size ∧ w2.heap.size < W3.heap.size) := Lib.hid ⟨hm2.size, C3.out.lt⟩
  have HSA := skip b (L - qa.size) r1 ⟨#[32, 97, 110, 100, 32]⟩ W3 R3.out
  rw [show (⟨#[32, 97, 110, 100, 32]⟩ : ByteArray).data.toList = wAnd from rfl, hA, show trim wAnd r1 = r1 by rw [trim, hA]; rfl] at HSA
  obtain ⟨W4, hW4⟩ : ∃ V, V = W3.setCell ⟨b, 0, none⟩ (.string (ba (r1))) := ⟨_, rfl⟩
  have R4 : Hid (Rr b W4 (r1) (L - qa.size)) := Lib.hid (by rw [hW4]; exact R3.out.set0 _)
  have mv4 : Mv (· = b) (· = b) W3 W4 := by rw [hW4]; exact mv_set b 0 W3 _
  have BW4 : Hid (Below W.heap.size W W4) := Lib.hid (by rw [hW4]; exact BW3.out.setCell (p := ⟨b, 0, none⟩) hbW _)
  have HW3 := Lib.hid hW3
  have HW4 := Lib.hid hW4
  have HSAH := Lib.hid HSA
  have HSO := skip b (L - qa.size) r1 ⟨#[32, 111, 114, 32]⟩ W4 R4.out
  rw [show (⟨#[32, 111, 114, 32]⟩ : ByteArray).data.toList = wOr from rfl, hO, show trim wOr r1 = r1 by rw [trim, hO]; rfl] at HSO
  obtain ⟨W5, hW5⟩ : ∃ V, V = W4.setCell ⟨b, 0, none⟩ (.string (ba (r1))) := ⟨_, rfl⟩
  have RV : Hid (Rr b W5 (r1) (L - qa.size)) := Lib.hid (by rw [hW5]; exact R4.out.set0 _)
  have MV : Hid (Mv (· = b) (· = b) W3 W5) := Lib.hid (mv4.trans (by rw [hW5]; exact mv_set b 0 W4 _))
  have BV : Hid (Below W.heap.size W W5) := Lib.hid (by rw [hW5]; exact BW4.out.setCell (p := ⟨b, 0, none⟩) hbW _)
  have HW5 := Lib.hid hW5
  have HSOH := Lib.hid HSO
  clear hW3 hW4 hW5 hb3 hm2 hk hwk hge hrr hW2 HSA HSO mv4 HRD
  go_wp2_with (go_at_call 50; (try rw [← HW3.out]); refine HSAH.out.mono ?_; rintro e w' ⟨rfl, rfl⟩; (try rw [← HW4.out]); refine Hid.out ?_)
  refine Lib.hid ?_
  go_wp2_with (go_at_call 50; (try rw [← HW4.out]); refine HSOH.out.mono ?_; rintro e w' ⟨rfl, rfl⟩; (try rw [← HW5.out]); refine Hid.out ?_)
  refine Lib.hid ?_
  have P2 := Lib.hid (P3.out.mv MV.out (by omega))
  have M2 := Lib.hid (M3.out.trans MV.out)
  obtain ⟨_, p0, p1, p2, p3, pf⟩ := P2.out
  have pf0 := pf 0
  have pf1 := pf 1
  have pf2 := pf 2
  have pf3 := pf 3
  clear pf
  go_wp2_with fail
  obtain ⟨_, t0, t1, t2, t3, _⟩ := P2.out.put (.int .i64 0) (.string ⟨#[]⟩) (.int .i64 0) (.slice none 0 0)
  have hf := pb_any (b := b) (kb := w.heap.size) (x0 := .int .i64 0) (x1 := .string ⟨#[]⟩) (x2 := .int .i64 0) (x3 := .slice none 0 0) (.mk 0 .empty 0 none 0 []) M2.out (Nat.le_refl _)
  simp only [Cond.put4] at t0 t1 t2 t3 hf
  exact bodyPost_ret (v := .tuple #[.agg #[.int .i64 0, .string ⟨#[]⟩, .int .i64 0, .slice none 0 0], .bool false]) (by simp [results, Tryz.results51, go_sem, t0, t1, t2, t3]) rfl hf

set_option maxRecDepth 100000 in
set_option maxHeartbeats 8000000 in
theorem andGood {dt : List UInt8 → Option Int} {n b : Nat} {W : World} (hS : Sub dt n b W) (hbW : W.heap.size ≤ b) (l : List UInt8) (L : Nat) (w : World) (qa : Q) (r1 : List UInt8) (hr : rd dt n l = some (qa, r1)) (hqa : qa.size ≤ L) (hr1 : r1.length < l.length) (hA : st wAnd r1 = true) (qb : Q) (r2 : List UInt8) (h2 : rd dt n (r1.drop 5) = some (qb, r2)) (hqb : qb.size ≤ L - qa.size) (hE : st wEnd r2 = true) (hL : L ≤ 15) (hl : l.length < n) (h : Rr b w l L) (hW : Below W.heap.size W w) :
    Calls Tryz.prog 51 #[.pointer (some ⟨b, 0, none⟩)] w (PG b (.and qa qb) (r2.drop 1) (L - qa.size - qb.size) w) := by
  rw [List.drop_one]
  obtain ⟨X, hX⟩ : ∃ X, X = w.alloc (.cells #[.int .i64 0, .string ⟨#[]⟩, .int .i64 0, .slice none 0 0] 26) := ⟨_, rfl⟩
  have b0 : Below w.heap.size w X := by rw [hX]; exact below1 _ _
  have P0 : Hid (B4 w.heap.size X (.int .i64 0) (.string ⟨#[]⟩) (.int .i64 0) (.slice none 0 0)) := Lib.hid (by rw [hX]; exact B4.new _ _ _ _ _ _)
  have HRD := Lib.hid (hS.good l L qa r1 X hr hqa hL hl (h.on b0) (hW.trans (b0.mono hW.size)))
  have hbw : b < w.heap.size := h.lt
  have M0 : Hid (Mv (· = b) (· = b) w X) := Lib.hid (Mv.of_below b0)
  have WX : Hid (Below W.heap.size W X) := Lib.hid (hW.trans (b0.mono hW.size))
  have SX : Hid (w.heap.size < X.heap.size) := Lib.hid P0.out.lt
  have HSU := Lib.hid hS
  have HXX := Lib.hid hX
  clear hX b0 hr h hW hS
  go_enter Tryz.func51, Tryz.ntmps51
  go_wp2_with (go_at_call 28; (try rw [← HXX.out]); refine HRD.out.mono ?_; rintro e w2 ⟨hm2, k, rfl, hk, hwk, hge, hrr⟩; refine Hid.out ?_)
  refine Lib.hid ?_
  have hW2 : Below W.heap.size W w2 := WX.out.trans (hm2.below (fun x hx => by rw [hx]; exact hbW) WX.out.size)
  obtain ⟨W3, hW3⟩ : ∃ V, V = w2.alloc (.cells #[.int .i64 k.op, .string k.nm, .int .i64 k.day, .slice k.A k.ps.length k.cap] 26) := ⟨_, rfl⟩
  have hb3 : Below w2.heap.size w2 W3 := by rw [hW3]; exact below1 _ _
  have M3 := Lib.hid ((M0.out.trans hm2).trans (Mv.of_below hb3))
  have P3 := Lib.hid ((P0.out.mv hm2 (by omega)).on hb3)
  have C3 : Hid (B4 w2.heap.size W3 (.int .i64 k.op) (.string k.nm) (.int .i64 k.day) (.slice k.A k.ps.length k.cap)) := Lib.hid (by rw [hW3]; exact B4.new _ _ _ _ _ _)
  have K3 := Lib.hid (hwk.on hb3)
  have R3 := Lib.hid (hrr.on hb3)
  have G3 : Hid (∀ x ∈ k.blocks, X.heap.size ≤ x ∧ x < w2.heap.size) := Lib.hid fun x hx => ⟨hge x hx, hwk.lt x hx⟩
  have Q3 := Lib.hid hk
  have BW3 : Hid (Below W.heap.size W W3) := Lib.hid (hW2.trans (hb3.mono hW2.size))
  have S3 : Hid (X.heap.size ≤ w2.heap.size ∧ w2.heap.size < W3.heap.size) := Lib.hid ⟨hm2.size, C3.out.lt⟩
  have HSA := skip b (L - qa.size) r1 ⟨#[32, 97, 110, 100, 32]⟩ W3 R3.out
  rw [show (⟨#[32, 97, 110, 100, 32]⟩ : ByteArray).data.toList = wAnd from rfl, hA, show trim wAnd r1 = r1.drop 5 by rw [trim, hA]; rfl] at HSA
  obtain ⟨W4, hW4⟩ : ∃ V, V = W3.setCell ⟨b, 0, none⟩ (.string (ba (r1.drop 5))) := ⟨_, rfl⟩
  have R4 : Hid (Rr b W4 (r1.drop 5) (L - qa.size)) := Lib.hid (by rw [hW4]; exact R3.out.set0 _)
  have mv4 : Mv (· = b) (· = b) W3 W4 := by rw [hW4]; exact mv_set b 0 W3 _
  have BW4 : Hid (Below W.heap.size W W4) := Lib.hid (by rw [hW4]; exact BW3.out.setCell (p := ⟨b, 0, none⟩) hbW _)
  have HW3 := Lib.hid hW3
  have HW4 := Lib.hid hW4
  have HSAH := Lib.hid HSA
  have MV := Lib.hid mv4
  have RV := R4
  have BV := BW4
  clear hW3 hW4 hb3 hm2 hk hwk hge hrr hW2 HSA mv4 HRD
  go_wp2_with (go_at_call 50; (try rw [← HW3.out]); refine HSAH.out.mono ?_; rintro e w' ⟨rfl, rfl⟩; (try rw [← HW4.out]); refine Hid.out ?_)
  refine Lib.hid ?_
  have HR2 := Lib.hid (HSU.out.good (r1.drop 5) (L - qa.size) qb r2 W4 h2 hqb (by omega) (by rw [List.length_drop]; omega) RV.out BV.out)
  go_wp2_with (go_at_call 28; (try rw [← HW4.out]); refine HR2.out.mono ?_; rintro e w6 ⟨hm6, kc, rfl, hkc, hwc, hgc, hrc⟩; refine Hid.out ?_)
  refine Lib.hid ?_
  obtain ⟨W7, hW7⟩ : ∃ V, V = w6.alloc (.cells #[.int .i64 kc.op, .string kc.nm, .int .i64 kc.day, .slice kc.A kc.ps.length kc.cap] 26) := ⟨_, rfl⟩
  have hb7 : Below w6.heap.size w6 W7 := by rw [hW7]; exact below1 _ _
  have mv37 : Mv (· = b) (· = b) W3 W7 := (MV.out.trans hm6).trans (Mv.of_below hb7)
  have M7 := Lib.hid (M3.out.trans mv37)
  have P2 := Lib.hid (P3.out.mv mv37 (by omega))
  have C7 := Lib.hid (C3.out.mv mv37 (by have := S3.out; have := SX.out; omega))
  have D7 : Hid (B4 w6.heap.size W7 (.int .i64 kc.op) (.string kc.nm) (.int .i64 kc.day) (.slice kc.A kc.ps.length kc.cap)) := Lib.hid (by rw [hW7]; exact B4.new _ _ _ _ _ _)
  have K7 := Lib.hid (K3.out.mv mv37 (fun h => by have := (G3.out _ h).1; have := SX.out; omega))
  have L7 := Lib.hid (hwc.on hb7)
  have GC : Hid (∀ x ∈ kc.blocks, W3.heap.size ≤ x) := Lib.hid fun x hx => by have := hgc x hx; have := MV.out.size; omega
  have QC := Lib.hid hkc
  have R7 := Lib.hid (hrc.on hb7)
  have HSE : Hid (∀ v, Below W7.heap.size W7 v → Calls Tryz.prog 50 #[.pointer (some ⟨b, 0, none⟩), .string ⟨#[41]⟩] v fun e w' => e = .returned (.bool true) ∧ v.setCell ⟨b, 0, none⟩ (.string (ba (r2.tail))) = w') := Lib.hid fun v hv => by
    have := skip b (L - qa.size - qb.size) r2 ⟨#[41]⟩ v (R7.out.on hv)
    rw [show (⟨#[41]⟩ : ByteArray).data.toList = wEnd from rfl, hE, show trim wEnd r2 = r2.tail by rw [trim, hE, ← List.drop_one]; rfl] at this
    exact this
  obtain ⟨V7, hV7⟩ : ∃ V, V = W7.setCell ⟨b, 0, none⟩ (.string (ba (r2.tail))) := ⟨_, rfl⟩
  have mv77 : Mv (· = b) (· = b) W7 V7 := by rw [hV7]; exact mv_set b 0 W7 _
  have MF := Lib.hid (M7.out.trans mv77)
  have HF : Hid (∀ x0 x1 x2 x3, PG b (.and qa qb) r2.tail (L - qa.size - qb.size) w (.returned (.tuple #[(K.mk 5 .empty 0 (some ⟨V7.heap.size, 0, none⟩) 2 [k, kc]).val, .bool true])) (((Cond.put4 V7 w.heap.size 0 x0 x1 x2 x3).alloc (.cells #[.int .i64 k.op, .string k.nm, .int .i64 k.day, .slice k.A k.ps.length k.cap, .int .i64 kc.op, .string kc.nm, .int .i64 kc.day, .slice kc.A kc.ps.length kc.cap] 26)).drew)) := Lib.hid fun x0 x1 x2 x3 => PG.drew (pg_pair (S := X.heap.size) (qa := qa) (qb := qb) (.inl ⟨rfl, rfl⟩) MF.out Q3.out QC.out (K7.out.mv mv77 (fun h => by have := (G3.out _ h).1; have := SX.out; omega)) (L7.out.mv mv77 (fun h => by have := GC.out _ h; have := S3.out; have := SX.out; omega)) (fun x hx hy => by have := (G3.out x hx).2; have := GC.out x hy; have := S3.out; omega) (fun x hx => (G3.out x hx).1) (fun x hx => by have := GC.out x hx; have := S3.out; omega) (by rw [hV7]; exact R7.out.set0 _) (Nat.le_refl _) SX.out hbw)
  have SV : Hid (V7.heap.size = W7.heap.size) := Lib.hid (by rw [hV7]; simp)
  have PV := Lib.hid (P2.out.mv mv77 (by omega))
  have HV7 := Lib.hid hV7
  have HW7 := Lib.hid hW7
  obtain ⟨_, p0, p1, p2, p3, pf⟩ := P2.out
  have pf0 := pf 0
  have pf1 := pf 1
  have pf2 := pf 2
  have pf3 := pf 3
  clear pf
  obtain ⟨_, c0, c1, c2, c3, _⟩ := C7.out
  obtain ⟨_, d0, d1, d2, d3, _⟩ := D7.out
  have l1 : w2.heap.size < W7.heap.size := C7.out.lt
  have l2 : w6.heap.size < W7.heap.size := D7.out.lt
  have l3 : w.heap.size < W7.heap.size := P2.out.lt
  have rf0 := R7.out.fz 0
  have rc0 := R7.out.c0
  have l4 : b < W7.heap.size := R7.out.lt
  have nb : ¬ b = w.heap.size := by omega
  have nb2 : ¬ b = w2.heap.size := by have := S3.out; have := SX.out; omega
  have nb3 : ¬ b = w6.heap.size := by have := S3.out; have := SX.out; have := MV.out.size; have := hm6.size; omega
  have nw2 : ¬ w2.heap.size = w.heap.size := by have := S3.out; have := SX.out; omega
  have nw3 : ¬ w6.heap.size = w.heap.size := by have := S3.out; have := SX.out; have := MV.out.size; have := hm6.size; omega
  have nc : ¬ w.heap.size = b := fun e => nb e.symm
  have nc2 : ¬ w2.heap.size = b := fun e => nb2 e.symm
  have nc3 : ¬ w6.heap.size = b := fun e => nb3 e.symm
  clear hm6 hkc hwc hgc hrc hb7 mv37 mv77 hV7 hW7
  go_wp2_with fail
  rw [← HW7.out]
  have KX : Hid (∀ v, Sm W7 w2.heap.size w6.heap.size v → (v.cell? ⟨w2.heap.size, 0, none⟩ = some (.int .i64 k.op) ∧ v.cell? ⟨w2.heap.size, 1, none⟩ = some (.string k.nm) ∧ v.cell? ⟨w2.heap.size, 2, none⟩ = some (.int .i64 k.day) ∧ v.cell? ⟨w2.heap.size, 3, none⟩ = some (.slice k.A k.ps.length k.cap)) ∧ v.cell? ⟨w6.heap.size, 0, none⟩ = some (.int .i64 kc.op) ∧ v.cell? ⟨w6.heap.size, 1, none⟩ = some (.string kc.nm) ∧ v.cell? ⟨w6.heap.size, 2, none⟩ = some (.int .i64 kc.day) ∧ v.cell? ⟨w6.heap.size, 3, none⟩ = some (.slice kc.A kc.ps.length kc.cap)) := Lib.hid fun v hv => by
    have cc : ∀ o, v.cell? ⟨w2.heap.size, o, none⟩ = W7.cell? ⟨w2.heap.size, o, none⟩ := fun o => World.cell?_of_block (a := ⟨w2.heap.size, o, none⟩) hv.1
    have dd : ∀ o, v.cell? ⟨w6.heap.size, o, none⟩ = W7.cell? ⟨w6.heap.size, o, none⟩ := fun o => World.cell?_of_block (a := ⟨w6.heap.size, o, none⟩) hv.2.1
    exact ⟨⟨(cc 0).trans C7.out.c0, (cc 1).trans C7.out.c1, (cc 2).trans C7.out.c2, (cc 3).trans C7.out.c3⟩, (dd 0).trans D7.out.c0, (dd 1).trans D7.out.c1, (dd 2).trans D7.out.c2, (dd 3).trans D7.out.c3⟩
  have SM0 : Hid (Sm W7 w2.heap.size w6.heap.size W7) := Lib.hid ⟨rfl, rfl, l1, l2⟩
  go_region_held3 (fun v => (v.cell? ⟨w2.heap.size, 0, none⟩ = some (.int .i64 k.op) ∧ v.cell? ⟨w2.heap.size, 1, none⟩ = some (.string k.nm) ∧ v.cell? ⟨w2.heap.size, 2, none⟩ = some (.int .i64 k.day) ∧ v.cell? ⟨w2.heap.size, 3, none⟩ = some (.slice k.A k.ps.length k.cap)) ∧ v.cell? ⟨w6.heap.size, 0, none⟩ = some (.int .i64 kc.op) ∧ v.cell? ⟨w6.heap.size, 1, none⟩ = some (.string kc.nm) ∧ v.cell? ⟨w6.heap.size, 2, none⟩ = some (.int .i64 kc.day) ∧ v.cell? ⟨w6.heap.size, 3, none⟩ = some (.slice kc.A kc.ps.length kc.cap)) (first | (refine KX.out _ ?_; (repeat (first | with_reducible exact SM0.out | with_reducible apply Sm.drew | with_reducible apply Sm.alloc | (with_reducible refine Sm.set ?_ nc2 nc3 _) | (with_reducible refine Sm.set ?_ nw2 nw3 _))); done))
    (first
      | (go_at_call 50; (with_reducible refine (HSE.out _ (by (repeat (first | exact Below.refl _ _ | exact below1 _ _ | apply Below.drew)))).mono ?_); rintro e w' ⟨rfl, rfl⟩))
  all_goals go_wp2_with fail
  all_goals (obtain ⟨_, t0, t1, t2, t3, _⟩ := ((PV.out.put (.int .i64 5) (.string ⟨#[]⟩) (.int .i64 0) (.slice (some ⟨W7.heap.size, 0, none⟩) 2 2)).alloc (.cells #[.int .i64 k.op, .string k.nm, .int .i64 k.day, .slice k.A k.ps.length k.cap, .int .i64 kc.op, .string kc.nm, .int .i64 kc.day, .slice kc.A kc.ps.length kc.cap] 26)).on (drew_below _ _))
  all_goals (have hf := HF.out (.int .i64 5) (.string ⟨#[]⟩) (.int .i64 0) (.slice (some ⟨W7.heap.size, 0, none⟩) 2 2))
  all_goals (rw [SV.out] at hf)
  all_goals (rw [HV7.out] at t0 t1 t2 t3 hf)
  all_goals (simp only [Cond.put4] at t0 t1 t2 t3 hf)
  all_goals exact bodyPost_ret (v := .tuple #[(K.mk 5 .empty 0 (some ⟨W7.heap.size, 0, none⟩) 2 [k, kc]).val, .bool true]) (by simp [results, Tryz.results51, go_sem, t0, t1, t2, t3]; first | done | exact ⟨rfl, rfl, rfl, rfl, rfl, rfl⟩) rfl hf

set_option maxRecDepth 100000 in
set_option maxHeartbeats 8000000 in
theorem andOpen {dt : List UInt8 → Option Int} {n b : Nat} {W : World} (hS : Sub dt n b W) (hbW : W.heap.size ≤ b) (l : List UInt8) (L : Nat) (w : World) (qa : Q) (r1 : List UInt8) (hr : rd dt n l = some (qa, r1)) (hqa : qa.size ≤ L) (hr1 : r1.length < l.length) (hA : st wAnd r1 = true) (qb : Q) (r2 : List UInt8) (h2 : rd dt n (r1.drop 5) = some (qb, r2)) (hqb : qb.size ≤ L - qa.size) (hE : st wEnd r2 = false) (hL : L ≤ 15) (hl : l.length < n) (h : Rr b w l L) (hW : Below W.heap.size W w) :
    Calls Tryz.prog 51 #[.pointer (some ⟨b, 0, none⟩)] w (PB b w) := by
  obtain ⟨X, hX⟩ : ∃ X, X = w.alloc (.cells #[.int .i64 0, .string ⟨#[]⟩, .int .i64 0, .slice none 0 0] 26) := ⟨_, rfl⟩
  have b0 : Below w.heap.size w X := by rw [hX]; exact below1 _ _
  have P0 : Hid (B4 w.heap.size X (.int .i64 0) (.string ⟨#[]⟩) (.int .i64 0) (.slice none 0 0)) := Lib.hid (by rw [hX]; exact B4.new _ _ _ _ _ _)
  have HRD := Lib.hid (hS.good l L qa r1 X hr hqa hL hl (h.on b0) (hW.trans (b0.mono hW.size)))
  have hbw : b < w.heap.size := h.lt
  have M0 : Hid (Mv (· = b) (· = b) w X) := Lib.hid (Mv.of_below b0)
  have WX : Hid (Below W.heap.size W X) := Lib.hid (hW.trans (b0.mono hW.size))
  have SX : Hid (w.heap.size < X.heap.size) := Lib.hid P0.out.lt
  have HSU := Lib.hid hS
  have HXX := Lib.hid hX
  clear hX b0 hr h hW hS
  go_enter Tryz.func51, Tryz.ntmps51
  go_wp2_with (go_at_call 28; (try rw [← HXX.out]); refine HRD.out.mono ?_; rintro e w2 ⟨hm2, k, rfl, hk, hwk, hge, hrr⟩; refine Hid.out ?_)
  refine Lib.hid ?_
  have hW2 : Below W.heap.size W w2 := WX.out.trans (hm2.below (fun x hx => by rw [hx]; exact hbW) WX.out.size)
  obtain ⟨W3, hW3⟩ : ∃ V, V = w2.alloc (.cells #[.int .i64 k.op, .string k.nm, .int .i64 k.day, .slice k.A k.ps.length k.cap] 26) := ⟨_, rfl⟩
  have hb3 : Below w2.heap.size w2 W3 := by rw [hW3]; exact below1 _ _
  have M3 := Lib.hid ((M0.out.trans hm2).trans (Mv.of_below hb3))
  have P3 := Lib.hid ((P0.out.mv hm2 (by omega)).on hb3)
  have C3 : Hid (B4 w2.heap.size W3 (.int .i64 k.op) (.string k.nm) (.int .i64 k.day) (.slice k.A k.ps.length k.cap)) := Lib.hid (by rw [hW3]; exact B4.new _ _ _ _ _ _)
  have K3 := Lib.hid (hwk.on hb3)
  have R3 := Lib.hid (hrr.on hb3)
  have G3 : Hid (∀ x ∈ k.blocks, X.heap.size ≤ x ∧ x < w2.heap.size) := Lib.hid fun x hx => ⟨hge x hx, hwk.lt x hx⟩
  have Q3 := Lib.hid hk
  have BW3 : Hid (Below W.heap.size W W3) := Lib.hid (hW2.trans (hb3.mono hW2.size))
  have S3 : Hid (X.heap.size ≤ w2.heap.size ∧ w2.heap.size < W3.heap.size) := Lib.hid ⟨hm2.size, C3.out.lt⟩
  have HSA := skip b (L - qa.size) r1 ⟨#[32, 97, 110, 100, 32]⟩ W3 R3.out
  rw [show (⟨#[32, 97, 110, 100, 32]⟩ : ByteArray).data.toList = wAnd from rfl, hA, show trim wAnd r1 = r1.drop 5 by rw [trim, hA]; rfl] at HSA
  obtain ⟨W4, hW4⟩ : ∃ V, V = W3.setCell ⟨b, 0, none⟩ (.string (ba (r1.drop 5))) := ⟨_, rfl⟩
  have R4 : Hid (Rr b W4 (r1.drop 5) (L - qa.size)) := Lib.hid (by rw [hW4]; exact R3.out.set0 _)
  have mv4 : Mv (· = b) (· = b) W3 W4 := by rw [hW4]; exact mv_set b 0 W3 _
  have BW4 : Hid (Below W.heap.size W W4) := Lib.hid (by rw [hW4]; exact BW3.out.setCell (p := ⟨b, 0, none⟩) hbW _)
  have HW3 := Lib.hid hW3
  have HW4 := Lib.hid hW4
  have HSAH := Lib.hid HSA
  have MV := Lib.hid mv4
  have RV := R4
  have BV := BW4
  clear hW3 hW4 hb3 hm2 hk hwk hge hrr hW2 HSA mv4 HRD
  go_wp2_with (go_at_call 50; (try rw [← HW3.out]); refine HSAH.out.mono ?_; rintro e w' ⟨rfl, rfl⟩; (try rw [← HW4.out]); refine Hid.out ?_)
  refine Lib.hid ?_
  have HR2 := Lib.hid (HSU.out.good (r1.drop 5) (L - qa.size) qb r2 W4 h2 hqb (by omega) (by rw [List.length_drop]; omega) RV.out BV.out)
  go_wp2_with (go_at_call 28; (try rw [← HW4.out]); refine HR2.out.mono ?_; rintro e w6 ⟨hm6, kc, rfl, hkc, hwc, hgc, hrc⟩; refine Hid.out ?_)
  refine Lib.hid ?_
  obtain ⟨W7, hW7⟩ : ∃ V, V = w6.alloc (.cells #[.int .i64 kc.op, .string kc.nm, .int .i64 kc.day, .slice kc.A kc.ps.length kc.cap] 26) := ⟨_, rfl⟩
  have hb7 : Below w6.heap.size w6 W7 := by rw [hW7]; exact below1 _ _
  have mv37 : Mv (· = b) (· = b) W3 W7 := (MV.out.trans hm6).trans (Mv.of_below hb7)
  have M7 := Lib.hid (M3.out.trans mv37)
  have P2 := Lib.hid (P3.out.mv mv37 (by omega))
  have C7 := Lib.hid (C3.out.mv mv37 (by have := S3.out; have := SX.out; omega))
  have D7 : Hid (B4 w6.heap.size W7 (.int .i64 kc.op) (.string kc.nm) (.int .i64 kc.day) (.slice kc.A kc.ps.length kc.cap)) := Lib.hid (by rw [hW7]; exact B4.new _ _ _ _ _ _)
  have K7 := Lib.hid (K3.out.mv mv37 (fun h => by have := (G3.out _ h).1; have := SX.out; omega))
  have L7 := Lib.hid (hwc.on hb7)
  have GC : Hid (∀ x ∈ kc.blocks, W3.heap.size ≤ x) := Lib.hid fun x hx => by have := hgc x hx; have := MV.out.size; omega
  have QC := Lib.hid hkc
  have R7 := Lib.hid (hrc.on hb7)
  have HSE : Hid (∀ v, Below W7.heap.size W7 v → Calls Tryz.prog 50 #[.pointer (some ⟨b, 0, none⟩), .string ⟨#[41]⟩] v fun e w' => e = .returned (.bool false) ∧ v.setCell ⟨b, 0, none⟩ (.string (ba (r2))) = w') := Lib.hid fun v hv => by
    have := skip b (L - qa.size - qb.size) r2 ⟨#[41]⟩ v (R7.out.on hv)
    rw [show (⟨#[41]⟩ : ByteArray).data.toList = wEnd from rfl, hE, show trim wEnd r2 = r2 by rw [trim, hE]; rfl] at this
    exact this
  obtain ⟨V7, hV7⟩ : ∃ V, V = W7.setCell ⟨b, 0, none⟩ (.string (ba (r2))) := ⟨_, rfl⟩
  have mv77 : Mv (· = b) (· = b) W7 V7 := by rw [hV7]; exact mv_set b 0 W7 _
  have MF := Lib.hid (M7.out.trans mv77)
  have HF : Hid (∀ x0 x1 x2 x3, PB b w (.returned (.tuple #[(K.mk 5 .empty 0 (some ⟨V7.heap.size, 0, none⟩) 2 [k, kc]).val, .bool false])) (((Cond.put4 V7 w.heap.size 0 x0 x1 x2 x3).alloc (.cells #[.int .i64 k.op, .string k.nm, .int .i64 k.day, .slice k.A k.ps.length k.cap, .int .i64 kc.op, .string kc.nm, .int .i64 kc.day, .slice kc.A kc.ps.length kc.cap] 26)).drew)) := Lib.hid fun x0 x1 x2 x3 => PB.drew ⟨(MF.out.put4 (Nat.le_refl _)).alloc _, _, rfl⟩
  have SV : Hid (V7.heap.size = W7.heap.size) := Lib.hid (by rw [hV7]; simp)
  have PV := Lib.hid (P2.out.mv mv77 (by omega))
  have HV7 := Lib.hid hV7
  have HW7 := Lib.hid hW7
  obtain ⟨_, p0, p1, p2, p3, pf⟩ := P2.out
  have pf0 := pf 0
  have pf1 := pf 1
  have pf2 := pf 2
  have pf3 := pf 3
  clear pf
  obtain ⟨_, c0, c1, c2, c3, _⟩ := C7.out
  obtain ⟨_, d0, d1, d2, d3, _⟩ := D7.out
  have l1 : w2.heap.size < W7.heap.size := C7.out.lt
  have l2 : w6.heap.size < W7.heap.size := D7.out.lt
  have l3 : w.heap.size < W7.heap.size := P2.out.lt
  have rf0 := R7.out.fz 0
  have rc0 := R7.out.c0
  have l4 : b < W7.heap.size := R7.out.lt
  have nb : ¬ b = w.heap.size := by omega
  have nb2 : ¬ b = w2.heap.size := by have := S3.out; have := SX.out; omega
  have nb3 : ¬ b = w6.heap.size := by have := S3.out; have := SX.out; have := MV.out.size; have := hm6.size; omega
  have nw2 : ¬ w2.heap.size = w.heap.size := by have := S3.out; have := SX.out; omega
  have nw3 : ¬ w6.heap.size = w.heap.size := by have := S3.out; have := SX.out; have := MV.out.size; have := hm6.size; omega
  have nc : ¬ w.heap.size = b := fun e => nb e.symm
  have nc2 : ¬ w2.heap.size = b := fun e => nb2 e.symm
  have nc3 : ¬ w6.heap.size = b := fun e => nb3 e.symm
  clear hm6 hkc hwc hgc hrc hb7 mv37 mv77 hV7 hW7
  go_wp2_with fail
  rw [← HW7.out]
  have KX : Hid (∀ v, Sm W7 w2.heap.size w6.heap.size v → (v.cell? ⟨w2.heap.size, 0, none⟩ = some (.int .i64 k.op) ∧ v.cell? ⟨w2.heap.size, 1, none⟩ = some (.string k.nm) ∧ v.cell? ⟨w2.heap.size, 2, none⟩ = some (.int .i64 k.day) ∧ v.cell? ⟨w2.heap.size, 3, none⟩ = some (.slice k.A k.ps.length k.cap)) ∧ v.cell? ⟨w6.heap.size, 0, none⟩ = some (.int .i64 kc.op) ∧ v.cell? ⟨w6.heap.size, 1, none⟩ = some (.string kc.nm) ∧ v.cell? ⟨w6.heap.size, 2, none⟩ = some (.int .i64 kc.day) ∧ v.cell? ⟨w6.heap.size, 3, none⟩ = some (.slice kc.A kc.ps.length kc.cap)) := Lib.hid fun v hv => by
    have cc : ∀ o, v.cell? ⟨w2.heap.size, o, none⟩ = W7.cell? ⟨w2.heap.size, o, none⟩ := fun o => World.cell?_of_block (a := ⟨w2.heap.size, o, none⟩) hv.1
    have dd : ∀ o, v.cell? ⟨w6.heap.size, o, none⟩ = W7.cell? ⟨w6.heap.size, o, none⟩ := fun o => World.cell?_of_block (a := ⟨w6.heap.size, o, none⟩) hv.2.1
    exact ⟨⟨(cc 0).trans C7.out.c0, (cc 1).trans C7.out.c1, (cc 2).trans C7.out.c2, (cc 3).trans C7.out.c3⟩, (dd 0).trans D7.out.c0, (dd 1).trans D7.out.c1, (dd 2).trans D7.out.c2, (dd 3).trans D7.out.c3⟩
  have SM0 : Hid (Sm W7 w2.heap.size w6.heap.size W7) := Lib.hid ⟨rfl, rfl, l1, l2⟩
  go_region_held3 (fun v => (v.cell? ⟨w2.heap.size, 0, none⟩ = some (.int .i64 k.op) ∧ v.cell? ⟨w2.heap.size, 1, none⟩ = some (.string k.nm) ∧ v.cell? ⟨w2.heap.size, 2, none⟩ = some (.int .i64 k.day) ∧ v.cell? ⟨w2.heap.size, 3, none⟩ = some (.slice k.A k.ps.length k.cap)) ∧ v.cell? ⟨w6.heap.size, 0, none⟩ = some (.int .i64 kc.op) ∧ v.cell? ⟨w6.heap.size, 1, none⟩ = some (.string kc.nm) ∧ v.cell? ⟨w6.heap.size, 2, none⟩ = some (.int .i64 kc.day) ∧ v.cell? ⟨w6.heap.size, 3, none⟩ = some (.slice kc.A kc.ps.length kc.cap)) (first | (refine KX.out _ ?_; (repeat (first | with_reducible exact SM0.out | with_reducible apply Sm.drew | with_reducible apply Sm.alloc | (with_reducible refine Sm.set ?_ nc2 nc3 _) | (with_reducible refine Sm.set ?_ nw2 nw3 _))); done))
    (first
      | (go_at_call 50; (with_reducible refine (HSE.out _ (by (repeat (first | exact Below.refl _ _ | exact below1 _ _ | apply Below.drew)))).mono ?_); rintro e w' ⟨rfl, rfl⟩))
  all_goals go_wp2_with fail
  all_goals (obtain ⟨_, t0, t1, t2, t3, _⟩ := ((PV.out.put (.int .i64 5) (.string ⟨#[]⟩) (.int .i64 0) (.slice (some ⟨W7.heap.size, 0, none⟩) 2 2)).alloc (.cells #[.int .i64 k.op, .string k.nm, .int .i64 k.day, .slice k.A k.ps.length k.cap, .int .i64 kc.op, .string kc.nm, .int .i64 kc.day, .slice kc.A kc.ps.length kc.cap] 26)).on (drew_below _ _))
  all_goals (have hf := HF.out (.int .i64 5) (.string ⟨#[]⟩) (.int .i64 0) (.slice (some ⟨W7.heap.size, 0, none⟩) 2 2))
  all_goals (rw [SV.out] at hf)
  all_goals (rw [HV7.out] at t0 t1 t2 t3 hf)
  all_goals (simp only [Cond.put4] at t0 t1 t2 t3 hf)
  all_goals exact bodyPost_ret (v := .tuple #[(K.mk 5 .empty 0 (some ⟨W7.heap.size, 0, none⟩) 2 [k, kc]).val, .bool false]) (by simp [results, Tryz.results51, go_sem, t0, t1, t2, t3]; first | done | exact ⟨rfl, rfl, rfl, rfl, rfl, rfl⟩) rfl hf

set_option maxRecDepth 100000 in
set_option maxHeartbeats 8000000 in
theorem andBad {dt : List UInt8 → Option Int} {n b : Nat} {W : World} (hS : Sub dt n b W) (hbW : W.heap.size ≤ b) (l : List UInt8) (L : Nat) (w : World) (qa : Q) (r1 : List UInt8) (hr : rd dt n l = some (qa, r1)) (hqa : qa.size ≤ L) (hr1 : r1.length < l.length) (hA : st wAnd r1 = true) (h2 : ∀ q r, rd dt n (r1.drop 5) = some (q, r) → L - qa.size < q.size) (hL : L ≤ 15) (hl : l.length < n) (h : Rr b w l L) (hW : Below W.heap.size W w) :
    Calls Tryz.prog 51 #[.pointer (some ⟨b, 0, none⟩)] w (PB b w) := by
  obtain ⟨X, hX⟩ : ∃ X, X = w.alloc (.cells #[.int .i64 0, .string ⟨#[]⟩, .int .i64 0, .slice none 0 0] 26) := ⟨_, rfl⟩
  have b0 : Below w.heap.size w X := by rw [hX]; exact below1 _ _
  have P0 : Hid (B4 w.heap.size X (.int .i64 0) (.string ⟨#[]⟩) (.int .i64 0) (.slice none 0 0)) := Lib.hid (by rw [hX]; exact B4.new _ _ _ _ _ _)
  have HRD := Lib.hid (hS.good l L qa r1 X hr hqa hL hl (h.on b0) (hW.trans (b0.mono hW.size)))
  have hbw : b < w.heap.size := h.lt
  have M0 : Hid (Mv (· = b) (· = b) w X) := Lib.hid (Mv.of_below b0)
  have WX : Hid (Below W.heap.size W X) := Lib.hid (hW.trans (b0.mono hW.size))
  have SX : Hid (w.heap.size < X.heap.size) := Lib.hid P0.out.lt
  have HSU := Lib.hid hS
  have HXX := Lib.hid hX
  clear hX b0 hr h hW hS
  go_enter Tryz.func51, Tryz.ntmps51
  go_wp2_with (go_at_call 28; (try rw [← HXX.out]); refine HRD.out.mono ?_; rintro e w2 ⟨hm2, k, rfl, hk, hwk, hge, hrr⟩; refine Hid.out ?_)
  refine Lib.hid ?_
  have hW2 : Below W.heap.size W w2 := WX.out.trans (hm2.below (fun x hx => by rw [hx]; exact hbW) WX.out.size)
  obtain ⟨W3, hW3⟩ : ∃ V, V = w2.alloc (.cells #[.int .i64 k.op, .string k.nm, .int .i64 k.day, .slice k.A k.ps.length k.cap] 26) := ⟨_, rfl⟩
  have hb3 : Below w2.heap.size w2 W3 := by rw [hW3]; exact below1 _ _
  have M3 := Lib.hid ((M0.out.trans hm2).trans (Mv.of_below hb3))
  have P3 := Lib.hid ((P0.out.mv hm2 (by omega)).on hb3)
  have C3 : Hid (B4 w2.heap.size W3 (.int .i64 k.op) (.string k.nm) (.int .i64 k.day) (.slice k.A k.ps.length k.cap)) := Lib.hid (by rw [hW3]; exact B4.new _ _ _ _ _ _)
  have K3 := Lib.hid (hwk.on hb3)
  have R3 := Lib.hid (hrr.on hb3)
  have G3 : Hid (∀ x ∈ k.blocks, X.heap.size ≤ x ∧ x < w2.heap.size) := Lib.hid fun x hx => ⟨hge x hx, hwk.lt x hx⟩
  have Q3 := Lib.hid hk
  have BW3 : Hid (Below W.heap.size W W3) := Lib.hid (hW2.trans (hb3.mono hW2.size))
  have S3 : Hid (X.heap.size ≤ w2.heap.size ∧ w2.heap.size < W3.heap.size) := Lib.hid ⟨hm2.size, C3.out.lt⟩
  have HSA := skip b (L - qa.size) r1 ⟨#[32, 97, 110, 100, 32]⟩ W3 R3.out
  rw [show (⟨#[32, 97, 110, 100, 32]⟩ : ByteArray).data.toList = wAnd from rfl, hA, show trim wAnd r1 = r1.drop 5 by rw [trim, hA]; rfl] at HSA
  obtain ⟨W4, hW4⟩ : ∃ V, V = W3.setCell ⟨b, 0, none⟩ (.string (ba (r1.drop 5))) := ⟨_, rfl⟩
  have R4 : Hid (Rr b W4 (r1.drop 5) (L - qa.size)) := Lib.hid (by rw [hW4]; exact R3.out.set0 _)
  have mv4 : Mv (· = b) (· = b) W3 W4 := by rw [hW4]; exact mv_set b 0 W3 _
  have BW4 : Hid (Below W.heap.size W W4) := Lib.hid (by rw [hW4]; exact BW3.out.setCell (p := ⟨b, 0, none⟩) hbW _)
  have HW3 := Lib.hid hW3
  have HW4 := Lib.hid hW4
  have HSAH := Lib.hid HSA
  have MV := Lib.hid mv4
  have RV := R4
  have BV := BW4
  clear hW3 hW4 hb3 hm2 hk hwk hge hrr hW2 HSA mv4 HRD
  go_wp2_with (go_at_call 50; (try rw [← HW3.out]); refine HSAH.out.mono ?_; rintro e w' ⟨rfl, rfl⟩; (try rw [← HW4.out]); refine Hid.out ?_)
  refine Lib.hid ?_
  have HR2 := Lib.hid (HSU.out.bad (r1.drop 5) (L - qa.size) W4 h2 (by omega) (by rw [List.length_drop]; omega) RV.out BV.out)
  go_wp2_with (go_at_call 28; (try rw [← HW4.out]); refine HR2.out.mono ?_; rintro e w6 ⟨hm6, kc, rfl⟩; refine Hid.out ?_)
  refine Lib.hid ?_
  obtain ⟨W7, hW7⟩ : ∃ V, V = w6.alloc (.cells #[.int .i64 kc.op, .string kc.nm, .int .i64 kc.day, .slice kc.A kc.ps.length kc.cap] 26) := ⟨_, rfl⟩
  have hb7 : Below w6.heap.size w6 W7 := by rw [hW7]; exact below1 _ _
  have mv37 : Mv (· = b) (· = b) W3 W7 := (MV.out.trans hm6).trans (Mv.of_below hb7)
  have M7 := Lib.hid (M3.out.trans mv37)
  have P2 := Lib.hid (P3.out.mv mv37 (by omega))
  have C7 := Lib.hid (C3.out.mv mv37 (by have := S3.out; have := SX.out; omega))
  have D7 : Hid (B4 w6.heap.size W7 (.int .i64 kc.op) (.string kc.nm) (.int .i64 kc.day) (.slice kc.A kc.ps.length kc.cap)) := Lib.hid (by rw [hW7]; exact B4.new _ _ _ _ _ _)
  have HF : Hid (∀ x0 x1 x2 x3, PB b w (.returned (.tuple #[(K.mk 5 .empty 0 (some ⟨W7.heap.size, 0, none⟩) 2 [k, kc]).val, .bool false])) (((Cond.put4 W7 w.heap.size 0 x0 x1 x2 x3).alloc (.cells #[.int .i64 k.op, .string k.nm, .int .i64 k.day, .slice k.A k.ps.length k.cap, .int .i64 kc.op, .string kc.nm, .int .i64 kc.day, .slice kc.A kc.ps.length kc.cap] 26)).drew)) := Lib.hid fun x0 x1 x2 x3 => PB.drew ⟨(M7.out.put4 (Nat.le_refl _)).alloc _, _, rfl⟩
  have HW7 := Lib.hid hW7
  obtain ⟨_, p0, p1, p2, p3, pf⟩ := P2.out
  have pf0 := pf 0
  have pf1 := pf 1
  have pf2 := pf 2
  have pf3 := pf 3
  clear pf
  obtain ⟨_, c0, c1, c2, c3, _⟩ := C7.out
  obtain ⟨_, d0, d1, d2, d3, _⟩ := D7.out
  have l1 : w2.heap.size < W7.heap.size := C7.out.lt
  have l2 : w6.heap.size < W7.heap.size := D7.out.lt
  have l3 : w.heap.size < W7.heap.size := P2.out.lt
  clear hm6 hb7 mv37 hW7
  go_wp2_with fail
  rw [← HW7.out]
  first | (go_region_with (fail)) | fail
  all_goals go_wp2_with fail
  all_goals (obtain ⟨_, t0, t1, t2, t3, _⟩ := ((P2.out.put (.int .i64 5) (.string ⟨#[]⟩) (.int .i64 0) (.slice (some ⟨W7.heap.size, 0, none⟩) 2 2)).alloc (.cells #[.int .i64 k.op, .string k.nm, .int .i64 k.day, .slice k.A k.ps.length k.cap, .int .i64 kc.op, .string kc.nm, .int .i64 kc.day, .slice kc.A kc.ps.length kc.cap] 26)).on (drew_below _ _))
  all_goals (have hf := HF.out (.int .i64 5) (.string ⟨#[]⟩) (.int .i64 0) (.slice (some ⟨W7.heap.size, 0, none⟩) 2 2))
  all_goals (simp only [Cond.put4] at t0 t1 t2 t3 hf)
  all_goals exact bodyPost_ret (v := .tuple #[(K.mk 5 .empty 0 (some ⟨W7.heap.size, 0, none⟩) 2 [k, kc]).val, .bool false]) (by simp [results, Tryz.results51, go_sem, t0, t1, t2, t3]; first | done | exact ⟨rfl, rfl, rfl, rfl, rfl, rfl⟩) rfl hf

set_option maxRecDepth 100000 in
set_option maxHeartbeats 8000000 in
theorem orGood {dt : List UInt8 → Option Int} {n b : Nat} {W : World} (hS : Sub dt n b W) (hbW : W.heap.size ≤ b) (l : List UInt8) (L : Nat) (w : World) (qa : Q) (r1 : List UInt8) (hr : rd dt n l = some (qa, r1)) (hqa : qa.size ≤ L) (hr1 : r1.length < l.length) (hA : st wAnd r1 = false) (hO : st wOr r1 = true) (qb : Q) (r2 : List UInt8) (h2 : rd dt n (r1.drop 4) = some (qb, r2)) (hqb : qb.size ≤ L - qa.size) (hE : st wEnd r2 = true) (hL : L ≤ 15) (hl : l.length < n) (h : Rr b w l L) (hW : Below W.heap.size W w) :
    Calls Tryz.prog 51 #[.pointer (some ⟨b, 0, none⟩)] w (PG b (.or qa qb) (r2.drop 1) (L - qa.size - qb.size) w) := by
  rw [List.drop_one]
  obtain ⟨X, hX⟩ : ∃ X, X = w.alloc (.cells #[.int .i64 0, .string ⟨#[]⟩, .int .i64 0, .slice none 0 0] 26) := ⟨_, rfl⟩
  have b0 : Below w.heap.size w X := by rw [hX]; exact below1 _ _
  have P0 : Hid (B4 w.heap.size X (.int .i64 0) (.string ⟨#[]⟩) (.int .i64 0) (.slice none 0 0)) := Lib.hid (by rw [hX]; exact B4.new _ _ _ _ _ _)
  have HRD := Lib.hid (hS.good l L qa r1 X hr hqa hL hl (h.on b0) (hW.trans (b0.mono hW.size)))
  have hbw : b < w.heap.size := h.lt
  have M0 : Hid (Mv (· = b) (· = b) w X) := Lib.hid (Mv.of_below b0)
  have WX : Hid (Below W.heap.size W X) := Lib.hid (hW.trans (b0.mono hW.size))
  have SX : Hid (w.heap.size < X.heap.size) := Lib.hid P0.out.lt
  have HSU := Lib.hid hS
  have HXX := Lib.hid hX
  clear hX b0 hr h hW hS
  go_enter Tryz.func51, Tryz.ntmps51
  go_wp2_with (go_at_call 28; (try rw [← HXX.out]); refine HRD.out.mono ?_; rintro e w2 ⟨hm2, k, rfl, hk, hwk, hge, hrr⟩; refine Hid.out ?_)
  refine Lib.hid ?_
  have hW2 : Below W.heap.size W w2 := WX.out.trans (hm2.below (fun x hx => by rw [hx]; exact hbW) WX.out.size)
  obtain ⟨W3, hW3⟩ : ∃ V, V = w2.alloc (.cells #[.int .i64 k.op, .string k.nm, .int .i64 k.day, .slice k.A k.ps.length k.cap] 26) := ⟨_, rfl⟩
  have hb3 : Below w2.heap.size w2 W3 := by rw [hW3]; exact below1 _ _
  have M3 := Lib.hid ((M0.out.trans hm2).trans (Mv.of_below hb3))
  have P3 := Lib.hid ((P0.out.mv hm2 (by omega)).on hb3)
  have C3 : Hid (B4 w2.heap.size W3 (.int .i64 k.op) (.string k.nm) (.int .i64 k.day) (.slice k.A k.ps.length k.cap)) := Lib.hid (by rw [hW3]; exact B4.new _ _ _ _ _ _)
  have K3 := Lib.hid (hwk.on hb3)
  have R3 := Lib.hid (hrr.on hb3)
  have G3 : Hid (∀ x ∈ k.blocks, X.heap.size ≤ x ∧ x < w2.heap.size) := Lib.hid fun x hx => ⟨hge x hx, hwk.lt x hx⟩
  have Q3 := Lib.hid hk
  have BW3 : Hid (Below W.heap.size W W3) := Lib.hid (hW2.trans (hb3.mono hW2.size))
  have S3 : Hid (X.heap.size ≤ w2.heap.size ∧ w2.heap.size < W3.heap.size) := Lib.hid ⟨hm2.size, C3.out.lt⟩
  have HSA := skip b (L - qa.size) r1 ⟨#[32, 97, 110, 100, 32]⟩ W3 R3.out
  rw [show (⟨#[32, 97, 110, 100, 32]⟩ : ByteArray).data.toList = wAnd from rfl, hA, show trim wAnd r1 = r1 by rw [trim, hA]; rfl] at HSA
  obtain ⟨W4, hW4⟩ : ∃ V, V = W3.setCell ⟨b, 0, none⟩ (.string (ba (r1))) := ⟨_, rfl⟩
  have R4 : Hid (Rr b W4 (r1) (L - qa.size)) := Lib.hid (by rw [hW4]; exact R3.out.set0 _)
  have mv4 : Mv (· = b) (· = b) W3 W4 := by rw [hW4]; exact mv_set b 0 W3 _
  have BW4 : Hid (Below W.heap.size W W4) := Lib.hid (by rw [hW4]; exact BW3.out.setCell (p := ⟨b, 0, none⟩) hbW _)
  have HW3 := Lib.hid hW3
  have HW4 := Lib.hid hW4
  have HSAH := Lib.hid HSA
  have HSO := skip b (L - qa.size) r1 ⟨#[32, 111, 114, 32]⟩ W4 R4.out
  rw [show (⟨#[32, 111, 114, 32]⟩ : ByteArray).data.toList = wOr from rfl, hO, show trim wOr r1 = r1.drop 4 by rw [trim, hO]; rfl] at HSO
  obtain ⟨W5, hW5⟩ : ∃ V, V = W4.setCell ⟨b, 0, none⟩ (.string (ba (r1.drop 4))) := ⟨_, rfl⟩
  have RV : Hid (Rr b W5 (r1.drop 4) (L - qa.size)) := Lib.hid (by rw [hW5]; exact R4.out.set0 _)
  have MV : Hid (Mv (· = b) (· = b) W3 W5) := Lib.hid (mv4.trans (by rw [hW5]; exact mv_set b 0 W4 _))
  have BV : Hid (Below W.heap.size W W5) := Lib.hid (by rw [hW5]; exact BW4.out.setCell (p := ⟨b, 0, none⟩) hbW _)
  have HW5 := Lib.hid hW5
  have HSOH := Lib.hid HSO
  clear hW3 hW4 hW5 hb3 hm2 hk hwk hge hrr hW2 HSA HSO mv4 HRD
  go_wp2_with (go_at_call 50; (try rw [← HW3.out]); refine HSAH.out.mono ?_; rintro e w' ⟨rfl, rfl⟩; (try rw [← HW4.out]); refine Hid.out ?_)
  refine Lib.hid ?_
  go_wp2_with (go_at_call 50; (try rw [← HW4.out]); refine HSOH.out.mono ?_; rintro e w' ⟨rfl, rfl⟩; (try rw [← HW5.out]); refine Hid.out ?_)
  refine Lib.hid ?_
  have HR2 := Lib.hid (HSU.out.good (r1.drop 4) (L - qa.size) qb r2 W5 h2 hqb (by omega) (by rw [List.length_drop]; omega) RV.out BV.out)
  go_wp2_with (go_at_call 28; (try rw [← HW5.out]); refine HR2.out.mono ?_; rintro e w6 ⟨hm6, kc, rfl, hkc, hwc, hgc, hrc⟩; refine Hid.out ?_)
  refine Lib.hid ?_
  obtain ⟨W7, hW7⟩ : ∃ V, V = w6.alloc (.cells #[.int .i64 kc.op, .string kc.nm, .int .i64 kc.day, .slice kc.A kc.ps.length kc.cap] 26) := ⟨_, rfl⟩
  have hb7 : Below w6.heap.size w6 W7 := by rw [hW7]; exact below1 _ _
  have mv37 : Mv (· = b) (· = b) W3 W7 := (MV.out.trans hm6).trans (Mv.of_below hb7)
  have M7 := Lib.hid (M3.out.trans mv37)
  have P2 := Lib.hid (P3.out.mv mv37 (by omega))
  have C7 := Lib.hid (C3.out.mv mv37 (by have := S3.out; have := SX.out; omega))
  have D7 : Hid (B4 w6.heap.size W7 (.int .i64 kc.op) (.string kc.nm) (.int .i64 kc.day) (.slice kc.A kc.ps.length kc.cap)) := Lib.hid (by rw [hW7]; exact B4.new _ _ _ _ _ _)
  have K7 := Lib.hid (K3.out.mv mv37 (fun h => by have := (G3.out _ h).1; have := SX.out; omega))
  have L7 := Lib.hid (hwc.on hb7)
  have GC : Hid (∀ x ∈ kc.blocks, W3.heap.size ≤ x) := Lib.hid fun x hx => by have := hgc x hx; have := MV.out.size; omega
  have QC := Lib.hid hkc
  have R7 := Lib.hid (hrc.on hb7)
  have HSE : Hid (∀ v, Below W7.heap.size W7 v → Calls Tryz.prog 50 #[.pointer (some ⟨b, 0, none⟩), .string ⟨#[41]⟩] v fun e w' => e = .returned (.bool true) ∧ v.setCell ⟨b, 0, none⟩ (.string (ba (r2.tail))) = w') := Lib.hid fun v hv => by
    have := skip b (L - qa.size - qb.size) r2 ⟨#[41]⟩ v (R7.out.on hv)
    rw [show (⟨#[41]⟩ : ByteArray).data.toList = wEnd from rfl, hE, show trim wEnd r2 = r2.tail by rw [trim, hE, ← List.drop_one]; rfl] at this
    exact this
  obtain ⟨V7, hV7⟩ : ∃ V, V = W7.setCell ⟨b, 0, none⟩ (.string (ba (r2.tail))) := ⟨_, rfl⟩
  have mv77 : Mv (· = b) (· = b) W7 V7 := by rw [hV7]; exact mv_set b 0 W7 _
  have MF := Lib.hid (M7.out.trans mv77)
  have HF : Hid (∀ x0 x1 x2 x3, PG b (.or qa qb) r2.tail (L - qa.size - qb.size) w (.returned (.tuple #[(K.mk 6 .empty 0 (some ⟨V7.heap.size, 0, none⟩) 2 [k, kc]).val, .bool true])) (((Cond.put4 V7 w.heap.size 0 x0 x1 x2 x3).alloc (.cells #[.int .i64 k.op, .string k.nm, .int .i64 k.day, .slice k.A k.ps.length k.cap, .int .i64 kc.op, .string kc.nm, .int .i64 kc.day, .slice kc.A kc.ps.length kc.cap] 26)).drew)) := Lib.hid fun x0 x1 x2 x3 => PG.drew (pg_pair (S := X.heap.size) (qa := qa) (qb := qb) (.inr ⟨rfl, rfl⟩) MF.out Q3.out QC.out (K7.out.mv mv77 (fun h => by have := (G3.out _ h).1; have := SX.out; omega)) (L7.out.mv mv77 (fun h => by have := GC.out _ h; have := S3.out; have := SX.out; omega)) (fun x hx hy => by have := (G3.out x hx).2; have := GC.out x hy; have := S3.out; omega) (fun x hx => (G3.out x hx).1) (fun x hx => by have := GC.out x hx; have := S3.out; omega) (by rw [hV7]; exact R7.out.set0 _) (Nat.le_refl _) SX.out hbw)
  have SV : Hid (V7.heap.size = W7.heap.size) := Lib.hid (by rw [hV7]; simp)
  have PV := Lib.hid (P2.out.mv mv77 (by omega))
  have HV7 := Lib.hid hV7
  have HW7 := Lib.hid hW7
  obtain ⟨_, p0, p1, p2, p3, pf⟩ := P2.out
  have pf0 := pf 0
  have pf1 := pf 1
  have pf2 := pf 2
  have pf3 := pf 3
  clear pf
  obtain ⟨_, c0, c1, c2, c3, _⟩ := C7.out
  obtain ⟨_, d0, d1, d2, d3, _⟩ := D7.out
  have l1 : w2.heap.size < W7.heap.size := C7.out.lt
  have l2 : w6.heap.size < W7.heap.size := D7.out.lt
  have l3 : w.heap.size < W7.heap.size := P2.out.lt
  have rf0 := R7.out.fz 0
  have rc0 := R7.out.c0
  have l4 : b < W7.heap.size := R7.out.lt
  have nb : ¬ b = w.heap.size := by omega
  have nb2 : ¬ b = w2.heap.size := by have := S3.out; have := SX.out; omega
  have nb3 : ¬ b = w6.heap.size := by have := S3.out; have := SX.out; have := MV.out.size; have := hm6.size; omega
  have nw2 : ¬ w2.heap.size = w.heap.size := by have := S3.out; have := SX.out; omega
  have nw3 : ¬ w6.heap.size = w.heap.size := by have := S3.out; have := SX.out; have := MV.out.size; have := hm6.size; omega
  have nc : ¬ w.heap.size = b := fun e => nb e.symm
  have nc2 : ¬ w2.heap.size = b := fun e => nb2 e.symm
  have nc3 : ¬ w6.heap.size = b := fun e => nb3 e.symm
  clear hm6 hkc hwc hgc hrc hb7 mv37 mv77 hV7 hW7
  go_wp2_with fail
  rw [← HW7.out]
  have KX : Hid (∀ v, Sm W7 w2.heap.size w6.heap.size v → (v.cell? ⟨w2.heap.size, 0, none⟩ = some (.int .i64 k.op) ∧ v.cell? ⟨w2.heap.size, 1, none⟩ = some (.string k.nm) ∧ v.cell? ⟨w2.heap.size, 2, none⟩ = some (.int .i64 k.day) ∧ v.cell? ⟨w2.heap.size, 3, none⟩ = some (.slice k.A k.ps.length k.cap)) ∧ v.cell? ⟨w6.heap.size, 0, none⟩ = some (.int .i64 kc.op) ∧ v.cell? ⟨w6.heap.size, 1, none⟩ = some (.string kc.nm) ∧ v.cell? ⟨w6.heap.size, 2, none⟩ = some (.int .i64 kc.day) ∧ v.cell? ⟨w6.heap.size, 3, none⟩ = some (.slice kc.A kc.ps.length kc.cap)) := Lib.hid fun v hv => by
    have cc : ∀ o, v.cell? ⟨w2.heap.size, o, none⟩ = W7.cell? ⟨w2.heap.size, o, none⟩ := fun o => World.cell?_of_block (a := ⟨w2.heap.size, o, none⟩) hv.1
    have dd : ∀ o, v.cell? ⟨w6.heap.size, o, none⟩ = W7.cell? ⟨w6.heap.size, o, none⟩ := fun o => World.cell?_of_block (a := ⟨w6.heap.size, o, none⟩) hv.2.1
    exact ⟨⟨(cc 0).trans C7.out.c0, (cc 1).trans C7.out.c1, (cc 2).trans C7.out.c2, (cc 3).trans C7.out.c3⟩, (dd 0).trans D7.out.c0, (dd 1).trans D7.out.c1, (dd 2).trans D7.out.c2, (dd 3).trans D7.out.c3⟩
  have SM0 : Hid (Sm W7 w2.heap.size w6.heap.size W7) := Lib.hid ⟨rfl, rfl, l1, l2⟩
  go_region_held3 (fun v => (v.cell? ⟨w2.heap.size, 0, none⟩ = some (.int .i64 k.op) ∧ v.cell? ⟨w2.heap.size, 1, none⟩ = some (.string k.nm) ∧ v.cell? ⟨w2.heap.size, 2, none⟩ = some (.int .i64 k.day) ∧ v.cell? ⟨w2.heap.size, 3, none⟩ = some (.slice k.A k.ps.length k.cap)) ∧ v.cell? ⟨w6.heap.size, 0, none⟩ = some (.int .i64 kc.op) ∧ v.cell? ⟨w6.heap.size, 1, none⟩ = some (.string kc.nm) ∧ v.cell? ⟨w6.heap.size, 2, none⟩ = some (.int .i64 kc.day) ∧ v.cell? ⟨w6.heap.size, 3, none⟩ = some (.slice kc.A kc.ps.length kc.cap)) (first | (refine KX.out _ ?_; (repeat (first | with_reducible exact SM0.out | with_reducible apply Sm.drew | with_reducible apply Sm.alloc | (with_reducible refine Sm.set ?_ nc2 nc3 _) | (with_reducible refine Sm.set ?_ nw2 nw3 _))); done))
    (first
      | (go_at_call 50; (with_reducible refine (HSE.out _ (by (repeat (first | exact Below.refl _ _ | exact below1 _ _ | apply Below.drew)))).mono ?_); rintro e w' ⟨rfl, rfl⟩))
  all_goals go_wp2_with fail
  all_goals (obtain ⟨_, t0, t1, t2, t3, _⟩ := ((PV.out.put (.int .i64 6) (.string ⟨#[]⟩) (.int .i64 0) (.slice (some ⟨W7.heap.size, 0, none⟩) 2 2)).alloc (.cells #[.int .i64 k.op, .string k.nm, .int .i64 k.day, .slice k.A k.ps.length k.cap, .int .i64 kc.op, .string kc.nm, .int .i64 kc.day, .slice kc.A kc.ps.length kc.cap] 26)).on (drew_below _ _))
  all_goals (have hf := HF.out (.int .i64 6) (.string ⟨#[]⟩) (.int .i64 0) (.slice (some ⟨W7.heap.size, 0, none⟩) 2 2))
  all_goals (rw [SV.out] at hf)
  all_goals (rw [HV7.out] at t0 t1 t2 t3 hf)
  all_goals (simp only [Cond.put4] at t0 t1 t2 t3 hf)
  all_goals exact bodyPost_ret (v := .tuple #[(K.mk 6 .empty 0 (some ⟨W7.heap.size, 0, none⟩) 2 [k, kc]).val, .bool true]) (by simp [results, Tryz.results51, go_sem, t0, t1, t2, t3]; first | done | exact ⟨rfl, rfl, rfl, rfl, rfl, rfl⟩) rfl hf

set_option maxRecDepth 100000 in
set_option maxHeartbeats 8000000 in
theorem orOpen {dt : List UInt8 → Option Int} {n b : Nat} {W : World} (hS : Sub dt n b W) (hbW : W.heap.size ≤ b) (l : List UInt8) (L : Nat) (w : World) (qa : Q) (r1 : List UInt8) (hr : rd dt n l = some (qa, r1)) (hqa : qa.size ≤ L) (hr1 : r1.length < l.length) (hA : st wAnd r1 = false) (hO : st wOr r1 = true) (qb : Q) (r2 : List UInt8) (h2 : rd dt n (r1.drop 4) = some (qb, r2)) (hqb : qb.size ≤ L - qa.size) (hE : st wEnd r2 = false) (hL : L ≤ 15) (hl : l.length < n) (h : Rr b w l L) (hW : Below W.heap.size W w) :
    Calls Tryz.prog 51 #[.pointer (some ⟨b, 0, none⟩)] w (PB b w) := by
  obtain ⟨X, hX⟩ : ∃ X, X = w.alloc (.cells #[.int .i64 0, .string ⟨#[]⟩, .int .i64 0, .slice none 0 0] 26) := ⟨_, rfl⟩
  have b0 : Below w.heap.size w X := by rw [hX]; exact below1 _ _
  have P0 : Hid (B4 w.heap.size X (.int .i64 0) (.string ⟨#[]⟩) (.int .i64 0) (.slice none 0 0)) := Lib.hid (by rw [hX]; exact B4.new _ _ _ _ _ _)
  have HRD := Lib.hid (hS.good l L qa r1 X hr hqa hL hl (h.on b0) (hW.trans (b0.mono hW.size)))
  have hbw : b < w.heap.size := h.lt
  have M0 : Hid (Mv (· = b) (· = b) w X) := Lib.hid (Mv.of_below b0)
  have WX : Hid (Below W.heap.size W X) := Lib.hid (hW.trans (b0.mono hW.size))
  have SX : Hid (w.heap.size < X.heap.size) := Lib.hid P0.out.lt
  have HSU := Lib.hid hS
  have HXX := Lib.hid hX
  clear hX b0 hr h hW hS
  go_enter Tryz.func51, Tryz.ntmps51
  go_wp2_with (go_at_call 28; (try rw [← HXX.out]); refine HRD.out.mono ?_; rintro e w2 ⟨hm2, k, rfl, hk, hwk, hge, hrr⟩; refine Hid.out ?_)
  refine Lib.hid ?_
  have hW2 : Below W.heap.size W w2 := WX.out.trans (hm2.below (fun x hx => by rw [hx]; exact hbW) WX.out.size)
  obtain ⟨W3, hW3⟩ : ∃ V, V = w2.alloc (.cells #[.int .i64 k.op, .string k.nm, .int .i64 k.day, .slice k.A k.ps.length k.cap] 26) := ⟨_, rfl⟩
  have hb3 : Below w2.heap.size w2 W3 := by rw [hW3]; exact below1 _ _
  have M3 := Lib.hid ((M0.out.trans hm2).trans (Mv.of_below hb3))
  have P3 := Lib.hid ((P0.out.mv hm2 (by omega)).on hb3)
  have C3 : Hid (B4 w2.heap.size W3 (.int .i64 k.op) (.string k.nm) (.int .i64 k.day) (.slice k.A k.ps.length k.cap)) := Lib.hid (by rw [hW3]; exact B4.new _ _ _ _ _ _)
  have K3 := Lib.hid (hwk.on hb3)
  have R3 := Lib.hid (hrr.on hb3)
  have G3 : Hid (∀ x ∈ k.blocks, X.heap.size ≤ x ∧ x < w2.heap.size) := Lib.hid fun x hx => ⟨hge x hx, hwk.lt x hx⟩
  have Q3 := Lib.hid hk
  have BW3 : Hid (Below W.heap.size W W3) := Lib.hid (hW2.trans (hb3.mono hW2.size))
  have S3 : Hid (X.heap.size ≤ w2.heap.size ∧ w2.heap.size < W3.heap.size) := Lib.hid ⟨hm2.size, C3.out.lt⟩
  have HSA := skip b (L - qa.size) r1 ⟨#[32, 97, 110, 100, 32]⟩ W3 R3.out
  rw [show (⟨#[32, 97, 110, 100, 32]⟩ : ByteArray).data.toList = wAnd from rfl, hA, show trim wAnd r1 = r1 by rw [trim, hA]; rfl] at HSA
  obtain ⟨W4, hW4⟩ : ∃ V, V = W3.setCell ⟨b, 0, none⟩ (.string (ba (r1))) := ⟨_, rfl⟩
  have R4 : Hid (Rr b W4 (r1) (L - qa.size)) := Lib.hid (by rw [hW4]; exact R3.out.set0 _)
  have mv4 : Mv (· = b) (· = b) W3 W4 := by rw [hW4]; exact mv_set b 0 W3 _
  have BW4 : Hid (Below W.heap.size W W4) := Lib.hid (by rw [hW4]; exact BW3.out.setCell (p := ⟨b, 0, none⟩) hbW _)
  have HW3 := Lib.hid hW3
  have HW4 := Lib.hid hW4
  have HSAH := Lib.hid HSA
  have HSO := skip b (L - qa.size) r1 ⟨#[32, 111, 114, 32]⟩ W4 R4.out
  rw [show (⟨#[32, 111, 114, 32]⟩ : ByteArray).data.toList = wOr from rfl, hO, show trim wOr r1 = r1.drop 4 by rw [trim, hO]; rfl] at HSO
  obtain ⟨W5, hW5⟩ : ∃ V, V = W4.setCell ⟨b, 0, none⟩ (.string (ba (r1.drop 4))) := ⟨_, rfl⟩
  have RV : Hid (Rr b W5 (r1.drop 4) (L - qa.size)) := Lib.hid (by rw [hW5]; exact R4.out.set0 _)
  have MV : Hid (Mv (· = b) (· = b) W3 W5) := Lib.hid (mv4.trans (by rw [hW5]; exact mv_set b 0 W4 _))
  have BV : Hid (Below W.heap.size W W5) := Lib.hid (by rw [hW5]; exact BW4.out.setCell (p := ⟨b, 0, none⟩) hbW _)
  have HW5 := Lib.hid hW5
  have HSOH := Lib.hid HSO
  clear hW3 hW4 hW5 hb3 hm2 hk hwk hge hrr hW2 HSA HSO mv4 HRD
  go_wp2_with (go_at_call 50; (try rw [← HW3.out]); refine HSAH.out.mono ?_; rintro e w' ⟨rfl, rfl⟩; (try rw [← HW4.out]); refine Hid.out ?_)
  refine Lib.hid ?_
  go_wp2_with (go_at_call 50; (try rw [← HW4.out]); refine HSOH.out.mono ?_; rintro e w' ⟨rfl, rfl⟩; (try rw [← HW5.out]); refine Hid.out ?_)
  refine Lib.hid ?_
  have HR2 := Lib.hid (HSU.out.good (r1.drop 4) (L - qa.size) qb r2 W5 h2 hqb (by omega) (by rw [List.length_drop]; omega) RV.out BV.out)
  go_wp2_with (go_at_call 28; (try rw [← HW5.out]); refine HR2.out.mono ?_; rintro e w6 ⟨hm6, kc, rfl, hkc, hwc, hgc, hrc⟩; refine Hid.out ?_)
  refine Lib.hid ?_
  obtain ⟨W7, hW7⟩ : ∃ V, V = w6.alloc (.cells #[.int .i64 kc.op, .string kc.nm, .int .i64 kc.day, .slice kc.A kc.ps.length kc.cap] 26) := ⟨_, rfl⟩
  have hb7 : Below w6.heap.size w6 W7 := by rw [hW7]; exact below1 _ _
  have mv37 : Mv (· = b) (· = b) W3 W7 := (MV.out.trans hm6).trans (Mv.of_below hb7)
  have M7 := Lib.hid (M3.out.trans mv37)
  have P2 := Lib.hid (P3.out.mv mv37 (by omega))
  have C7 := Lib.hid (C3.out.mv mv37 (by have := S3.out; have := SX.out; omega))
  have D7 : Hid (B4 w6.heap.size W7 (.int .i64 kc.op) (.string kc.nm) (.int .i64 kc.day) (.slice kc.A kc.ps.length kc.cap)) := Lib.hid (by rw [hW7]; exact B4.new _ _ _ _ _ _)
  have K7 := Lib.hid (K3.out.mv mv37 (fun h => by have := (G3.out _ h).1; have := SX.out; omega))
  have L7 := Lib.hid (hwc.on hb7)
  have GC : Hid (∀ x ∈ kc.blocks, W3.heap.size ≤ x) := Lib.hid fun x hx => by have := hgc x hx; have := MV.out.size; omega
  have QC := Lib.hid hkc
  have R7 := Lib.hid (hrc.on hb7)
  have HSE : Hid (∀ v, Below W7.heap.size W7 v → Calls Tryz.prog 50 #[.pointer (some ⟨b, 0, none⟩), .string ⟨#[41]⟩] v fun e w' => e = .returned (.bool false) ∧ v.setCell ⟨b, 0, none⟩ (.string (ba (r2))) = w') := Lib.hid fun v hv => by
    have := skip b (L - qa.size - qb.size) r2 ⟨#[41]⟩ v (R7.out.on hv)
    rw [show (⟨#[41]⟩ : ByteArray).data.toList = wEnd from rfl, hE, show trim wEnd r2 = r2 by rw [trim, hE]; rfl] at this
    exact this
  obtain ⟨V7, hV7⟩ : ∃ V, V = W7.setCell ⟨b, 0, none⟩ (.string (ba (r2))) := ⟨_, rfl⟩
  have mv77 : Mv (· = b) (· = b) W7 V7 := by rw [hV7]; exact mv_set b 0 W7 _
  have MF := Lib.hid (M7.out.trans mv77)
  have HF : Hid (∀ x0 x1 x2 x3, PB b w (.returned (.tuple #[(K.mk 6 .empty 0 (some ⟨V7.heap.size, 0, none⟩) 2 [k, kc]).val, .bool false])) (((Cond.put4 V7 w.heap.size 0 x0 x1 x2 x3).alloc (.cells #[.int .i64 k.op, .string k.nm, .int .i64 k.day, .slice k.A k.ps.length k.cap, .int .i64 kc.op, .string kc.nm, .int .i64 kc.day, .slice kc.A kc.ps.length kc.cap] 26)).drew)) := Lib.hid fun x0 x1 x2 x3 => PB.drew ⟨(MF.out.put4 (Nat.le_refl _)).alloc _, _, rfl⟩
  have SV : Hid (V7.heap.size = W7.heap.size) := Lib.hid (by rw [hV7]; simp)
  have PV := Lib.hid (P2.out.mv mv77 (by omega))
  have HV7 := Lib.hid hV7
  have HW7 := Lib.hid hW7
  obtain ⟨_, p0, p1, p2, p3, pf⟩ := P2.out
  have pf0 := pf 0
  have pf1 := pf 1
  have pf2 := pf 2
  have pf3 := pf 3
  clear pf
  obtain ⟨_, c0, c1, c2, c3, _⟩ := C7.out
  obtain ⟨_, d0, d1, d2, d3, _⟩ := D7.out
  have l1 : w2.heap.size < W7.heap.size := C7.out.lt
  have l2 : w6.heap.size < W7.heap.size := D7.out.lt
  have l3 : w.heap.size < W7.heap.size := P2.out.lt
  have rf0 := R7.out.fz 0
  have rc0 := R7.out.c0
  have l4 : b < W7.heap.size := R7.out.lt
  have nb : ¬ b = w.heap.size := by omega
  have nb2 : ¬ b = w2.heap.size := by have := S3.out; have := SX.out; omega
  have nb3 : ¬ b = w6.heap.size := by have := S3.out; have := SX.out; have := MV.out.size; have := hm6.size; omega
  have nw2 : ¬ w2.heap.size = w.heap.size := by have := S3.out; have := SX.out; omega
  have nw3 : ¬ w6.heap.size = w.heap.size := by have := S3.out; have := SX.out; have := MV.out.size; have := hm6.size; omega
  have nc : ¬ w.heap.size = b := fun e => nb e.symm
  have nc2 : ¬ w2.heap.size = b := fun e => nb2 e.symm
  have nc3 : ¬ w6.heap.size = b := fun e => nb3 e.symm
  clear hm6 hkc hwc hgc hrc hb7 mv37 mv77 hV7 hW7
  go_wp2_with fail
  rw [← HW7.out]
  have KX : Hid (∀ v, Sm W7 w2.heap.size w6.heap.size v → (v.cell? ⟨w2.heap.size, 0, none⟩ = some (.int .i64 k.op) ∧ v.cell? ⟨w2.heap.size, 1, none⟩ = some (.string k.nm) ∧ v.cell? ⟨w2.heap.size, 2, none⟩ = some (.int .i64 k.day) ∧ v.cell? ⟨w2.heap.size, 3, none⟩ = some (.slice k.A k.ps.length k.cap)) ∧ v.cell? ⟨w6.heap.size, 0, none⟩ = some (.int .i64 kc.op) ∧ v.cell? ⟨w6.heap.size, 1, none⟩ = some (.string kc.nm) ∧ v.cell? ⟨w6.heap.size, 2, none⟩ = some (.int .i64 kc.day) ∧ v.cell? ⟨w6.heap.size, 3, none⟩ = some (.slice kc.A kc.ps.length kc.cap)) := Lib.hid fun v hv => by
    have cc : ∀ o, v.cell? ⟨w2.heap.size, o, none⟩ = W7.cell? ⟨w2.heap.size, o, none⟩ := fun o => World.cell?_of_block (a := ⟨w2.heap.size, o, none⟩) hv.1
    have dd : ∀ o, v.cell? ⟨w6.heap.size, o, none⟩ = W7.cell? ⟨w6.heap.size, o, none⟩ := fun o => World.cell?_of_block (a := ⟨w6.heap.size, o, none⟩) hv.2.1
    exact ⟨⟨(cc 0).trans C7.out.c0, (cc 1).trans C7.out.c1, (cc 2).trans C7.out.c2, (cc 3).trans C7.out.c3⟩, (dd 0).trans D7.out.c0, (dd 1).trans D7.out.c1, (dd 2).trans D7.out.c2, (dd 3).trans D7.out.c3⟩
  have SM0 : Hid (Sm W7 w2.heap.size w6.heap.size W7) := Lib.hid ⟨rfl, rfl, l1, l2⟩
  go_region_held3 (fun v => (v.cell? ⟨w2.heap.size, 0, none⟩ = some (.int .i64 k.op) ∧ v.cell? ⟨w2.heap.size, 1, none⟩ = some (.string k.nm) ∧ v.cell? ⟨w2.heap.size, 2, none⟩ = some (.int .i64 k.day) ∧ v.cell? ⟨w2.heap.size, 3, none⟩ = some (.slice k.A k.ps.length k.cap)) ∧ v.cell? ⟨w6.heap.size, 0, none⟩ = some (.int .i64 kc.op) ∧ v.cell? ⟨w6.heap.size, 1, none⟩ = some (.string kc.nm) ∧ v.cell? ⟨w6.heap.size, 2, none⟩ = some (.int .i64 kc.day) ∧ v.cell? ⟨w6.heap.size, 3, none⟩ = some (.slice kc.A kc.ps.length kc.cap)) (first | (refine KX.out _ ?_; (repeat (first | with_reducible exact SM0.out | with_reducible apply Sm.drew | with_reducible apply Sm.alloc | (with_reducible refine Sm.set ?_ nc2 nc3 _) | (with_reducible refine Sm.set ?_ nw2 nw3 _))); done))
    (first
      | (go_at_call 50; (with_reducible refine (HSE.out _ (by (repeat (first | exact Below.refl _ _ | exact below1 _ _ | apply Below.drew)))).mono ?_); rintro e w' ⟨rfl, rfl⟩))
  all_goals go_wp2_with fail
  all_goals (obtain ⟨_, t0, t1, t2, t3, _⟩ := ((PV.out.put (.int .i64 6) (.string ⟨#[]⟩) (.int .i64 0) (.slice (some ⟨W7.heap.size, 0, none⟩) 2 2)).alloc (.cells #[.int .i64 k.op, .string k.nm, .int .i64 k.day, .slice k.A k.ps.length k.cap, .int .i64 kc.op, .string kc.nm, .int .i64 kc.day, .slice kc.A kc.ps.length kc.cap] 26)).on (drew_below _ _))
  all_goals (have hf := HF.out (.int .i64 6) (.string ⟨#[]⟩) (.int .i64 0) (.slice (some ⟨W7.heap.size, 0, none⟩) 2 2))
  all_goals (rw [SV.out] at hf)
  all_goals (rw [HV7.out] at t0 t1 t2 t3 hf)
  all_goals (simp only [Cond.put4] at t0 t1 t2 t3 hf)
  all_goals exact bodyPost_ret (v := .tuple #[(K.mk 6 .empty 0 (some ⟨W7.heap.size, 0, none⟩) 2 [k, kc]).val, .bool false]) (by simp [results, Tryz.results51, go_sem, t0, t1, t2, t3]; first | done | exact ⟨rfl, rfl, rfl, rfl, rfl, rfl⟩) rfl hf

set_option maxRecDepth 100000 in
set_option maxHeartbeats 8000000 in
theorem orBad {dt : List UInt8 → Option Int} {n b : Nat} {W : World} (hS : Sub dt n b W) (hbW : W.heap.size ≤ b) (l : List UInt8) (L : Nat) (w : World) (qa : Q) (r1 : List UInt8) (hr : rd dt n l = some (qa, r1)) (hqa : qa.size ≤ L) (hr1 : r1.length < l.length) (hA : st wAnd r1 = false) (hO : st wOr r1 = true) (h2 : ∀ q r, rd dt n (r1.drop 4) = some (q, r) → L - qa.size < q.size) (hL : L ≤ 15) (hl : l.length < n) (h : Rr b w l L) (hW : Below W.heap.size W w) :
    Calls Tryz.prog 51 #[.pointer (some ⟨b, 0, none⟩)] w (PB b w) := by
  obtain ⟨X, hX⟩ : ∃ X, X = w.alloc (.cells #[.int .i64 0, .string ⟨#[]⟩, .int .i64 0, .slice none 0 0] 26) := ⟨_, rfl⟩
  have b0 : Below w.heap.size w X := by rw [hX]; exact below1 _ _
  have P0 : Hid (B4 w.heap.size X (.int .i64 0) (.string ⟨#[]⟩) (.int .i64 0) (.slice none 0 0)) := Lib.hid (by rw [hX]; exact B4.new _ _ _ _ _ _)
  have HRD := Lib.hid (hS.good l L qa r1 X hr hqa hL hl (h.on b0) (hW.trans (b0.mono hW.size)))
  have hbw : b < w.heap.size := h.lt
  have M0 : Hid (Mv (· = b) (· = b) w X) := Lib.hid (Mv.of_below b0)
  have WX : Hid (Below W.heap.size W X) := Lib.hid (hW.trans (b0.mono hW.size))
  have SX : Hid (w.heap.size < X.heap.size) := Lib.hid P0.out.lt
  have HSU := Lib.hid hS
  have HXX := Lib.hid hX
  clear hX b0 hr h hW hS
  go_enter Tryz.func51, Tryz.ntmps51
  go_wp2_with (go_at_call 28; (try rw [← HXX.out]); refine HRD.out.mono ?_; rintro e w2 ⟨hm2, k, rfl, hk, hwk, hge, hrr⟩; refine Hid.out ?_)
  refine Lib.hid ?_
  have hW2 : Below W.heap.size W w2 := WX.out.trans (hm2.below (fun x hx => by rw [hx]; exact hbW) WX.out.size)
  obtain ⟨W3, hW3⟩ : ∃ V, V = w2.alloc (.cells #[.int .i64 k.op, .string k.nm, .int .i64 k.day, .slice k.A k.ps.length k.cap] 26) := ⟨_, rfl⟩
  have hb3 : Below w2.heap.size w2 W3 := by rw [hW3]; exact below1 _ _
  have M3 := Lib.hid ((M0.out.trans hm2).trans (Mv.of_below hb3))
  have P3 := Lib.hid ((P0.out.mv hm2 (by omega)).on hb3)
  have C3 : Hid (B4 w2.heap.size W3 (.int .i64 k.op) (.string k.nm) (.int .i64 k.day) (.slice k.A k.ps.length k.cap)) := Lib.hid (by rw [hW3]; exact B4.new _ _ _ _ _ _)
  have K3 := Lib.hid (hwk.on hb3)
  have R3 := Lib.hid (hrr.on hb3)
  have G3 : Hid (∀ x ∈ k.blocks, X.heap.size ≤ x ∧ x < w2.heap.size) := Lib.hid fun x hx => ⟨hge x hx, hwk.lt x hx⟩
  have Q3 := Lib.hid hk
  have BW3 : Hid (Below W.heap.size W W3) := Lib.hid (hW2.trans (hb3.mono hW2.size))
  have S3 : Hid (X.heap.size ≤ w2.heap.size ∧ w2.heap.size < W3.heap.size) := Lib.hid ⟨hm2.size, C3.out.lt⟩
  have HSA := skip b (L - qa.size) r1 ⟨#[32, 97, 110, 100, 32]⟩ W3 R3.out
  rw [show (⟨#[32, 97, 110, 100, 32]⟩ : ByteArray).data.toList = wAnd from rfl, hA, show trim wAnd r1 = r1 by rw [trim, hA]; rfl] at HSA
  obtain ⟨W4, hW4⟩ : ∃ V, V = W3.setCell ⟨b, 0, none⟩ (.string (ba (r1))) := ⟨_, rfl⟩
  have R4 : Hid (Rr b W4 (r1) (L - qa.size)) := Lib.hid (by rw [hW4]; exact R3.out.set0 _)
  have mv4 : Mv (· = b) (· = b) W3 W4 := by rw [hW4]; exact mv_set b 0 W3 _
  have BW4 : Hid (Below W.heap.size W W4) := Lib.hid (by rw [hW4]; exact BW3.out.setCell (p := ⟨b, 0, none⟩) hbW _)
  have HW3 := Lib.hid hW3
  have HW4 := Lib.hid hW4
  have HSAH := Lib.hid HSA
  have HSO := skip b (L - qa.size) r1 ⟨#[32, 111, 114, 32]⟩ W4 R4.out
  rw [show (⟨#[32, 111, 114, 32]⟩ : ByteArray).data.toList = wOr from rfl, hO, show trim wOr r1 = r1.drop 4 by rw [trim, hO]; rfl] at HSO
  obtain ⟨W5, hW5⟩ : ∃ V, V = W4.setCell ⟨b, 0, none⟩ (.string (ba (r1.drop 4))) := ⟨_, rfl⟩
  have RV : Hid (Rr b W5 (r1.drop 4) (L - qa.size)) := Lib.hid (by rw [hW5]; exact R4.out.set0 _)
  have MV : Hid (Mv (· = b) (· = b) W3 W5) := Lib.hid (mv4.trans (by rw [hW5]; exact mv_set b 0 W4 _))
  have BV : Hid (Below W.heap.size W W5) := Lib.hid (by rw [hW5]; exact BW4.out.setCell (p := ⟨b, 0, none⟩) hbW _)
  have HW5 := Lib.hid hW5
  have HSOH := Lib.hid HSO
  clear hW3 hW4 hW5 hb3 hm2 hk hwk hge hrr hW2 HSA HSO mv4 HRD
  go_wp2_with (go_at_call 50; (try rw [← HW3.out]); refine HSAH.out.mono ?_; rintro e w' ⟨rfl, rfl⟩; (try rw [← HW4.out]); refine Hid.out ?_)
  refine Lib.hid ?_
  go_wp2_with (go_at_call 50; (try rw [← HW4.out]); refine HSOH.out.mono ?_; rintro e w' ⟨rfl, rfl⟩; (try rw [← HW5.out]); refine Hid.out ?_)
  refine Lib.hid ?_
  have HR2 := Lib.hid (HSU.out.bad (r1.drop 4) (L - qa.size) W5 h2 (by omega) (by rw [List.length_drop]; omega) RV.out BV.out)
  go_wp2_with (go_at_call 28; (try rw [← HW5.out]); refine HR2.out.mono ?_; rintro e w6 ⟨hm6, kc, rfl⟩; refine Hid.out ?_)
  refine Lib.hid ?_
  obtain ⟨W7, hW7⟩ : ∃ V, V = w6.alloc (.cells #[.int .i64 kc.op, .string kc.nm, .int .i64 kc.day, .slice kc.A kc.ps.length kc.cap] 26) := ⟨_, rfl⟩
  have hb7 : Below w6.heap.size w6 W7 := by rw [hW7]; exact below1 _ _
  have mv37 : Mv (· = b) (· = b) W3 W7 := (MV.out.trans hm6).trans (Mv.of_below hb7)
  have M7 := Lib.hid (M3.out.trans mv37)
  have P2 := Lib.hid (P3.out.mv mv37 (by omega))
  have C7 := Lib.hid (C3.out.mv mv37 (by have := S3.out; have := SX.out; omega))
  have D7 : Hid (B4 w6.heap.size W7 (.int .i64 kc.op) (.string kc.nm) (.int .i64 kc.day) (.slice kc.A kc.ps.length kc.cap)) := Lib.hid (by rw [hW7]; exact B4.new _ _ _ _ _ _)
  have HF : Hid (∀ x0 x1 x2 x3, PB b w (.returned (.tuple #[(K.mk 6 .empty 0 (some ⟨W7.heap.size, 0, none⟩) 2 [k, kc]).val, .bool false])) (((Cond.put4 W7 w.heap.size 0 x0 x1 x2 x3).alloc (.cells #[.int .i64 k.op, .string k.nm, .int .i64 k.day, .slice k.A k.ps.length k.cap, .int .i64 kc.op, .string kc.nm, .int .i64 kc.day, .slice kc.A kc.ps.length kc.cap] 26)).drew)) := Lib.hid fun x0 x1 x2 x3 => PB.drew ⟨(M7.out.put4 (Nat.le_refl _)).alloc _, _, rfl⟩
  have HW7 := Lib.hid hW7
  obtain ⟨_, p0, p1, p2, p3, pf⟩ := P2.out
  have pf0 := pf 0
  have pf1 := pf 1
  have pf2 := pf 2
  have pf3 := pf 3
  clear pf
  obtain ⟨_, c0, c1, c2, c3, _⟩ := C7.out
  obtain ⟨_, d0, d1, d2, d3, _⟩ := D7.out
  have l1 : w2.heap.size < W7.heap.size := C7.out.lt
  have l2 : w6.heap.size < W7.heap.size := D7.out.lt
  have l3 : w.heap.size < W7.heap.size := P2.out.lt
  clear hm6 hb7 mv37 hW7
  go_wp2_with fail
  rw [← HW7.out]
  first | (go_region_with (fail)) | fail
  all_goals go_wp2_with fail
  all_goals (obtain ⟨_, t0, t1, t2, t3, _⟩ := ((P2.out.put (.int .i64 6) (.string ⟨#[]⟩) (.int .i64 0) (.slice (some ⟨W7.heap.size, 0, none⟩) 2 2)).alloc (.cells #[.int .i64 k.op, .string k.nm, .int .i64 k.day, .slice k.A k.ps.length k.cap, .int .i64 kc.op, .string kc.nm, .int .i64 kc.day, .slice kc.A kc.ps.length kc.cap] 26)).on (drew_below _ _))
  all_goals (have hf := HF.out (.int .i64 6) (.string ⟨#[]⟩) (.int .i64 0) (.slice (some ⟨W7.heap.size, 0, none⟩) 2 2))
  all_goals (simp only [Cond.put4] at t0 t1 t2 t3 hf)
  all_goals exact bodyPost_ret (v := .tuple #[(K.mk 6 .empty 0 (some ⟨W7.heap.size, 0, none⟩) 2 [k, kc]).val, .bool false]) (by simp [results, Tryz.results51, go_sem, t0, t1, t2, t3]; first | done | exact ⟨rfl, rfl, rfl, rfl, rfl, rfl⟩) rfl hf

end Go.Proofs.YtlaogladhadliaaGreatDoor.Cond
