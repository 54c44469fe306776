/-
  readPair of the program's reader.
  read of the program's reader, whole.
  read of the program's reader gives what rd says.
  ParseCondition of the program.
  The walk of the law FnConditions.
  The law FnConditions returns true at every input, and its arguments read afterwards as before, the listed variables of the library holding what the program's text lays.
-/
import Derived.Test.YtmgjeplbhnfakaaGreatDoorMb
import Derived.Deep.RegionWith
import Derived.Test.YtmgjeplbhnfakaaGreatDoorMa
import Derived.Test.YtmgjeplbhnfakaaGreatDoorCards
import Derived.Test.YtmgjeplbhnfakaaGreatDoorTie
import Derived.OpenShut
import Derived.ShutString
import Derived.ChangeSlices
import Derived.Carry
import Derived.Lib.SmallJoins
import Derived.Deep.DeepHandedRow
import Derived.Deep.DeepWitnessRowRef
import Derived.LaidMore
import Derived.MakeChecks
import Derived.Stop.LaidErr
namespace Go.Proofs.YtmgjeplbhnfakaaGreatDoor.Cond
open Go.RowKit
set_option linter.unusedVariables false
set_option linter.unusedSimpArgs false

theorem PG.drew {b L : Nat} {q : Q} {r : List UInt8} {w w' : World} {e : Ending} (h : PG b q r L w e w') : PG b q r L w e w'.drew := by
  obtain ⟨h1, k, h2, h3, h4, h5, h6⟩ := h
  exact ⟨h1.trans (Mv.of_below (drew_below _ _)), k, h2, h3, h4.on (drew_below _ _), h5, h6.on (drew_below _ _)⟩
theorem PB.drew {b : Nat} {w w' : World} {e : Ending} (h : PB b w e w') : PB b w e w'.drew := ⟨h.1.trans (Mv.of_below (drew_below _ _)), h.2⟩
theorem pg_pair {b kb L S : Nat} {qa qb q : Q} {op : Int} {r : List UInt8} {w v : World} {k kc : K} {x0 x1 x2 x3 : Value} {T : TypeId} (hop : q = .and qa qb ∧ op = 5 ∨ q = .or qa qb ∧ op = 6) (hm : Mv (· = b) (· = b) w v) (ha : k.cond = qa.c) (hc : kc.cond = qb.c) (hwa : Wr v k) (hwc : Wr v kc) (hd : Dj k kc) (hga : ∀ x ∈ k.blocks, S ≤ x) (hgc : ∀ x ∈ kc.blocks, S ≤ x) (hr : Rr b v r L) (hk : w.heap.size ≤ kb) (hkS : kb < S) (hb : b < w.heap.size) :
    PG b q r L w (.returned (.tuple #[(K.mk op .empty 0 (some ⟨v.heap.size, 0, none⟩) 2 [k, kc]).val, .bool true])) ((Cond.put4 v kb 0 x0 x1 x2 x3).alloc (.cells #[.int .i64 k.op, .string k.nm, .int .i64 k.day, .slice k.A k.ps.length k.cap, .int .i64 kc.op, .string kc.nm, .int .i64 kc.day, .slice kc.A kc.ps.length kc.cap] T)) := by
  have hr2 := (hr.put4 (x0 := x0) (x1 := x1) (x2 := x2) (x3 := x3) (show b ≠ kb by omega))
  have hmV := hm.put4 (x0 := x0) (x1 := x1) (x2 := x2) (x3 := x3) hk
  have hVa : Wr (Cond.put4 v kb 0 x0 x1 x2 x3) k := put_wr hwa (fun h => by have := hga _ h; omega)
  have hVc : Wr (Cond.put4 v kb 0 x0 x1 x2 x3) kc := put_wr hwc (fun h => by have := hgc _ h; omega)
  have hVs : (Cond.put4 v kb 0 x0 x1 x2 x3).heap.size = v.heap.size := put4_size
  generalize Cond.put4 v kb 0 x0 x1 x2 x3 = V at *
  rw [← hVs]
  have hlt := hm.size
  have e1 : El (V.alloc (.cells #[.int .i64 k.op, .string k.nm, .int .i64 k.day, .slice k.A k.ps.length k.cap, .int .i64 kc.op, .string kc.nm, .int .i64 kc.day, .slice kc.A kc.ps.length kc.cap] T)) V.heap.size 0 k := ⟨by simp [go_sem], by simp [go_sem], by simp [go_sem], by simp [go_sem]⟩
  have e2 : El (V.alloc (.cells #[.int .i64 k.op, .string k.nm, .int .i64 k.day, .slice k.A k.ps.length k.cap, .int .i64 kc.op, .string kc.nm, .int .i64 kc.day, .slice kc.A kc.ps.length kc.cap] T)) V.heap.size 4 kc := ⟨by simp [go_sem], by simp [go_sem], by simp [go_sem], by simp [go_sem]⟩
  refine ⟨hmV.alloc _, _, rfl, ?_, wr_two (hVa.on (below1 _ _)) (hVc.on (below1 _ _)) hd (blk_new _ _ _) e1 e2 (fun h => by have := hVa.lt _ h; omega) (fun h => by have := hVc.lt _ h; omega), fun x hx => ?_, hr2.on (below1 _ _)⟩
  · rcases hop with ⟨rfl, rfl⟩ | ⟨rfl, rfl⟩ <;> simp only [K.cond, conds, Q.c, ha, hc]
  · simp only [K.blocks, blocks, List.append_nil, List.mem_append, List.mem_singleton] at hx
    rcases hx with rfl | hx | hx
    · omega
    · have := hga x hx; omega
    · have := hgc x hx; omega

def Sm (u : World) (i j : Nat) (v : World) : Prop := v.heap[i]? = u.heap[i]? ∧ v.heap[j]? = u.heap[j]? ∧ i < v.heap.size ∧ j < v.heap.size
theorem Sm.drew {u v : World} {i j : Nat} (h : Sm u i j v) : Sm u i j v.drew := h
theorem Sm.alloc {u v : World} {i j : Nat} (h : Sm u i j v) (ob : Obj) : Sm u i j (v.alloc ob) := ⟨(Below.block (below1 v ob) i h.2.2.1).trans h.1, (Below.block (below1 v ob) j h.2.2.2).trans h.2.1, by have := h.2.2.1; simp; omega, by have := h.2.2.2; simp; omega⟩
theorem Sm.set {u v : World} {i j b o : Nat} (h : Sm u i j v) (hi : i ≠ b) (hj : j ≠ b) (x : Value) : Sm u i j (v.setCell ⟨b, o, none⟩ x) := ⟨(Below.heap_setCell v _ x i hi).trans h.1, (Below.heap_setCell v _ x j hj).trans h.2.1, by simpa using h.2.2.1, by simpa using h.2.2.2⟩

set_option maxRecDepth 100000 in
set_option maxHeartbeats 4000000 in
theorem pairNone {dt : List UInt8 → Option Int} {n b : Nat} {W : World} (hS : Sub dt n b W) (hbW : W.heap.size ≤ b) (l : List UInt8) (L : Nat) (w : World) (hr : ∀ q r, rd dt n l = some (q, r) → L < q.size) (hL : L ≤ 15) (hl : l.length < n) (h : Rr b w l L) (hW : Below W.heap.size W w) :
    Calls Tryz.prog 51 #[.pointer (some ⟨b, 0, none⟩)] w (PB b w) := by
  obtain ⟨X, hX⟩ : ∃ X, X = w.alloc (.cells #[.int .i64 0, .string ⟨#[]⟩, .int .i64 0, .slice none 0 0] 26) := ⟨_, rfl⟩
  have b0 : Below w.heap.size w X := by rw [hX]; exact below1 _ _
  have P0 : Hid (B4 w.heap.size X (.int .i64 0) (.string ⟨#[]⟩) (.int .i64 0) (.slice none 0 0)) := Lib.hid (by rw [hX]; exact B4.new _ _ _ _ _ _)
  have HRD := Lib.hid (hS.bad l L X hr hL hl (h.on b0) (hW.trans (b0.mono hW.size)))
  have hbw : b < w.heap.size := h.lt
  have M0 : Hid (Mv (· = b) (· = b) w X) := Lib.hid (Mv.of_below b0)
  have HXX := Lib.hid hX
  clear hX b0 hr h hW hS
  go_enter Tryz.func51, Tryz.ntmps51
  go_wp2_with (go_at_call 28; (try rw [← HXX.out]); refine HRD.out.mono ?_; rintro e w2 ⟨hm2, k, rfl⟩; refine Hid.out ?_)
  refine Lib.hid ?_
  have M2 := Lib.hid (M0.out.trans hm2)
  have P2 := Lib.hid (P0.out.mv hm2 (by omega))
  obtain ⟨_, p0, p1, p2, p3, pf⟩ := P2.out
  have pf0 := pf 0
  have pf1 := pf 1
  have pf2 := pf 2
  have pf3 := pf 3
  clear pf
  clear hm2
  go_wp2_with fail
  obtain ⟨_, t0, t1, t2, t3, _⟩ := (P2.out.put (.int .i64 0) (.string ⟨#[]⟩) (.int .i64 0) (.slice none 0 0)).alloc (.cells #[.int .i64 k.op, .string k.nm, .int .i64 k.day, .slice k.A k.ps.length k.cap] 26)
  have hf : PB b w (.returned (.tuple #[.agg #[.int .i64 0, .string ⟨#[]⟩, .int .i64 0, .slice none 0 0], .bool false])) ((Cond.put4 w2 w.heap.size 0 (.int .i64 0) (.string ⟨#[]⟩) (.int .i64 0) (.slice none 0 0)).alloc (.cells #[.int .i64 k.op, .string k.nm, .int .i64 k.day, .slice k.A k.ps.length k.cap] 26)) := ⟨(M2.out.put4 (Nat.le_refl _)).alloc _, .mk 0 .empty 0 none 0 [], rfl⟩
  simp only [Cond.put4] at t0 t1 t2 t3 hf
  exact bodyPost_ret (v := .tuple #[.agg #[.int .i64 0, .string ⟨#[]⟩, .int .i64 0, .slice none 0 0], .bool false]) (by simp [results, Tryz.results51, go_sem, t0, t1, t2, t3]) rfl hf

set_option maxRecDepth 100000 in
set_option maxHeartbeats 8000000 in
theorem pairNo {dt : List UInt8 → Option Int} {n b : Nat} {W : World} (hS : Sub dt n b W) (hbW : W.heap.size ≤ b) (l : List UInt8) (L : Nat) (w : World) (qa : Q) (r1 : List UInt8) (hr : rd dt n l = some (qa, r1)) (hqa : qa.size ≤ L) (hr1 : r1.length < l.length) (hA : st wAnd r1 = false) (hO : st wOr r1 = false) (hL : L ≤ 15) (hl : l.length < n) (h : Rr b w l L) (hW : Below W.heap.size W w) :
    Calls Tryz.prog 51 #[.pointer (some ⟨b, 0, none⟩)] w (PB b w) := by
  obtain ⟨X, hX⟩ : ∃ X, X = w.alloc (.cells #[.int .i64 0, .string ⟨#[]⟩, .int .i64 0, .slice none 0 0] 26) := ⟨_, rfl⟩
  have b0 : Below w.heap.size w X := by rw [hX]; exact below1 _ _
  have P0 : Hid (B4 w.heap.size X (.int .i64 0) (.string ⟨#[]⟩) (.int .i64 0) (.slice none 0 0)) := Lib.hid (by rw [hX]; exact B4.new _ _ _ _ _ _)
  have HRD := Lib.hid (hS.good l L qa r1 X hr hqa hL hl (h.on b0) (hW.trans (b0.mono hW.size)))
  have hbw : b < w.heap.size := h.lt
  have M0 : Hid (Mv (· = b) (· = b) w X) := Lib.hid (Mv.of_below b0)
  have WX : Hid (Below W.heap.size W X) := Lib.hid (hW.trans (b0.mono hW.size))
  have SX : Hid (w.heap.size < X.heap.size) := Lib.hid P0.out.lt
  have HSU := Lib.hid hS
  have HXX := Lib.hid hX
  clear hX b0 hr h hW hS
  go_enter Tryz.func51, Tryz.ntmps51
  go_wp2_with (go_at_call 28; (try rw [← HXX.out]); refine HRD.out.mono ?_; rintro e w2 ⟨hm2, k, rfl, hk, hwk, hge, hrr⟩; refine Hid.out ?_)
  refine Lib.hid ?_
  have hW2 : Below W.heap.size W w2 := WX.out.trans (hm2.below (fun x hx => by rw [hx]; exact hbW) WX.out.size)
  obtain ⟨W3, hW3⟩ : ∃ V, V = w2.alloc (.cells #[.int .i64 k.op, .string k.nm, .int .i64 k.day, .slice k.A k.ps.length k.cap] 26) := ⟨_, rfl⟩
  have hb3 : Below w2.heap.size w2 W3 := by rw [hW3]; exact below1 _ _
  have M3 := Lib.hid ((M0.out.trans hm2).trans (Mv.of_below hb3))
  have P3 := Lib.hid ((P0.out.mv hm2 (by omega)).on hb3)
  have C3 : Hid (B4 w2.heap.size W3 (.int .i64 k.op) (.string k.nm) (.int .i64 k.day) (.slice k.A k.ps.length k.cap)) := Lib.hid (by rw [hW3]; exact B4.new _ _ _ _ _ _)
  have K3 := Lib.hid (hwk.on hb3)
  have R3 := Lib.hid (hrr.on hb3)
  have G3 : Hid (∀ x ∈ k.blocks, X.heap.size ≤ x ∧ x < w2.heap.size) := Lib.hid fun x hx => ⟨hge x hx, hwk.lt x hx⟩
  have Q3 := Lib.hid hk
  have BW3 : Hid (Below W.heap.size W W3) := Lib.hid (hW2.trans (hb3.mono hW2.size))
  have S3 : Hid (X.heap.size ≤ w2.heap.size ∧ w2.heap.size < W3.heap.size) := Lib.hid ⟨hm2.size, C3.out.lt⟩
  have HSA := skip b (L - qa.size) r1 ⟨#[32, 97, 110, 100, 32]⟩ W3 R3.out
  rw [show (⟨#[32, 97, 110, 100, 32]⟩ : ByteArray).data.toList = wAnd from rfl, hA, show trim wAnd r1 = r1 by rw [trim, hA]; rfl] at HSA
  obtain ⟨W4, hW4⟩ : ∃ V, V = W3.setCell ⟨b, 0, none⟩ (.string (ba (r1))) := ⟨_, rfl⟩
  have R4 : Hid (Rr b W4 (r1) (L - qa.size)) := Lib.hid (by rw [hW4]; exact R3.out.set0 _)
  have mv4 : Mv (· = b) (· = b) W3 W4 := by rw [hW4]; exact mv_set b 0 W3 _
  have BW4 : Hid (Below W.heap.size W W4) := Lib.hid (by rw [hW4]; exact BW3.out.setCell (p := ⟨b, 0, none⟩) hbW _)
  have HW3 := Lib.hid hW3
  have HW4 := Lib.hid hW4
  have HSAH := Lib.hid HSA
  have HSO := skip b (L - qa.size) r1 ⟨#[32, 111, 114, 32]⟩ W4 R4.out
  rw [show (⟨#[32, 111, 114, 32]⟩ : ByteArray).data.toList = wOr from rfl, hO, show trim wOr r1 = r1 by rw [trim, hO]; rfl] at HSO
  obtain ⟨W5, hW5⟩ : ∃ V, V = W4.setCell ⟨b, 0, none⟩ (.string (ba (r1))) := ⟨_, rfl⟩
  have RV : Hid (Rr b W5 (r1) (L - qa.size)) := Lib.hid (by rw [hW5]; exact R4.out.set0 _)
  have MV : Hid (Mv (· = b) (· = b) W3 W5) := Lib.hid (mv4.trans (by rw [hW5]; exact mv_set b 0 W4 _))
  have BV : Hid (Below W.heap.size W W5) := Lib.hid (by rw [hW5]; exact BW4.out.setCell (p := ⟨b, 0, none⟩) hbW _)
  have HW5 := Lib.hid hW5
  have HSOH := Lib.hid HSO
  clear hW3 hW4 hW5 hb3 hm2 hk hwk hge hrr hW2 HSA HSO mv4 HRD
  go_wp2_with (go_at_call 50; (try rw [← HW3.out]); refine HSAH.out.mono ?_; rintro e w' ⟨rfl, rfl⟩; (try rw [← HW4.out]); refine Hid.out ?_)
  refine Lib.hid ?_
  go_wp2_with (go_at_call 50; (try rw [← HW4.out]); refine HSOH.out.mono ?_; rintro e w' ⟨rfl, rfl⟩; (try rw [← HW5.out]); refine Hid.out ?_)
  refine Lib.hid ?_
  have P2 := Lib.hid (P3.out.mv MV.out (by omega))
  have M2 := Lib.hid (M3.out.trans MV.out)
  obtain ⟨_, p0, p1, p2, p3, pf⟩ := P2.out
  have pf0 := pf 0
  have pf1 := pf 1
  have pf2 := pf 2
  have pf3 := pf 3
  clear pf
  go_wp2_with fail
  obtain ⟨_, t0, t1, t2, t3, _⟩ := P2.out.put (.int .i64 0) (.string ⟨#[]⟩) (.int .i64 0) (.slice none 0 0)
  have hf := pb_any (b := b) (kb := w.heap.size) (x0 := .int .i64 0) (x1 := .string ⟨#[]⟩) (x2 := .int .i64 0) (x3 := .slice none 0 0) (.mk 0 .empty 0 none 0 []) M2.out (Nat.le_refl _)
  simp only [Cond.put4] at t0 t1 t2 t3 hf
  exact bodyPost_ret (v := .tuple #[.agg #[.int .i64 0, .string ⟨#[]⟩, .int .i64 0, .slice none 0 0], .bool false]) (by simp [results, Tryz.results51, go_sem, t0, t1, t2, t3]) rfl hf

set_option maxRecDepth 100000 in
set_option maxHeartbeats 8000000 in
theorem andGood {dt : List UInt8 → Option Int} {n b : Nat} {W : World} (hS : Sub dt n b W) (hbW : W.heap.size ≤ b) (l : List UInt8) (L : Nat) (w : World) (qa : Q) (r1 : List UInt8) (hr : rd dt n l = some (qa, r1)) (hqa : qa.size ≤ L) (hr1 : r1.length < l.length) (hA : st wAnd r1 = true) (qb : Q) (r2 : List UInt8) (h2 : rd dt n (r1.drop 5) = some (qb, r2)) (hqb : qb.size ≤ L - qa.size) (hE : st wEnd r2 = true) (hL : L ≤ 15) (hl : l.length < n) (h : Rr b w l L) (hW : Below W.heap.size W w) :
    Calls Tryz.prog 51 #[.pointer (some ⟨b, 0, none⟩)] w (PG b (.and qa qb) (r2.drop 1) (L - qa.size - qb.size) w) := by
  rw [List.drop_one]
  obtain ⟨X, hX⟩ : ∃ X, X = w.alloc (.cells #[.int .i64 0, .string ⟨#[]⟩, .int .i64 0, .slice none 0 0] 26) := ⟨_, rfl⟩
  have b0 : Below w.heap.size w X := by rw [hX]; exact below1 _ _
  have P0 : Hid (B4 w.heap.size X (.int .i64 0) (.string ⟨#[]⟩) (.int .i64 0) (.slice none 0 0)) := Lib.hid (by rw [hX]; exact B4.new _ _ _ _ _ _)
  have HRD := Lib.hid (hS.good l L qa r1 X hr hqa hL hl (h.on b0) (hW.trans (b0.mono hW.size)))
  have hbw : b < w.heap.size := h.lt
  have M0 : Hid (Mv (· = b) (· = b) w X) := Lib.hid (Mv.of_below b0)
  have WX : Hid (Below W.heap.size W X) := Lib.hid (hW.trans (b0.mono hW.size))
  have SX : Hid (w.heap.size < X.heap.size) := Lib.hid P0.out.lt
  have HSU := Lib.hid hS
  have HXX := Lib.hid hX
  clear hX b0 hr h hW hS
  go_enter Tryz.func51, Tryz.ntmps51
  go_wp2_with (go_at_call 28; (try rw [← HXX.out]); refine HRD.out.mono ?_; rintro e w2 ⟨hm2, k, rfl, hk, hwk, hge, hrr⟩; refine Hid.out ?_)
  refine Lib.hid ?_
  have hW2 : Below W.heap.size W w2 := WX.out.trans (hm2.below (fun x hx => by rw [hx]; exact hbW) WX.out.size)
  obtain ⟨W3, hW3⟩ : ∃ V, V = w2.alloc (.cells #[.int .i64 k.op, .string k.nm, .int .i64 k.day, .slice k.A k.ps.length k.cap] 26) := ⟨_, rfl⟩
  have hb3 : Below w2.heap.size w2 W3 := by rw [hW3]; exact below1 _ _
  have M3 := Lib.hid ((M0.out.trans hm2).trans (Mv.of_below hb3))
  have P3 := Lib.hid ((P0.out.mv hm2 (by omega)).on hb3)
  have C3 : Hid (B4 w2.heap.size W3 (.int .i64 k.op) (.string k.nm) (.int .i64 k.day) (.slice k.A k.ps.length k.cap)) := Lib.hid (by rw [hW3]; exact B4.new _ _ _ _ _ _)
  have K3 := Lib.hid (hwk.on hb3)
  have R3 := Lib.hid (hrr.on hb3)
  have G3 : Hid (∀ x ∈ k.blocks, X.heap.size ≤ x ∧ x < w2.heap.size) := Lib.hid fun x hx => ⟨hge x hx, hwk.lt x hx⟩
  have Q3 := Lib.hid hk
  have BW3 : Hid (Below W.heap.size W W3) := Lib.hid (hW2.trans (hb3.mono hW2.size))
  have S3 : Hid (X.heap.size ≤ w2.heap.size ∧ w2.heap.size < W3.heap.size) := Lib.hid ⟨hm2.size, C3.out.lt⟩
  have HSA := skip b (L - qa.size) r1 ⟨#[32, 97, 110, 100, 32]⟩ W3 R3.out
  rw [show (⟨#[32, 97, 110, 100, 32]⟩ : ByteArray).data.toList = wAnd from rfl, hA, show trim wAnd r1 = r1.drop 5 by rw [trim, hA]; rfl] at HSA
  obtain ⟨W4, hW4⟩ : ∃ V, V = W3.setCell ⟨b, 0, none⟩ (.string (ba (r1.drop 5))) := ⟨_, rfl⟩
  have R4 : Hid (Rr b W4 (r1.drop 5) (L - qa.size)) := Lib.hid (by rw [hW4]; exact R3.out.set0 _)
  have mv4 : Mv (· = b) (· = b) W3 W4 := by rw [hW4]; exact mv_set b 0 W3 _
  have BW4 : Hid (Below W.heap.size W W4) := Lib.hid (by rw [hW4]; exact BW3.out.setCell (p := ⟨b, 0, none⟩) hbW _)
  have HW3 := Lib.hid hW3
  have HW4 := Lib.hid hW4
  have HSAH := Lib.hid HSA
  have MV := Lib.hid mv4
  have RV := R4
  have BV := BW4
  clear hW3 hW4 hb3 hm2 hk hwk hge hrr hW2 HSA mv4 HRD
  go_wp2_with (go_at_call 50; (try rw [← HW3.out]); refine HSAH.out.mono ?_; rintro e w' ⟨rfl, rfl⟩; (try rw [← HW4.out]); refine Hid.out ?_)
  refine Lib.hid ?_
  have HR2 := Lib.hid (HSU.out.good (r1.drop 5) (L - qa.size) qb r2 W4 h2 hqb (by omega) (by rw [List.length_drop]; omega) RV.out BV.out)
  go_wp2_with (go_at_call 28; (try rw [← HW4.out]); refine HR2.out.mono ?_; rintro e w6 ⟨hm6, kc, rfl, hkc, hwc, hgc, hrc⟩; refine Hid.out ?_)
  refine Lib.hid ?_
  obtain ⟨W7, hW7⟩ : ∃ V, V = w6.alloc (.cells #[.int .i64 kc.op, .string kc.nm, .int .i64 kc.day, .slice kc.A kc.ps.length kc.cap] 26) := ⟨_, rfl⟩
  have hb7 : Below w6.heap.size w6 W7 := by rw [hW7]; exact below1 _ _
  have mv37 : Mv (· = b) (· = b) W3 W7 := (MV.out.trans hm6).trans (Mv.of_below hb7)
  have M7 := Lib.hid (M3.out.trans mv37)
  have P2 := Lib.hid (P3.out.mv mv37 (by omega))
  have C7 := Lib.hid (C3.out.mv mv37 (by have := S3.out; have := SX.out; omega))
  have D7 : Hid (B4 w6.heap.size W7 (.int .i64 kc.op) (.string kc.nm) (.int .i64 kc.day) (.slice kc.A kc.ps.length kc.cap)) := Lib.hid (by rw [hW7]; exact B4.new _ _ _ _ _ _)
  have K7 := Lib.hid (K3.out.mv mv37 (fun h => by have := (G3.out _ h).1; have := SX.out; omega))
  have L7 := Lib.hid (hwc.on hb7)
  have GC : Hid (∀ x ∈ kc.blocks, W3.heap.size ≤ x) := Lib.hid fun x hx => by have := hgc x hx; have := MV.out.size; omega
  have QC := Lib.hid hkc
  have R7 := Lib.hid (hrc.on hb7)
  have HSE : Hid (∀ v, Below W7.heap.size W7 v → Calls Tryz.prog 50 #[.pointer (some ⟨b, 0, none⟩), .string ⟨#[41]⟩] v fun e w' => e = .returned (.bool true) ∧ v.setCell ⟨b, 0, none⟩ (.string (ba (r2.tail))) = w') := Lib.hid fun v hv => by
    have := skip b (L - qa.size - qb.size) r2 ⟨#[41]⟩ v (R7.out.on hv)
    rw [show (⟨#[41]⟩ : ByteArray).data.toList = wEnd from rfl, hE, show trim wEnd r2 = r2.tail by rw [trim, hE, ← List.drop_one]; rfl] at this
    exact this
  obtain ⟨V7, hV7⟩ : ∃ V, V = W7.setCell ⟨b, 0, none⟩ (.string (ba (r2.tail))) := ⟨_, rfl⟩
  have mv77 : Mv (· = b) (· = b) W7 V7 := by rw [hV7]; exact mv_set b 0 W7 _
  have MF := Lib.hid (M7.out.trans mv77)
  have HF : Hid (∀ x0 x1 x2 x3, PG b (.and qa qb) r2.tail (L - qa.size - qb.size) w (.returned (.tuple #[(K.mk 5 .empty 0 (some ⟨V7.heap.size, 0, none⟩) 2 [k, kc]).val, .bool true])) (((Cond.put4 V7 w.heap.size 0 x0 x1 x2 x3).alloc (.cells #[.int .i64 k.op, .string k.nm, .int .i64 k.day, .slice k.A k.ps.length k.cap, .int .i64 kc.op, .string kc.nm, .int .i64 kc.day, .slice kc.A kc.ps.length kc.cap] 26)).drew)) := Lib.hid fun x0 x1 x2 x3 => PG.drew (pg_pair (S := X.heap.size) (qa := qa) (qb := qb) (.inl ⟨rfl, rfl⟩) MF.out Q3.out QC.out (K7.out.mv mv77 (fun h => by have := (G3.out _ h).1; have := SX.out; omega)) (L7.out.mv mv77 (fun h => by have := GC.out _ h; have := S3.out; have := SX.out; omega)) (fun x hx hy => by have := (G3.out x hx).2; have := GC.out x hy; have := S3.out; omega) (fun x hx => (G3.out x hx).1) (fun x hx => by have := GC.out x hx; have := S3.out; omega) (by rw [hV7]; exact R7.out.set0 _) (Nat.le_refl _) SX.out hbw)
  have SV : Hid (V7.heap.size = W7.heap.size) := Lib.hid (by rw [hV7]; simp)
  have PV := Lib.hid (P2.out.mv mv77 (by omega))
  have HV7 := Lib.hid hV7
  have HW7 := Lib.hid hW7
  obtain ⟨_, p0, p1, p2, p3, pf⟩ := P2.out
  have pf0 := pf 0
  have pf1 := pf 1
  have pf2 := pf 2
  have pf3 := pf 3
  clear pf
  obtain ⟨_, c0, c1, c2, c3, _⟩ := C7.out
  obtain ⟨_, d0, d1, d2, d3, _⟩ := D7.out
  have l1 : w2.heap.size < W7.heap.size := C7.out.lt
  have l2 : w6.heap.size < W7.heap.size := D7.out.lt
  have l3 : w.heap.size < W7.heap.size := P2.out.lt
  have rf0 := R7.out.fz 0
  have rc0 := R7.out.c0
  have l4 : b < W7.heap.size := R7.out.lt
  have nb : ¬ b = w.heap.size := by omega
  have nb2 : ¬ b = w2.heap.size := by have := S3.out; have := SX.out; omega
  have nb3 : ¬ b = w6.heap.size := by have := S3.out; have := SX.out; have := MV.out.size; have := hm6.size; omega
  have nw2 : ¬ w2.heap.size = w.heap.size := by have := S3.out; have := SX.out; omega
  have nw3 : ¬ w6.heap.size = w.heap.size := by have := S3.out; have := SX.out; have := MV.out.size; have := hm6.size; omega
  have nc : ¬ w.heap.size = b := fun e => nb e.symm
  have nc2 : ¬ w2.heap.size = b := fun e => nb2 e.symm
  have nc3 : ¬ w6.heap.size = b := fun e => nb3 e.symm
  clear hm6 hkc hwc hgc hrc hb7 mv37 mv77 hV7 hW7
  go_wp2_with fail
  rw [← HW7.out]
  have KX : Hid (∀ v, Sm W7 w2.heap.size w6.heap.size v → (v.cell? ⟨w2.heap.size, 0, none⟩ = some (.int .i64 k.op) ∧ v.cell? ⟨w2.heap.size, 1, none⟩ = some (.string k.nm) ∧ v.cell? ⟨w2.heap.size, 2, none⟩ = some (.int .i64 k.day) ∧ v.cell? ⟨w2.heap.size, 3, none⟩ = some (.slice k.A k.ps.length k.cap)) ∧ v.cell? ⟨w6.heap.size, 0, none⟩ = some (.int .i64 kc.op) ∧ v.cell? ⟨w6.heap.size, 1, none⟩ = some (.string kc.nm) ∧ v.cell? ⟨w6.heap.size, 2, none⟩ = some (.int .i64 kc.day) ∧ v.cell? ⟨w6.heap.size, 3, none⟩ = some (.slice kc.A kc.ps.length kc.cap)) := Lib.hid fun v hv => by
    have cc : ∀ o, v.cell? ⟨w2.heap.size, o, none⟩ = W7.cell? ⟨w2.heap.size, o, none⟩ := fun o => World.cell?_of_block (a := ⟨w2.heap.size, o, none⟩) hv.1
    have dd : ∀ o, v.cell? ⟨w6.heap.size, o, none⟩ = W7.cell? ⟨w6.heap.size, o, none⟩ := fun o => World.cell?_of_block (a := ⟨w6.heap.size, o, none⟩) hv.2.1
    exact ⟨⟨(cc 0).trans C7.out.c0, (cc 1).trans C7.out.c1, (cc 2).trans C7.out.c2, (cc 3).trans C7.out.c3⟩, (dd 0).trans D7.out.c0, (dd 1).trans D7.out.c1, (dd 2).trans D7.out.c2, (dd 3).trans D7.out.c3⟩
  have SM0 : Hid (Sm W7 w2.heap.size w6.heap.size W7) := Lib.hid ⟨rfl, rfl, l1, l2⟩
  go_region_held3 (fun v => (v.cell? ⟨w2.heap.size, 0, none⟩ = some (.int .i64 k.op) ∧ v.cell? ⟨w2.heap.size, 1, none⟩ = some (.string k.nm) ∧ v.cell? ⟨w2.heap.size, 2, none⟩ = some (.int .i64 k.day) ∧ v.cell? ⟨w2.heap.size, 3, none⟩ = some (.slice k.A k.ps.length k.cap)) ∧ v.cell? ⟨w6.heap.size, 0, none⟩ = some (.int .i64 kc.op) ∧ v.cell? ⟨w6.heap.size, 1, none⟩ = some (.string kc.nm) ∧ v.cell? ⟨w6.heap.size, 2, none⟩ = some (.int .i64 kc.day) ∧ v.cell? ⟨w6.heap.size, 3, none⟩ = some (.slice kc.A kc.ps.length kc.cap)) (first | (refine KX.out _ ?_; (repeat (first | with_reducible exact SM0.out | with_reducible apply Sm.drew | with_reducible apply Sm.alloc | (with_reducible refine Sm.set ?_ nc2 nc3 _) | (with_reducible refine Sm.set ?_ nw2 nw3 _))); done))
    (first
      | (go_at_call 50; (with_reducible refine (HSE.out _ (by (repeat (first | exact Below.refl _ _ | exact below1 _ _ | apply Below.drew)))).mono ?_); rintro e w' ⟨rfl, rfl⟩))
  all_goals go_wp2_with fail
  all_goals (obtain ⟨_, t0, t1, t2, t3, _⟩ := ((PV.out.put (.int .i64 5) (.string ⟨#[]⟩) (.int .i64 0) (.slice (some ⟨W7.heap.size, 0, none⟩) 2 2)).alloc (.cells #[.int .i64 k.op, .string k.nm, .int .i64 k.day, .slice k.A k.ps.length k.cap, .int .i64 kc.op, .string kc.nm, .int .i64 kc.day, .slice kc.A kc.ps.length kc.cap] 26)).on (drew_below _ _))
  all_goals (have hf := HF.out (.int .i64 5) (.string ⟨#[]⟩) (.int .i64 0) (.slice (some ⟨W7.heap.size, 0, none⟩) 2 2))
  all_goals (rw [SV.out] at hf)
  all_goals (rw [HV7.out] at t0 t1 t2 t3 hf)
  all_goals (simp only [Cond.put4] at t0 t1 t2 t3 hf)
  all_goals exact bodyPost_ret (v := .tuple #[(K.mk 5 .empty 0 (some ⟨W7.heap.size, 0, none⟩) 2 [k, kc]).val, .bool true]) (by simp [results, Tryz.results51, go_sem, t0, t1, t2, t3]; first | done | exact ⟨rfl, rfl, rfl, rfl, rfl, rfl⟩) rfl hf

set_option maxRecDepth 100000 in
set_option maxHeartbeats 8000000 in
theorem andOpen {dt : List UInt8 → Option Int} {n b : Nat} {W : World} (hS : Sub dt n b W) (hbW : W.heap.size ≤ b) (l : List UInt8) (L : Nat) (w : World) (qa : Q) (r1 : List UInt8) (hr : rd dt n l = some (qa, r1)) (hqa : qa.size ≤ L) (hr1 : r1.length < l.length) (hA : st wAnd r1 = true) (qb : Q) (r2 : List UInt8) (h2 : rd dt n (r1.drop 5) = some (qb, r2)) (hqb : qb.size ≤ L - qa.size) (hE : st wEnd r2 = false) (hL : L ≤ 15) (hl : l.length < n) (h : Rr b w l L) (hW : Below W.heap.size W w) :
    Calls Tryz.prog 51 #[.pointer (some ⟨b, 0, none⟩)] w (PB b w) := by
  obtain ⟨X, hX⟩ : ∃ X, X = w.alloc (.cells #[.int .i64 0, .string ⟨#[]⟩, .int .i64 0, .slice none 0 0] 26) := ⟨_, rfl⟩
  have b0 : Below w.heap.size w X := by rw [hX]; exact below1 _ _
  have P0 : Hid (B4 w.heap.size X (.int .i64 0) (.string ⟨#[]⟩) (.int .i64 0) (.slice none 0 0)) := Lib.hid (by rw [hX]; exact B4.new _ _ _ _ _ _)
  have HRD := Lib.hid (hS.good l L qa r1 X hr hqa hL hl (h.on b0) (hW.trans (b0.mono hW.size)))
  have hbw : b < w.heap.size := h.lt
  have M0 : Hid (Mv (· = b) (· = b) w X) := Lib.hid (Mv.of_below b0)
  have WX : Hid (Below W.heap.size W X) := Lib.hid (hW.trans (b0.mono hW.size))
  have SX : Hid (w.heap.size < X.heap.size) := Lib.hid P0.out.lt
  have HSU := Lib.hid hS
  have HXX := Lib.hid hX
  clear hX b0 hr h hW hS
  go_enter Tryz.func51, Tryz.ntmps51
  go_wp2_with (go_at_call 28; (try rw [← HXX.out]); refine HRD.out.mono ?_; rintro e w2 ⟨hm2, k, rfl, hk, hwk, hge, hrr⟩; refine Hid.out ?_)
  refine Lib.hid ?_
  have hW2 : Below W.heap.size W w2 := WX.out.trans (hm2.below (fun x hx => by rw [hx]; exact hbW) WX.out.size)
  obtain ⟨W3, hW3⟩ : ∃ V, V = w2.alloc (.cells #[.int .i64 k.op, .string k.nm, .int .i64 k.day, .slice k.A k.ps.length k.cap] 26) := ⟨_, rfl⟩
  have hb3 : Below w2.heap.size w2 W3 := by rw [hW3]; exact below1 _ _
  have M3 := Lib.hid ((M0.out.trans hm2).trans (Mv.of_below hb3))
  have P3 := Lib.hid ((P0.out.mv hm2 (by omega)).on hb3)
  have C3 : Hid (B4 w2.heap.size W3 (.int .i64 k.op) (.string k.nm) (.int .i64 k.day) (.slice k.A k.ps.length k.cap)) := Lib.hid (by rw [hW3]; exact B4.new _ _ _ _ _ _)
  have K3 := Lib.hid (hwk.on hb3)
  have R3 := Lib.hid (hrr.on hb3)
  have G3 : Hid (∀ x ∈ k.blocks, X.heap.size ≤ x ∧ x < w2.heap.size) := Lib.hid fun x hx => ⟨hge x hx, hwk.lt x hx⟩
  have Q3 := Lib.hid hk
  have BW3 : Hid (Below W.heap.size W W3) := Lib.hid (hW2.trans (hb3.mono hW2.size))
  have S3 : Hid (X.heap.size ≤ w2.heap.size ∧ w2.heap.size < W3.heap.size) := Lib.hid ⟨hm2.size, C3.out.lt⟩
  have HSA := skip b (L - qa.size) r1 ⟨#[32, 97, 110, 100, 32]⟩ W3 R3.out
  rw [show (⟨#[32, 97, 110, 100, 32]⟩ : ByteArray).data.toList = wAnd from rfl, hA, show trim wAnd r1 = r1.drop 5 by rw [trim, hA]; rfl] at HSA
  obtain ⟨W4, hW4⟩ : ∃ V, V = W3.setCell ⟨b, 0, none⟩ (.string (ba (r1.drop 5))) := ⟨_, rfl⟩
  have R4 : Hid (Rr b W4 (r1.drop 5) (L - qa.size)) := Lib.hid (by rw [hW4]; exact R3.out.set0 _)
  have mv4 : Mv (· = b) (· = b) W3 W4 := by rw [hW4]; exact mv_set b 0 W3 _
  have BW4 : Hid (Below W.heap.size W W4) := Lib.hid (by rw [hW4]; exact BW3.out.setCell (p := ⟨b, 0, none⟩) hbW _)
  have HW3 := Lib.hid hW3
  have HW4 := Lib.hid hW4
  have HSAH := Lib.hid HSA
  have MV := Lib.hid mv4
  have RV := R4
  have BV := BW4
  clear hW3 hW4 hb3 hm2 hk hwk hge hrr hW2 HSA mv4 HRD
  go_wp2_with (go_at_call 50; (try rw [← HW3.out]); refine HSAH.out.mono ?_; rintro e w' ⟨rfl, rfl⟩; (try rw [← HW4.out]); refine Hid.out ?_)
  refine Lib.hid ?_
  have HR2 := Lib.hid (HSU.out.good (r1.drop 5) (L - qa.size) qb r2 W4 h2 hqb (by omega) (by rw [List.length_drop]; omega) RV.out BV.out)
  go_wp2_with (go_at_call 28; (try rw [← HW4.out]); refine HR2.out.mono ?_; rintro e w6 ⟨hm6, kc, rfl, hkc, hwc, hgc, hrc⟩; refine Hid.out ?_)
  refine Lib.hid ?_
  obtain ⟨W7, hW7⟩ : ∃ V, V = w6.alloc (.cells #[.int .i64 kc.op, .string kc.nm, .int .i64 kc.day, .slice kc.A kc.ps.length kc.cap] 26) := ⟨_, rfl⟩
  have hb7 : Below w6.heap.size w6 W7 := by rw [hW7]; exact below1 _ _
  have mv37 : Mv (· = b) (· = b) W3 W7 := (MV.out.trans hm6).trans (Mv.of_below hb7)
  have M7 := Lib.hid (M3.out.trans mv37)
  have P2 := Lib.hid (P3.out.mv mv37 (by omega))
  have C7 := Lib.hid (C3.out.mv mv37 (by have := S3.out; have := SX.out; omega))
  have D7 : Hid (B4 w6.heap.size W7 (.int .i64 kc.op) (.string kc.nm) (.int .i64 kc.day) (.slice kc.A kc.ps.length kc.cap)) := Lib.hid (by rw [hW7]; exact B4.new _ _ _ _ _ _)
  have K7 := Lib.hid (K3.out.mv mv37 (fun h => by have := (G3.out _ h).1; have := SX.out; omega))
  have L7 := Lib.hid (hwc.on hb7)
  have GC : Hid (∀ x ∈ kc.blocks, W3.heap.size ≤ x) := Lib.hid fun x hx => by have := hgc x hx; have := MV.out.size; omega
  have QC := Lib.hid hkc
  have R7 := Lib.hid (hrc.on hb7)
  have HSE : Hid (∀ v, Below W7.heap.size W7 v → Calls Tryz.prog 50 #[.pointer (some ⟨b, 0, none⟩), .string ⟨#[41]⟩] v fun e w' => e = .returned (.bool false) ∧ v.setCell ⟨b, 0, none⟩ (.string (ba (r2))) = w') := Lib.hid fun v hv => by
    have := skip b (L - qa.size - qb.size) r2 ⟨#[41]⟩ v (R7.out.on hv)
    rw [show (⟨#[41]⟩ : ByteArray).data.toList = wEnd from rfl, hE, show trim wEnd r2 = r2 by rw [trim, hE]; rfl] at this
    exact this
  obtain ⟨V7, hV7⟩ : ∃ V, V = W7.setCell ⟨b, 0, none⟩ (.string (ba (r2))) := ⟨_, rfl⟩
  have mv77 : Mv (· = b) (· = b) W7 V7 := by rw [hV7]; exact mv_set b 0 W7 _
  have MF := Lib.hid (M7.out.trans mv77)
  have HF : Hid (∀ x0 x1 x2 x3, PB b w (.returned (.tuple #[(K.mk 5 .empty 0 (some ⟨V7.heap.size, 0, none⟩) 2 [k, kc]).val, .bool false])) (((Cond.put4 V7 w.heap.size 0 x0 x1 x2 x3).alloc (.cells #[.int .i64 k.op, .string k.nm, .int .i64 k.day, .slice k.A k.ps.length k.cap, .int .i64 kc.op, .string kc.nm, .int .i64 kc.day, .slice kc.A kc.ps.length kc.cap] 26)).drew)) := Lib.hid fun x0 x1 x2 x3 => PB.drew ⟨(MF.out.put4 (Nat.le_refl _)).alloc _, _, rfl⟩
  have SV : Hid (V7.heap.size = W7.heap.size) := Lib.hid (by rw [hV7]; simp)
  have PV := Lib.hid (P2.out.mv mv77 (by omega))
  have HV7 := Lib.hid hV7
  have HW7 := Lib.hid hW7
  obtain ⟨_, p0, p1, p2, p3, pf⟩ := P2.out
  have pf0 := pf 0
  have pf1 := pf 1
  have pf2 := pf 2
  have pf3 := pf 3
  clear pf
  obtain ⟨_, c0, c1, c2, c3, _⟩ := C7.out
  obtain ⟨_, d0, d1, d2, d3, _⟩ := D7.out
  have l1 : w2.heap.size < W7.heap.size := C7.out.lt
  have l2 : w6.heap.size < W7.heap.size := D7.out.lt
  have l3 : w.heap.size < W7.heap.size := P2.out.lt
  have rf0 := R7.out.fz 0
  have rc0 := R7.out.c0
  have l4 : b < W7.heap.size := R7.out.lt
  have nb : ¬ b = w.heap.size := by omega
  have nb2 : ¬ b = w2.heap.size := by have := S3.out; have := SX.out; omega
  have nb3 : ¬ b = w6.heap.size := by have := S3.out; have := SX.out; have := MV.out.size; have := hm6.size; omega
  have nw2 : ¬ w2.heap.size = w.heap.size := by have := S3.out; have := SX.out; omega
  have nw3 : ¬ w6.heap.size = w.heap.size := by have := S3.out; have := SX.out; have := MV.out.size; have := hm6.size; omega
  have nc : ¬ w.heap.size = b := fun e => nb e.symm
  have nc2 : ¬ w2.heap.size = b := fun e => nb2 e.symm
  have nc3 : ¬ w6.heap.size = b := fun e => nb3 e.symm
  clear hm6 hkc hwc hgc hrc hb7 mv37 mv77 hV7 hW7
  go_wp2_with fail
  rw [← HW7.out]
  have KX : Hid (∀ v, Sm W7 w2.heap.size w6.heap.size v → (v.cell? ⟨w2.heap.size, 0, none⟩ = some (.int .i64 k.op) ∧ v.cell? ⟨w2.heap.size, 1, none⟩ = some (.string k.nm) ∧ v.cell? ⟨w2.heap.size, 2, none⟩ = some (.int .i64 k.day) ∧ v.cell? ⟨w2.heap.size, 3, none⟩ = some (.slice k.A k.ps.length k.cap)) ∧ v.cell? ⟨w6.heap.size, 0, none⟩ = some (.int .i64 kc.op) ∧ v.cell? ⟨w6.heap.size, 1, none⟩ = some (.string kc.nm) ∧ v.cell? ⟨w6.heap.size, 2, none⟩ = some (.int .i64 kc.day) ∧ v.cell? ⟨w6.heap.size, 3, none⟩ = some (.slice kc.A kc.ps.length kc.cap)) := Lib.hid fun v hv => by
    have cc : ∀ o, v.cell? ⟨w2.heap.size, o, none⟩ = W7.cell? ⟨w2.heap.size, o, none⟩ := fun o => World.cell?_of_block (a := ⟨w2.heap.size, o, none⟩) hv.1
    have dd : ∀ o, v.cell? ⟨w6.heap.size, o, none⟩ = W7.cell? ⟨w6.heap.size, o, none⟩ := fun o => World.cell?_of_block (a := ⟨w6.heap.size, o, none⟩) hv.2.1
    exact ⟨⟨(cc 0).trans C7.out.c0, (cc 1).trans C7.out.c1, (cc 2).trans C7.out.c2, (cc 3).trans C7.out.c3⟩, (dd 0).trans D7.out.c0, (dd 1).trans D7.out.c1, (dd 2).trans D7.out.c2, (dd 3).trans D7.out.c3⟩
  have SM0 : Hid (Sm W7 w2.heap.size w6.heap.size W7) := Lib.hid ⟨rfl, rfl, l1, l2⟩
  go_region_held3 (fun v => (v.cell? ⟨w2.heap.size, 0, none⟩ = some (.int .i64 k.op) ∧ v.cell? ⟨w2.heap.size, 1, none⟩ = some (.string k.nm) ∧ v.cell? ⟨w2.heap.size, 2, none⟩ = some (.int .i64 k.day) ∧ v.cell? ⟨w2.heap.size, 3, none⟩ = some (.slice k.A k.ps.length k.cap)) ∧ v.cell? ⟨w6.heap.size, 0, none⟩ = some (.int .i64 kc.op) ∧ v.cell? ⟨w6.heap.size, 1, none⟩ = some (.string kc.nm) ∧ v.cell? ⟨w6.heap.size, 2, none⟩ = some (.int .i64 kc.day) ∧ v.cell? ⟨w6.heap.size, 3, none⟩ = some (.slice kc.A kc.ps.length kc.cap)) (first | (refine KX.out _ ?_; (repeat (first | with_reducible exact SM0.out | with_reducible apply Sm.drew | with_reducible apply Sm.alloc | (with_reducible refine Sm.set ?_ nc2 nc3 _) | (with_reducible refine Sm.set ?_ nw2 nw3 _))); done))
    (first
      | (go_at_call 50; (with_reducible refine (HSE.out _ (by (repeat (first | exact Below.refl _ _ | exact below1 _ _ | apply Below.drew)))).mono ?_); rintro e w' ⟨rfl, rfl⟩))
  all_goals go_wp2_with fail
  all_goals (obtain ⟨_, t0, t1, t2, t3, _⟩ := ((PV.out.put (.int .i64 5) (.string ⟨#[]⟩) (.int .i64 0) (.slice (some ⟨W7.heap.size, 0, none⟩) 2 2)).alloc (.cells #[.int .i64 k.op, .string k.nm, .int .i64 k.day, .slice k.A k.ps.length k.cap, .int .i64 kc.op, .string kc.nm, .int .i64 kc.day, .slice kc.A kc.ps.length kc.cap] 26)).on (drew_below _ _))
  all_goals (have hf := HF.out (.int .i64 5) (.string ⟨#[]⟩) (.int .i64 0) (.slice (some ⟨W7.heap.size, 0, none⟩) 2 2))
  all_goals (rw [SV.out] at hf)
  all_goals (rw [HV7.out] at t0 t1 t2 t3 hf)
  all_goals (simp only [Cond.put4] at t0 t1 t2 t3 hf)
  all_goals exact bodyPost_ret (v := .tuple #[(K.mk 5 .empty 0 (some ⟨W7.heap.size, 0, none⟩) 2 [k, kc]).val, .bool false]) (by simp [results, Tryz.results51, go_sem, t0, t1, t2, t3]; first | done | exact ⟨rfl, rfl, rfl, rfl, rfl, rfl⟩) rfl hf

set_option maxRecDepth 100000 in
set_option maxHeartbeats 8000000 in
theorem andBad {dt : List UInt8 → Option Int} {n b : Nat} {W : World} (hS : Sub dt n b W) (hbW : W.heap.size ≤ b) (l : List UInt8) (L : Nat) (w : World) (qa : Q) (r1 : List UInt8) (hr : rd dt n l = some (qa, r1)) (hqa : qa.size ≤ L) (hr1 : r1.length < l.length) (hA : st wAnd r1 = true) (h2 : ∀ q r, rd dt n (r1.drop 5) = some (q, r) → L - qa.size < q.size) (hL : L ≤ 15) (hl : l.length < n) (h : Rr b w l L) (hW : Below W.heap.size W w) :
    Calls Tryz.prog 51 #[.pointer (some ⟨b, 0, none⟩)] w (PB b w) := by
  obtain ⟨X, hX⟩ : ∃ X, X = w.alloc (.cells #[.int .i64 0, .string ⟨#[]⟩, .int .i64 0, .slice none 0 0] 26) := ⟨_, rfl⟩
  have b0 : Below w.heap.size w X := by rw [hX]; exact below1 _ _
  have P0 : Hid (B4 w.heap.size X (.int .i64 0) (.string ⟨#[]⟩) (.int .i64 0) (.slice none 0 0)) := Lib.hid (by rw [hX]; exact B4.new _ _ _ _ _ _)
  have HRD := Lib.hid (hS.good l L qa r1 X hr hqa hL hl (h.on b0) (hW.trans (b0.mono hW.size)))
  have hbw : b < w.heap.size := h.lt
  have M0 : Hid (Mv (· = b) (· = b) w X) := Lib.hid (Mv.of_below b0)
  have WX : Hid (Below W.heap.size W X) := Lib.hid (hW.trans (b0.mono hW.size))
  have SX : Hid (w.heap.size < X.heap.size) := Lib.hid P0.out.lt
  have HSU := Lib.hid hS
  have HXX := Lib.hid hX
  clear hX b0 hr h hW hS
  go_enter Tryz.func51, Tryz.ntmps51
  go_wp2_with (go_at_call 28; (try rw [← HXX.out]); refine HRD.out.mono ?_; rintro e w2 ⟨hm2, k, rfl, hk, hwk, hge, hrr⟩; refine Hid.out ?_)
  refine Lib.hid ?_
  have hW2 : Below W.heap.size W w2 := WX.out.trans (hm2.below (fun x hx => by rw [hx]; exact hbW) WX.out.size)
  obtain ⟨W3, hW3⟩ : ∃ V, V = w2.alloc (.cells #[.int .i64 k.op, .string k.nm, .int .i64 k.day, .slice k.A k.ps.length k.cap] 26) := ⟨_, rfl⟩
  have hb3 : Below w2.heap.size w2 W3 := by rw [hW3]; exact below1 _ _
  have M3 := Lib.hid ((M0.out.trans hm2).trans (Mv.of_below hb3))
  have P3 := Lib.hid ((P0.out.mv hm2 (by omega)).on hb3)
  have C3 : Hid (B4 w2.heap.size W3 (.int .i64 k.op) (.string k.nm) (.int .i64 k.day) (.slice k.A k.ps.length k.cap)) := Lib.hid (by rw [hW3]; exact B4.new _ _ _ _ _ _)
  have K3 := Lib.hid (hwk.on hb3)
  have R3 := Lib.hid (hrr.on hb3)
  have G3 : Hid (∀ x ∈ k.blocks, X.heap.size ≤ x ∧ x < w2.heap.size) := Lib.hid fun x hx => ⟨hge x hx, hwk.lt x hx⟩
  have Q3 := Lib.hid hk
  have BW3 : Hid (Below W.heap.size W W3) := Lib.hid (hW2.trans (hb3.mono hW2.size))
  have S3 : Hid (X.heap.size ≤ w2.heap.size ∧ w2.heap.size < W3.heap.size) := Lib.hid ⟨hm2.size, C3.out.lt⟩
  have HSA := skip b (L - qa.size) r1 ⟨#[32, 97, 110, 100, 32]⟩ W3 R3.out
  rw [show (⟨#[32, 97, 110, 100, 32]⟩ : ByteArray).data.toList = wAnd from rfl, hA, show trim wAnd r1 = r1.drop 5 by rw [trim, hA]; rfl] at HSA
  obtain ⟨W4, hW4⟩ : ∃ V, V = W3.setCell ⟨b, 0, none⟩ (.string (ba (r1.drop 5))) := ⟨_, rfl⟩
  have R4 : Hid (Rr b W4 (r1.drop 5) (L - qa.size)) := Lib.hid (by rw [hW4]; exact R3.out.set0 _)
  have mv4 : Mv (· = b) (· = b) W3 W4 := by rw [hW4]; exact mv_set b 0 W3 _
  have BW4 : Hid (Below W.heap.size W W4) := Lib.hid (by rw [hW4]; exact BW3.out.setCell (p := ⟨b, 0, none⟩) hbW _)
  have HW3 := Lib.hid hW3
  have HW4 := Lib.hid hW4
  have HSAH := Lib.hid HSA
  have MV := Lib.hid mv4
  have RV := R4
  have BV := BW4
  clear hW3 hW4 hb3 hm2 hk hwk hge hrr hW2 HSA mv4 HRD
  go_wp2_with (go_at_call 50; (try rw [← HW3.out]); refine HSAH.out.mono ?_; rintro e w' ⟨rfl, rfl⟩; (try rw [← HW4.out]); refine Hid.out ?_)
  refine Lib.hid ?_
  have HR2 := Lib.hid (HSU.out.bad (r1.drop 5) (L - qa.size) W4 h2 (by omega) (by rw [List.length_drop]; omega) RV.out BV.out)
  go_wp2_with (go_at_call 28; (try rw [← HW4.out]); refine HR2.out.mono ?_; rintro e w6 ⟨hm6, kc, rfl⟩; refine Hid.out ?_)
  refine Lib.hid ?_
  obtain ⟨W7, hW7⟩ : ∃ V, V = w6.alloc (.cells #[.int .i64 kc.op, .string kc.nm, .int .i64 kc.day, .slice kc.A kc.ps.length kc.cap] 26) := ⟨_, rfl⟩
  have hb7 : Below w6.heap.size w6 W7 := by rw [hW7]; exact below1 _ _
  have mv37 : Mv (· = b) (· = b) W3 W7 := (MV.out.trans hm6).trans (Mv.of_below hb7)
  have M7 := Lib.hid (M3.out.trans mv37)
  have P2 := Lib.hid (P3.out.mv mv37 (by omega))
  have C7 := Lib.hid (C3.out.mv mv37 (by have := S3.out; have := SX.out; omega))
  have D7 : Hid (B4 w6.heap.size W7 (.int .i64 kc.op) (.string kc.nm) (.int .i64 kc.day) (.slice kc.A kc.ps.length kc.cap)) := Lib.hid (by rw [hW7]; exact B4.new _ _ _ _ _ _)
  have HF : Hid (∀ x0 x1 x2 x3, PB b w (.returned (.tuple #[(K.mk 5 .empty 0 (some ⟨W7.heap.size, 0, none⟩) 2 [k, kc]).val, .bool false])) (((Cond.put4 W7 w.heap.size 0 x0 x1 x2 x3).alloc (.cells #[.int .i64 k.op, .string k.nm, .int .i64 k.day, .slice k.A k.ps.length k.cap, .int .i64 kc.op, .string kc.nm, .int .i64 kc.day, .slice kc.A kc.ps.length kc.cap] 26)).drew)) := Lib.hid fun x0 x1 x2 x3 => PB.drew ⟨(M7.out.put4 (Nat.le_refl _)).alloc _, _, rfl⟩
  have HW7 := Lib.hid hW7
  obtain ⟨_, p0, p1, p2, p3, pf⟩ := P2.out
  have pf0 := pf 0
  have pf1 := pf 1
  have pf2 := pf 2
  have pf3 := pf 3
  clear pf
  obtain ⟨_, c0, c1, c2, c3, _⟩ := C7.out
  obtain ⟨_, d0, d1, d2, d3, _⟩ := D7.out
  have l1 : w2.heap.size < W7.heap.size := C7.out.lt
  have l2 : w6.heap.size < W7.heap.size := D7.out.lt
  have l3 : w.heap.size < W7.heap.size := P2.out.lt
  clear hm6 hb7 mv37 hW7
  go_wp2_with fail
  rw [← HW7.out]
  first | (go_region_with (fail)) | fail
  all_goals go_wp2_with fail
  all_goals (obtain ⟨_, t0, t1, t2, t3, _⟩ := ((P2.out.put (.int .i64 5) (.string ⟨#[]⟩) (.int .i64 0) (.slice (some ⟨W7.heap.size, 0, none⟩) 2 2)).alloc (.cells #[.int .i64 k.op, .string k.nm, .int .i64 k.day, .slice k.A k.ps.length k.cap, .int .i64 kc.op, .string kc.nm, .int .i64 kc.day, .slice kc.A kc.ps.length kc.cap] 26)).on (drew_below _ _))
  all_goals (have hf := HF.out (.int .i64 5) (.string ⟨#[]⟩) (.int .i64 0) (.slice (some ⟨W7.heap.size, 0, none⟩) 2 2))
  all_goals (simp only [Cond.put4] at t0 t1 t2 t3 hf)
  all_goals exact bodyPost_ret (v := .tuple #[(K.mk 5 .empty 0 (some ⟨W7.heap.size, 0, none⟩) 2 [k, kc]).val, .bool false]) (by simp [results, Tryz.results51, go_sem, t0, t1, t2, t3]; first | done | exact ⟨rfl, rfl, rfl, rfl, rfl, rfl⟩) rfl hf

set_option maxRecDepth 100000 in
set_option maxHeartbeats 8000000 in
theorem orGood {dt : List UInt8 → Option Int} {n b : Nat} {W : World} (hS : Sub dt n b W) (hbW : W.heap.size ≤ b) (l : List UInt8) (L : Nat) (w : World) (qa : Q) (r1 : List UInt8) (hr : rd dt n l = some (qa, r1)) (hqa : qa.size ≤ L) (hr1 : r1.length < l.length) (hA : st wAnd r1 = false) (hO : st wOr r1 = true) (qb : Q) (r2 : List UInt8) (h2 : rd dt n (r1.drop 4) = some (qb, r2)) (hqb : qb.size ≤ L - qa.size) (hE : st wEnd r2 = true) (hL : L ≤ 15) (hl : l.length < n) (h : Rr b w l L) (hW : Below W.heap.size W w) :
    Calls Tryz.prog 51 #[.pointer (some ⟨b, 0, none⟩)] w (PG b (.or qa qb) (r2.drop 1) (L - qa.size - qb.size) w) := by
  rw [List.drop_one]
  obtain ⟨X, hX⟩ : ∃ X, X = w.alloc (.cells #[.int .i64 0, .string ⟨#[]⟩, .int .i64 0, .slice none 0 0] 26) := ⟨_, rfl⟩
  have b0 : Below w.heap.size w X := by rw [hX]; exact below1 _ _
  have P0 : Hid (B4 w.heap.size X (.int .i64 0) (.string ⟨#[]⟩) (.int .i64 0) (.slice none 0 0)) := Lib.hid (by rw [hX]; exact B4.new _ _ _ _ _ _)
  have HRD := Lib.hid (hS.good l L qa r1 X hr hqa hL hl (h.on b0) (hW.trans (b0.mono hW.size)))
  have hbw : b < w.heap.size := h.lt
  have M0 : Hid (Mv (· = b) (· = b) w X) := Lib.hid (Mv.of_below b0)
  have WX : Hid (Below W.heap.size W X) := Lib.hid (hW.trans (b0.mono hW.size))
  have SX : Hid (w.heap.size < X.heap.size) := Lib.hid P0.out.lt
  have HSU := Lib.hid hS
  have HXX := Lib.hid hX
  clear hX b0 hr h hW hS
  go_enter Tryz.func51, Tryz.ntmps51
  go_wp2_with (go_at_call 28; (try rw [← HXX.out]); refine HRD.out.mono ?_; rintro e w2 ⟨hm2, k, rfl, hk, hwk, hge, hrr⟩; refine Hid.out ?_)
  refine Lib.hid ?_
  have hW2 : Below W.heap.size W w2 := WX.out.trans (hm2.below (fun x hx => by rw [hx]; exact hbW) WX.out.size)
  obtain ⟨W3, hW3⟩ : ∃ V, V = w2.alloc (.cells #[.int .i64 k.op, .string k.nm, .int .i64 k.day, .slice k.A k.ps.length k.cap] 26) := ⟨_, rfl⟩
  have hb3 : Below w2.heap.size w2 W3 := by rw [hW3]; exact below1 _ _
  have M3 := Lib.hid ((M0.out.trans hm2).trans (Mv.of_below hb3))
  have P3 := Lib.hid ((P0.out.mv hm2 (by omega)).on hb3)
  have C3 : Hid (B4 w2.heap.size W3 (.int .i64 k.op) (.string k.nm) (.int .i64 k.day) (.slice k.A k.ps.length k.cap)) := Lib.hid (by rw [hW3]; exact B4.new _ _ _ _ _ _)
  have K3 := Lib.hid (hwk.on hb3)
  have R3 := Lib.hid (hrr.on hb3)
  have G3 : Hid (∀ x ∈ k.blocks, X.heap.size ≤ x ∧ x < w2.heap.size) := Lib.hid fun x hx => ⟨hge x hx, hwk.lt x hx⟩
  have Q3 := Lib.hid hk
  have BW3 : Hid (Below W.heap.size W W3) := Lib.hid (hW2.trans (hb3.mono hW2.size))
  have S3 : Hid (X.heap.size ≤ w2.heap.size ∧ w2.heap.size < W3.heap.size) := Lib.hid ⟨hm2.size, C3.out.lt⟩
  have HSA := skip b (L - qa.size) r1 ⟨#[32, 97, 110, 100, 32]⟩ W3 R3.out
  rw [show (⟨#[32, 97, 110, 100, 32]⟩ : ByteArray).data.toList = wAnd from rfl, hA, show trim wAnd r1 = r1 by rw [trim, hA]; rfl] at HSA
  obtain ⟨W4, hW4⟩ : ∃ V, V = W3.setCell ⟨b, 0, none⟩ (.string (ba (r1))) := ⟨_, rfl⟩
  have R4 : Hid (Rr b W4 (r1) (L - qa.size)) := Lib.hid (by rw [hW4]; exact R3.out.set0 _)
  have mv4 : Mv (· = b) (· = b) W3 W4 := by rw [hW4]; exact mv_set b 0 W3 _
  have BW4 : Hid (Below W.heap.size W W4) := Lib.hid (by rw [hW4]; exact BW3.out.setCell (p := ⟨b, 0, none⟩) hbW _)
  have HW3 := Lib.hid hW3
  have HW4 := Lib.hid hW4
  have HSAH := Lib.hid HSA
  have HSO := skip b (L - qa.size) r1 ⟨#[32, 111, 114, 32]⟩ W4 R4.out
  rw [show (⟨#[32, 111, 114, 32]⟩ : ByteArray).data.toList = wOr from rfl, hO, show trim wOr r1 = r1.drop 4 by rw [trim, hO]; rfl] at HSO
  obtain ⟨W5, hW5⟩ : ∃ V, V = W4.setCell ⟨b, 0, none⟩ (.string (ba (r1.drop 4))) := ⟨_, rfl⟩
  have RV : Hid (Rr b W5 (r1.drop 4) (L - qa.size)) := Lib.hid (by rw [hW5]; exact R4.out.set0 _)
  have MV : Hid (Mv (· = b) (· = b) W3 W5) := Lib.hid (mv4.trans (by rw [hW5]; exact mv_set b 0 W4 _))
  have BV : Hid (Below W.heap.size W W5) := Lib.hid (by rw [hW5]; exact BW4.out.setCell (p := ⟨b, 0, none⟩) hbW _)
  have HW5 := Lib.hid hW5
  have HSOH := Lib.hid HSO
  clear hW3 hW4 hW5 hb3 hm2 hk hwk hge hrr hW2 HSA HSO mv4 HRD
  go_wp2_with (go_at_call 50; (try rw [← HW3.out]); refine HSAH.out.mono ?_; rintro e w' ⟨rfl, rfl⟩; (try rw [← HW4.out]); refine Hid.out ?_)
  refine Lib.hid ?_
  go_wp2_with (go_at_call 50; (try rw [← HW4.out]); refine HSOH.out.mono ?_; rintro e w' ⟨rfl, rfl⟩; (try rw [← HW5.out]); refine Hid.out ?_)
  refine Lib.hid ?_
  have HR2 := Lib.hid (HSU.out.good (r1.drop 4) (L - qa.size) qb r2 W5 h2 hqb (by omega) (by rw [List.length_drop]; omega) RV.out BV.out)
  go_wp2_with (go_at_call 28; (try rw [← HW5.out]); refine HR2.out.mono ?_; rintro e w6 ⟨hm6, kc, rfl, hkc, hwc, hgc, hrc⟩; refine Hid.out ?_)
  refine Lib.hid ?_
  obtain ⟨W7, hW7⟩ : ∃ V, V = w6.alloc (.cells #[.int .i64 kc.op, .string kc.nm, .int .i64 kc.day, .slice kc.A kc.ps.length kc.cap] 26) := ⟨_, rfl⟩
  have hb7 : Below w6.heap.size w6 W7 := by rw [hW7]; exact below1 _ _
  have mv37 : Mv (· = b) (· = b) W3 W7 := (MV.out.trans hm6).trans (Mv.of_below hb7)
  have M7 := Lib.hid (M3.out.trans mv37)
  have P2 := Lib.hid (P3.out.mv mv37 (by omega))
  have C7 := Lib.hid (C3.out.mv mv37 (by have := S3.out; have := SX.out; omega))
  have D7 : Hid (B4 w6.heap.size W7 (.int .i64 kc.op) (.string kc.nm) (.int .i64 kc.day) (.slice kc.A kc.ps.length kc.cap)) := Lib.hid (by rw [hW7]; exact B4.new _ _ _ _ _ _)
  have K7 := Lib.hid (K3.out.mv mv37 (fun h => by have := (G3.out _ h).1; have := SX.out; omega))
  have L7 := Lib.hid (hwc.on hb7)
  have GC : Hid (∀ x ∈ kc.blocks, W3.heap.size ≤ x) := Lib.hid fun x hx => by have := hgc x hx; have := MV.out.size; omega
  have QC := Lib.hid hkc
  have R7 := Lib.hid (hrc.on hb7)
  have HSE : Hid (∀ v, Below W7.heap.size W7 v → Calls Tryz.prog 50 #[.pointer (some ⟨b, 0, none⟩), .string ⟨#[41]⟩] v fun e w' => e = .returned (.bool true) ∧ v.setCell ⟨b, 0, none⟩ (.string (ba (r2.tail))) = w') := Lib.hid fun v hv => by
    have := skip b (L - qa.size - qb.size) r2 ⟨#[41]⟩ v (R7.out.on hv)
    rw [show (⟨#[41]⟩ : ByteArray).data.toList = wEnd from rfl, hE, show trim wEnd r2 = r2.tail by rw [trim, hE, ← List.drop_one]; rfl] at this
    exact this
  obtain ⟨V7, hV7⟩ : ∃ V, V = W7.setCell ⟨b, 0, none⟩ (.string (ba (r2.tail))) := ⟨_, rfl⟩
  have mv77 : Mv (· = b) (· = b) W7 V7 := by rw [hV7]; exact mv_set b 0 W7 _
  have MF := Lib.hid (M7.out.trans mv77)
  have HF : Hid (∀ x0 x1 x2 x3, PG b (.or qa qb) r2.tail (L - qa.size - qb.size) w (.returned (.tuple #[(K.mk 6 .empty 0 (some ⟨V7.heap.size, 0, none⟩) 2 [k, kc]).val, .bool true])) (((Cond.put4 V7 w.heap.size 0 x0 x1 x2 x3).alloc (.cells #[.int .i64 k.op, .string k.nm, .int .i64 k.day, .slice k.A k.ps.length k.cap, .int .i64 kc.op, .string kc.nm, .int .i64 kc.day, .slice kc.A kc.ps.length kc.cap] 26)).drew)) := Lib.hid fun x0 x1 x2 x3 => PG.drew (pg_pair (S := X.heap.size) (qa := qa) (qb := qb) (.inr ⟨rfl, rfl⟩) MF.out Q3.out QC.out (K7.out.mv mv77 (fun h => by have := (G3.out _ h).1; have := SX.out; omega)) (L7.out.mv mv77 (fun h => by have := GC.out _ h; have := S3.out; have := SX.out; omega)) (fun x hx hy => by have := (G3.out x hx).2; have := GC.out x hy; have := S3.out; omega) (fun x hx => (G3.out x hx).1) (fun x hx => by have := GC.out x hx; have := S3.out; omega) (by rw [hV7]; exact R7.out.set0 _) (Nat.le_refl _) SX.out hbw)
  have SV : Hid (V7.heap.size = W7.heap.size) := Lib.hid (by rw [hV7]; simp)
  have PV := Lib.hid (P2.out.mv mv77 (by omega))
  have HV7 := Lib.hid hV7
  have HW7 := Lib.hid hW7
  obtain ⟨_, p0, p1, p2, p3, pf⟩ := P2.out
  have pf0 := pf 0
  have pf1 := pf 1
  have pf2 := pf 2
  have pf3 := pf 3
  clear pf
  obtain ⟨_, c0, c1, c2, c3, _⟩ := C7.out
  obtain ⟨_, d0, d1, d2, d3, _⟩ := D7.out
  have l1 : w2.heap.size < W7.heap.size := C7.out.lt
  have l2 : w6.heap.size < W7.heap.size := D7.out.lt
  have l3 : w.heap.size < W7.heap.size := P2.out.lt
  have rf0 := R7.out.fz 0
  have rc0 := R7.out.c0
  have l4 : b < W7.heap.size := R7.out.lt
  have nb : ¬ b = w.heap.size := by omega
  have nb2 : ¬ b = w2.heap.size := by have := S3.out; have := SX.out; omega
  have nb3 : ¬ b = w6.heap.size := by have := S3.out; have := SX.out; have := MV.out.size; have := hm6.size; omega
  have nw2 : ¬ w2.heap.size = w.heap.size := by have := S3.out; have := SX.out; omega
  have nw3 : ¬ w6.heap.size = w.heap.size := by have := S3.out; have := SX.out; have := MV.out.size; have := hm6.size; omega
  have nc : ¬ w.heap.size = b := fun e => nb e.symm
  have nc2 : ¬ w2.heap.size = b := fun e => nb2 e.symm
  have nc3 : ¬ w6.heap.size = b := fun e => nb3 e.symm
  clear hm6 hkc hwc hgc hrc hb7 mv37 mv77 hV7 hW7
  go_wp2_with fail
  rw [← HW7.out]
  have KX : Hid (∀ v, Sm W7 w2.heap.size w6.heap.size v → (v.cell? ⟨w2.heap.size, 0, none⟩ = some (.int .i64 k.op) ∧ v.cell? ⟨w2.heap.size, 1, none⟩ = some (.string k.nm) ∧ v.cell? ⟨w2.heap.size, 2, none⟩ = some (.int .i64 k.day) ∧ v.cell? ⟨w2.heap.size, 3, none⟩ = some (.slice k.A k.ps.length k.cap)) ∧ v.cell? ⟨w6.heap.size, 0, none⟩ = some (.int .i64 kc.op) ∧ v.cell? ⟨w6.heap.size, 1, none⟩ = some (.string kc.nm) ∧ v.cell? ⟨w6.heap.size, 2, none⟩ = some (.int .i64 kc.day) ∧ v.cell? ⟨w6.heap.size, 3, none⟩ = some (.slice kc.A kc.ps.length kc.cap)) := Lib.hid fun v hv => by
    have cc : ∀ o, v.cell? ⟨w2.heap.size, o, none⟩ = W7.cell? ⟨w2.heap.size, o, none⟩ := fun o => World.cell?_of_block (a := ⟨w2.heap.size, o, none⟩) hv.1
    have dd : ∀ o, v.cell? ⟨w6.heap.size, o, none⟩ = W7.cell? ⟨w6.heap.size, o, none⟩ := fun o => World.cell?_of_block (a := ⟨w6.heap.size, o, none⟩) hv.2.1
    exact ⟨⟨(cc 0).trans C7.out.c0, (cc 1).trans C7.out.c1, (cc 2).trans C7.out.c2, (cc 3).trans C7.out.c3⟩, (dd 0).trans D7.out.c0, (dd 1).trans D7.out.c1, (dd 2).trans D7.out.c2, (dd 3).trans D7.out.c3⟩
  have SM0 : Hid (Sm W7 w2.heap.size w6.heap.size W7) := Lib.hid ⟨rfl, rfl, l1, l2⟩
  go_region_held3 (fun v => (v.cell? ⟨w2.heap.size, 0, none⟩ = some (.int .i64 k.op) ∧ v.cell? ⟨w2.heap.size, 1, none⟩ = some (.string k.nm) ∧ v.cell? ⟨w2.heap.size, 2, none⟩ = some (.int .i64 k.day) ∧ v.cell? ⟨w2.heap.size, 3, none⟩ = some (.slice k.A k.ps.length k.cap)) ∧ v.cell? ⟨w6.heap.size, 0, none⟩ = some (.int .i64 kc.op) ∧ v.cell? ⟨w6.heap.size, 1, none⟩ = some (.string kc.nm) ∧ v.cell? ⟨w6.heap.size, 2, none⟩ = some (.int .i64 kc.day) ∧ v.cell? ⟨w6.heap.size, 3, none⟩ = some (.slice kc.A kc.ps.length kc.cap)) (first | (refine KX.out _ ?_; (repeat (first | with_reducible exact SM0.out | with_reducible apply Sm.drew | with_reducible apply Sm.alloc | (with_reducible refine Sm.set ?_ nc2 nc3 _) | (with_reducible refine Sm.set ?_ nw2 nw3 _))); done))
    (first
      | (go_at_call 50; (with_reducible refine (HSE.out _ (by (repeat (first | exact Below.refl _ _ | exact below1 _ _ | apply Below.drew)))).mono ?_); rintro e w' ⟨rfl, rfl⟩))
  all_goals go_wp2_with fail
  all_goals (obtain ⟨_, t0, t1, t2, t3, _⟩ := ((PV.out.put (.int .i64 6) (.string ⟨#[]⟩) (.int .i64 0) (.slice (some ⟨W7.heap.size, 0, none⟩) 2 2)).alloc (.cells #[.int .i64 k.op, .string k.nm, .int .i64 k.day, .slice k.A k.ps.length k.cap, .int .i64 kc.op, .string kc.nm, .int .i64 kc.day, .slice kc.A kc.ps.length kc.cap] 26)).on (drew_below _ _))
  all_goals (have hf := HF.out (.int .i64 6) (.string ⟨#[]⟩) (.int .i64 0) (.slice (some ⟨W7.heap.size, 0, none⟩) 2 2))
  all_goals (rw [SV.out] at hf)
  all_goals (rw [HV7.out] at t0 t1 t2 t3 hf)
  all_goals (simp only [Cond.put4] at t0 t1 t2 t3 hf)
  all_goals exact bodyPost_ret (v := .tuple #[(K.mk 6 .empty 0 (some ⟨W7.heap.size, 0, none⟩) 2 [k, kc]).val, .bool true]) (by simp [results, Tryz.results51, go_sem, t0, t1, t2, t3]; first | done | exact ⟨rfl, rfl, rfl, rfl, rfl, rfl⟩) rfl hf

set_option maxRecDepth 100000 in
set_option maxHeartbeats 8000000 in
theorem orOpen {dt : List UInt8 → Option Int} {n b : Nat} {W : World} (hS : Sub dt n b W) (hbW : W.heap.size ≤ b) (l : List UInt8) (L : Nat) (w : World) (qa : Q) (r1 : List UInt8) (hr : rd dt n l = some (qa, r1)) (hqa : qa.size ≤ L) (hr1 : r1.length < l.length) (hA : st wAnd r1 = false) (hO : st wOr r1 = true) (qb : Q) (r2 : List UInt8) (h2 : rd dt n (r1.drop 4) = some (qb, r2)) (hqb : qb.size ≤ L - qa.size) (hE : st wEnd r2 = false) (hL : L ≤ 15) (hl : l.length < n) (h : Rr b w l L) (hW : Below W.heap.size W w) :
    Calls Tryz.prog 51 #[.pointer (some ⟨b, 0, none⟩)] w (PB b w) := by
  obtain ⟨X, hX⟩ : ∃ X, X = w.alloc (.cells #[.int .i64 0, .string ⟨#[]⟩, .int .i64 0, .slice none 0 0] 26) := ⟨_, rfl⟩
  have b0 : Below w.heap.size w X := by rw [hX]; exact below1 _ _
  have P0 : Hid (B4 w.heap.size X (.int .i64 0) (.string ⟨#[]⟩) (.int .i64 0) (.slice none 0 0)) := Lib.hid (by rw [hX]; exact B4.new _ _ _ _ _ _)
  have HRD := Lib.hid (hS.good l L qa r1 X hr hqa hL hl (h.on b0) (hW.trans (b0.mono hW.size)))
  have hbw : b < w.heap.size := h.lt
  have M0 : Hid (Mv (· = b) (· = b) w X) := Lib.hid (Mv.of_below b0)
  have WX : Hid (Below W.heap.size W X) := Lib.hid (hW.trans (b0.mono hW.size))
  have SX : Hid (w.heap.size < X.heap.size) := Lib.hid P0.out.lt
  have HSU := Lib.hid hS
  have HXX := Lib.hid hX
  clear hX b0 hr h hW hS
  go_enter Tryz.func51, Tryz.ntmps51
  go_wp2_with (go_at_call 28; (try rw [← HXX.out]); refine HRD.out.mono ?_; rintro e w2 ⟨hm2, k, rfl, hk, hwk, hge, hrr⟩; refine Hid.out ?_)
  refine Lib.hid ?_
  have hW2 : Below W.heap.size W w2 := WX.out.trans (hm2.below (fun x hx => by rw [hx]; exact hbW) WX.out.size)
  obtain ⟨W3, hW3⟩ : ∃ V, V = w2.alloc (.cells #[.int .i64 k.op, .string k.nm, .int .i64 k.day, .slice k.A k.ps.length k.cap] 26) := ⟨_, rfl⟩
  have hb3 : Below w2.heap.size w2 W3 := by rw [hW3]; exact below1 _ _
  have M3 := Lib.hid ((M0.out.trans hm2).trans (Mv.of_below hb3))
  have P3 := Lib.hid ((P0.out.mv hm2 (by omega)).on hb3)
  have C3 : Hid (B4 w2.heap.size W3 (.int .i64 k.op) (.string k.nm) (.int .i64 k.day) (.slice k.A k.ps.length k.cap)) := Lib.hid (by rw [hW3]; exact B4.new _ _ _ _ _ _)
  have K3 := Lib.hid (hwk.on hb3)
  have R3 := Lib.hid (hrr.on hb3)
  have G3 : Hid (∀ x ∈ k.blocks, X.heap.size ≤ x ∧ x < w2.heap.size) := Lib.hid fun x hx => ⟨hge x hx, hwk.lt x hx⟩
  have Q3 := Lib.hid hk
  have BW3 : Hid (Below W.heap.size W W3) := Lib.hid (hW2.trans (hb3.mono hW2.size))
  have S3 : Hid (X.heap.size ≤ w2.heap.size ∧ w2.heap.size < W3.heap.size) := Lib.hid ⟨hm2.size, C3.out.lt⟩
  have HSA := skip b (L - qa.size) r1 ⟨#[32, 97, 110, 100, 32]⟩ W3 R3.out
  rw [show (⟨#[32, 97, 110, 100, 32]⟩ : ByteArray).data.toList = wAnd from rfl, hA, show trim wAnd r1 = r1 by rw [trim, hA]; rfl] at HSA
  obtain ⟨W4, hW4⟩ : ∃ V, V = W3.setCell ⟨b, 0, none⟩ (.string (ba (r1))) := ⟨_, rfl⟩
  have R4 : Hid (Rr b W4 (r1) (L - qa.size)) := Lib.hid (by rw [hW4]; exact R3.out.set0 _)
  have mv4 : Mv (· = b) (· = b) W3 W4 := by rw [hW4]; exact mv_set b 0 W3 _
  have BW4 : Hid (Below W.heap.size W W4) := Lib.hid (by rw [hW4]; exact BW3.out.setCell (p := ⟨b, 0, none⟩) hbW _)
  have HW3 := Lib.hid hW3
  have HW4 := Lib.hid hW4
  have HSAH := Lib.hid HSA
  have HSO := skip b (L - qa.size) r1 ⟨#[32, 111, 114, 32]⟩ W4 R4.out
  rw [show (⟨#[32, 111, 114, 32]⟩ : ByteArray).data.toList = wOr from rfl, hO, show trim wOr r1 = r1.drop 4 by rw [trim, hO]; rfl] at HSO
  obtain ⟨W5, hW5⟩ : ∃ V, V = W4.setCell ⟨b, 0, none⟩ (.string (ba (r1.drop 4))) := ⟨_, rfl⟩
  have RV : Hid (Rr b W5 (r1.drop 4) (L - qa.size)) := Lib.hid (by rw [hW5]; exact R4.out.set0 _)
  have MV : Hid (Mv (· = b) (· = b) W3 W5) := Lib.hid (mv4.trans (by rw [hW5]; exact mv_set b 0 W4 _))
  have BV : Hid (Below W.heap.size W W5) := Lib.hid (by rw [hW5]; exact BW4.out.setCell (p := ⟨b, 0, none⟩) hbW _)
  have HW5 := Lib.hid hW5
  have HSOH := Lib.hid HSO
  clear hW3 hW4 hW5 hb3 hm2 hk hwk hge hrr hW2 HSA HSO mv4 HRD
  go_wp2_with (go_at_call 50; (try rw [← HW3.out]); refine HSAH.out.mono ?_; rintro e w' ⟨rfl, rfl⟩; (try rw [← HW4.out]); refine Hid.out ?_)
  refine Lib.hid ?_
  go_wp2_with (go_at_call 50; (try rw [← HW4.out]); refine HSOH.out.mono ?_; rintro e w' ⟨rfl, rfl⟩; (try rw [← HW5.out]); refine Hid.out ?_)
  refine Lib.hid ?_
  have HR2 := Lib.hid (HSU.out.good (r1.drop 4) (L - qa.size) qb r2 W5 h2 hqb (by omega) (by rw [List.length_drop]; omega) RV.out BV.out)
  go_wp2_with (go_at_call 28; (try rw [← HW5.out]); refine HR2.out.mono ?_; rintro e w6 ⟨hm6, kc, rfl, hkc, hwc, hgc, hrc⟩; refine Hid.out ?_)
  refine Lib.hid ?_
  obtain ⟨W7, hW7⟩ : ∃ V, V = w6.alloc (.cells #[.int .i64 kc.op, .string kc.nm, .int .i64 kc.day, .slice kc.A kc.ps.length kc.cap] 26) := ⟨_, rfl⟩
  have hb7 : Below w6.heap.size w6 W7 := by rw [hW7]; exact below1 _ _
  have mv37 : Mv (· = b) (· = b) W3 W7 := (MV.out.trans hm6).trans (Mv.of_below hb7)
  have M7 := Lib.hid (M3.out.trans mv37)
  have P2 := Lib.hid (P3.out.mv mv37 (by omega))
  have C7 := Lib.hid (C3.out.mv mv37 (by have := S3.out; have := SX.out; omega))
  have D7 : Hid (B4 w6.heap.size W7 (.int .i64 kc.op) (.string kc.nm) (.int .i64 kc.day) (.slice kc.A kc.ps.length kc.cap)) := Lib.hid (by rw [hW7]; exact B4.new _ _ _ _ _ _)
  have K7 := Lib.hid (K3.out.mv mv37 (fun h => by have := (G3.out _ h).1; have := SX.out; omega))
  have L7 := Lib.hid (hwc.on hb7)
  have GC : Hid (∀ x ∈ kc.blocks, W3.heap.size ≤ x) := Lib.hid fun x hx => by have := hgc x hx; have := MV.out.size; omega
  have QC := Lib.hid hkc
  have R7 := Lib.hid (hrc.on hb7)
  have HSE : Hid (∀ v, Below W7.heap.size W7 v → Calls Tryz.prog 50 #[.pointer (some ⟨b, 0, none⟩), .string ⟨#[41]⟩] v fun e w' => e = .returned (.bool false) ∧ v.setCell ⟨b, 0, none⟩ (.string (ba (r2))) = w') := Lib.hid fun v hv => by
    have := skip b (L - qa.size - qb.size) r2 ⟨#[41]⟩ v (R7.out.on hv)
    rw [show (⟨#[41]⟩ : ByteArray).data.toList = wEnd from rfl, hE, show trim wEnd r2 = r2 by rw [trim, hE]; rfl] at this
    exact this
  obtain ⟨V7, hV7⟩ : ∃ V, V = W7.setCell ⟨b, 0, none⟩ (.string (ba (r2))) := ⟨_, rfl⟩
  have mv77 : Mv (· = b) (· = b) W7 V7 := by rw [hV7]; exact mv_set b 0 W7 _
  have MF := Lib.hid (M7.out.trans mv77)
  have HF : Hid (∀ x0 x1 x2 x3, PB b w (.returned (.tuple #[(K.mk 6 .empty 0 (some ⟨V7.heap.size, 0, none⟩) 2 [k, kc]).val, .bool false])) (((Cond.put4 V7 w.heap.size 0 x0 x1 x2 x3).alloc (.cells #[.int .i64 k.op, .string k.nm, .int .i64 k.day, .slice k.A k.ps.length k.cap, .int .i64 kc.op, .string kc.nm, .int .i64 kc.day, .slice kc.A kc.ps.length kc.cap] 26)).drew)) := Lib.hid fun x0 x1 x2 x3 => PB.drew ⟨(MF.out.put4 (Nat.le_refl _)).alloc _, _, rfl⟩
  have SV : Hid (V7.heap.size = W7.heap.size) := Lib.hid (by rw [hV7]; simp)
  have PV := Lib.hid (P2.out.mv mv77 (by omega))
  have HV7 := Lib.hid hV7
  have HW7 := Lib.hid hW7
  obtain ⟨_, p0, p1, p2, p3, pf⟩ := P2.out
  have pf0 := pf 0
  have pf1 := pf 1
  have pf2 := pf 2
  have pf3 := pf 3
  clear pf
  obtain ⟨_, c0, c1, c2, c3, _⟩ := C7.out
  obtain ⟨_, d0, d1, d2, d3, _⟩ := D7.out
  have l1 : w2.heap.size < W7.heap.size := C7.out.lt
  have l2 : w6.heap.size < W7.heap.size := D7.out.lt
  have l3 : w.heap.size < W7.heap.size := P2.out.lt
  have rf0 := R7.out.fz 0
  have rc0 := R7.out.c0
  have l4 : b < W7.heap.size := R7.out.lt
  have nb : ¬ b = w.heap.size := by omega
  have nb2 : ¬ b = w2.heap.size := by have := S3.out; have := SX.out; omega
  have nb3 : ¬ b = w6.heap.size := by have := S3.out; have := SX.out; have := MV.out.size; have := hm6.size; omega
  have nw2 : ¬ w2.heap.size = w.heap.size := by have := S3.out; have := SX.out; omega
  have nw3 : ¬ w6.heap.size = w.heap.size := by have := S3.out; have := SX.out; have := MV.out.size; have := hm6.size; omega
  have nc : ¬ w.heap.size = b := fun e => nb e.symm
  have nc2 : ¬ w2.heap.size = b := fun e => nb2 e.symm
  have nc3 : ¬ w6.heap.size = b := fun e => nb3 e.symm
  clear hm6 hkc hwc hgc hrc hb7 mv37 mv77 hV7 hW7
  go_wp2_with fail
  rw [← HW7.out]
  have KX : Hid (∀ v, Sm W7 w2.heap.size w6.heap.size v → (v.cell? ⟨w2.heap.size, 0, none⟩ = some (.int .i64 k.op) ∧ v.cell? ⟨w2.heap.size, 1, none⟩ = some (.string k.nm) ∧ v.cell? ⟨w2.heap.size, 2, none⟩ = some (.int .i64 k.day) ∧ v.cell? ⟨w2.heap.size, 3, none⟩ = some (.slice k.A k.ps.length k.cap)) ∧ v.cell? ⟨w6.heap.size, 0, none⟩ = some (.int .i64 kc.op) ∧ v.cell? ⟨w6.heap.size, 1, none⟩ = some (.string kc.nm) ∧ v.cell? ⟨w6.heap.size, 2, none⟩ = some (.int .i64 kc.day) ∧ v.cell? ⟨w6.heap.size, 3, none⟩ = some (.slice kc.A kc.ps.length kc.cap)) := Lib.hid fun v hv => by
    have cc : ∀ o, v.cell? ⟨w2.heap.size, o, none⟩ = W7.cell? ⟨w2.heap.size, o, none⟩ := fun o => World.cell?_of_block (a := ⟨w2.heap.size, o, none⟩) hv.1
    have dd : ∀ o, v.cell? ⟨w6.heap.size, o, none⟩ = W7.cell? ⟨w6.heap.size, o, none⟩ := fun o => World.cell?_of_block (a := ⟨w6.heap.size, o, none⟩) hv.2.1
    exact ⟨⟨(cc 0).trans C7.out.c0, (cc 1).trans C7.out.c1, (cc 2).trans C7.out.c2, (cc 3).trans C7.out.c3⟩, (dd 0).trans D7.out.c0, (dd 1).trans D7.out.c1, (dd 2).trans D7.out.c2, (dd 3).trans D7.out.c3⟩
  have SM0 : Hid (Sm W7 w2.heap.size w6.heap.size W7) := Lib.hid ⟨rfl, rfl, l1, l2⟩
  go_region_held3 (fun v => (v.cell? ⟨w2.heap.size, 0, none⟩ = some (.int .i64 k.op) ∧ v.cell? ⟨w2.heap.size, 1, none⟩ = some (.string k.nm) ∧ v.cell? ⟨w2.heap.size, 2, none⟩ = some (.int .i64 k.day) ∧ v.cell? ⟨w2.heap.size, 3, none⟩ = some (.slice k.A k.ps.length k.cap)) ∧ v.cell? ⟨w6.heap.size, 0, none⟩ = some (.int .i64 kc.op) ∧ v.cell? ⟨w6.heap.size, 1, none⟩ = some (.string kc.nm) ∧ v.cell? ⟨w6.heap.size, 2, none⟩ = some (.int .i64 kc.day) ∧ v.cell? ⟨w6.heap.size, 3, none⟩ = some (.slice kc.A kc.ps.length kc.cap)) (first | (refine KX.out _ ?_; (repeat (first | with_reducible exact SM0.out | with_reducible apply Sm.drew | with_reducible apply Sm.alloc | (with_reducible refine Sm.set ?_ nc2 nc3 _) | (with_reducible refine Sm.set ?_ nw2 nw3 _))); done))
    (first
      | (go_at_call 50; (with_reducible refine (HSE.out _ (by (repeat (first | exact Below.refl _ _ | exact below1 _ _ | apply Below.drew)))).mono ?_); rintro e w' ⟨rfl, rfl⟩))
  all_goals go_wp2_with fail
  all_goals (obtain ⟨_, t0, t1, t2, t3, _⟩ := ((PV.out.put (.int .i64 6) (.string ⟨#[]⟩) (.int .i64 0) (.slice (some ⟨W7.heap.size, 0, none⟩) 2 2)).alloc (.cells #[.int .i64 k.op, .string k.nm, .int .i64 k.day, .slice k.A k.ps.length k.cap, .int .i64 kc.op, .string kc.nm, .int .i64 kc.day, .slice kc.A kc.ps.length kc.cap] 26)).on (drew_below _ _))
  all_goals (have hf := HF.out (.int .i64 6) (.string ⟨#[]⟩) (.int .i64 0) (.slice (some ⟨W7.heap.size, 0, none⟩) 2 2))
  all_goals (rw [SV.out] at hf)
  all_goals (rw [HV7.out] at t0 t1 t2 t3 hf)
  all_goals (simp only [Cond.put4] at t0 t1 t2 t3 hf)
  all_goals exact bodyPost_ret (v := .tuple #[(K.mk 6 .empty 0 (some ⟨W7.heap.size, 0, none⟩) 2 [k, kc]).val, .bool false]) (by simp [results, Tryz.results51, go_sem, t0, t1, t2, t3]; first | done | exact ⟨rfl, rfl, rfl, rfl, rfl, rfl⟩) rfl hf

set_option maxRecDepth 100000 in
set_option maxHeartbeats 8000000 in
theorem orBad {dt : List UInt8 → Option Int} {n b : Nat} {W : World} (hS : Sub dt n b W) (hbW : W.heap.size ≤ b) (l : List UInt8) (L : Nat) (w : World) (qa : Q) (r1 : List UInt8) (hr : rd dt n l = some (qa, r1)) (hqa : qa.size ≤ L) (hr1 : r1.length < l.length) (hA : st wAnd r1 = false) (hO : st wOr r1 = true) (h2 : ∀ q r, rd dt n (r1.drop 4) = some (q, r) → L - qa.size < q.size) (hL : L ≤ 15) (hl : l.length < n) (h : Rr b w l L) (hW : Below W.heap.size W w) :
    Calls Tryz.prog 51 #[.pointer (some ⟨b, 0, none⟩)] w (PB b w) := by
  obtain ⟨X, hX⟩ : ∃ X, X = w.alloc (.cells #[.int .i64 0, .string ⟨#[]⟩, .int .i64 0, .slice none 0 0] 26) := ⟨_, rfl⟩
  have b0 : Below w.heap.size w X := by rw [hX]; exact below1 _ _
  have P0 : Hid (B4 w.heap.size X (.int .i64 0) (.string ⟨#[]⟩) (.int .i64 0) (.slice none 0 0)) := Lib.hid (by rw [hX]; exact B4.new _ _ _ _ _ _)
  have HRD := Lib.hid (hS.good l L qa r1 X hr hqa hL hl (h.on b0) (hW.trans (b0.mono hW.size)))
  have hbw : b < w.heap.size := h.lt
  have M0 : Hid (Mv (· = b) (· = b) w X) := Lib.hid (Mv.of_below b0)
  have WX : Hid (Below W.heap.size W X) := Lib.hid (hW.trans (b0.mono hW.size))
  have SX : Hid (w.heap.size < X.heap.size) := Lib.hid P0.out.lt
  have HSU := Lib.hid hS
  have HXX := Lib.hid hX
  clear hX b0 hr h hW hS
  go_enter Tryz.func51, Tryz.ntmps51
  go_wp2_with (go_at_call 28; (try rw [← HXX.out]); refine HRD.out.mono ?_; rintro e w2 ⟨hm2, k, rfl, hk, hwk, hge, hrr⟩; refine Hid.out ?_)
  refine Lib.hid ?_
  have hW2 : Below W.heap.size W w2 := WX.out.trans (hm2.below (fun x hx => by rw [hx]; exact hbW) WX.out.size)
  obtain ⟨W3, hW3⟩ : ∃ V, V = w2.alloc (.cells #[.int .i64 k.op, .string k.nm, .int .i64 k.day, .slice k.A k.ps.length k.cap] 26) := ⟨_, rfl⟩
  have hb3 : Below w2.heap.size w2 W3 := by rw [hW3]; exact below1 _ _
  have M3 := Lib.hid ((M0.out.trans hm2).trans (Mv.of_below hb3))
  have P3 := Lib.hid ((P0.out.mv hm2 (by omega)).on hb3)
  have C3 : Hid (B4 w2.heap.size W3 (.int .i64 k.op) (.string k.nm) (.int .i64 k.day) (.slice k.A k.ps.length k.cap)) := Lib.hid (by rw [hW3]; exact B4.new _ _ _ _ _ _)
  have K3 := Lib.hid (hwk.on hb3)
  have R3 := Lib.hid (hrr.on hb3)
  have G3 : Hid (∀ x ∈ k.blocks, X.heap.size ≤ x ∧ x < w2.heap.size) := Lib.hid fun x hx => ⟨hge x hx, hwk.lt x hx⟩
  have Q3 := Lib.hid hk
  have BW3 : Hid (Below W.heap.size W W3) := Lib.hid (hW2.trans (hb3.mono hW2.size))
  have S3 : Hid (X.heap.size ≤ w2.heap.size ∧ w2.heap.size < W3.heap.size) := Lib.hid ⟨hm2.size, C3.out.lt⟩
  have HSA := skip b (L - qa.size) r1 ⟨#[32, 97, 110, 100, 32]⟩ W3 R3.out
  rw [show (⟨#[32, 97, 110, 100, 32]⟩ : ByteArray).data.toList = wAnd from rfl, hA, show trim wAnd r1 = r1 by rw [trim, hA]; rfl] at HSA
  obtain ⟨W4, hW4⟩ : ∃ V, V = W3.setCell ⟨b, 0, none⟩ (.string (ba (r1))) := ⟨_, rfl⟩
  have R4 : Hid (Rr b W4 (r1) (L - qa.size)) := Lib.hid (by rw [hW4]; exact R3.out.set0 _)
  have mv4 : Mv (· = b) (· = b) W3 W4 := by rw [hW4]; exact mv_set b 0 W3 _
  have BW4 : Hid (Below W.heap.size W W4) := Lib.hid (by rw [hW4]; exact BW3.out.setCell (p := ⟨b, 0, none⟩) hbW _)
  have HW3 := Lib.hid hW3
  have HW4 := Lib.hid hW4
  have HSAH := Lib.hid HSA
  have HSO := skip b (L - qa.size) r1 ⟨#[32, 111, 114, 32]⟩ W4 R4.out
  rw [show (⟨#[32, 111, 114, 32]⟩ : ByteArray).data.toList = wOr from rfl, hO, show trim wOr r1 = r1.drop 4 by rw [trim, hO]; rfl] at HSO
  obtain ⟨W5, hW5⟩ : ∃ V, V = W4.setCell ⟨b, 0, none⟩ (.string (ba (r1.drop 4))) := ⟨_, rfl⟩
  have RV : Hid (Rr b W5 (r1.drop 4) (L - qa.size)) := Lib.hid (by rw [hW5]; exact R4.out.set0 _)
  have MV : Hid (Mv (· = b) (· = b) W3 W5) := Lib.hid (mv4.trans (by rw [hW5]; exact mv_set b 0 W4 _))
  have BV : Hid (Below W.heap.size W W5) := Lib.hid (by rw [hW5]; exact BW4.out.setCell (p := ⟨b, 0, none⟩) hbW _)
  have HW5 := Lib.hid hW5
  have HSOH := Lib.hid HSO
  clear hW3 hW4 hW5 hb3 hm2 hk hwk hge hrr hW2 HSA HSO mv4 HRD
  go_wp2_with (go_at_call 50; (try rw [← HW3.out]); refine HSAH.out.mono ?_; rintro e w' ⟨rfl, rfl⟩; (try rw [← HW4.out]); refine Hid.out ?_)
  refine Lib.hid ?_
  go_wp2_with (go_at_call 50; (try rw [← HW4.out]); refine HSOH.out.mono ?_; rintro e w' ⟨rfl, rfl⟩; (try rw [← HW5.out]); refine Hid.out ?_)
  refine Lib.hid ?_
  have HR2 := Lib.hid (HSU.out.bad (r1.drop 4) (L - qa.size) W5 h2 (by omega) (by rw [List.length_drop]; omega) RV.out BV.out)
  go_wp2_with (go_at_call 28; (try rw [← HW5.out]); refine HR2.out.mono ?_; rintro e w6 ⟨hm6, kc, rfl⟩; refine Hid.out ?_)
  refine Lib.hid ?_
  obtain ⟨W7, hW7⟩ : ∃ V, V = w6.alloc (.cells #[.int .i64 kc.op, .string kc.nm, .int .i64 kc.day, .slice kc.A kc.ps.length kc.cap] 26) := ⟨_, rfl⟩
  have hb7 : Below w6.heap.size w6 W7 := by rw [hW7]; exact below1 _ _
  have mv37 : Mv (· = b) (· = b) W3 W7 := (MV.out.trans hm6).trans (Mv.of_below hb7)
  have M7 := Lib.hid (M3.out.trans mv37)
  have P2 := Lib.hid (P3.out.mv mv37 (by omega))
  have C7 := Lib.hid (C3.out.mv mv37 (by have := S3.out; have := SX.out; omega))
  have D7 : Hid (B4 w6.heap.size W7 (.int .i64 kc.op) (.string kc.nm) (.int .i64 kc.day) (.slice kc.A kc.ps.length kc.cap)) := Lib.hid (by rw [hW7]; exact B4.new _ _ _ _ _ _)
  have HF : Hid (∀ x0 x1 x2 x3, PB b w (.returned (.tuple #[(K.mk 6 .empty 0 (some ⟨W7.heap.size, 0, none⟩) 2 [k, kc]).val, .bool false])) (((Cond.put4 W7 w.heap.size 0 x0 x1 x2 x3).alloc (.cells #[.int .i64 k.op, .string k.nm, .int .i64 k.day, .slice k.A k.ps.length k.cap, .int .i64 kc.op, .string kc.nm, .int .i64 kc.day, .slice kc.A kc.ps.length kc.cap] 26)).drew)) := Lib.hid fun x0 x1 x2 x3 => PB.drew ⟨(M7.out.put4 (Nat.le_refl _)).alloc _, _, rfl⟩
  have HW7 := Lib.hid hW7
  obtain ⟨_, p0, p1, p2, p3, pf⟩ := P2.out
  have pf0 := pf 0
  have pf1 := pf 1
  have pf2 := pf 2
  have pf3 := pf 3
  clear pf
  obtain ⟨_, c0, c1, c2, c3, _⟩ := C7.out
  obtain ⟨_, d0, d1, d2, d3, _⟩ := D7.out
  have l1 : w2.heap.size < W7.heap.size := C7.out.lt
  have l2 : w6.heap.size < W7.heap.size := D7.out.lt
  have l3 : w.heap.size < W7.heap.size := P2.out.lt
  clear hm6 hb7 mv37 hW7
  go_wp2_with fail
  rw [← HW7.out]
  first | (go_region_with (fail)) | fail
  all_goals go_wp2_with fail
  all_goals (obtain ⟨_, t0, t1, t2, t3, _⟩ := ((P2.out.put (.int .i64 6) (.string ⟨#[]⟩) (.int .i64 0) (.slice (some ⟨W7.heap.size, 0, none⟩) 2 2)).alloc (.cells #[.int .i64 k.op, .string k.nm, .int .i64 k.day, .slice k.A k.ps.length k.cap, .int .i64 kc.op, .string kc.nm, .int .i64 kc.day, .slice kc.A kc.ps.length kc.cap] 26)).on (drew_below _ _))
  all_goals (have hf := HF.out (.int .i64 6) (.string ⟨#[]⟩) (.int .i64 0) (.slice (some ⟨W7.heap.size, 0, none⟩) 2 2))
  all_goals (simp only [Cond.put4] at t0 t1 t2 t3 hf)
  all_goals exact bodyPost_ret (v := .tuple #[(K.mk 6 .empty 0 (some ⟨W7.heap.size, 0, none⟩) 2 [k, kc]).val, .bool false]) (by simp [results, Tryz.results51, go_sem, t0, t1, t2, t3]; first | done | exact ⟨rfl, rfl, rfl, rfl, rfl, rfl⟩) rfl hf

end Go.Proofs.YtmgjeplbhnfakaaGreatDoor.Cond

namespace Go.Proofs.YtmgjeplbhnfakaaGreatDoor.Cond
open Go.RowKit
set_option linter.unusedVariables false

/-- What readPair reads. -/
def pr (dt : List UInt8 → Option Int) (n : Nat) (l : List UInt8) : Option (Q × List UInt8) :=
  match rd dt n l with
  | none => none
  | some (a, r) =>
    if st wOr r then (match rd dt n (r.drop 4) with | none => none | some (b, r2) => if st wEnd r2 then some (.or a b, r2.drop 1) else none)
    else if st wAnd r then (match rd dt n (r.drop 5) with | none => none | some (b, r2) => if st wEnd r2 then some (.and a b, r2.drop 1) else none)
    else none

theorem pair_all {dt : List UInt8 → Option Int} (hdt : Dt dt) {n b : Nat} {W : World} (hS : Sub dt n b W) (hbW : W.heap.size ≤ b) (l : List UInt8) (L : Nat) (w : World) (hL : L ≤ 15) (hl : l.length < n) (h : Rr b w l L) (hW : Below W.heap.size W w) :
    (∀ q r, pr dt n l = some (q, r) → q.size ≤ L + 1 → Calls Tryz.prog 51 #[.pointer (some ⟨b, 0, none⟩)] w (PG b q r (L + 1 - q.size) w)) ∧
    ((∀ q r, pr dt n l = some (q, r) → L + 1 < q.size) → Calls Tryz.prog 51 #[.pointer (some ⟨b, 0, none⟩)] w (PB b w)) := by
  cases h1 : rd dt n l with
  | none =>
    refine ⟨fun q r hp => ?_, fun _ => pairNone hS hbW l L w (fun q r e => by rw [h1] at e; cases e) hL hl h hW⟩
    rw [pr, h1] at hp; cases hp
  | some p =>
    obtain ⟨qa, r1⟩ := p
    have hi1 := rd_is hdt n l qa r1 h1
    by_cases hqa : qa.size ≤ L
    · have hr1 := hi1.len
      cases hA : st wAnd r1 with
      | true =>
        have hO := or_and hA
        have hpr : pr dt n l = match rd dt n (r1.drop 5) with | none => none | some (b, r2) => if st wEnd r2 then some (.and qa b, r2.drop 1) else none := by
          rw [pr, h1]; simp only [hO, hA, if_true, if_false, Bool.false_eq_true]
        cases h2 : rd dt n (r1.drop 5) with
        | none =>
          rw [h2] at hpr
          exact ⟨fun q r hp => (by rw [hpr] at hp; cases hp), fun _ => andBad hS hbW l L w qa r1 h1 hqa hr1 hA (fun q r e => by rw [h2] at e; cases e) hL hl h hW⟩
        | some p2 =>
          obtain ⟨qb, r2⟩ := p2
          rw [h2] at hpr
          by_cases hqb : qb.size ≤ L - qa.size
          · cases hE : st wEnd r2 with
            | true =>
              simp only [hE, if_true] at hpr
              refine ⟨fun q r hp hq => ?_, fun hb => ?_⟩
              · rw [hpr] at hp
                simp only [Option.some.injEq, Prod.mk.injEq] at hp
                obtain ⟨rfl, rfl⟩ := hp
                have := andGood hS hbW l L w qa r1 h1 hqa hr1 hA qb r2 h2 hqb hE hL hl h hW
                have e : L + 1 - (Q.and qa qb).size = L - qa.size - qb.size := by simp only [Q.size]; omega
                rw [e]; exact this
              · have := hb _ _ hpr
                simp only [Q.size] at this
                omega
            | false =>
              simp only [hE, if_false, Bool.false_eq_true] at hpr
              exact ⟨fun q r hp => (by rw [hpr] at hp; cases hp), fun _ => andOpen hS hbW l L w qa r1 h1 hqa hr1 hA qb r2 h2 hqb hE hL hl h hW⟩
          · refine ⟨fun q r hp hq => ?_, fun _ => andBad hS hbW l L w qa r1 h1 hqa hr1 hA (fun q r e => by rw [h2] at e; simp only [Option.some.injEq, Prod.mk.injEq] at e; obtain ⟨rfl, rfl⟩ := e; omega) hL hl h hW⟩
            rw [hpr] at hp
            simp only at hp
            split at hp
            · simp only [Option.some.injEq, Prod.mk.injEq] at hp
              obtain ⟨rfl, rfl⟩ := hp
              simp only [Q.size] at hq
              omega
            · cases hp
      | false =>
        cases hO : st wOr r1 with
        | false =>
          have hpr : pr dt n l = none := by
            rw [pr, h1]; simp only [hO, hA, if_false, Bool.false_eq_true]
          exact ⟨fun q r hp => (by rw [hpr] at hp; cases hp), fun _ => pairNo hS hbW l L w qa r1 h1 hqa hr1 hA hO hL hl h hW⟩
        | true =>
          have hpr : pr dt n l = match rd dt n (r1.drop 4) with | none => none | some (b, r2) => if st wEnd r2 then some (.or qa b, r2.drop 1) else none := by
            rw [pr, h1]; simp only [hO, if_true]
          cases h2 : rd dt n (r1.drop 4) with
          | none =>
            rw [h2] at hpr
            exact ⟨fun q r hp => (by rw [hpr] at hp; cases hp), fun _ => orBad hS hbW l L w qa r1 h1 hqa hr1 hA hO (fun q r e => by rw [h2] at e; cases e) hL hl h hW⟩
          | some p2 =>
            obtain ⟨qb, r2⟩ := p2
            rw [h2] at hpr
            by_cases hqb : qb.size ≤ L - qa.size
            · cases hE : st wEnd r2 with
              | true =>
                simp only [hE, if_true] at hpr
                refine ⟨fun q r hp hq => ?_, fun hb => ?_⟩
                · rw [hpr] at hp
                  simp only [Option.some.injEq, Prod.mk.injEq] at hp
                  obtain ⟨rfl, rfl⟩ := hp
                  have := orGood hS hbW l L w qa r1 h1 hqa hr1 hA hO qb r2 h2 hqb hE hL hl h hW
                  have e : L + 1 - (Q.or qa qb).size = L - qa.size - qb.size := by simp only [Q.size]; omega
                  rw [e]; exact this
                · have := hb _ _ hpr
                  simp only [Q.size] at this
                  omega
              | false =>
                simp only [hE, if_false, Bool.false_eq_true] at hpr
                exact ⟨fun q r hp => (by rw [hpr] at hp; cases hp), fun _ => orOpen hS hbW l L w qa r1 h1 hqa hr1 hA hO qb r2 h2 hqb hE hL hl h hW⟩
            · refine ⟨fun q r hp hq => ?_, fun _ => orBad hS hbW l L w qa r1 h1 hqa hr1 hA hO (fun q r e => by rw [h2] at e; simp only [Option.some.injEq, Prod.mk.injEq] at e; obtain ⟨rfl, rfl⟩ := e; omega) hL hl h hW⟩
              rw [hpr] at hp
              simp only at hp
              split at hp
              · simp only [Option.some.injEq, Prod.mk.injEq] at hp
                obtain ⟨rfl, rfl⟩ := hp
                simp only [Q.size] at hq
                omega
              · cases hp
    · refine ⟨fun q r hp hq => ?_, fun _ => pairNone hS hbW l L w (fun q r e => by rw [h1] at e; simp only [Option.some.injEq, Prod.mk.injEq] at e; obtain ⟨rfl, rfl⟩ := e; omega) hL hl h hW⟩
      exfalso
      have hpos : ∀ b : Q, 1 ≤ b.size := Q.size_pos
      rw [pr, h1] at hp
      simp only at hp
      split at hp
      · cases h2 : rd dt n (r1.drop 4) with
        | none => rw [h2] at hp; cases hp
        | some p2 =>
          obtain ⟨qb, r2⟩ := p2
          rw [h2] at hp
          simp only at hp
          split at hp
          · simp only [Option.some.injEq, Prod.mk.injEq] at hp
            obtain ⟨rfl, rfl⟩ := hp
            have := hpos qb
            simp only [Q.size] at hq
            omega
          · cases hp
      split at hp
      · cases h2 : rd dt n (r1.drop 5) with
        | none => rw [h2] at hp; cases hp
        | some p2 =>
          obtain ⟨qb, r2⟩ := p2
          rw [h2] at hp
          simp only at hp
          split at hp
          · simp only [Option.some.injEq, Prod.mk.injEq] at hp
            obtain ⟨rfl, rfl⟩ := hp
            have := hpos qb
            simp only [Q.size] at hq
            omega
          · cases hp
      · cases hp

end Go.Proofs.YtmgjeplbhnfakaaGreatDoor.Cond

namespace Go.Proofs.YtmgjeplbhnfakaaGreatDoor.Cond
open Go.RowKit
set_option linter.unusedVariables false

theorem nnot {l : List UInt8} (h : word l ≠ [110, 111, 116]) : st wNot l = false := by
  cases h1 : st wNot l with
  | false => rfl
  | true => exact absurd (word_not h1) h
theorem nfrom {l : List UInt8} (h : word l ≠ [102, 114, 111, 109]) : st wFrom l = false := by
  cases h1 : st wFrom l with
  | false => rfl
  | true => exact absurd (word_from h1) h

theorem sub_all {dt : List UInt8 → Option Int} (hdt : Dt dt) {b : Nat} {W : World} (hT : Tab.Tab W) (hLi : LiesD.Lies W) (hbW : W.heap.size ≤ b) : ∀ n, n ≤ 1100000 → Sub dt n b W := by
  intro n
  induction n with
  | zero => intro _; exact ⟨fun l L q r v h => (by cases h), fun l L v _ _ h => (by omega)⟩
  | succ n ih =>
    intro hn
    have hS := ih (by omega)
    refine ⟨fun l L q r v hrd hq hL hl hR hW => ?_, fun l L v hb hL hl hR hW => ?_⟩
    · obtain ⟨M, rfl⟩ : ∃ M, L = M + 1 := ⟨L - 1, by have := q.size_pos; omega⟩
      cases hP : st wPar l with
      | true =>
        have hw := word_par hP
        have hlp := st_len hP
        simp only [wPar, List.length_cons, List.length_nil] at hlp
        rw [rd_par (nnot (by rw [hw]; decide)) (nfrom (by rw [hw]; decide)) hP] at hrd
        exact rPairG hbW l M v (by omega) (by omega) hR hW hP q r (M + 1 - q.size) (fun v' hR' hW' => (pair_all hdt hS hbW (l.drop 1) M v' (by omega) (by rw [List.length_drop]; omega) hR' hW').1 q r hrd hq)
      | false =>
        by_cases hf : word l = [102, 114, 111, 109]
        · have h1 : st wNot l = false := nnot (by rw [hf]; decide)
          cases hs : st [32] (l.drop 4) with
          | false =>
            rw [rd_word h1 (by rw [st_from hf, hs]) hP, if_neg (by rw [hf]; decide), hf, nm_from] at hrd
            simp at hrd
          | true =>
            rw [rd_from h1 (by rw [st_from hf, hs])] at hrd
            cases hd : dt ((l.drop 5).take 10) with
            | none => rw [hd] at hrd; cases hrd
            | some d =>
              rw [hd] at hrd
              simp only [Option.some.injEq, Prod.mk.injEq] at hrd
              obtain ⟨rfl, rfl⟩ := hrd
              refine rFromG hbW l M v (by omega) (by omega) hR hW hP hf (.frm d) (l.drop 15) (M + 1 - (Q.frm d).size) (fun v' hR' hW' => ?_)
              rw [hf] at hR'
              have := fromGood hdt hT hLi hbW (l.drop 4) M v' hs d (by rw [List.drop_drop]; exact hd) (by rw [List.length_drop]; omega) hR' hW'
              rw [List.drop_drop] at this
              have e : M + 1 - (Q.frm d).size = M := by simp only [Q.size]; omega
              rw [e]; exact this
        by_cases hnt : word l = [110, 111, 116]
        · have h2 : st wFrom l = false := nfrom hf
          cases hs : st [32] (l.drop 3) with
          | false =>
            rw [rd_word (by rw [st_not hnt, hs]) h2 hP, if_neg (by rw [hnt]; decide), hnt, nm_not] at hrd
            simp at hrd
          | true =>
            have hlp := st_len hs
            simp only [List.length_cons, List.length_nil, List.length_drop] at hlp
            rw [rd_not (by rw [st_not hnt, hs])] at hrd
            cases hd : rd dt n (l.drop 4) with
            | none => rw [hd] at hrd; cases hrd
            | some p =>
              obtain ⟨q', r'⟩ := p
              rw [hd] at hrd
              simp only [Option.some.injEq, Prod.mk.injEq] at hrd
              obtain ⟨rfl, rfl⟩ := hrd
              simp only [Q.size] at hq
              refine rNotG hbW l M v (by omega) (by omega) hR hW hP hnt (.neg q') r' (M + 1 - (Q.neg q').size) (fun v' hR' hW' => ?_)
              rw [hnt] at hR'
              have := notGood hS hbW (l.drop 3) M q' r' v' hs (by rw [List.drop_drop]; exact hd) (by omega) (by omega) (by rw [List.length_drop]; omega) hR' hW'
              have e : M + 1 - (Q.neg q').size = M - q'.size := by simp only [Q.size]; omega
              rw [e]; exact this
        rw [rd_word (nnot hnt) (nfrom hf) hP] at hrd
        by_cases htr : word l = wTrue
        · rw [if_pos htr] at hrd
          simp only [Option.some.injEq, Prod.mk.injEq] at hrd
          obtain ⟨rfl, rfl⟩ := hrd
          exact rTrue hbW l M v (by omega) (by omega) hR hW hP htr
        · rw [if_neg htr] at hrd
          cases hg : isNm (ba (word l)) with
          | false => rw [hg] at hrd; simp at hrd
          | true =>
            rw [hg, if_pos rfl] at hrd
            simp only [Option.some.injEq, Prod.mk.injEq] at hrd
            obtain ⟨rfl, rfl⟩ := hrd
            exact rFactG hbW l M v (by omega) (by omega) hR hW hP htr hf hnt hg
    · cases L with
      | zero => exact rZero l v hR
      | succ M =>
        cases hP : st wPar l with
        | true =>
          have hw := word_par hP
          have hlp := st_len hP
          simp only [wPar, List.length_cons, List.length_nil] at hlp
          refine rPairB hbW l M v (by omega) (by omega) hR hW hP (fun v' hR' hW' => (pair_all hdt hS hbW (l.drop 1) M v' (by omega) (by rw [List.length_drop]; omega) hR' hW').2 fun q r h => hb q r ?_)
          rw [rd_par (nnot (by rw [hw]; decide)) (nfrom (by rw [hw]; decide)) hP]
          exact h
        | false =>
          by_cases hf : word l = [102, 114, 111, 109]
          · have h1 : st wNot l = false := nnot (by rw [hf]; decide)
            refine rFromB hbW l M v (by omega) (by omega) hR hW hP hf (fun v' hR' hW' => ?_)
            rw [hf] at hR'
            cases hs : st [32] (l.drop 4) with
            | false => exact fromNo hbW (l.drop 4) M v' hs hR' hW'
            | true =>
              cases hd : dt ((l.drop 5).take 10) with
              | none => exact fromBad hdt hT hLi hbW (l.drop 4) M v' hs (by rw [List.drop_drop]; exact hd) (by rw [List.length_drop]; omega) hR' hW'
              | some d =>
                have := hb (.frm d) (l.drop 15) (by rw [rd_from h1 (by rw [st_from hf, hs]), hd])
                simp only [Q.size] at this
                omega
          by_cases hnt : word l = [110, 111, 116]
          · refine rNotB hbW l M v (by omega) (by omega) hR hW hP hnt (fun v' hR' hW' => ?_)
            rw [hnt] at hR'
            cases hs : st [32] (l.drop 3) with
            | false => exact notNo hbW (l.drop 3) M v' hs hR' hW'
            | true =>
              refine notBad hS hbW (l.drop 3) M v' hs (fun q r h => ?_) (by omega) (by rw [List.length_drop]; omega) hR' hW'
              rw [List.drop_drop] at h
              have := hb (.neg q) r (by rw [rd_not (by rw [st_not hnt, hs])]; show (match rd dt n (l.drop 4) with | some (q, r) => some (Q.neg q, r) | none => none) = _; rw [h])
              simp only [Q.size] at this
              omega
          by_cases htr : word l = wTrue
          · have := hb .tru (l.drop 4) (by rw [rd_word (nnot hnt) (nfrom hf) hP, if_pos htr])
            simp only [Q.size] at this
            omega
          · cases hg : isNm (ba (word l)) with
            | false => exact rFactB hbW l M v (by omega) (by omega) hR hW hP htr hf hnt hg
            | true =>
              have := hb (.fact (ba (word l))) (l.drop (word l).length) (by rw [rd_word (nnot hnt) (nfrom hf) hP, if_neg htr, if_pos hg])
              simp only [Q.size] at this
              omega

end Go.Proofs.YtmgjeplbhnfakaaGreatDoor.Cond

namespace Go.Proofs.YtmgjeplbhnfakaaGreatDoor.Cond
open Go.RowKit
set_option linter.unusedVariables false
set_option linter.unusedSimpArgs false

set_option maxRecDepth 100000 in
set_option maxHeartbeats 8000000 in
theorem implPc (dt : List UInt8 → Option Int) (hdt : Dt dt) (l : List UInt8) (w : World) (hl : l.length ≤ 1048576) (hT : Tab.Tab w) (hLi : LiesD.Lies w) (o : Option Q) (ho : o = pc dt l) :
    Calls Tryz.prog 12 #[.string (ba l)] w (PbAns (dOf o) o.isSome w) := by
  obtain ⟨Y, hY⟩ : ∃ Y, Y = (w.alloc (.cells #[.int .i64 0, .string ⟨#[]⟩, .int .i64 0, .slice none 0 0] 26)).alloc (.cells #[.string (ba l), .int .i64 15] 56) := ⟨_, rfl⟩
  have B0 : Hid (Below w.heap.size w Y) := Lib.hid (by rw [hY]; exact (below1 _ _).alloc (by simp) _)
  have hYs : Y.heap.size = w.heap.size + 2 := by rw [hY]; simp
  have P0 : Hid (B4 w.heap.size Y (.int .i64 0) (.string ⟨#[]⟩) (.int .i64 0) (.slice none 0 0)) := Lib.hid (by rw [hY]; exact (B4.new _ _ _ _ _ _).alloc _)
  have hR : Rr (w.heap.size + 1) Y l 15 := by
    rw [hY]
    exact ⟨by simp, by simp [go_sem], by simp [go_sem], fun o => by simp [go_sem]⟩
  have hS := sub_all hdt hT hLi (b := w.heap.size + 1) (W := w) (by omega) (l.length + 1) (by omega)
  have HY := Lib.hid hY
  have SY : Hid (Y.heap.size = w.heap.size + 2) := Lib.hid hYs
  by_cases hg : ∃ q r, rd dt (l.length + 1) l = some (q, r) ∧ q.size ≤ 15
  · obtain ⟨q, r, hrd, hq⟩ := hg
    have HRD := Lib.hid (hS.good l 15 q r Y hrd hq (Nat.le_refl _) (by omega) hR B0.out)
    have HPC : Hid (o = if r.isEmpty && decide (q.size ≤ 15) then some q else none) := Lib.hid (by rw [ho, pc, hrd])
    have HQ := Lib.hid hq
    clear hY hYs hR hS hrd hT hLi ho hdt hq
    by_cases hr : r = []
    · subst hr
      have HO : Hid (o = some q) := Lib.hid (by rw [HPC.out, decide_eq_true HQ.out]; rfl)
      go_enter Tryz.func12, Tryz.ntmps12
      go_wp2_with (go_at_call 28; (try rw [← HY.out]); refine HRD.out.mono ?_; rintro e w2 ⟨hm2, k, rfl, hk, hwk, hge, hrr⟩; refine Hid.out ?_)
      refine Lib.hid ?_
      have BW := Lib.hid (B0.out.trans (hm2.below (B := w.heap.size) (fun x hx => by rw [hx]; omega) B0.out.size))
      have P2 := Lib.hid (P0.out.mv hm2 (by omega))
      have rc0 := hrr.c0
      have rlt : w.heap.size + 1 < w2.heap.size := hrr.lt
      have HF : Hid (∀ x0 x1 x2 x3, PbAns q.c true w (.returned (.tuple #[k.val, .bool true])) ((Cond.put4 w2 w.heap.size 0 x0 x1 x2 x3).alloc (.cells #[.int .i64 k.op, .string k.nm, .int .i64 k.day, .slice k.A k.ps.length k.cap] 26))) := Lib.hid fun x0 x1 x2 x3 => PbAns.alloc (pb_res (S := Y.heap.size) BW.out hk hwk hge (by have := SY.out; omega) (by have := SY.out; omega) (Nat.le_refl _)) _
      obtain ⟨_, p0, p1, p2, p3, pf⟩ := P2.out
      have pf0 := pf 0
      have pf1 := pf 1
      have pf2 := pf 2
      have pf3 := pf 3
      clear pf
      clear hm2 hk hwk hge hrr
      go_wp2_with fail
      obtain ⟨_, t0, t1, t2, t3, _⟩ := (P2.out.put (.int .i64 k.op) (.string k.nm) (.int .i64 k.day) (.slice k.A k.ps.length k.cap)).alloc (.cells #[.int .i64 k.op, .string k.nm, .int .i64 k.day, .slice k.A k.ps.length k.cap] 26)
      have hf := HF.out (.int .i64 k.op) (.string k.nm) (.int .i64 k.day) (.slice k.A k.ps.length k.cap)
      simp only [Cond.put4] at t0 t1 t2 t3 hf
      exact bodyPost_ret (v := .tuple #[k.val, .bool true]) (by simp [results, Tryz.results12, go_sem, t0, t1, t2, t3]) rfl (by rw [HO.out]; exact hf)
    · have h2 : r.isEmpty = false := by cases r with | nil => exact absurd rfl hr | cons => rfl
      have HO : Hid (o = none) := Lib.hid (by rw [HPC.out, h2]; rfl)
      have e1 : (ba r).toList = r := by rw [Go.ByteArray.toList_eq]
      have s1 : ¬ (ba r).toList = [] := by rw [e1]; exact hr
      have s2 : ((ba r).toList == []) = false := by rw [e1, beq_eq_false_iff_ne]; exact hr
      have s3 : (!(ba r).toList.isEmpty) = true := by rw [e1, h2]; rfl
      have s4 : (ba r).toList.isEmpty = false := by rw [e1, h2]
      obtain ⟨y, hy⟩ : ∃ y, y = ba r := ⟨_, rfl⟩
      rw [← hy] at s1 s2 s3 s4
      have HYY := Lib.hid hy
      clear hr h2 e1 hy
      go_enter Tryz.func12, Tryz.ntmps12
      go_wp2_with (go_at_call 28; (try rw [← HY.out]); refine HRD.out.mono ?_; rintro e w2 ⟨hm2, k, rfl, hk, hwk, hge, hrr⟩; refine Hid.out ?_)
      refine Lib.hid ?_
      have BW := Lib.hid (B0.out.trans (hm2.below (B := w.heap.size) (fun x hx => by rw [hx]; omega) B0.out.size))
      have P2 := Lib.hid (P0.out.mv hm2 (by omega))
      have rc0 := hrr.c0
      rw [← HYY.out] at rc0
      have rlt : w.heap.size + 1 < w2.heap.size := hrr.lt
      obtain ⟨_, p0, p1, p2, p3, pf⟩ := P2.out
      have pf0 := pf 0
      have pf1 := pf 1
      have pf2 := pf 2
      have pf3 := pf 3
      clear pf
      clear hm2 hk hwk hge hrr
      go_wp2_with fail
      obtain ⟨_, t0, t1, t2, t3, _⟩ := (P2.out.put (.int .i64 0) (.string ⟨#[]⟩) (.int .i64 0) (.slice none 0 0)).alloc (.cells #[.int .i64 k.op, .string k.nm, .int .i64 k.day, .slice k.A k.ps.length k.cap] 26)
      have hf := (pb_zero (kb := w.heap.size) (x0 := .int .i64 0) (x1 := .string ⟨#[]⟩) (x2 := .int .i64 0) (x3 := .slice none 0 0) BW.out (Nat.le_refl _)).alloc (.cells #[.int .i64 k.op, .string k.nm, .int .i64 k.day, .slice k.A k.ps.length k.cap] 26)
      simp only [Cond.put4] at t0 t1 t2 t3 hf
      exact bodyPost_ret (v := .tuple #[.agg #[.int .i64 0, .string ⟨#[]⟩, .int .i64 0, .slice none 0 0], .bool false]) (by simp [results, Tryz.results12, go_sem, t0, t1, t2, t3]) rfl (by rw [HO.out]; exact hf)
  · have hno : ∀ q r, rd dt (l.length + 1) l = some (q, r) → 15 < q.size := fun q r h => by
      rcases Nat.lt_or_ge 15 q.size with h2 | h2
      · exact h2
      · exact absurd ⟨q, r, h, h2⟩ hg
    have HO : Hid (o = none) := Lib.hid (by
      rw [ho, pc]
      cases h : rd dt (l.length + 1) l with
      | none => rfl
      | some p =>
        obtain ⟨q, r⟩ := p
        have := hno q r h
        have h3 : decide (q.size ≤ 15) = false := decide_eq_false (by omega)
        simp only [h3, Bool.and_false, if_false, Bool.false_eq_true])
    have HRD := Lib.hid (hS.bad l 15 Y hno (Nat.le_refl _) (by omega) hR B0.out)
    clear hY hYs hR hS hT hLi ho hdt hg hno
    go_enter Tryz.func12, Tryz.ntmps12
    go_wp2_with (go_at_call 28; (try rw [← HY.out]); refine HRD.out.mono ?_; rintro e w2 ⟨hm2, k, rfl⟩; refine Hid.out ?_)
    refine Lib.hid ?_
    have BW := Lib.hid (B0.out.trans (hm2.below (B := w.heap.size) (fun x hx => by rw [hx]; omega) B0.out.size))
    have P2 := Lib.hid (P0.out.mv hm2 (by omega))
    obtain ⟨_, p0, p1, p2, p3, pf⟩ := P2.out
    have pf0 := pf 0
    have pf1 := pf 1
    have pf2 := pf 2
    have pf3 := pf 3
    clear pf
    clear hm2
    go_wp2_with fail
    obtain ⟨_, t0, t1, t2, t3, _⟩ := (P2.out.put (.int .i64 0) (.string ⟨#[]⟩) (.int .i64 0) (.slice none 0 0)).alloc (.cells #[.int .i64 k.op, .string k.nm, .int .i64 k.day, .slice k.A k.ps.length k.cap] 26)
    have hf := (pb_zero (kb := w.heap.size) (x0 := .int .i64 0) (x1 := .string ⟨#[]⟩) (x2 := .int .i64 0) (x3 := .slice none 0 0) BW.out (Nat.le_refl _)).alloc (.cells #[.int .i64 k.op, .string k.nm, .int .i64 k.day, .slice k.A k.ps.length k.cap] 26)
    simp only [Cond.put4] at t0 t1 t2 t3 hf
    exact bodyPost_ret (v := .tuple #[.agg #[.int .i64 0, .string ⟨#[]⟩, .int .i64 0, .slice none 0 0], .bool false]) (by simp [results, Tryz.results12, go_sem, t0, t1, t2, t3]) rfl (by rw [HO.out]; exact hf)

end Go.Proofs.YtmgjeplbhnfakaaGreatDoor.Cond

namespace Go.Proofs.YtmgjeplbhnfakaaGreatDoor.CdW
open Go.RowKit Go.Proofs.YtmgjeplbhnfakaaGreatDoor.Cond Go.Proofs.YtmgjeplbhnfakaaGreatDoor.CurDay Go.Proofs.YtmgjeplbhnfakaaGreatDoor.DrD Go.Proofs.YtmgjeplbhnfakaaGreatDoor.RdT
set_option linter.unusedVariables false
set_option linter.unusedSimpArgs false

theorem ev_smp {q : Q} {f : Bool} {ss : List ByteArray} {z : Int} {v ok : Bool} (h : EvIs q.c f ss z v ok) (hq : q.ok) (hs : q.size ≤ 15) : EvIs (smp q).c f ss z v ok := by
  have e1 : (smp q).c.good = true := q_good (smp_ok hq) (by have := smp_size q; omega)
  have e2 : q.c.good = true := q_good hq hs
  constructor
  · intro hn
    exact h.no (by rw [e1] at hn; rw [e2]; exact hn)
  · intro q' hq' hy
    obtain rfl := Q.c_inj hq'
    rw [e1] at hy
    have := h.yes q rfl (by rw [e2]; exact hy)
    have hz : 0 ≤ z := by
      simp only [Bool.true_and, Bool.and_eq_true, isDy, decide_eq_true_eq] at hy
      exact hy.2.1
    rw [smp_holds _ _ hz]
    exact this
theorem sf_smp {q : Q} (hq : q.ok) (hs : q.size ≤ 15) : SfIs (smp q).c (smp q).c true := by
  have e1 : (smp q).c.good = true := q_good (smp_ok hq) (by have := smp_size q; omega)
  exact ⟨(fun h => by rw [e1] at h; cases h), (fun q' _ e _ => by
    obtain rfl := Q.c_inj e
    rw [smp_smp]
    exact ⟨rfl, rfl⟩)⟩
theorem fm_txt {q : Q} (hq : q.ok) (hs : q.size ≤ 15) : FmF.FmIs q.c ⟨(Txt.txt q).toArray⟩ true := by
  have e1 : q.c.good = true := q_good hq hs
  exact ⟨(fun h => by rw [e1] at h; cases h), (fun q' e _ => by
    obtain rfl := Q.c_inj e
    exact ⟨rfl, rfl⟩)⟩
theorem fok_bool (ss : List ByteArray) : ∃ f : Bool, f = true ↔ FOk ss := by
  classical
  exact ⟨decide (FOk ss), decide_eq_true_iff⟩

set_option maxHeartbeats 1000000 in
theorem specValid (k : K) (w : World) (hin : Lies w w.heap.size k) (hw : k.cond.wt ≤ 1048576) (g : Bool) (hg : k.cond.good = g) :
    Calls Tryz.prog 9 #[k.val] w fun e w' => e = .returned (.bool g) ∧ Below w.heap.size w w' := by
  have B0 := Lib.hid (below1 w (.cells #[.int .i64 k.op, .string k.nm, .int .i64 k.day, .slice k.A k.ps.length k.cap] 26))
  have HG := l5Good k _ (hin.on B0.out) hw
  rw [hg] at HG
  have HGH := Lib.hid HG
  clear HG hin hw hg
  go_enter Tryz.func9, Tryz.ntmps9
  go_wp2_with (go_at_call 23; refine HGH.out.mono ?_; rintro e w2 ⟨rfl, hb2⟩)
  go_ret
  exact ⟨rfl, B0.out.trans (hb2.mono B0.out.size)⟩

theorem row_sp {w : World} {S m cf : Nat} {F : Option Addr} {D : List (List UInt8)} (h : UniT.Own w S (.slice F m cf) D) : ∀ ad, F = some ad → 0 < m → ad = ⟨ad.block, ad.off, none⟩ := by
  intro ad e h0
  rcases h.2 with ⟨hv, _⟩ | ⟨g, c, cur, hv, _⟩
  · cases hv; cases e
  · injection hv with h1 h2 h3
    rw [h1] at e
    injection e with e
    rw [← e]
theorem row_is {w : World} {S m cf : Nat} {F : Option Addr} {D : List (List UInt8)} (h : UniT.Own w S (.slice F m cf) D) (hm : m = D.length) : Row.Is w w.heap.size F (UniT.strs D) := by
  subst hm
  refine Row.Is.of_own (base := S) (n := D.length) (cap := cf) ?_ (by simp [UniT.strs])
  rw [← UniT.map_strs]; exact h

theorem bigWalk (A : Option Addr) (n cap : Nat) (w : World) (h : 65536 < n) (hm : n ≤ maxLen) :
    Calls Tryz.prog 3 #[.slice A n cap] w fun e w' => e = .returned (.bool true) ∧ Below w.heap.size w w' := by
  have HV := Lib.hid (vBigYes A n cap w h hm)
  clear h hm
  go_enter Tryz.func3, Tryz.ntmps3
  go_wp2_with (go_at_call 4; refine HV.out.mono ?_; rintro e w' ⟨rfl, rfl⟩)
  go_ret
  exact ⟨rfl, Below.refl _ _⟩

set_option maxRecDepth 100000 in
set_option maxHeartbeats 16000000 in
theorem small (A : Option Addr) (n cap : Nat) (w : World) (hT : Tab.Tab w) (hL : LiesD.Lies w) (HV : Hid (Calls Tryz.prog 4 #[.slice A n cap] w fun e w' => e = .returned (.bool false) ∧ w = w'))
    (HD : Hid (Calls Tryz.prog 5 #[.slice A n cap] w (EdAns w))) :
    Calls Tryz.prog 3 #[.slice A n cap] w fun e w' => e = .returned (.bool true) ∧ Below w.heap.size w w' := by
  obtain ⟨dt, hdt⟩ := dt_is
  have HDT := Lib.hid hdt
  have TT := Lib.hid hT
  have LL := Lib.hid hL
  clear hdt hT hL
  go_enter Tryz.func3, Tryz.ntmps3
  go_wp2_with (go_at_call 4; refine HV.out.mono ?_; rintro e w' ⟨rfl, rfl⟩; refine Hid.out ?_)
  refine Lib.hid ?_
  go_wp2_with (go_at_call 5; refine HD.out.mono ?_; rintro e w1 ⟨x, F, m, cf, D, z, rfl, hW, hl, hm, hfl, ho, hz, hb⟩; have HM := Lib.hid hm; clear hm; refine Hid.out ?_)
  refine Lib.hid ?_
  have HW : Hid (x.cond.wt ≤ 1048576) := Lib.hid (Nat.le_trans hW (by omega))
  have HSP := Lib.hid (row_sp ho)
  have HN : Hid (m = (UniT.strs D).length) := Lib.hid (by rw [HM.out]; simp [UniT.strs])
  have hm2 : m ≤ 20 := by have := HM.out; have := hfl.1; omega
  have HS : Hid (∀ p ∈ UniT.strs D, p.size ≤ maxLen) := Lib.hid fun p hp => by
    obtain ⟨l, hl, rfl⟩ := List.mem_map.1 hp
    have := hfl.2 l hl
    show l.toArray.size ≤ maxLen
    unfold maxLen
    simp; omega
  obtain ⟨f, hf⟩ := fok_bool (UniT.strs D)
  have HF := Lib.hid hf
  obtain ⟨v, ok, hev⟩ := ev_is x.cond f (UniT.strs D) z
  have HEV := Lib.hid hev
  obtain ⟨W1, hW1⟩ : ∃ W1, W1 = w1.alloc (.cells #[.int .i64 x.op, .string x.nm, .int .i64 x.day, .slice x.A x.ps.length x.cap] 26) := ⟨_, rfl⟩
  have hb1 := below1 w1 (.cells #[.int .i64 x.op, .string x.nm, .int .i64 x.day, .slice x.A x.ps.length x.cap] 26)
  rw [← hW1] at hb1
  have BW1 := Lib.hid (hb.trans (hb1.mono hb.size))
  have LX1 := Lib.hid (hl.on hb1)
  have RI1 := Lib.hid (((row_is ho HM.out).below hb1).more hb1.size)
  have TT1 := Lib.hid (TT.out.below BW1.out)
  have LL1 := Lib.hid (LL.out.below BW1.out)
  have BX1 : Hid (B4 w1.heap.size W1 (.int .i64 x.op) (.string x.nm) (.int .i64 x.day) (.slice x.A x.ps.length x.cap)) := Lib.hid (by rw [hW1]; exact B4.new _ _ _ _ _ _)
  have HW1 := Lib.hid hW1
  generalize UniT.strs D = ss at *
  clear hW1 hb1 hb hl ho hfl hf hev hW TT LL HV HD
  have HC := Lib.hid (implEv x F m cf ss z W1 LX1.out HW.out HN.out (by omega) RI1.out HS.out HSP.out f HF.out v ok HEV.out)
  go_wp2_with (go_at_call 6; (try rw [← HW1.out]); refine HC.out.mono ?_; rintro e w2 ⟨rfl, hb⟩; refine Hid.out ?_)
  refine Lib.hid ?_
  clear HC
  have BW2 := Lib.hid (BW1.out.trans (hb.mono BW1.out.size))
  have LX2 := Lib.hid (LX1.out.on hb)
  have RI2 := Lib.hid ((RI1.out.below hb).more hb.size)
  have TT2 := Lib.hid (TT1.out.below hb)
  have LL2 := Lib.hid (LL1.out.below hb)
  have BX2 := Lib.hid (BX1.out.on hb)
  clear LX1
  clear RI1
  clear TT1
  clear LL1
  clear BX1
  clear hb
  by_cases hg : x.cond.good = true
  · skip
    obtain ⟨q, hq, hqo, hqs⟩ := good_q hg
    have HQ := Lib.hid hq
    have HGD := Lib.hid hg
    have HQO := Lib.hid (And.intro hqo hqs)
    have HSF : Hid (SfIs x.cond (smp q).c true) := Lib.hid ⟨(fun h => by rw [hg] at h; cases h), (fun q' _ e _ => by rw [Q.c_inj (hq.symm.trans e)]; exact ⟨rfl, rfl⟩)⟩
    have HEV2 : Hid (EvIs (smp q).c f ss z v ok) := Lib.hid (ev_smp (by have := HEV.out; rwa [hq] at this) hqo hqs)
    have HSF2 := Lib.hid (sf_smp hqo hqs)
    have HWS : Hid ((smp q).c.wt ≤ 1048576) := Lib.hid (by have h1 := smp_wt q; have h2 := HW.out; rw [hq, Q.wt_c] at h2; rw [Q.wt_c]; omega)
    clear hq hqo hqs hg
    have HC := Lib.hid (implSf x w2 LX2.out HW.out (smp q).c true HSF.out)
    obtain ⟨bxl, bx0, bx1, bx2, bx3, _⟩ := BX2.out
    go_wp2_with (go_at_call 7; refine HC.out.mono ?_; rintro e w3 ⟨r, rfl, hr, hwr, hge, hb⟩; refine Hid.out ?_)
    refine Lib.hid ?_
    clear bxl bx0 bx1 bx2 bx3
    clear HC
    have HCr := Lib.hid hr
    have LR3 := Lib.hid hwr.lies
    clear hr hwr hge
    have BW3 := Lib.hid (BW2.out.trans (hb.mono BW2.out.size))
    have LX3 := Lib.hid (LX2.out.on hb)
    have RI3 := Lib.hid ((RI2.out.below hb).more hb.size)
    have TT3 := Lib.hid (TT2.out.below hb)
    have LL3 := Lib.hid (LL2.out.below hb)
    have BX3 := Lib.hid (BX2.out.on hb)
    clear LX2
    clear RI2
    clear TT2
    clear LL2
    clear BX2
    clear hb
    obtain ⟨W4, hW4⟩ : ∃ W, W = w3.alloc (.cells #[.int .i64 r.op, .string r.nm, .int .i64 r.day, .slice r.A r.ps.length r.cap] 26) := ⟨_, rfl⟩
    have hb := below1 w3 (.cells #[.int .i64 r.op, .string r.nm, .int .i64 r.day, .slice r.A r.ps.length r.cap] 26)
    rw [← hW4] at hb
    have BS4 : Hid (B4 w3.heap.size W4 (.int .i64 r.op) (.string r.nm) (.int .i64 r.day) (.slice r.A r.ps.length r.cap)) := Lib.hid (by rw [hW4]; exact B4.new _ _ _ _ _ _)
    have HW4 := Lib.hid hW4
    clear hW4
    have BW4 := Lib.hid (BW3.out.trans (hb.mono BW3.out.size))
    have LX4 := Lib.hid (LX3.out.on hb)
    have RI4 := Lib.hid ((RI3.out.below hb).more hb.size)
    have TT4 := Lib.hid (TT3.out.below hb)
    have LL4 := Lib.hid (LL3.out.below hb)
    have BX4 := Lib.hid (BX3.out.on hb)
    have LR4 := Lib.hid (LR3.out.on hb)
    clear hb
    have HC := Lib.hid (specEv x F m cf ss z W4 LX4.out HW.out HN.out (by omega) RI4.out f HF.out v ok HEV.out)
    obtain ⟨bxl, bx0, bx1, bx2, bx3, _⟩ := BX3.out
    go_wp2_with (go_at_call 8; (try rw [← HW4.out]); refine HC.out.mono ?_; rintro e w5 ⟨rfl, hb⟩; refine Hid.out ?_)
    refine Lib.hid ?_
    clear bxl bx0 bx1 bx2 bx3
    clear HC
    have BW5 := Lib.hid (BW4.out.trans (hb.mono BW4.out.size))
    have LX5 := Lib.hid (LX4.out.on hb)
    have RI5 := Lib.hid ((RI4.out.below hb).more hb.size)
    have TT5 := Lib.hid (TT4.out.below hb)
    have LL5 := Lib.hid (LL4.out.below hb)
    have BX5 := Lib.hid (BX4.out.on hb)
    have LR5 := Lib.hid (LR4.out.on hb)
    have BS5 := Lib.hid (BS4.out.on hb)
    clear LX4
    clear RI4
    clear TT4
    clear LL4
    clear BX4
    clear LR4
    clear BS4
    clear hb
    have HC := Lib.hid (specValid x w5 LX5.out HW.out true HGD.out)
    obtain ⟨bxl, bx0, bx1, bx2, bx3, _⟩ := BX5.out
    go_wp2_with (go_at_call 9; refine HC.out.mono ?_; rintro e w6 ⟨rfl, hb⟩; refine Hid.out ?_)
    refine Lib.hid ?_
    clear bxl bx0 bx1 bx2 bx3
    clear HC
    have BW6 := Lib.hid (BW5.out.trans (hb.mono BW5.out.size))
    have LX6 := Lib.hid (LX5.out.on hb)
    have RI6 := Lib.hid ((RI5.out.below hb).more hb.size)
    have TT6 := Lib.hid (TT5.out.below hb)
    have LL6 := Lib.hid (LL5.out.below hb)
    have BX6 := Lib.hid (BX5.out.on hb)
    have LR6 := Lib.hid (LR5.out.on hb)
    have BS6 := Lib.hid (BS5.out.on hb)
    clear LX5
    clear RI5
    clear TT5
    clear LL5
    clear BX5
    clear LR5
    clear BS5
    clear hb
    have HC := Lib.hid (implEv r F m cf ss z w6 LR6.out (by rw [HCr.out]; exact HWS.out) HN.out (by omega) RI6.out HS.out HSP.out f HF.out v ok (by rw [HCr.out]; exact HEV2.out))
    obtain ⟨bsl, bs0, bs1, bs2, bs3, _⟩ := BS6.out
    go_wp2_with (go_at_call 6; refine HC.out.mono ?_; rintro e w7 ⟨rfl, hb⟩; refine Hid.out ?_)
    refine Lib.hid ?_
    clear bsl bs0 bs1 bs2 bs3
    clear HC
    have BW7 := Lib.hid (BW6.out.trans (hb.mono BW6.out.size))
    have LX7 := Lib.hid (LX6.out.on hb)
    have RI7 := Lib.hid ((RI6.out.below hb).more hb.size)
    have TT7 := Lib.hid (TT6.out.below hb)
    have LL7 := Lib.hid (LL6.out.below hb)
    have BX7 := Lib.hid (BX6.out.on hb)
    have LR7 := Lib.hid (LR6.out.on hb)
    have BS7 := Lib.hid (BS6.out.on hb)
    clear LX6
    clear RI6
    clear TT6
    clear LL6
    clear BX6
    clear LR6
    clear BS6
    clear hb
    have HC := Lib.hid (implSf r w7 LR7.out (by rw [HCr.out]; exact HWS.out) (smp q).c true (by rw [HCr.out]; exact HSF2.out))
    obtain ⟨bsl, bs0, bs1, bs2, bs3, _⟩ := BS7.out
    go_wp2_with (go_at_call 7; refine HC.out.mono ?_; rintro e w8 ⟨a, rfl, hr, hwr, hge, hb⟩; refine Hid.out ?_)
    refine Lib.hid ?_
    clear bsl bs0 bs1 bs2 bs3
    clear HC
    have HCa := Lib.hid hr
    have LA8 := Lib.hid hwr.lies
    clear hr hwr hge
    have BW8 := Lib.hid (BW7.out.trans (hb.mono BW7.out.size))
    have LX8 := Lib.hid (LX7.out.on hb)
    have RI8 := Lib.hid ((RI7.out.below hb).more hb.size)
    have TT8 := Lib.hid (TT7.out.below hb)
    have LL8 := Lib.hid (LL7.out.below hb)
    have BX8 := Lib.hid (BX7.out.on hb)
    have LR8 := Lib.hid (LR7.out.on hb)
    have BS8 := Lib.hid (BS7.out.on hb)
    clear LX7
    clear RI7
    clear TT7
    clear LL7
    clear BX7
    clear LR7
    clear BS7
    clear hb
    obtain ⟨W9, hW9⟩ : ∃ W, W = w8.alloc (.cells #[.int .i64 a.op, .string a.nm, .int .i64 a.day, .slice a.A a.ps.length a.cap] 26) := ⟨_, rfl⟩
    have hb := below1 w8 (.cells #[.int .i64 a.op, .string a.nm, .int .i64 a.day, .slice a.A a.ps.length a.cap] 26)
    rw [← hW9] at hb
    have BA9 : Hid (B4 w8.heap.size W9 (.int .i64 a.op) (.string a.nm) (.int .i64 a.day) (.slice a.A a.ps.length a.cap)) := Lib.hid (by rw [hW9]; exact B4.new _ _ _ _ _ _)
    have HW9 := Lib.hid hW9
    clear hW9
    have BW9 := Lib.hid (BW8.out.trans (hb.mono BW8.out.size))
    have LX9 := Lib.hid (LX8.out.on hb)
    have RI9 := Lib.hid ((RI8.out.below hb).more hb.size)
    have TT9 := Lib.hid (TT8.out.below hb)
    have LL9 := Lib.hid (LL8.out.below hb)
    have BX9 := Lib.hid (BX8.out.on hb)
    have LR9 := Lib.hid (LR8.out.on hb)
    have BS9 := Lib.hid (BS8.out.on hb)
    have LA9 := Lib.hid (LA8.out.on hb)
    clear hb
    have HSM : Hid (sameC a.cond r.cond = true) := Lib.hid (by rw [HCa.out, HCr.out]; exact (same_iff _ _).2 rfl)
    cases ok
    · skip
      have HC := vSame a r W9 LA9.out LR9.out
      rw [HSM.out] at HC
      have HCH := Lib.hid HC
      clear HC
      have HC := Lib.hid (HCH.out)
      obtain ⟨bsl, bs0, bs1, bs2, bs3, _⟩ := BS8.out
      go_wp2_with (go_at_call 10; (try rw [← HW9.out]); refine HC.out.mono ?_; rintro e w10 ⟨rfl, hb⟩; refine Hid.out ?_)
      refine Lib.hid ?_
      clear bsl bs0 bs1 bs2 bs3
      clear HC
      have BW10 := Lib.hid (BW9.out.trans (hb.mono BW9.out.size))
      have LX10 := Lib.hid (LX9.out.on hb)
      have RI10 := Lib.hid ((RI9.out.below hb).more hb.size)
      have TT10 := Lib.hid (TT9.out.below hb)
      have LL10 := Lib.hid (LL9.out.below hb)
      have BX10 := Lib.hid (BX9.out.on hb)
      have LR10 := Lib.hid (LR9.out.on hb)
      have BS10 := Lib.hid (BS9.out.on hb)
      have LA10 := Lib.hid (LA9.out.on hb)
      have BA10 := Lib.hid (BA9.out.on hb)
      clear LX9
      clear RI9
      clear TT9
      clear LL9
      clear BX9
      clear LR9
      clear BS9
      clear LA9
      clear BA9
      clear hb
      have HC := Lib.hid (FmF.implFm x w10 LX10.out HW.out TT10.out LL10.out.tab ⟨(Txt.txt q).toArray⟩ true (by rw [HQ.out]; exact fm_txt HQO.out.1 HQO.out.2))
      obtain ⟨bxl, bx0, bx1, bx2, bx3, _⟩ := BX10.out
      go_wp2_with (go_at_call 11; refine HC.out.mono ?_; rintro e w11 ⟨rfl, hb⟩; refine Hid.out ?_)
      refine Lib.hid ?_
      clear bxl bx0 bx1 bx2 bx3
      clear HC
      have BW11 := Lib.hid (BW10.out.trans (hb.mono BW10.out.size))
      have LX11 := Lib.hid (LX10.out.on hb)
      have RI11 := Lib.hid ((RI10.out.below hb).more hb.size)
      have TT11 := Lib.hid (TT10.out.below hb)
      have LL11 := Lib.hid (LL10.out.below hb)
      have BX11 := Lib.hid (BX10.out.on hb)
      have LR11 := Lib.hid (LR10.out.on hb)
      have BS11 := Lib.hid (BS10.out.on hb)
      have LA11 := Lib.hid (LA10.out.on hb)
      have BA11 := Lib.hid (BA10.out.on hb)
      clear LX10
      clear RI10
      clear TT10
      clear LL10
      clear BX10
      clear LR10
      clear BS10
      clear LA10
      clear BA10
      clear hb
      have HLT : Hid ((Txt.txt q).length ≤ 1048576) := Lib.hid (by have := Txt.txt_len q HQO.out.1; have := HQO.out.2; omega)
      have HC := Lib.hid (implPc dt HDT.out (Txt.txt q) w11 HLT.out TT11.out LL11.out (some q) (pc_txt HDT.out HQO.out.1 HQO.out.2).symm)
      go_wp2_with (go_at_call 12; refine HC.out.mono ?_; rintro e w12 ⟨b, rfl, hr, hwr, hge, hb⟩; refine Hid.out ?_)
      refine Lib.hid ?_
      clear HC
      have HCb := Lib.hid hr
      have LB12 := Lib.hid hwr.lies
      clear hr hwr hge
      have BW12 := Lib.hid (BW11.out.trans (hb.mono BW11.out.size))
      have LX12 := Lib.hid (LX11.out.on hb)
      have RI12 := Lib.hid ((RI11.out.below hb).more hb.size)
      have TT12 := Lib.hid (TT11.out.below hb)
      have LL12 := Lib.hid (LL11.out.below hb)
      have BX12 := Lib.hid (BX11.out.on hb)
      have LR12 := Lib.hid (LR11.out.on hb)
      have BS12 := Lib.hid (BS11.out.on hb)
      have LA12 := Lib.hid (LA11.out.on hb)
      have BA12 := Lib.hid (BA11.out.on hb)
      clear LX11
      clear RI11
      clear TT11
      clear LL11
      clear BX11
      clear LR11
      clear BS11
      clear LA11
      clear BA11
      clear hb
      obtain ⟨W13, hW13⟩ : ∃ W, W = w12.alloc (.cells #[.int .i64 b.op, .string b.nm, .int .i64 b.day, .slice b.A b.ps.length b.cap] 26) := ⟨_, rfl⟩
      have hb := below1 w12 (.cells #[.int .i64 b.op, .string b.nm, .int .i64 b.day, .slice b.A b.ps.length b.cap] 26)
      rw [← hW13] at hb
      have BB13 : Hid (B4 w12.heap.size W13 (.int .i64 b.op) (.string b.nm) (.int .i64 b.day) (.slice b.A b.ps.length b.cap)) := Lib.hid (by rw [hW13]; exact B4.new _ _ _ _ _ _)
      have HW13 := Lib.hid hW13
      clear hW13
      have BW13 := Lib.hid (BW12.out.trans (hb.mono BW12.out.size))
      have LX13 := Lib.hid (LX12.out.on hb)
      have RI13 := Lib.hid ((RI12.out.below hb).more hb.size)
      have TT13 := Lib.hid (TT12.out.below hb)
      have LL13 := Lib.hid (LL12.out.below hb)
      have BX13 := Lib.hid (BX12.out.on hb)
      have LR13 := Lib.hid (LR12.out.on hb)
      have BS13 := Lib.hid (BS12.out.on hb)
      have LA13 := Lib.hid (LA12.out.on hb)
      have BA13 := Lib.hid (BA12.out.on hb)
      have LB13 := Lib.hid (LB12.out.on hb)
      clear hb
      have HSB : Hid (sameC b.cond x.cond = true) := Lib.hid (by rw [HCb.out, HQ.out]; exact (same_iff _ _).2 rfl)
      have HC := vSame b x W13 LB13.out LX13.out
      rw [HSB.out] at HC
      have HCH2 := Lib.hid HC
      clear HC
      have HC := Lib.hid (HCH2.out)
      obtain ⟨bxl, bx0, bx1, bx2, bx3, _⟩ := BX12.out
      go_wp2_with (go_at_call 10; (try rw [← HW13.out]); refine HC.out.mono ?_; rintro e w14 ⟨rfl, hb⟩; refine Hid.out ?_)
      refine Lib.hid ?_
      clear bxl bx0 bx1 bx2 bx3
      clear HC
      have BW14 := Lib.hid (BW13.out.trans (hb.mono BW13.out.size))
      have LX14 := Lib.hid (LX13.out.on hb)
      have RI14 := Lib.hid ((RI13.out.below hb).more hb.size)
      have TT14 := Lib.hid (TT13.out.below hb)
      have LL14 := Lib.hid (LL13.out.below hb)
      have BX14 := Lib.hid (BX13.out.on hb)
      have LR14 := Lib.hid (LR13.out.on hb)
      have BS14 := Lib.hid (BS13.out.on hb)
      have LA14 := Lib.hid (LA13.out.on hb)
      have BA14 := Lib.hid (BA13.out.on hb)
      have LB14 := Lib.hid (LB13.out.on hb)
      have BB14 := Lib.hid (BB13.out.on hb)
      clear LX13
      clear RI13
      clear TT13
      clear LL13
      clear BX13
      clear LR13
      clear BS13
      clear LA13
      clear BA13
      clear LB13
      clear BB13
      clear hb
      go_wp2_with fail
      go_ret
      exact ⟨rfl, BW14.out⟩
    · skip
      have HC := vSame a r W9 LA9.out LR9.out
      rw [HSM.out] at HC
      have HCH := Lib.hid HC
      clear HC
      have HC := Lib.hid (HCH.out)
      obtain ⟨bsl, bs0, bs1, bs2, bs3, _⟩ := BS8.out
      go_wp2_with (go_at_call 10; (try rw [← HW9.out]); refine HC.out.mono ?_; rintro e w10 ⟨rfl, hb⟩; refine Hid.out ?_)
      refine Lib.hid ?_
      clear bsl bs0 bs1 bs2 bs3
      clear HC
      have BW10 := Lib.hid (BW9.out.trans (hb.mono BW9.out.size))
      have LX10 := Lib.hid (LX9.out.on hb)
      have RI10 := Lib.hid ((RI9.out.below hb).more hb.size)
      have TT10 := Lib.hid (TT9.out.below hb)
      have LL10 := Lib.hid (LL9.out.below hb)
      have BX10 := Lib.hid (BX9.out.on hb)
      have LR10 := Lib.hid (LR9.out.on hb)
      have BS10 := Lib.hid (BS9.out.on hb)
      have LA10 := Lib.hid (LA9.out.on hb)
      have BA10 := Lib.hid (BA9.out.on hb)
      clear LX9
      clear RI9
      clear TT9
      clear LL9
      clear BX9
      clear LR9
      clear BS9
      clear LA9
      clear BA9
      clear hb
      have HC := Lib.hid (FmF.implFm x w10 LX10.out HW.out TT10.out LL10.out.tab ⟨(Txt.txt q).toArray⟩ true (by rw [HQ.out]; exact fm_txt HQO.out.1 HQO.out.2))
      obtain ⟨bxl, bx0, bx1, bx2, bx3, _⟩ := BX10.out
      go_wp2_with (go_at_call 11; refine HC.out.mono ?_; rintro e w11 ⟨rfl, hb⟩; refine Hid.out ?_)
      refine Lib.hid ?_
      clear bxl bx0 bx1 bx2 bx3
      clear HC
      have BW11 := Lib.hid (BW10.out.trans (hb.mono BW10.out.size))
      have LX11 := Lib.hid (LX10.out.on hb)
      have RI11 := Lib.hid ((RI10.out.below hb).more hb.size)
      have TT11 := Lib.hid (TT10.out.below hb)
      have LL11 := Lib.hid (LL10.out.below hb)
      have BX11 := Lib.hid (BX10.out.on hb)
      have LR11 := Lib.hid (LR10.out.on hb)
      have BS11 := Lib.hid (BS10.out.on hb)
      have LA11 := Lib.hid (LA10.out.on hb)
      have BA11 := Lib.hid (BA10.out.on hb)
      clear LX10
      clear RI10
      clear TT10
      clear LL10
      clear BX10
      clear LR10
      clear BS10
      clear LA10
      clear BA10
      clear hb
      have HLT : Hid ((Txt.txt q).length ≤ 1048576) := Lib.hid (by have := Txt.txt_len q HQO.out.1; have := HQO.out.2; omega)
      have HC := Lib.hid (implPc dt HDT.out (Txt.txt q) w11 HLT.out TT11.out LL11.out (some q) (pc_txt HDT.out HQO.out.1 HQO.out.2).symm)
      go_wp2_with (go_at_call 12; refine HC.out.mono ?_; rintro e w12 ⟨b, rfl, hr, hwr, hge, hb⟩; refine Hid.out ?_)
      refine Lib.hid ?_
      clear HC
      have HCb := Lib.hid hr
      have LB12 := Lib.hid hwr.lies
      clear hr hwr hge
      have BW12 := Lib.hid (BW11.out.trans (hb.mono BW11.out.size))
      have LX12 := Lib.hid (LX11.out.on hb)
      have RI12 := Lib.hid ((RI11.out.below hb).more hb.size)
      have TT12 := Lib.hid (TT11.out.below hb)
      have LL12 := Lib.hid (LL11.out.below hb)
      have BX12 := Lib.hid (BX11.out.on hb)
      have LR12 := Lib.hid (LR11.out.on hb)
      have BS12 := Lib.hid (BS11.out.on hb)
      have LA12 := Lib.hid (LA11.out.on hb)
      have BA12 := Lib.hid (BA11.out.on hb)
      clear LX11
      clear RI11
      clear TT11
      clear LL11
      clear BX11
      clear LR11
      clear BS11
      clear LA11
      clear BA11
      clear hb
      obtain ⟨W13, hW13⟩ : ∃ W, W = w12.alloc (.cells #[.int .i64 b.op, .string b.nm, .int .i64 b.day, .slice b.A b.ps.length b.cap] 26) := ⟨_, rfl⟩
      have hb := below1 w12 (.cells #[.int .i64 b.op, .string b.nm, .int .i64 b.day, .slice b.A b.ps.length b.cap] 26)
      rw [← hW13] at hb
      have BB13 : Hid (B4 w12.heap.size W13 (.int .i64 b.op) (.string b.nm) (.int .i64 b.day) (.slice b.A b.ps.length b.cap)) := Lib.hid (by rw [hW13]; exact B4.new _ _ _ _ _ _)
      have HW13 := Lib.hid hW13
      clear hW13
      have BW13 := Lib.hid (BW12.out.trans (hb.mono BW12.out.size))
      have LX13 := Lib.hid (LX12.out.on hb)
      have RI13 := Lib.hid ((RI12.out.below hb).more hb.size)
      have TT13 := Lib.hid (TT12.out.below hb)
      have LL13 := Lib.hid (LL12.out.below hb)
      have BX13 := Lib.hid (BX12.out.on hb)
      have LR13 := Lib.hid (LR12.out.on hb)
      have BS13 := Lib.hid (BS12.out.on hb)
      have LA13 := Lib.hid (LA12.out.on hb)
      have BA13 := Lib.hid (BA12.out.on hb)
      have LB13 := Lib.hid (LB12.out.on hb)
      clear hb
      have HSB : Hid (sameC b.cond x.cond = true) := Lib.hid (by rw [HCb.out, HQ.out]; exact (same_iff _ _).2 rfl)
      have HC := vSame b x W13 LB13.out LX13.out
      rw [HSB.out] at HC
      have HCH2 := Lib.hid HC
      clear HC
      have HC := Lib.hid (HCH2.out)
      obtain ⟨bxl, bx0, bx1, bx2, bx3, _⟩ := BX12.out
      go_wp2_with (go_at_call 10; (try rw [← HW13.out]); refine HC.out.mono ?_; rintro e w14 ⟨rfl, hb⟩; refine Hid.out ?_)
      refine Lib.hid ?_
      clear bxl bx0 bx1 bx2 bx3
      clear HC
      have BW14 := Lib.hid (BW13.out.trans (hb.mono BW13.out.size))
      have LX14 := Lib.hid (LX13.out.on hb)
      have RI14 := Lib.hid ((RI13.out.below hb).more hb.size)
      have TT14 := Lib.hid (TT13.out.below hb)
      have LL14 := Lib.hid (LL13.out.below hb)
      have BX14 := Lib.hid (BX13.out.on hb)
      have LR14 := Lib.hid (LR13.out.on hb)
      have BS14 := Lib.hid (BS13.out.on hb)
      have LA14 := Lib.hid (LA13.out.on hb)
      have BA14 := Lib.hid (BA13.out.on hb)
      have LB14 := Lib.hid (LB13.out.on hb)
      have BB14 := Lib.hid (BB13.out.on hb)
      clear LX13
      clear RI13
      clear TT13
      clear LL13
      clear BX13
      clear LR13
      clear BS13
      clear LA13
      clear BA13
      clear LB13
      clear BB13
      clear hb
      go_wp2_with fail
      go_ret
      exact ⟨rfl, BW14.out⟩
  · skip
    have hg2 : x.cond.good = false := by simpa using hg
    have HGD := Lib.hid hg2
    have HSF : Hid (SfIs x.cond (.mk 0 .empty 0 []) false) := Lib.hid ⟨fun _ => ⟨rfl, rfl⟩, fun _ h => absurd h hg⟩
    have HNO := Lib.hid (HEV.out.no (by rw [hg2]; rfl))
    obtain ⟨rfl, rfl⟩ := HNO.out
    clear hg hg2
    have HC := Lib.hid (implSf x w2 LX2.out HW.out (.mk 0 .empty 0 []) false HSF.out)
    obtain ⟨bxl, bx0, bx1, bx2, bx3, _⟩ := BX2.out
    go_wp2_with (go_at_call 7; refine HC.out.mono ?_; rintro e w3 ⟨r, rfl, hr, hwr, hge, hb⟩; refine Hid.out ?_)
    refine Lib.hid ?_
    clear bxl bx0 bx1 bx2 bx3
    clear HC
    have HCr := Lib.hid hr
    have LR3 := Lib.hid hwr.lies
    clear hr hwr hge
    have BW3 := Lib.hid (BW2.out.trans (hb.mono BW2.out.size))
    have LX3 := Lib.hid (LX2.out.on hb)
    have RI3 := Lib.hid ((RI2.out.below hb).more hb.size)
    have TT3 := Lib.hid (TT2.out.below hb)
    have LL3 := Lib.hid (LL2.out.below hb)
    have BX3 := Lib.hid (BX2.out.on hb)
    clear LX2
    clear RI2
    clear TT2
    clear LL2
    clear BX2
    clear hb
    have hro : r.op = 0 := by have := HCr.out; cases r with | mk op nm day A cap ps => simp only [K.cond, C.mk.injEq] at this; exact this.1
    have HRO := Lib.hid hro
    clear hro
    obtain ⟨W4, hW4⟩ : ∃ W, W = w3.alloc (.cells #[.int .i64 r.op, .string r.nm, .int .i64 r.day, .slice r.A r.ps.length r.cap] 26) := ⟨_, rfl⟩
    have hb := below1 w3 (.cells #[.int .i64 r.op, .string r.nm, .int .i64 r.day, .slice r.A r.ps.length r.cap] 26)
    rw [← hW4] at hb
    have BS4 : Hid (B4 w3.heap.size W4 (.int .i64 r.op) (.string r.nm) (.int .i64 r.day) (.slice r.A r.ps.length r.cap)) := Lib.hid (by rw [hW4]; exact B4.new _ _ _ _ _ _)
    have HW4 := Lib.hid hW4
    clear hW4
    have BW4 := Lib.hid (BW3.out.trans (hb.mono BW3.out.size))
    have LX4 := Lib.hid (LX3.out.on hb)
    have RI4 := Lib.hid ((RI3.out.below hb).more hb.size)
    have TT4 := Lib.hid (TT3.out.below hb)
    have LL4 := Lib.hid (LL3.out.below hb)
    have BX4 := Lib.hid (BX3.out.on hb)
    have LR4 := Lib.hid (LR3.out.on hb)
    clear hb
    have HT0 : Hid (True) := Lib.hid trivial
    have HSE := Lib.hid (specEv x F m cf ss z W4 LX4.out HW.out HN.out (by omega) RI4.out f HF.out false false HEV.out)
    have HC := Lib.hid (HSE.out)
    obtain ⟨bxl, bx0, bx1, bx2, bx3, _⟩ := BX3.out
    go_wp2_with (go_at_call 8; (try rw [← HW4.out]); refine HC.out.mono ?_; rintro e w5 ⟨rfl, hb⟩; refine Hid.out ?_)
    refine Lib.hid ?_
    clear bxl bx0 bx1 bx2 bx3
    clear HC
    have BW5 := Lib.hid (BW4.out.trans (hb.mono BW4.out.size))
    have LX5 := Lib.hid (LX4.out.on hb)
    have RI5 := Lib.hid ((RI4.out.below hb).more hb.size)
    have TT5 := Lib.hid (TT4.out.below hb)
    have LL5 := Lib.hid (LL4.out.below hb)
    have BX5 := Lib.hid (BX4.out.on hb)
    have LR5 := Lib.hid (LR4.out.on hb)
    have BS5 := Lib.hid (BS4.out.on hb)
    clear LX4
    clear RI4
    clear TT4
    clear LL4
    clear BX4
    clear LR4
    clear BS4
    clear hb
    have HC := Lib.hid (specValid x w5 LX5.out HW.out false HGD.out)
    obtain ⟨bxl, bx0, bx1, bx2, bx3, _⟩ := BX5.out
    go_wp2_with (go_at_call 9; refine HC.out.mono ?_; rintro e w6 ⟨rfl, hb⟩; refine Hid.out ?_)
    refine Lib.hid ?_
    clear bxl bx0 bx1 bx2 bx3
    clear HC
    have BW6 := Lib.hid (BW5.out.trans (hb.mono BW5.out.size))
    have LX6 := Lib.hid (LX5.out.on hb)
    have RI6 := Lib.hid ((RI5.out.below hb).more hb.size)
    have TT6 := Lib.hid (TT5.out.below hb)
    have LL6 := Lib.hid (LL5.out.below hb)
    have BX6 := Lib.hid (BX5.out.on hb)
    have LR6 := Lib.hid (LR5.out.on hb)
    have BS6 := Lib.hid (BS5.out.on hb)
    clear LX5
    clear RI5
    clear TT5
    clear LL5
    clear BX5
    clear LR5
    clear BS5
    clear hb
    have HBS := BS6.out
    rw [HRO.out] at HBS
    obtain ⟨_, s0, _, _, _, _⟩ := HBS
    go_wp2_with fail
    go_ret
    exact ⟨rfl, BW6.out⟩

theorem walk (A : Option Addr) (len cap : Nat) (w : World) (hm : len ≤ maxLen) (hA : Cur.Bytes w w.heap.size A len) (hT : Tab.Tab w) (hL : LiesD.Lies w) :
    Calls Tryz.prog 3 #[.slice A len cap] w fun e w' => e = .returned (.bool true) ∧ Below w.heap.size w w' := by
  by_cases h : 65536 < len
  · exact bigWalk A len cap w h hm
  · exact small A len cap w hT hL (Lib.hid (vBigNo A len cap w (by omega))) (Lib.hid (drawEv A len cap w (by omega) hA))

end Go.Proofs.YtmgjeplbhnfakaaGreatDoor.CdW

namespace Go.Proofs.YtmgjeplbhnfakaaGreatDoor.fnConditions
open Go.ChangeShapes Go.WideShapes Go.ChangeAt Go.RowKit Go.Joins
open Go.ChangeMaps (open_string shut_string)
set_option linter.unusedVariables false

theorem own : ownKnob Tryz.prog.godebug = none := by kernel_rfl
theorem laidOut : laidOutB Tryz.prog = true := by kernel_rfl

set_option maxRecDepth 100000 in
theorem contract (H : Type) (enc : TypeId × Value → H) (W : World) (base : Nat) (args : Array Value) (ds gs : List (DataW H)) (before : List MemPlace)
    (hval : ∀ (j : Nat) t v, Tryz.f3.params[j]? = some t → args[j]? = some v → Value.okWide Tryz.prog W .any base t v)
    (hW : DataW.Whole enc Tryz.prog Tryz.f3.params.toList Rows.fnConditionsSpec.vars false W args.toList ds gs before) (hL : laidMetH Tryz.prog Rows.fnConditionsRow.laid W) (hSh : W.ShapedOpen Tryz.prog) :
    Calls Tryz.prog 3 args W fun e W' => ∃ v, e = .returned v ∧ Rows.fnConditionsSpec.post enc Tryz.prog Tryz.f3 false true false false W args v W' := by
  have hW' := hW
  obtain ⟨p, q, hA0, hV, rfl, hfz, hnd⟩ := hW
  have hA : DataW.TrodAll enc Tryz.prog W 0 (fun _ => true) true Tryz.f3.params.toList args.toList ds p := hA0
  rw [Tryz.params3] at hA hval
  obtain ⟨v0, vs0, d0, ds0, p0, q0, hargs, rfl, rfl, h0, r0⟩ := trodAll_cons hA
  obtain ⟨rfl, rfl, rfl⟩ := trodAll_nil r0
  obtain rfl : args = #[v0] := by cases args; simp_all
  rw [MakeChecks.laidMetH_plain _ _ _ (by kernel_rfl)] at hL
  have hT : Tab.Tab W := Tab.first hL.tail.tail.tail.tail.tail
  have hV1 : DataW.TrodVars enc Tryz.prog W (fun _ => true) ["loop.example/g00902/impl.daysBefore"] gs q := hV
  obtain ⟨rfl, rfl⟩ := hV1.unique (Tab.vars enc hT _)
  obtain ⟨a0, len0, cap0, rfl⟩ := okWide_slice Tryz.underlying22 (hval 0 22 v0 rfl rfl)
  have k0 := h0
  have lt0 : ∀ x ∈ p0, x.block < W.heap.size := by obtain ⟨m, hm⟩ := k0; exact DataW.trod_lt m _ _ _ hm
  obtain ⟨hm0, hB0, hc0, hz0⟩ : len0 ≤ maxLen ∧ Cur.Bytes W W.heap.size a0 len0 ∧ len0 ≤ cap0 ∧ (a0 = none → len0 = 0 ∧ cap0 = 0) := by
    obtain ⟨fuel, hf⟩ := h0
    rcases open_ints Tryz.underlying22 Tryz.underlying5 (by kernel_rfl) hf with ⟨hcs, _⟩ | ⟨x, n, c, zs, hcs, _, hl, hm, hz, _, hcell, hwz⟩
    · simp [Value.cells] at hcs
      obtain ⟨rfl, rfl, rfl⟩ := hcs
      exact ⟨by unfold maxLen; omega, fun h => by omega, Nat.le_refl _, fun _ => ⟨rfl, rfl⟩⟩
    · simp [Value.cells] at hcs
      obtain ⟨rfl, rfl, rfl⟩ := hcs
      have hz' : zs.length = cap0 := by simpa using hz
      refine ⟨by omega, fun hp => ⟨x, rfl, ?_, fun j hj => ?_⟩, hl, fun h => by cases h⟩
      · have h2 := World.block_lt_of_cell? W _ (hcell 0 (by omega))
        rwa [Cur.block_add] at h2
      · have hj' : j < zs.length := by omega
        refine ⟨zs[j], by rw [hcell j hj']; simp [List.getD, hj'], ?_⟩
        have hw := hwz zs[j] (List.getElem_mem hj')
        simpa [Lit.wf, IntKind.min, IntKind.max, IntKind.signed, IntKind.bits] using hw
  clear hA0
  refine (CdW.walk a0 len0 cap0 W hm0 hB0 hT (LiesD.lies hL)).mono fun e W' ⟨he, bel⟩ => ?_
  subst he
  exact ⟨_, rfl, _, _, _, [], _, MemPlace.row ⟨0, 0, none⟩ 13 ++ [], hW', trodAll_mk1 (shut_bool Tryz.underlying4 _), (trodAll_cons_mk (Below.trod laidOut (by kernel_rfl) (of_decide_eq_true (by kernel_rfl)) k0 bel lt0) trodAll_mk0), Tab.vars enc (hT.below bel) _, bel.frame _, fun h => by cases h⟩

theorem laid_met (os : Os) : laidMetH Tryz.prog Rows.fnConditionsRow.laid ((World.doorLaid Tryz.prog 62 os).forCall (fun _ _ => 0) ⟨#[], #[.slice none 0 0], []⟩).memory := 
  laidMetH_of_parts3 (fuel := 8) (laidMet_of_run' 8 (by kernel_rfl) (by kernel_rfl)) (by kernel_rfl) (by kernel_rfl)
theorem reads (os : Os) {H : Type} (enc : TypeId × Value → H) : ∃ places, DataW.whole enc Tryz.prog ((World.doorLaid Tryz.prog 62 os).forCall (fun _ _ => 0) ⟨#[], #[.slice none 0 0], []⟩).memory Tryz.f3.params.toList Rows.fnConditionsSpec.vars false (#[.slice none 0 0] : Array Value).toList 8 = some ([.nil], [Tab.datum], places) :=
  ⟨MemPlace.row ⟨0, 0, none⟩ 13, by kernel_rfl⟩

set_option maxRecDepth 100000 in
theorem lifted (os : Os) (started : os.Started) (H : Type) (enc : TypeId × Value → H) (F : Stop.Interp) :
    ReturnsInHanded {} Tryz.checked os 3 .any ((OpenSpec.ofChange Rows.fnConditionsSpec).preRow enc Tryz.prog Tryz.f3 Rows.fnConditionsRow.domain false Rows.fnConditionsRow.laid) (((OpenSpec.ofChange Rows.fnConditionsSpec).at F).post enc Tryz.prog Tryz.f3 false true false false) := by
  obtain ⟨places, hx⟩ := reads os enc
  refine returnsInHanded_of_row (C := Tryz.checked) (s := OpenSpec.ofChange Rows.fnConditionsSpec) own started (by kernel_rfl) Tryz.func3
    (witness_row_atRef (enc := enc) (C := Tryz.checked) false (World.doorLaid Tryz.prog 62 os) #[.slice none 0 0] rfl (by kernel_rfl) (by kernel_rfl) (by kernel_rfl)
      (OpenSpec.preRow_of_cond 8 hx (by kernel_rfl) (fun k hk => by cases hk) (by kernel_rfl) (laid_met os))) ?_
  intro W base args ds gs before hval hW _ _ _ hL hSh _
  exact contract H enc W base args ds gs before hval hW hL hSh

theorem said : Rows.FnConditionsSaid :=
  OpenClaim.holds_of_cond 3 Tryz.f3 rfl rfl rfl rfl rfl rfl rfl ⟨rfl, rfl, rfl, rfl, rfl⟩ rfl rfl rfl rfl rfl (by kernel_rfl) Tryz.func3 (by kernel_rfl)
    (of_decide_eq_true (by kernel_rfl)) (by unfold Func.isWrapper; first | (rw [if_pos (by decide +kernel)]; kernel_rfl) | (rw [if_neg (by decide +kernel)]; exact ⟨rfl, rfl⟩))
    (fun os started H enc _ F => by rw [OpenClaim.pre_eq_preRow]; exact lifted os started H enc F)

theorem plain (f : FuncId) (fn : Func) (hf : Tryz.pinned.checked.prog.funcNamed "loop.example/g00902/laws.FnConditions" = some f) (hfn : Tryz.pinned.checked.prog.funcs[f]? = some fn) :
    true = Tryz.pinned.checked.prog.looks [] ∧ ∀ (j : Nat) t, fn.params[j]? = some t → Tryz.pinned.checked.prog.wantsStandIn t = false := by
  obtain rfl : f = 3 := Option.some.inj ((show Tryz.prog.funcNamed "loop.example/g00902/laws.FnConditions" = some 3 by kernel_rfl).symm.trans hf) |>.symm
  obtain rfl : fn = Tryz.f3 := (Option.some.inj (Tryz.func3.symm.trans hfn)).symm
  refine ⟨by kernel_rfl, fun j t ht => ?_⟩
  rw [Tryz.params3] at ht
  obtain rfl : t = 22 := by simpa using Array.mem_of_getElem? ht
  exact (show Tryz.prog.wantsStandIn 22 = false by kernel_rfl)

theorem card : Rows.FnConditionsCardSaid :=
  Claim7.holds_tied_plain_at .later [] _ _ _ _ said (fun _ h => by cases h) (by kernel_rfl) (fun _ h => by cases h) fnConditions_row_tie rfl ⟨rfl, rfl⟩ (by kernel_rfl) rfl plain (by kernel_rfl)
end Go.Proofs.YtmgjeplbhnfakaaGreatDoor.fnConditions
