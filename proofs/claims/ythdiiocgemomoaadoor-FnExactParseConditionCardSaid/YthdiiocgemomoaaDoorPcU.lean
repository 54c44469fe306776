/-
  ParseCondition of the program.
-/
import Derived.Test.YthdiiocgemomoaaDoorPcT
import Derived.Test.YthdiiocgemomoaaDoorPcE
namespace Go.Proofs.YthdiiocgemomoaaDoor.Cond
open Go.RowKit
set_option linter.unusedVariables false
set_option linter.unusedSimpArgs false

set_option maxRecDepth 100000 in
set_option maxHeartbeats 8000000 in
theorem implPc (dt : List UInt8 → Option Int) (hdt : Dt dt) (l : List UInt8) (w : World) (hl : l.length ≤ 1048576) (hT : Tab.Tab w) (hLi : LiesD.Lies w) (o : Option Q) (ho : o = pc dt l) :
    Calls Tryd.prog 5 #[.string (ba l)] w (PbAns (dOf o) o.isSome w) := by
  obtain ⟨Y, hY⟩ : ∃ Y, Y = (w.alloc (.cells #[.int .i64 0, .string ⟨#[]⟩, .int .i64 0, .slice none 0 0] 24)).alloc (.cells #[.string (ba l), .int .i64 15] 34) := ⟨_, rfl⟩
  have B0 : Hid (Below w.heap.size w Y) := Lib.hid (by rw [hY]; exact (below1 _ _).alloc (by simp) _)
  have hYs : Y.heap.size = w.heap.size + 2 := by rw [hY]; simp
  have P0 : Hid (B4 w.heap.size Y (.int .i64 0) (.string ⟨#[]⟩) (.int .i64 0) (.slice none 0 0)) := Lib.hid (by rw [hY]; exact (B4.new _ _ _ _ _ _).alloc _)
  have hR : Rr (w.heap.size + 1) Y l 15 := by
    rw [hY]
    exact ⟨by simp, by simp [go_sem], by simp [go_sem], fun o => by simp [go_sem]⟩
  have hS := sub_all hdt hT hLi (b := w.heap.size + 1) (W := w) (by omega) (l.length + 1) (by omega)
  have HY := Lib.hid hY
  have SY : Hid (Y.heap.size = w.heap.size + 2) := Lib.hid hYs
  by_cases hg : ∃ q r, rd dt (l.length + 1) l = some (q, r) ∧ q.size ≤ 15
  · obtain ⟨q, r, hrd, hq⟩ := hg
    have HRD := Lib.hid (hS.good l 15 q r Y hrd hq (Nat.le_refl _) (by omega) hR B0.out)
    have HPC : Hid (o = if r.isEmpty && decide (q.size ≤ 15) then some q else none) := Lib.hid (by rw [ho, pc, hrd])
    have HQ := Lib.hid hq
    clear hY hYs hR hS hrd hT hLi ho hdt hq
    by_cases hr : r = []
    · subst hr
      have HO : Hid (o = some q) := Lib.hid (by rw [HPC.out, decide_eq_true HQ.out]; rfl)
      go_enter Tryd.func5, Tryd.ntmps5
      go_wp2_with (go_at_call 11; (try rw [← HY.out]); refine HRD.out.mono ?_; rintro e w2 ⟨hm2, k, rfl, hk, hwk, hge, hrr⟩; refine Hid.out ?_)
      refine Lib.hid ?_
      have BW := Lib.hid (B0.out.trans (hm2.below (B := w.heap.size) (fun x hx => by rw [hx]; omega) B0.out.size))
      have P2 := Lib.hid (P0.out.mv hm2 (by omega))
      have rc0 := hrr.c0
      have rlt : w.heap.size + 1 < w2.heap.size := hrr.lt
      have HF : Hid (∀ x0 x1 x2 x3, PbAns q.c true w (.returned (.tuple #[k.val, .bool true])) ((Cond.put4 w2 w.heap.size 0 x0 x1 x2 x3).alloc (.cells #[.int .i64 k.op, .string k.nm, .int .i64 k.day, .slice k.A k.ps.length k.cap] 24))) := Lib.hid fun x0 x1 x2 x3 => PbAns.alloc (pb_res (S := Y.heap.size) BW.out hk hwk hge (by have := SY.out; omega) (by have := SY.out; omega) (Nat.le_refl _)) _
      obtain ⟨_, p0, p1, p2, p3, pf⟩ := P2.out
      have pf0 := pf 0
      have pf1 := pf 1
      have pf2 := pf 2
      have pf3 := pf 3
      clear pf
      clear hm2 hk hwk hge hrr
      go_wp2_with fail
      obtain ⟨_, t0, t1, t2, t3, _⟩ := (P2.out.put (.int .i64 k.op) (.string k.nm) (.int .i64 k.day) (.slice k.A k.ps.length k.cap)).alloc (.cells #[.int .i64 k.op, .string k.nm, .int .i64 k.day, .slice k.A k.ps.length k.cap] 24)
      have hf := HF.out (.int .i64 k.op) (.string k.nm) (.int .i64 k.day) (.slice k.A k.ps.length k.cap)
      simp only [Cond.put4] at t0 t1 t2 t3 hf
      exact bodyPost_ret (v := .tuple #[k.val, .bool true]) (by simp [results, Tryd.results5, go_sem, t0, t1, t2, t3]) rfl (by rw [HO.out]; exact hf)
    · have h2 : r.isEmpty = false := by cases r with | nil => exact absurd rfl hr | cons => rfl
      have HO : Hid (o = none) := Lib.hid (by rw [HPC.out, h2]; rfl)
      have e1 : (ba r).toList = r := by rw [Go.ByteArray.toList_eq]
      have s1 : ¬ (ba r).toList = [] := by rw [e1]; exact hr
      have s2 : ((ba r).toList == []) = false := by rw [e1, beq_eq_false_iff_ne]; exact hr
      have s3 : (!(ba r).toList.isEmpty) = true := by rw [e1, h2]; rfl
      have s4 : (ba r).toList.isEmpty = false := by rw [e1, h2]
      obtain ⟨y, hy⟩ : ∃ y, y = ba r := ⟨_, rfl⟩
      rw [← hy] at s1 s2 s3 s4
      have HYY := Lib.hid hy
      clear hr h2 e1 hy
      go_enter Tryd.func5, Tryd.ntmps5
      go_wp2_with (go_at_call 11; (try rw [← HY.out]); refine HRD.out.mono ?_; rintro e w2 ⟨hm2, k, rfl, hk, hwk, hge, hrr⟩; refine Hid.out ?_)
      refine Lib.hid ?_
      have BW := Lib.hid (B0.out.trans (hm2.below (B := w.heap.size) (fun x hx => by rw [hx]; omega) B0.out.size))
      have P2 := Lib.hid (P0.out.mv hm2 (by omega))
      have rc0 := hrr.c0
      rw [← HYY.out] at rc0
      have rlt : w.heap.size + 1 < w2.heap.size := hrr.lt
      obtain ⟨_, p0, p1, p2, p3, pf⟩ := P2.out
      have pf0 := pf 0
      have pf1 := pf 1
      have pf2 := pf 2
      have pf3 := pf 3
      clear pf
      clear hm2 hk hwk hge hrr
      go_wp2_with fail
      obtain ⟨_, t0, t1, t2, t3, _⟩ := (P2.out.put (.int .i64 0) (.string ⟨#[]⟩) (.int .i64 0) (.slice none 0 0)).alloc (.cells #[.int .i64 k.op, .string k.nm, .int .i64 k.day, .slice k.A k.ps.length k.cap] 24)
      have hf := (pb_zero (kb := w.heap.size) (x0 := .int .i64 0) (x1 := .string ⟨#[]⟩) (x2 := .int .i64 0) (x3 := .slice none 0 0) BW.out (Nat.le_refl _)).alloc (.cells #[.int .i64 k.op, .string k.nm, .int .i64 k.day, .slice k.A k.ps.length k.cap] 24)
      simp only [Cond.put4] at t0 t1 t2 t3 hf
      exact bodyPost_ret (v := .tuple #[.agg #[.int .i64 0, .string ⟨#[]⟩, .int .i64 0, .slice none 0 0], .bool false]) (by simp [results, Tryd.results5, go_sem, t0, t1, t2, t3]) rfl (by rw [HO.out]; exact hf)
  · have hno : ∀ q r, rd dt (l.length + 1) l = some (q, r) → 15 < q.size := fun q r h => by
      rcases Nat.lt_or_ge 15 q.size with h2 | h2
      · exact h2
      · exact absurd ⟨q, r, h, h2⟩ hg
    have HO : Hid (o = none) := Lib.hid (by
      rw [ho, pc]
      cases h : rd dt (l.length + 1) l with
      | none => rfl
      | some p =>
        obtain ⟨q, r⟩ := p
        have := hno q r h
        have h3 : decide (q.size ≤ 15) = false := decide_eq_false (by omega)
        simp only [h3, Bool.and_false, if_false, Bool.false_eq_true])
    have HRD := Lib.hid (hS.bad l 15 Y hno (Nat.le_refl _) (by omega) hR B0.out)
    clear hY hYs hR hS hT hLi ho hdt hg hno
    go_enter Tryd.func5, Tryd.ntmps5
    go_wp2_with (go_at_call 11; (try rw [← HY.out]); refine HRD.out.mono ?_; rintro e w2 ⟨hm2, k, rfl⟩; refine Hid.out ?_)
    refine Lib.hid ?_
    have BW := Lib.hid (B0.out.trans (hm2.below (B := w.heap.size) (fun x hx => by rw [hx]; omega) B0.out.size))
    have P2 := Lib.hid (P0.out.mv hm2 (by omega))
    obtain ⟨_, p0, p1, p2, p3, pf⟩ := P2.out
    have pf0 := pf 0
    have pf1 := pf 1
    have pf2 := pf 2
    have pf3 := pf 3
    clear pf
    clear hm2
    go_wp2_with fail
    obtain ⟨_, t0, t1, t2, t3, _⟩ := (P2.out.put (.int .i64 0) (.string ⟨#[]⟩) (.int .i64 0) (.slice none 0 0)).alloc (.cells #[.int .i64 k.op, .string k.nm, .int .i64 k.day, .slice k.A k.ps.length k.cap] 24)
    have hf := (pb_zero (kb := w.heap.size) (x0 := .int .i64 0) (x1 := .string ⟨#[]⟩) (x2 := .int .i64 0) (x3 := .slice none 0 0) BW.out (Nat.le_refl _)).alloc (.cells #[.int .i64 k.op, .string k.nm, .int .i64 k.day, .slice k.A k.ps.length k.cap] 24)
    simp only [Cond.put4] at t0 t1 t2 t3 hf
    exact bodyPost_ret (v := .tuple #[.agg #[.int .i64 0, .string ⟨#[]⟩, .int .i64 0, .slice none 0 0], .bool false]) (by simp [results, Tryd.results5, go_sem, t0, t1, t2, t3]) rfl (by rw [HO.out]; exact hf)

end Go.Proofs.YthdiiocgemomoaaDoor.Cond
