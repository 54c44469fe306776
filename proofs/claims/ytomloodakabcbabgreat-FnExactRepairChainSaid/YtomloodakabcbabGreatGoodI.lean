/-
  Valid conditions by the program: IsValidCondition.
-/
import Derived.Test.YtomloodakabcbabGreatVisit
namespace Go.Proofs.YtomloodakabcbabGreat.Cond
open Go.RowKit

def C.fm : C → Bool
  | .mk op nm day ps => form op nm day ps.length
def okV (n : Nat) (c : C) : Bool := decide (n + 1 ≤ 15) && c.fm
def nxV (n : Nat) (_ : C) : Nat := n + 1

mutual
theorem vis_good : ∀ (c : C) (n : Nat), n ≤ 15 → (vis okV nxV c n).1 = (c.forms && decide (n + c.size ≤ 15)) ∧ ((vis okV nxV c n).1 = true → (vis okV nxV c n).2 = n + c.size)
  | .mk op nm day ps, n, hn => by
    unfold vis
    by_cases h : okV n (.mk op nm day ps) = true
    · rw [if_pos h]
      simp only [okV, C.fm, Bool.and_eq_true, decide_eq_true_eq] at h
      have := visL_good ps (n + 1) h.1
      simp only [nxV, C.forms, h.2, Bool.true_and]
      rw [show (C.mk op nm day ps).size = 1 + sizes ps from by simp only [C.size], show n + (1 + sizes ps) = n + 1 + sizes ps by omega]
      exact this
    · rw [if_neg h]
      simp only [okV, C.fm, Bool.and_eq_true, decide_eq_true_eq, Classical.not_and_iff_not_or_not] at h
      refine ⟨?_, fun h => by cases h⟩
      rw [show (C.mk op nm day ps).size = 1 + sizes ps from by simp only [C.size]]
      simp only [C.forms]
      rcases h with h | h
      · rw [decide_eq_false (show ¬ n + (1 + sizes ps) ≤ 15 by omega), Bool.and_false]
      · simp only [Bool.not_eq_true] at h
        rw [h]; rfl
theorem visL_good : ∀ (ps : List C) (n : Nat), n ≤ 15 → (visL okV nxV ps n).1 = (allForms ps && decide (n + sizes ps ≤ 15)) ∧ ((visL okV nxV ps n).1 = true → (visL okV nxV ps n).2 = n + sizes ps)
  | [], n, hn => by simp [visL, allForms, sizes, hn]
  | p :: ps, n, hn => by
    unfold visL
    obtain ⟨h1, h2⟩ := vis_good p n hn
    by_cases h : (vis okV nxV p n).1 = true
    · rw [if_pos h, h2 h]
      rw [h] at h1
      have h1' := h1.symm
      simp only [Bool.and_eq_true, decide_eq_true_eq] at h1'
      have := visL_good ps (n + p.size) h1'.2
      simp only [allForms, h1'.1, Bool.true_and]
      rw [show sizes (p :: ps) = p.size + sizes ps from by simp only [sizes], show n + (p.size + sizes ps) = n + p.size + sizes ps by omega]
      exact this
    · rw [if_neg h]
      simp only [Bool.not_eq_true] at h
      rw [h] at h1
      refine ⟨?_, fun h => by cases h⟩
      rw [show sizes (p :: ps) = p.size + sizes ps from by simp only [sizes]]
      simp only [allForms]
      by_cases hf : p.forms = true
      · rw [hf, Bool.true_and] at h1
        have := of_decide_eq_false h1.symm
        rw [decide_eq_false (show ¬ n + (p.size + sizes ps) ≤ 15 by omega), Bool.and_false]
      · simp only [Bool.not_eq_true] at hf
        rw [hf]; rfl
end

/-- The count of IsValidCondition lies in block nb. -/
structure StV (B nb : Nat) (n : Nat) (own : Nat → Prop) (v : World) : Prop where
  own : own = (· = nb)
  ge : B ≤ nb
  lt : nb < v.heap.size
  cell : v.cell? ⟨nb, 0, none⟩ = some (.int .i64 n)
  fz : v.frozen? ⟨nb, 0, none⟩ = false
def fitV (n m : Nat) : Prop := n + m ≤ 1073741824

theorem seesV (B nb : Nat) : Sees B okV nxV (StV B nb) fitV where
  lt := fun s own v h b hb => by
    rw [h.own] at hb
    have : b = nb := hb
    subst this
    exact ⟨h.ge, h.lt⟩
  fr := fun s own v v' h hb => by
    have e := hb nb (by rw [h.own])
    refine ⟨h.own, h.ge, ?_, (World.cell?_of_block (a := ⟨nb, 0, none⟩) e).trans h.cell, (World.frozen?_of_block (a := ⟨nb, 0, none⟩) e).trans h.fz⟩
    exact World.block_lt_of_cell? v' ⟨nb, 0, none⟩ ((World.cell?_of_block (a := ⟨nb, 0, none⟩) e).trans h.cell)
  less := fun s m m' h hm => by unfold fitV at *; omega
  fits := fun s m c h => by unfold fitV nxV at *; omega

set_option maxHeartbeats 2000000 in
theorem seeV (B nb n : Nat) (own : Nat → Prop) (v : World) (k : K) (hf : fitV n 1) (hst : StV B nb n own v) (hin : Lies v B k) :
    Calls Tryz.prog 67 #[k.val, .pointer (some ⟨nb, 0, none⟩)] v fun e w' => ∃ own', e = .returned (.bool (okV n k.cond)) ∧ StV B nb (nxV n k.cond) own' w' ∧ Mv own own' v w' := by
  cases k with
  | mk op nm day A cap ps =>
    have hnm := hin.sz.1
    unfold fitV at hf
    show Calls Tryz.prog 67 #[.agg #[.int .i64 op, .string nm, .int .i64 day, .slice A ps.length cap], .pointer (some ⟨nb, 0, none⟩)] v fun e w' => ∃ own', e = .returned (.bool (decide (n + 1 ≤ 15) && form op nm day (conds ps).length)) ∧ StV B nb (n + 1) own' w' ∧ Mv own own' v w'
    rw [conds_len]
    generalize ps.length = l at *
    have X0 := B4.new v (.int .i64 op) (.string nm) (.int .i64 day) (.slice A l cap) 68
    have B0 := Lib.hid (below1 v (.cells #[.int .i64 op, .string nm, .int .i64 day, .slice A l cap] 68))
    have hne : nb ≠ v.heap.size := by have := hst.lt; omega
    have X1 := Lib.hid (X0.far (p := ⟨nb, 0, none⟩) hne (.int .i64 ((n + 1 : Nat) : Int)))
    have hcell : (v.alloc (.cells #[.int .i64 op, .string nm, .int .i64 day, .slice A l cap] 68)).cell? ⟨nb, 0, none⟩ = some (.int .i64 n) := (B0.out.cell (p := ⟨nb, 0, none⟩) hst.lt).trans hst.cell
    have hfz : (v.alloc (.cells #[.int .i64 op, .string nm, .int .i64 day, .slice A l cap] 68)).frozen? ⟨nb, 0, none⟩ = false := (B0.out.frozen (p := ⟨nb, 0, none⟩) hst.lt).trans hst.fz
    obtain ⟨w0, hw0⟩ : ∃ w0, w0 = v.alloc (.cells #[.int .i64 op, .string nm, .int .i64 day, .slice A l cap] 68) := ⟨_, rfl⟩
    rw [← hw0] at hcell hfz X1 B0
    have hc2 := World.cell?_setCell_same w0 ⟨nb, 0, none⟩ (.int .i64 ((n + 1 : Nat) : Int)) hcell
    have HM : Hid (Mv own (· = nb) v (w0.setCell ⟨nb, 0, none⟩ (.int .i64 ((n + 1 : Nat) : Int)))) := Lib.hid
      ⟨B0.out.os, B0.out.tape, B0.out.output, by rw [World.size_setCell]; exact B0.out.size, fun b hb hn => (Below.heap_setCell _ _ _ _ (fun e => hn (by rw [hst.own]; exact e))).trans (B0.out.block b hb), fun b hb => .inl (by rw [hst.own]; exact hb)⟩
    have HS : Hid (StV B nb (n + 1) (· = nb) (w0.setCell ⟨nb, 0, none⟩ (.int .i64 ((n + 1 : Nat) : Int)))) := Lib.hid
      ⟨rfl, hst.ge, by rw [World.size_setCell]; exact Nat.lt_of_lt_of_le hst.lt B0.out.size, hc2, by simp [hfz]⟩
    have HH := Lib.hid (hasForm op nm hnm day A l cap (w0.setCell ⟨nb, 0, none⟩ (.int .i64 ((n + 1 : Nat) : Int))))
    have HFR := Lib.hid (seesV B nb).fr
    obtain ⟨_, y0, y1, y2, y3, _⟩ := X1.out
    rw [show ((n + 1 : Nat) : Int) = (n : Int) + 1 by omega] at hc2 y0 y1 y2 y3 HM HS HH
    have HW := Lib.hid hw0
    clear hst hin X0 hnm hne
    by_cases h : n + 1 ≤ 15
    · have h' : (n : Int) + 1 ≤ 15 := by omega
      rw [decide_eq_true h, Bool.true_and]
      go_enter Tryz.func67, Tryz.ntmps67
      rw [hw0] at hcell hfz hc2 y0 y1 y2 y3
      clear hw0
      go_wp2_with (go_at_call 68; rw [← HW.out]; refine HH.out.mono ?_; rintro e w2 ⟨rfl, hb2⟩)
      go_ret
      exact ⟨_, rfl, HFR.out _ _ _ _ HS.out (fun b hb => hb2.block b (by have : b = nb := hb; subst this; exact HS.out.lt)), HM.out.trans (Mv.of_below hb2)⟩
    · have h' : ¬ (n : Int) + 1 ≤ 15 := by omega
      rw [decide_eq_false h, Bool.false_and]
      go_enter Tryz.func67, Tryz.ntmps67
      rw [hw0] at hcell hfz hc2 y0 y1 y2 y3
      clear hw0
      go_wp2_with fail
      go_ret
      rw [← HW.out]
      first | exact ⟨rfl, _, HS.out, HM.out⟩ | exact ⟨_, rfl, HS.out, HM.out⟩

set_option maxHeartbeats 2000000 in
theorem implGood (k : K) (w : World) (hin : Lies w w.heap.size k) (hw : k.cond.wt ≤ 1048576) :
    Calls Tryz.prog 53 #[k.val] w fun e w' => e = .returned (.bool k.cond.good) ∧ Below w.heap.size w w' := by
  have hs : k.cond.size ≤ 1048577 := by have := C.size_le k.cond; omega
  obtain ⟨w0, hw0⟩ : ∃ w0, w0 = (w.alloc (.cells #[.int .i64 k.op, .string k.nm, .int .i64 k.day, .slice k.A k.ps.length k.cap] 68)).alloc (.cells #[.int .i64 0] 3) := ⟨_, rfl⟩
  have B0 : Hid (Below w.heap.size w w0) := Lib.hid (by rw [hw0]; exact (below1 _ _).alloc (by simp) _)
  have S0 : Hid (StV w.heap.size (w.heap.size + 1) 0 (· = w.heap.size + 1) w0) := Lib.hid (by
    rw [hw0]
    exact ⟨rfl, by omega, by simp, by simp [go_sem], by simp [go_sem]⟩)
  have HV := visitV (seesV w.heap.size (w.heap.size + 1)) (w.heap.size + 1) (fun s own v k hf hst hin _ => seeV _ _ s own v k hf hst hin) k 0 (· = w.heap.size + 1) w0 (by unfold fitV; omega) S0.out (hin.below B0.out) B0.out.size
  rw [(vis_good k.cond 0 (by omega)).1, Nat.zero_add] at HV
  have HVH : Hid (Calls Tryz.prog 66 #[k.val, .func (.func 67) #[] #[.pointer (some ⟨w.heap.size + 1, 0, none⟩)]] w0 fun e w' => e = .returned (.bool k.cond.good) ∧ Below w.heap.size w w') := Lib.hid (HV.mono fun e w' ⟨own', he, _, hm⟩ => ⟨he, B0.out.trans (hm.below (fun b hb => by have : b = w.heap.size + 1 := hb; omega) B0.out.size)⟩)
  have hmf : ∀ (fn : Fn) (first cap : Array Value) (w : World), (Instr.makeFunc fn first cap).run Tryz.prog w = .ok (.func fn first cap) w := fun _ _ _ _ => rfl
  have HW := Lib.hid hw0
  clear hin HV hw0
  go_enter Tryz.func53, Tryz.ntmps53
  go_wp2_with (go_at_call 66; rw [← HW.out]; refine HVH.out.mono ?_; rintro e w2 ⟨rfl, hb2⟩)
  go_ret
  exact ⟨rfl, hb2⟩

end Go.Proofs.YtomloodakabcbabGreat.Cond
