/-
  What the laws' helper eqCondition returns of two conditions that are the same: true.
-/
import Derived.Test.YtomloodakabcbabGreatCoTo
import Derived.Deep.RegionWith
namespace Go.Proofs.YtomloodakabcbabGreat.Cond
open Go.RowKit

theorem below_of_drew {B : Nat} {a w : World} (h : Below B a.drew w) : Below B a w := ⟨h.os, h.tape, h.output, h.size, h.block⟩
theorem drew_below (B : Nat) (a : World) : Below B a a.drew := (Below.refl _ _).drew
theorem conds_len (ps : List K) : (conds ps).length = ps.length := by rw [conds_map]; simp
theorem conds_get {ps qs : List K} (h : conds ps = conds qs) {i : Nat} (h1 : i < ps.length) (h2 : i < qs.length) : ps[i].cond = qs[i].cond := by
  rw [conds_map, conds_map] at h
  have := congrArg (·[i]?) h
  simpa [h1, h2] using this

set_option maxHeartbeats 2000000 in
theorem eqS (A1 A2 : Option Addr) (c1 c2 : Nat) (ps qs : List K) (hl : ps.length ≤ 1048576) (hc : conds ps = conds qs) (w : World) (h1 : At w w.heap.size A1 ps) (h2 : At w w.heap.size A2 qs)
    (ih : ∀ p ∈ ps, ∀ q ∈ qs, ∀ v, Below w.heap.size w v → p.cond = q.cond → Calls Tryz.prog 57 #[p.val, q.val] v fun e w' => e = .returned (.bool true) ∧ Below v.heap.size v w') :
    Calls Tryz.prog 74 #[.slice A1 ps.length c1, .slice A2 qs.length c2] w fun e w' => e = .returned (.bool true) ∧ Below w.heap.size w w' := by
  have hlq : qs.length = ps.length := by rw [← conds_len, ← hc, conds_len]
  rw [hlq]
  have HC := Lib.hid hc
  have HQ := Lib.hid hlq
  obtain ⟨n, hn⟩ : ∃ n, n = ps.length := ⟨_, rfl⟩
  have HN := Lib.hid hn
  rw [← hn] at hl ⊢
  have IH := Lib.hid ih
  clear hn hlq hc ih
  go_enter Tryz.func74, Tryz.ntmps74
  go_wp2_with fail
  go_loopw [5] (fun i wr => ∃ k : Nat, k ≤ n ∧ i = .int .i64 k ∧ Hid (Below w.heap.size w wr)) (fun i _ => n - (intOf i).toNat)
  case atStart => exact ⟨0, Nat.zero_le _, rfl, Lib.hid (Below.refl _ _)⟩
  case round =>
    obtain ⟨k, hk, rfl, HB⟩ := hrel
    by_cases hlt : k < n
    · have hk1 : k < ps.length := by have := HN.out; omega
      have hk2 : k < qs.length := by have := HN.out; have := HQ.out; omega
      obtain ⟨b, o, rfl, hB, hc⟩ := h1 (by omega)
      obtain ⟨b', o', rfl, hB', hc'⟩ := h2 (by omega)
      obtain ⟨p, hp⟩ : ∃ p, p = ps[k] := ⟨_, rfl⟩
      obtain ⟨q, hq⟩ : ∃ q, q = qs[k] := ⟨_, rfl⟩
      have hE := (hc k hk1).alike (HB.out.block b hB)
      have hE' := (hc' k hk2).alike (HB.out.block b' hB')
      rw [← hp] at hE
      rw [← hq] at hE'
      obtain ⟨x0, x1, x2, x3⟩ := hE
      obtain ⟨y0, y1, y2, y3⟩ := hE'
      have IHp := Lib.hid (IH.out p (by rw [hp]; exact List.getElem_mem hk1) q (by rw [hq]; exact List.getElem_mem hk2) wr.drew (HB.out.trans (drew_below _ _)) (by rw [hp, hq]; exact conds_get HC.out hk1 hk2))
      clear hp hq hc hc'
      have i0 : (0 : Int) ≤ (k : Int) := by omega
      have i1 : (k : Int) < (n : Int) := by omega
      go_wp2_with fail
      go_region_with (go_at_call 57; refine IHp.out.mono ?_; rintro e w3 ⟨rfl, hb3⟩)
      all_goals go_wp2
      all_goals go_roundw
      all_goals first
        | exact ⟨k + 1, by omega, by go_num, Lib.hid (HB.out.trans ((below_of_drew hb3).mono HB.out.size))⟩
        | (simp [intOf]; omega)
    · go_wp2_with fail
      go_ret
      exact ⟨rfl, HB.out⟩

set_option maxHeartbeats 2000000 in
theorem eqC (k : K) : ∀ (q : K) (w : World), k.cond = q.cond → k.cond.wt ≤ 1048576 → Lies w w.heap.size k → Lies w w.heap.size q →
    Calls Tryz.prog 57 #[k.val, q.val] w fun e w' => e = .returned (.bool true) ∧ Below w.heap.size w w' := by
  induction k using K.ind with
  | h op nm day A cap ps ih =>
    intro q w hc hw hk hq
    cases q with
    | mk op' nm' day' A' cap' qs =>
      simp only [K.cond, C.mk.injEq] at hc
      obtain ⟨rfl, rfl, rfl, hcs⟩ := hc
      simp only [K.cond, C.wt] at hw
      have hlen : ps.length ≤ 1048576 := by
        have h1 := wts_len (conds ps) 0 (Nat.zero_le _)
        rw [conds_len] at h1
        omega
      have hlq : qs.length = ps.length := by rw [← conds_len, ← hcs, conds_len]
      have hwp : ∀ p ∈ ps, p.cond.wt ≤ 1048576 := fun p hp => by
        have : ∀ l : List K, p ∈ l → p.cond.wt ≤ wts (conds l) := fun l => by
          induction l with
          | nil => intro h; simp at h
          | cons x l ihl =>
            intro h
            rcases List.mem_cons.1 h with rfl | h
            · simp only [conds, wts]; omega
            · have := ihl h; simp only [conds, wts]; omega
        have := this ps hp
        omega
      have b2 : Below w.heap.size w ((w.alloc (.cells #[.int .i64 op, .string nm, .int .i64 day, .slice A ps.length cap] 68)).alloc (.cells #[.int .i64 op, .string nm, .int .i64 day, .slice A' qs.length cap'] 68)) := (below1 _ _).alloc (by simp) _
      have HS := Lib.hid (eqS A A' cap cap' ps qs hlen hcs _ ((hk.at.below b2).more b2.size) ((hq.at.below b2).more b2.size)
        (fun p hp q' hq' v hb he => ih p hp q' v he (hwp p hp) (((hk.part hp).on b2).on hb) (((hq.part hq').on b2).on hb)))
      have B2 := Lib.hid b2
      clear ih hk hq hw hwp hcs b2 hlen
      show Calls Tryz.prog 57 #[.agg #[.int .i64 op, .string nm, .int .i64 day, .slice A ps.length cap], .agg #[.int .i64 op, .string nm, .int .i64 day, .slice A' qs.length cap']] w fun e w' => e = .returned (.bool true) ∧ Below w.heap.size w w'
      generalize ps.length = n at *
      generalize qs.length = n' at *
      clear hlq
      go_enter Tryz.func57, Tryz.ntmps57
      go_wp2_with (go_at_call 74; refine HS.out.mono ?_; rintro e w3 ⟨rfl, hb3⟩)
      go_ret
      exact ⟨rfl, B2.out.trans (hb3.mono B2.out.size)⟩

end Go.Proofs.YtomloodakabcbabGreat.Cond
