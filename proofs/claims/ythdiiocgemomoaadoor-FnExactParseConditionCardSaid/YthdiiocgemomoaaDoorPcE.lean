/-
  ParseCondition of the model.
-/
import Derived.Test.YthdiiocgemomoaaDoorPcR
import Derived.Test.YthdiiocgemomoaaDoorGoodI
namespace Go.Proofs.YthdiiocgemomoaaDoor.Cond
open Go.RowKit
set_option linter.unusedVariables false
set_option linter.unusedSimpArgs false

/-- What ParseCondition reads. -/
def pc (dt : List UInt8 → Option Int) (l : List UInt8) : Option Q :=
  match rd dt (l.length + 1) l with
  | some (q, r) => if r.isEmpty && decide (q.size ≤ 15) then some q else none
  | none => none
def dOf : Option Q → C | some q => q.c | none => .mk 0 .empty 0 []
theorem pc_len {dt : List UInt8 → Option Int} (hdt : Dt dt) {l : List UInt8} {q : Q} (h : pc dt l = some q) : l.length ≤ 225 ∧ q.c.wt ≤ l.length ∧ q.ok ∧ q.size ≤ 15 := by
  unfold pc at h
  cases hr : rd dt (l.length + 1) l with
  | none => rw [hr] at h; cases h
  | some p =>
    obtain ⟨q', r⟩ := p
    rw [hr] at h
    simp only at h
    split at h
    · rename_i hc
      rw [Bool.and_eq_true, List.isEmpty_iff, decide_eq_true_eq] at hc
      simp only [Option.some.injEq] at h
      subst h
      have hi := rd_is hdt _ _ _ _ hr
      have h1 := hi.up
      have h2 := hi.wt
      rw [hc.1, List.length_nil] at h1 h2
      exact ⟨by omega, by omega, hi.ok, hc.2⟩
    · cases h

/-- An answer: a condition in memory of its own, and a bool. -/
def PbAns (d : C) (y : Bool) (w : World) (e : Ending) (w' : World) : Prop :=
  ∃ r : K, e = .returned (.tuple #[r.val, .bool y]) ∧ r.cond = d ∧ Wr w' r ∧ (∀ x ∈ r.blocks, w.heap.size ≤ x) ∧ Below w.heap.size w w'
theorem PbAns.alloc {d : C} {y : Bool} {w w' : World} {e : Ending} (h : PbAns d y w e w') (o : Obj) : PbAns d y w e (w'.alloc o) := by
  obtain ⟨r, h1, h2, h3, h4, h5⟩ := h
  exact ⟨r, h1, h2, h3.on (below1 _ _), h4, h5.alloc h5.size _⟩
theorem pb_zero {w v : World} {kb : Nat} {x0 x1 x2 x3 : Value} (hb : Below w.heap.size w v) (hk : w.heap.size ≤ kb) : PbAns (.mk 0 .empty 0 []) false w (.returned (.tuple #[.agg #[.int .i64 0, .string ⟨#[]⟩, .int .i64 0, .slice none 0 0], .bool false])) (put4 v kb 0 x0 x1 x2 x3) :=
  ⟨.mk 0 .empty 0 none 0 [], rfl, rfl, wr_none 0 .empty 0 (by simp [maxLen]), by simp [K.blocks, blocks], put4_below hb hk⟩
theorem pb_res {w v : World} {kb S : Nat} {d : C} {r : K} {x0 x1 x2 x3 : Value} (hb : Below w.heap.size w v) (hr : r.cond = d) (hw : Wr v r) (hs : ∀ x ∈ r.blocks, S ≤ x) (hS : w.heap.size ≤ S) (hk : kb < S) (hkb : w.heap.size ≤ kb) : PbAns d true w (.returned (.tuple #[r.val, .bool true])) (put4 v kb 0 x0 x1 x2 x3) :=
  ⟨r, rfl, hr, put_wr hw (fun h => by have := hs _ h; omega), fun x hx => by have := hs x hx; omega, put4_below hb hkb⟩

set_option maxRecDepth 100000 in
set_option maxHeartbeats 4000000 in
theorem specPc (dt : List UInt8 → Option Int) (hdt : Dt dt) (s : ByteArray) (w : World) (hs : s.size ≤ 2000000) (o : Option Q) (ho : o = pc dt s.data.toList) :
    Calls Tryd.prog 4 #[.string s] w (PbAns (dOf o) o.isSome w) := by
  have hlen : s.data.toList.length = s.size := Array.length_toList
  obtain ⟨X, hX⟩ : ∃ X, X = w.alloc (.cells #[.int .i64 0, .string ⟨#[]⟩, .int .i64 0, .slice none 0 0] 24) := ⟨_, rfl⟩
  have B0 : Hid (Below w.heap.size w X) := Lib.hid (by rw [hX]; exact below1 _ _)
  have P0 : Hid (B4 w.heap.size X (.int .i64 0) (.string ⟨#[]⟩) (.int .i64 0) (.slice none 0 0)) := Lib.hid (by rw [hX]; exact B4.new _ _ _ _ _ _)
  have HXX := Lib.hid hX
  have SX : Hid (w.heap.size < X.heap.size) := Lib.hid P0.out.lt
  by_cases h4 : 400 < s.size
  · have HO : Hid (o = none) := Lib.hid (by
      cases o with
      | none => rfl
      | some q => have := (pc_len hdt ho.symm).1; omega)
    have i4 : (400 : Int) < (s.size : Int) := by omega
    have P2 := P0
    have BW := B0
    clear hX ho
    go_enter Tryd.func4, Tryd.ntmps4
    go_wp2_with fail
    exact bodyPost_ret (v := .tuple #[.agg #[.int .i64 0, .string ⟨#[]⟩, .int .i64 0, .slice none 0 0], .bool false]) (by simp [results, Tryd.results4, go_sem]) rfl (by rw [HO.out]; exact ⟨.mk 0 .empty 0 none 0 [], rfl, rfl, wr_none 0 .empty 0 (by simp [maxLen]), by simp [K.blocks, blocks], below1 _ _⟩)
  have HI := l5Read dt hdt s (by omega) (s.size + 1) 0 X (by omega) (by omega)
  rw [List.drop_zero] at HI
  have HRD : Hid (∀ q r, rd dt (s.size + 1) s.data.toList = some (q, r) → RdIs s.data.toList q r) := Lib.hid fun q r h => rd_is hdt _ _ q r h
  have HPC : Hid (o = match rd dt (s.size + 1) s.data.toList with | some (q, r) => if r.isEmpty && decide (q.size ≤ 15) then some q else none | none => none) := Lib.hid (by rw [ho, pc, hlen])
  obtain ⟨R, hR⟩ : ∃ R, R = rd dt (s.size + 1) s.data.toList := ⟨_, rfl⟩
  rw [← hR] at HI HPC HRD
  have i4 : decide ((400 : Int) < (s.size : Int)) = false := decide_eq_false (by omega)
  have HIH := Lib.hid HI
  have e0 : ((0 : Nat) : Int) = 0 := rfl
  clear hX ho hR HI hlen h4
  rw [e0] at HIH
  clear e0
  cases R with
  | none =>
    have HO : Hid (o = none) := HPC
    have hne : ((-1 : Int) != (s.size : Int)) = true := by rw [bne_iff_ne]; omega
    have hne2 : ¬ (-1 : Int) = (s.size : Int) := by omega
    go_enter Tryd.func4, Tryd.ntmps4
    go_wp2_with (go_at_call 9; (try rw [← HXX.out]); refine HIH.out.mono ?_; rintro e w2 ⟨hb2, k, rfl⟩; refine Hid.out ?_)
    refine Lib.hid ?_
    have P2 := Lib.hid (P0.out.on hb2)
    have BW := Lib.hid (B0.out.trans (hb2.mono B0.out.size))
    obtain ⟨_, p0, p1, p2, p3, pf⟩ := P2.out
    have pf0 := pf 0
    have pf1 := pf 1
    have pf2 := pf 2
    have pf3 := pf 3
    clear pf
    clear hb2
    go_wp2_with fail
    obtain ⟨_, t0, t1, t2, t3, _⟩ := (P2.out.put (.int .i64 0) (.string ⟨#[]⟩) (.int .i64 0) (.slice none 0 0)).alloc (.cells #[.int .i64 k.op, .string k.nm, .int .i64 k.day, .slice k.A k.ps.length k.cap] 24)
    have hf := (pb_zero (kb := w.heap.size) (x0 := .int .i64 0) (x1 := .string ⟨#[]⟩) (x2 := .int .i64 0) (x3 := .slice none 0 0) BW.out (Nat.le_refl _)).alloc (.cells #[.int .i64 k.op, .string k.nm, .int .i64 k.day, .slice k.A k.ps.length k.cap] 24)
    simp only [put4] at t0 t1 t2 t3 hf
    exact bodyPost_ret (v := .tuple #[.agg #[.int .i64 0, .string ⟨#[]⟩, .int .i64 0, .slice none 0 0], .bool false]) (by simp [results, Tryd.results4, go_sem, t0, t1, t2, t3]) rfl (by rw [HO.out]; exact hf)
  | some p =>
    obtain ⟨q, r⟩ := p
    have hi := HRD.out q r rfl
    have HOK := Lib.hid hi.ok
    have HWT : Hid (q.c.wt ≤ 2000) := Lib.hid (by have := hi.wt; have h2 : s.data.toList.length = s.size := Array.length_toList; have h3 := hi.up; have h4 := hi.len; simp only [decide_eq_false_iff_not] at i4; omega)
    have hrl : r.length ≤ s.size := by have := hi.len; have h2 : s.data.toList.length = s.size := Array.length_toList; omega
    clear hi
    obtain ⟨t, ht⟩ : ∃ t : Nat, t = s.size - r.length := ⟨_, rfl⟩
    have HT := Lib.hid ht
    by_cases hr : r = []
    · have hts : t = s.size := by rw [ht, hr]; simp
      have hne : ((t : Int) != (s.size : Int)) = false := by rw [hts]; simp
      have hne2 : (t : Int) = (s.size : Int) := by rw [hts]
      have HGOOD : Hid (∀ (k : K) v, k.cond = q.c → Lies v v.heap.size k → Calls Tryd.prog 10 #[k.val] v fun e w' => e = .returned (.bool (decide (q.size ≤ 15))) ∧ Below v.heap.size v w') := Lib.hid fun k v hk hin => by
        have h := l5Good k v hin (by rw [hk]; have := HWT.out; omega)
        have e : k.cond.good = decide (q.size ≤ 15) := by
          rw [hk]
          cases hg : decide (q.size ≤ 15) with
          | true => exact q_good HOK.out (by simpa using hg)
          | false =>
            cases h2 : q.c.good with
            | false => rfl
            | true =>
              simp only [C.good, Bool.and_eq_true, decide_eq_true_eq, Q.size_c] at h2
              rw [decide_eq_true h2.2] at hg; cases hg
        rw [e] at h
        exact h
      have HPC2 : Hid (o = if decide (q.size ≤ 15) then some q else none) := Lib.hid (by have := HPC.out; simpa [hr] using this)
      obtain ⟨g, hg⟩ : ∃ g, g = decide (q.size ≤ 15) := ⟨_, rfl⟩
      rw [← hg] at HGOOD HPC2
      have hteq := Lib.hid hts
      clear hg ht hr hrl hne2 HPC hts
      go_enter Tryd.func4, Tryd.ntmps4
      go_wp2_with (go_at_call 9; (try rw [← HXX.out]); refine HIH.out.mono ?_; rintro e w2 ⟨hb2, k, rfl, hq, hwk, hge⟩; refine Hid.out ?_)
      refine Lib.hid ?_
      rw [← HT.out]
      obtain ⟨W3, hW3⟩ : ∃ W, W = w2.alloc (.cells #[.int .i64 k.op, .string k.nm, .int .i64 k.day, .slice k.A k.ps.length k.cap] 24) := ⟨_, rfl⟩
      have hb3 : Below w2.heap.size w2 W3 := by rw [hW3]; exact below1 _ _
      have hX3 := hb2.trans (hb3.mono hb2.size)
      have P3 := Lib.hid (P0.out.on hX3)
      have C3 : Hid (B4 w2.heap.size W3 (.int .i64 k.op) (.string k.nm) (.int .i64 k.day) (.slice k.A k.ps.length k.cap)) := Lib.hid (by rw [hW3]; exact B4.new _ _ _ _ _ _)
      have K3 := Lib.hid (hwk.on hb3)
      have G3 := Lib.hid hge
      have Q3 := Lib.hid hq
      have BW3 := Lib.hid (B0.out.trans (hX3.mono B0.out.size))
      have HGK := Lib.hid (HGOOD.out k W3 hq ⟨K3.out.has, K3.out.lt⟩)
      have HW3 := Lib.hid hW3
      clear hW3 hb3 hX3 hb2 hq hwk hge
      go_wp2_with (go_at_call 10; (try rw [← HW3.out]); refine HGK.out.mono ?_; rintro e w4 ⟨rfl, hb4⟩; refine Hid.out ?_)
      refine Lib.hid ?_
      have P2 := Lib.hid (P3.out.on hb4)
      have BW := Lib.hid (BW3.out.trans (hb4.mono BW3.out.size))
      have C4 := Lib.hid (C3.out.on hb4)
      have K4 := Lib.hid (K3.out.on hb4)
      obtain ⟨_, p0, p1, p2, p3, pf⟩ := P2.out
      have pf0 := pf 0
      have pf1 := pf 1
      have pf2 := pf 2
      have pf3 := pf 3
      clear pf
      clear hb4
      cases g
      · have HO : Hid (o = none) := HPC2
        go_wp2_with fail
        obtain ⟨_, t0, t1, t2, t3, _⟩ := P2.out.put (.int .i64 0) (.string ⟨#[]⟩) (.int .i64 0) (.slice none 0 0)
        have hf := pb_zero (kb := w.heap.size) (x0 := .int .i64 0) (x1 := .string ⟨#[]⟩) (x2 := .int .i64 0) (x3 := .slice none 0 0) BW.out (Nat.le_refl _)
        simp only [put4] at t0 t1 t2 t3 hf
        exact bodyPost_ret (v := .tuple #[.agg #[.int .i64 0, .string ⟨#[]⟩, .int .i64 0, .slice none 0 0], .bool false]) (by simp [results, Tryd.results4, go_sem, t0, t1, t2, t3]) rfl (by rw [HO.out]; exact hf)
      · have HO : Hid (o = some q) := HPC2
        obtain ⟨_, c0, c1, c2, c3, _⟩ := C4.out
        go_wp2_with fail
        obtain ⟨_, t0, t1, t2, t3, _⟩ := P2.out.put (.int .i64 k.op) (.string k.nm) (.int .i64 k.day) (.slice k.A k.ps.length k.cap)
        have hf := pb_res (kb := w.heap.size) (S := X.heap.size) (d := q.c) (r := k) (x0 := .int .i64 k.op) (x1 := .string k.nm) (x2 := .int .i64 k.day) (x3 := .slice k.A k.ps.length k.cap) BW.out Q3.out K4.out G3.out B0.out.size SX.out (Nat.le_refl _)
        simp only [put4] at t0 t1 t2 t3 hf
        exact bodyPost_ret (v := .tuple #[k.val, .bool true]) (by simp [results, Tryd.results4, go_sem, t0, t1, t2, t3]) rfl (by rw [HO.out]; exact hf)
    · have HO : Hid (o = none) := Lib.hid (by
        have := HPC.out
        simp only at this
        rw [this]
        have h2 : r.isEmpty = false := by cases r with | nil => exact absurd rfl hr | cons => rfl
        rw [h2]; rfl)
      have hpos : 0 < r.length := List.length_pos_iff.2 hr
      have hne : ((t : Int) != (s.size : Int)) = true := by rw [bne_iff_ne]; omega
      have hne2 : ¬ (t : Int) = (s.size : Int) := by omega
      clear hr ht hpos hrl HPC
      go_enter Tryd.func4, Tryd.ntmps4
      go_wp2_with (go_at_call 9; (try rw [← HXX.out]); refine HIH.out.mono ?_; rintro e w2 ⟨hb2, k, rfl, hq, hwk, hge⟩; refine Hid.out ?_)
      refine Lib.hid ?_
      rw [← HT.out]
      have P2 := Lib.hid (P0.out.on hb2)
      have BW := Lib.hid (B0.out.trans (hb2.mono B0.out.size))
      obtain ⟨_, p0, p1, p2, p3, pf⟩ := P2.out
      have pf0 := pf 0
      have pf1 := pf 1
      have pf2 := pf 2
      have pf3 := pf 3
      clear pf
      clear hb2 hq hwk hge
      go_wp2_with fail
      obtain ⟨_, t0, t1, t2, t3, _⟩ := (P2.out.put (.int .i64 0) (.string ⟨#[]⟩) (.int .i64 0) (.slice none 0 0)).alloc (.cells #[.int .i64 k.op, .string k.nm, .int .i64 k.day, .slice k.A k.ps.length k.cap] 24)
      have hf := (pb_zero (kb := w.heap.size) (x0 := .int .i64 0) (x1 := .string ⟨#[]⟩) (x2 := .int .i64 0) (x3 := .slice none 0 0) BW.out (Nat.le_refl _)).alloc (.cells #[.int .i64 k.op, .string k.nm, .int .i64 k.day, .slice k.A k.ps.length k.cap] 24)
      simp only [put4] at t0 t1 t2 t3 hf
      exact bodyPost_ret (v := .tuple #[.agg #[.int .i64 0, .string ⟨#[]⟩, .int .i64 0, .slice none 0 0], .bool false]) (by simp [results, Tryd.results4, go_sem, t0, t1, t2, t3]) rfl (by rw [HO.out]; exact hf)

end Go.Proofs.YthdiiocgemomoaaDoor.Cond
