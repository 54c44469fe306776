/-
  Both SimplifyCondition.
-/
import Derived.Test.YtmgjeplbhnfakaaGreatDoorSmK
import Derived.Test.YtmgjeplbhnfakaaGreatDoorGoodI
import Derived.Test.YtmgjeplbhnfakaaGreatDoorCoHe
namespace Go.Proofs.YtmgjeplbhnfakaaGreatDoor.Cond
open Go.RowKit
set_option linter.unusedVariables false
set_option linter.unusedSimpArgs false

theorem Wr.lies {w : World} {k : K} (h : Wr w k) : Lies w w.heap.size k := ⟨h.has, h.lt⟩

/-- What SimplifyCondition answers. -/
structure SfIs (c d : C) (y : Bool) : Prop where
  no : c.good = false → d = .mk 0 .empty 0 [] ∧ y = false
  yes : ∀ q : Q, c.good = true → c = q.c → q.size ≤ 15 → d = (smp q).c ∧ y = true
theorem q_inj : ∀ {a b : Q}, a.c = b.c → a = b := by
  intro a
  induction a with
  | tru => intro b h; cases b <;> simp_all [Q.c]
  | fact s => intro b h; cases b <;> simp_all [Q.c]
  | frm d => intro b h; cases b <;> simp_all [Q.c]
  | neg a ih => intro b h; cases b <;> simp [Q.c] at h; rw [ih h]
  | and a c iha ihc => intro b h; cases b <;> simp [Q.c] at h; rw [iha h.1, ihc h.2]
  | or a c iha ihc => intro b h; cases b <;> simp [Q.c] at h; rw [iha h.1, ihc h.2]
theorem sf_is (c : C) : ∃ d y, SfIs c d y := by
  cases h : c.good with
  | false => exact ⟨.mk 0 .empty 0 [], false, ⟨fun _ => ⟨rfl, rfl⟩, fun _ h2 => (by rw [h] at h2; cases h2)⟩⟩
  | true =>
    obtain ⟨q, hq, _, _⟩ := good_q h
    exact ⟨(smp q).c, true, ⟨fun h2 => (by rw [h] at h2; cases h2), fun q' _ e _ => ⟨by rw [q_inj (hq.symm.trans e)], rfl⟩⟩⟩

def Q.wt : Q → Nat
  | .tru => 0
  | .fact s => s.size
  | .frm _ => 0
  | .neg a => 1 + a.wt
  | .and a b => 2 + a.wt + b.wt
  | .or a b => 2 + a.wt + b.wt
theorem Q.wt_c (q : Q) : q.c.wt = q.wt := by
  induction q with
  | tru => rfl
  | fact s => simp [Q.c, C.wt, wts, Q.wt]
  | frm d => rfl
  | neg a ih => simp [Q.c, C.wt, wts, Q.wt, ih]
  | and a b iha ihb => simp [Q.c, C.wt, wts, Q.wt, iha, ihb]; omega
  | or a b iha ihb => simp [Q.c, C.wt, wts, Q.wt, iha, ihb]; omega
theorem neg_wt (q : Q) : (negQ q).wt ≤ 1 + q.wt := by
  cases q <;> simp [negQ, Q.wt] <;> omega
theorem pair_wt (x : Bool) (a b : Q) : (pairQ x a b).wt ≤ 2 + a.wt + b.wt := by
  unfold pairQ
  repeat' split
  all_goals first | omega | (simp only [Q.wt]; omega)
theorem smp_wt (q : Q) : (smp q).wt ≤ q.wt := by
  induction q with
  | tru => exact Nat.le_refl _
  | fact s => exact Nat.le_refl _
  | frm d => simp only [smp]; split <;> simp [Q.wt]
  | neg a ih => have := neg_wt (smp a); simp only [smp, Q.wt]; omega
  | and a b iha ihb => have := pair_wt true (smp a) (smp b); simp only [smp, Q.wt]; omega
  | or a b iha ihb => have := pair_wt false (smp a) (smp b); simp only [smp, Q.wt]; omega
theorem SfIs.wt {c d : C} {y : Bool} (h : SfIs c d y) : d.wt ≤ c.wt := by
  cases hg : c.good with
  | false => rw [(h.no hg).1]; simp [C.wt, wts]
  | true =>
    obtain ⟨q, hq, _, hs⟩ := good_q hg
    rw [(h.yes q hg hq hs).1, hq, Q.wt_c, Q.wt_c]
    exact smp_wt q

/-- An answer: a condition in memory of its own, and a bool. -/
def CbAns (d : C) (y : Bool) (w : World) (e : Ending) (w' : World) : Prop :=
  ∃ r : K, e = .returned (.tuple #[r.val, .bool y]) ∧ r.cond = d ∧ Wr w' r ∧ (∀ x ∈ r.blocks, w.heap.size ≤ x) ∧ Below w.heap.size w w'
theorem cb_zero {w v : World} {kb : Nat} {x0 x1 x2 x3 : Value} (hb : Below w.heap.size w v) (hk : w.heap.size ≤ kb) : CbAns (.mk 0 .empty 0 []) false w (.returned (.tuple #[.agg #[.int .i64 0, .string ⟨#[]⟩, .int .i64 0, .slice none 0 0], .bool false])) (put4 v kb 0 x0 x1 x2 x3) :=
  ⟨.mk 0 .empty 0 none 0 [], rfl, rfl, wr_none 0 .empty 0 (by simp [maxLen]), by simp [K.blocks, blocks], put4_below hb hk⟩
theorem cb_res {w v : World} {kb S : Nat} {d : C} {r : K} {x0 x1 x2 x3 : Value} (hb : Below w.heap.size w v) (hr : r.cond = d) (hw : Wr v r) (hs : ∀ x ∈ r.blocks, S ≤ x) (hS : w.heap.size ≤ S) (hk : kb < S) (hkb : w.heap.size ≤ kb) : CbAns d true w (.returned (.tuple #[r.val, .bool true])) (put4 v kb 0 x0 x1 x2 x3) :=
  ⟨r, rfl, hr, put_wr hw (fun h => by have := hs _ h; omega), fun x hx => by have := hs x hx; omega, put4_below hb hkb⟩

set_option maxHeartbeats 4000000 in
theorem implSf (k : K) (w : World) (hin : Lies w w.heap.size k) (hw : k.cond.wt ≤ 1048576) (d : C) (y : Bool) (hx : SfIs k.cond d y) :
    Calls Tryz.prog 7 #[k.val] w (CbAns d y w) := by
  obtain ⟨X, hX⟩ : ∃ X, X = (w.alloc (.cells #[.int .i64 k.op, .string k.nm, .int .i64 k.day, .slice k.A k.ps.length k.cap] 26)).alloc (.cells #[.int .i64 0, .string ⟨#[]⟩, .int .i64 0, .slice none 0 0] 26) := ⟨_, rfl⟩
  have B0 : Hid (Below w.heap.size w X) := Lib.hid (by rw [hX]; exact (below1 _ _).alloc (by simp) _)
  have HZ : Hid (X.heap.size = w.heap.size + 1 + 1) := Lib.hid (by rw [hX]; simp)
  have X0 : Hid (B4 w.heap.size X (.int .i64 k.op) (.string k.nm) (.int .i64 k.day) (.slice k.A k.ps.length k.cap)) := Lib.hid (by rw [hX]; exact (B4.new _ _ _ _ _ _).alloc _)
  have Y0 : Hid (B4 (w.heap.size + 1) X (.int .i64 0) (.string ⟨#[]⟩) (.int .i64 0) (.slice none 0 0)) := Lib.hid (by rw [hX]; have := B4.new (w.alloc (.cells #[.int .i64 k.op, .string k.nm, .int .i64 k.day, .slice k.A k.ps.length k.cap] 26)) (.int .i64 0) (.string ⟨#[]⟩) (.int .i64 0) (.slice none 0 0) 26; simpa using this)
  have HG := implGood k X (hin.on B0.out) hw
  have HXX := Lib.hid hX
  have HX := Lib.hid hx
  have HIN := Lib.hid hin
  clear hin hw hx hX
  obtain ⟨g, hg⟩ : ∃ g, g = k.cond.good := ⟨_, rfl⟩
  rw [← hg] at HG
  have HGG := Lib.hid hg
  have HGH := Lib.hid HG
  clear hg HG
  cases g
  · have HE := Lib.hid (HX.out.no HGG.out.symm)
    go_enter Tryz.func7, Tryz.ntmps7
    go_wp2_with (go_at_call 16; (try rw [← HXX.out]); refine HGH.out.mono ?_; rintro e w2 ⟨rfl, hb2⟩; refine Hid.out ?_)
    refine Lib.hid ?_
    have B2 := Lib.hid (B0.out.trans (hb2.mono B0.out.size))
    have Y2 := Lib.hid (Y0.out.on hb2)
    obtain ⟨_, y0, y1, y2, y3, yf⟩ := Y2.out
    have yf0 := yf 0
    have yf1 := yf 1
    have yf2 := yf 2
    have yf3 := yf 3
    clear yf hb2
    go_wp2_with fail
    obtain ⟨_, t0, t1, t2, t3, _⟩ := Y2.out.put (.int .i64 0) (.string ⟨#[]⟩) (.int .i64 0) (.slice none 0 0)
    have hf := cb_zero (kb := w.heap.size + 1) (x0 := .int .i64 0) (x1 := .string ⟨#[]⟩) (x2 := .int .i64 0) (x3 := .slice none 0 0) B2.out (by omega)
    simp only [put4] at t0 t1 t2 t3 hf
    exact bodyPost_ret (v := .tuple #[.agg #[.int .i64 0, .string ⟨#[]⟩, .int .i64 0, .slice none 0 0], .bool false]) (by simp [results, Tryz.results7, go_sem, t0, t1, t2, t3]) rfl (by rw [HE.out.1, HE.out.2]; exact hf)
  · obtain ⟨q, hq, _, hs15⟩ := good_q HGG.out.symm
    have HE := Lib.hid (HX.out.yes q HGG.out.symm hq hs15)
    have HS : Hid (∀ v, Below w.heap.size w v → Calls Tryz.prog 22 #[k.val] v (Res v.heap.size (smp q) v)) := Lib.hid fun v hv => simplify q (by omega) k v hq (HIN.out.on hv)
    clear hq hs15
    go_enter Tryz.func7, Tryz.ntmps7
    go_wp2_with (go_at_call 16; (try rw [← HXX.out]); refine HGH.out.mono ?_; rintro e w2 ⟨rfl, hb2⟩; refine Hid.out ?_)
    refine Lib.hid ?_
    have B2 := Lib.hid (B0.out.trans (hb2.mono B0.out.size))
    have Y2 := Lib.hid (Y0.out.on hb2)
    obtain ⟨_, x0, x1, x2, x3, _⟩ := X0.out.on hb2
    have HS2 := Lib.hid (HS.out w2 B2.out)
    have hsz2 : w.heap.size + 1 < w2.heap.size := Y2.out.lt
    clear hb2
    go_wp2_with (go_at_call 22; refine HS2.out.mono ?_; rintro e w3 ⟨r, rfl, hr, hwr, hge, hb3⟩; refine Hid.out ?_)
    refine Lib.hid ?_
    have Y3 := Lib.hid (Y2.out.on hb3)
    have HF : Hid (CbAns (smp q).c true w (.returned (.tuple #[r.val, .bool true])) (put4 w3 (w.heap.size + 1) 0 (.int .i64 r.op) (.string r.nm) (.int .i64 r.day) (.slice r.A r.ps.length r.cap))) := Lib.hid (cb_res (B2.out.trans (hb3.mono B2.out.size)) hr hwr hge B2.out.size hsz2 (by omega))
    obtain ⟨_, y0, y1, y2, y3, yf⟩ := Y3.out
    have yf0 := yf 0
    have yf1 := yf 1
    have yf2 := yf 2
    have yf3 := yf 3
    clear yf hr hwr hge hb3 x0 x1 x2 x3
    go_wp2_with fail
    obtain ⟨_, t0, t1, t2, t3, _⟩ := Y3.out.put (.int .i64 r.op) (.string r.nm) (.int .i64 r.day) (.slice r.A r.ps.length r.cap)
    have hf := HF.out
    simp only [put4] at t0 t1 t2 t3 hf
    exact bodyPost_ret (v := .tuple #[r.val, .bool true]) (by simp [results, Tryz.results7, go_sem, t0, t1, t2, t3]) rfl (by rw [HE.out.1, HE.out.2]; exact hf)

end Go.Proofs.YtmgjeplbhnfakaaGreatDoor.Cond
