/-
  toState: a copy in new memory; eqState of two states alike.
-/
import Derived.Test.YthdjdjgilnpmkaaStB
namespace Go.Proofs.Ythdjdjgilnpmkaa.Sta
open Go.RowKit Go.Proofs.Ythdjdjgilnpmkaa.Cond Go.Proofs.Ythdjdjgilnpmkaa.Gx Go.Proofs.Ythdjdjgilnpmkaa.Cl Go.Proofs.Ythdjdjgilnpmkaa.Dt
set_option linter.unusedVariables false
set_option linter.unusedSimpArgs false

theorem ownsRow_below {w w' : World} {S0 g n c k B : Nat} {T : TypeId} {vs : List Value} (h : w.ownsRow S0 T k (.slice (some ⟨g, 0, none⟩) n c) n vs) (hg : w'.heap[g]? = w.heap[g]?) : w'.ownsRow S0 T k (.slice (some ⟨g, 0, none⟩) n c) n vs := by
  rcases h with ⟨hl, hr⟩
  refine ⟨hl, ?_⟩
  rcases hr with ⟨hv, _⟩ | ⟨g', c', cur, hv, hS, hh, hrest⟩
  · cases hv
  · injection hv with h1 h2 h3
    injection h1 with h1
    injection h1 with h1
    subst h1
    exact .inr ⟨g, c', cur, by rw [h3], hS, by rw [hg]; exact hh, hrest⟩

def toAns (x : S) (w : World) (e : Ending) (w' : World) : Prop :=
  ∃ g1 g2 g3, e = .returned (mkS x.day x.over g1 g2 g3 x.ss x.ds x.zs).val ∧ WrS w' w.heap.size x.day x.over g1 g2 g3 x.ss x.ds x.zs ∧ Below w.heap.size w w'

set_option maxRecDepth 100000 in
set_option maxHeartbeats 8000000 in
theorem toSm (x : S) (w : World) (h : LiS w w.heap.size x) (hw : x.st.wt ≤ 1048576) : Calls Try.prog 6 #[x.val] w (toAns x w) := by
  obtain ⟨w0, hw0⟩ : ∃ w0, w0 = ((w.alloc (.cells #[.int .i64 x.day, .slice x.A1 x.n1 x.c1, .slice x.A2 x.n2 x.c2, .slice x.A3 x.n3 x.c3, .bool x.over] 26)).alloc (.cells #[.int .i64 0, .slice none 0 0, .slice none 0 0, .slice none 0 0, .bool false] 31)).alloc (.cells #[.int .i64 x.day, .slice none 0 0, .slice none 0 0, .slice none 0 0, .bool false] 31) := ⟨_, rfl⟩
  have s0 : w0.heap.size = w.heap.size + 1 + 1 + 1 := by rw [hw0]; simp
  have b0 : Below w.heap.size w w0 := by rw [hw0]; exact ((below1 _ _).alloc (by simp) _).alloc (by simp; omega) _
  have p0 : Bk w.heap.size w0 x.cells := by rw [hw0]; exact ((Bk.new w #[.int .i64 x.day, .slice x.A1 x.n1 x.c1, .slice x.A2 x.n2 x.c2, .slice x.A3 x.n3 x.c3, .bool x.over] 26).alloc _).alloc _
  have y0 : Bk (w.heap.size + 1) w0 [.int .i64 0, .slice none 0 0, .slice none 0 0, .slice none 0 0, .bool false] := by
    rw [hw0]
    have := (Bk.new (w.alloc (.cells #[.int .i64 x.day, .slice x.A1 x.n1 x.c1, .slice x.A2 x.n2 x.c2, .slice x.A3 x.n3 x.c3, .bool x.over] 26)) #[.int .i64 0, .slice none 0 0, .slice none 0 0, .slice none 0 0, .bool false] 31).alloc (.cells #[.int .i64 x.day, .slice none 0 0, .slice none 0 0, .slice none 0 0, .bool false] 31)
    rw [World.size_alloc] at this
    exact this
  have z0 : Bk (w.heap.size + 1 + 1) w0 [.int .i64 x.day, .slice none 0 0, .slice none 0 0, .slice none 0 0, .bool false] := by
    rw [hw0]
    have := Bk.new ((w.alloc (.cells #[.int .i64 x.day, .slice x.A1 x.n1 x.c1, .slice x.A2 x.n2 x.c2, .slice x.A3 x.n3 x.c3, .bool x.over] 26)).alloc (.cells #[.int .i64 0, .slice none 0 0, .slice none 0 0, .slice none 0 0, .bool false] 31)) #[.int .i64 x.day, .slice none 0 0, .slice none 0 0, .slice none 0 0, .bool false] 31
    rw [World.size_alloc, World.size_alloc] at this
    exact this
  obtain ⟨w1, hw1⟩ : ∃ w1, w1 = w0 := ⟨_, rfl⟩
  rw [← hw1] at s0 b0 p0 y0 z0
  have s1 : w1.heap.size = w0.heap.size := by rw [hw1]
  have b1 := b0
  have p1 := p0
  have y1 := y0
  have z1 := z0
  have hn1 : x.n1 ≤ 1048576 := by have := h.wt; omega
  have hn2 : x.n2 ≤ 1048576 := by have := h.wt; omega
  have hn3 : x.n3 ≤ 1048576 := by have := h.wt; omega
  have HC := Lib.hid (Row.toS x.A1 x.n1 x.c1 x.ss w1 h.f.len hn1 ((h.f.is.below b1).more b1.size))
  have HDC : Hid (∀ v, Below w.heap.size w v → _) := Lib.hid fun v hv => toDS x.A2 x.n2 x.c2 x.ds v ((h.d.below hv).more hv.size) hn2
  have HIC : Hid (∀ v, Below w.heap.size w v → _) := Lib.hid fun v hv => IRow.toI x.A3 x.n3 x.c3 x.zs v h.b.len hn3 ((h.b.is.below hv).more hv.size)
  have HSS := Lib.hid h.f.szs
  have HLN := Lib.hid (And.intro h.f.len (And.intro h.d.len h.b.len))
  have H0 := Lib.hid hw0
  have H1 : Hid (w1 = w0) := Lib.hid hw1
  have B1 := Lib.hid b1
  have P1 := Lib.hid p1
  have Y1 := Lib.hid y1
  have Z1 := Lib.hid z1
  have S1 : Hid (w1.heap.size = w.heap.size + 1 + 1 + 1) := Lib.hid (by omega)
  obtain ⟨a0, a1, a2, a3, a4⟩ := s5 p0
  rw [hw1, hw0] at a0 a1 a2 a3 a4
  clear hw0 hw1 h s0 b0 p0 y0 z0 s1 b1 p1 y1 z1
  go_enter Try.func6, Try.ntmps6
  go_wp2_with (go_at_call 13; (try rw [← H0.out, ← H1.out]); refine HC.out.mono ?_; rintro e w2 ⟨rfl, hown, hb2⟩; refine Hid.out ?_)
  refine Lib.hid ?_
  have hz2 := hb2.size
  have s1 := S1.out
  obtain ⟨V1, hV1⟩ : ∃ V, V = w2.setCell ⟨w.heap.size + 1 + 1, 1, none⟩ (.slice (some ⟨w1.heap.size, 0, none⟩) x.n1 x.n1) := ⟨_, rfl⟩
  have P2 : Hid (Bk w.heap.size V1 x.cells) := Lib.hid (by rw [hV1]; exact (P1.out.on hb2).far (p := ⟨w.heap.size + 1 + 1, 1, none⟩) (by simp; omega) _)
  have Y2 : Hid (Bk (w.heap.size + 1) V1 [.int .i64 0, .slice none 0 0, .slice none 0 0, .slice none 0 0, .bool false]) := Lib.hid (by rw [hV1]; exact (Y1.out.on hb2).far (p := ⟨w.heap.size + 1 + 1, 1, none⟩) (by simp) _)
  have Z2 : Hid (Bk (w.heap.size + 1 + 1) V1 [.int .i64 x.day, .slice (some ⟨w1.heap.size, 0, none⟩) x.n1 x.n1, .slice none 0 0, .slice none 0 0, .bool false]) := Lib.hid (by rw [hV1]; exact (Z1.out.on hb2).set 1 (by simp) _)
  have O2 : Hid (V1.ownsRow w1.heap.size 9 1 (.slice (some ⟨w1.heap.size, 0, none⟩) x.n1 x.n1) x.n1 (x.ss.map Value.string)) := Lib.hid (ownsRow_below (B := 0) hown (by rw [hV1]; exact Below.heap_setCell _ _ _ _ (by simp; omega)))
  have BV1 : Hid (Below w.heap.size w V1) := Lib.hid (by rw [hV1]; exact (B1.out.trans (hb2.mono B1.out.size)).setCell (p := ⟨w.heap.size + 1 + 1, 1, none⟩) (by simp; omega) _)
  have HT2 := Lib.hid (HDC.out V1 BV1.out)
  have LT1 : Hid (w1.heap.size < V1.heap.size) := Lib.hid (own_lt O2.out)
  have z11 := (Z1.out.on hb2).c 1 (by simp)
  have zf11 := (Z1.out.on hb2).fz 1
  obtain ⟨r0, r1, r2, r3, r4⟩ := s5 (P1.out.on hb2)
  have HV1 := Lib.hid hV1
  clear hown hb2 hz2 hV1 s1 a0 a1 a2 a3 a4
  simp only [List.getElem_cons_succ, List.getElem_cons_zero] at z11
  go_wp2_with (go_at_call 14; (try rw [← HV1.out]); refine HT2.out.mono ?_; rintro e w3 ⟨rfl, hrw, hb3⟩; refine Hid.out ?_)
  refine Lib.hid ?_
  have hz3 := hb3.size
  have s1 := S1.out
  have lt1 := LT1.out
  obtain ⟨V2, hV2⟩ : ∃ V, V = w3.setCell ⟨w.heap.size + 1 + 1, 2, none⟩ (.slice (some ⟨V1.heap.size, 0, none⟩) x.n2 x.n2) := ⟨_, rfl⟩
  have P3 : Hid (Bk w.heap.size V2 x.cells) := Lib.hid (by rw [hV2]; exact (P2.out.on hb3).far (p := ⟨w.heap.size + 1 + 1, 2, none⟩) (by simp; omega) _)
  have Y3 : Hid (Bk (w.heap.size + 1) V2 [.int .i64 0, .slice none 0 0, .slice none 0 0, .slice none 0 0, .bool false]) := Lib.hid (by rw [hV2]; exact (Y2.out.on hb3).far (p := ⟨w.heap.size + 1 + 1, 2, none⟩) (by simp) _)
  have Z3 : Hid (Bk (w.heap.size + 1 + 1) V2 [.int .i64 x.day, .slice (some ⟨w1.heap.size, 0, none⟩) x.n1 x.n1, .slice (some ⟨V1.heap.size, 0, none⟩) x.n2 x.n2, .slice none 0 0, .bool false]) := Lib.hid (by rw [hV2]; exact (Z2.out.on hb3).set 2 (by simp) _)
  have O3 : Hid (V2.ownsRow w1.heap.size 9 1 (.slice (some ⟨w1.heap.size, 0, none⟩) x.n1 x.n1) x.n1 (x.ss.map Value.string)) := Lib.hid (ownsRow_below (B := 0) O2.out (by rw [hV2, Below.heap_setCell _ _ _ _ (by simp; omega)]; exact hb3.block _ lt1))
  have R3 : Hid (RwD V2 V1.heap.size x.n2 x.ds) := Lib.hid (by rw [hV2]; exact hrw.alike (Below.heap_setCell _ _ _ _ (by simp; omega)))
  have BV2 : Hid (Below w.heap.size w V2) := Lib.hid (by rw [hV2]; exact (BV1.out.trans (hb3.mono BV1.out.size)).setCell (p := ⟨w.heap.size + 1 + 1, 2, none⟩) (by simp; omega) _)
  have HT3 := Lib.hid (HIC.out V2 BV2.out)
  have LT2 : Hid (V1.heap.size < V2.heap.size) := Lib.hid R3.out.blk.lt
  have z22 := (Z2.out.on hb3).c 2 (by simp)
  have zf22 := (Z2.out.on hb3).fz 2
  clear r0 r1 r2 r3 r4
  obtain ⟨r0, r1, r2, r3, r4⟩ := s5 (P2.out.on hb3)
  have HV2 := Lib.hid hV2
  clear hrw hb3 hz3 hV2 s1 z11 zf11
  simp only [List.getElem_cons_succ, List.getElem_cons_zero] at z22
  go_wp2_with (go_at_call 15; (try rw [← HV2.out]); refine HT3.out.mono ?_; rintro e w4 ⟨rfl, hown, hb4⟩; refine Hid.out ?_)
  refine Lib.hid ?_
  have hz4 := hb4.size
  have s1 := S1.out
  have lt2 := LT2.out
  have Z4 : Hid (Bk (w.heap.size + 1 + 1) ((w4.setCell ⟨w.heap.size + 1 + 1, 3, none⟩ (.slice (some ⟨V2.heap.size, 0, none⟩) x.n3 x.n3)).setCell ⟨w.heap.size + 1 + 1, 4, none⟩ (.bool x.over)) [.int .i64 x.day, .slice (some ⟨w1.heap.size, 0, none⟩) x.n1 x.n1, .slice (some ⟨V1.heap.size, 0, none⟩) x.n2 x.n2, .slice (some ⟨V2.heap.size, 0, none⟩) x.n3 x.n3, .bool x.over]) := Lib.hid (((Z3.out.on hb4).set 3 (by simp) _).set 4 (by simp) _)
  have Y4 : Hid (Bk (w.heap.size + 1) ((w4.setCell ⟨w.heap.size + 1 + 1, 3, none⟩ (.slice (some ⟨V2.heap.size, 0, none⟩) x.n3 x.n3)).setCell ⟨w.heap.size + 1 + 1, 4, none⟩ (.bool x.over)) [.int .i64 0, .slice none 0 0, .slice none 0 0, .slice none 0 0, .bool false]) := Lib.hid (((Y3.out.on hb4).far (p := ⟨w.heap.size + 1 + 1, 3, none⟩) (by simp) _).far (p := ⟨w.heap.size + 1 + 1, 4, none⟩) (by simp) _)
  have Y5 := Lib.hid (Y4.out.put (us := [.int .i64 x.day, .slice (some ⟨w1.heap.size, 0, none⟩) x.n1 x.n1, .slice (some ⟨V1.heap.size, 0, none⟩) x.n2 x.n2, .slice (some ⟨V2.heap.size, 0, none⟩) x.n3 x.n3, .bool x.over]) rfl)
  have HF : Hid (toAns x w (.returned (.agg #[.int .i64 x.day, .slice (some ⟨w1.heap.size, 0, none⟩) x.n1 x.n1, .slice (some ⟨V1.heap.size, 0, none⟩) x.n2 x.n2, .slice (some ⟨V2.heap.size, 0, none⟩) x.n3 x.n3, .bool x.over])) (putL ((w4.setCell ⟨w.heap.size + 1 + 1, 3, none⟩ (.slice (some ⟨V2.heap.size, 0, none⟩) x.n3 x.n3)).setCell ⟨w.heap.size + 1 + 1, 4, none⟩ (.bool x.over)) (w.heap.size + 1) 0 [.int .i64 x.day, .slice (some ⟨w1.heap.size, 0, none⟩) x.n1 x.n1, .slice (some ⟨V1.heap.size, 0, none⟩) x.n2 x.n2, .slice (some ⟨V2.heap.size, 0, none⟩) x.n3 x.n3, .bool x.over])) := Lib.hid (by
    obtain ⟨F, hFd⟩ : ∃ F, F = putL ((w4.setCell ⟨w.heap.size + 1 + 1, 3, none⟩ (.slice (some ⟨V2.heap.size, 0, none⟩) x.n3 x.n3)).setCell ⟨w.heap.size + 1 + 1, 4, none⟩ (.bool x.over)) (w.heap.size + 1) 0 [.int .i64 x.day, .slice (some ⟨w1.heap.size, 0, none⟩) x.n1 x.n1, .slice (some ⟨V1.heap.size, 0, none⟩) x.n2 x.n2, .slice (some ⟨V2.heap.size, 0, none⟩) x.n3 x.n3, .bool x.over] := ⟨_, rfl⟩
    have hfar : ∀ b, w1.heap.size ≤ b → F.heap[b]? = w4.heap[b]? := fun b hb => by
      rw [hFd, putL_block (by omega), Below.heap_setCell _ _ _ _ (by simp; omega), Below.heap_setCell _ _ _ _ (by simp; omega)]
    have hFb : Below w.heap.size w F := by
      rw [hFd]
      exact putL_below (by omega) _ _ (((BV2.out.trans (hb4.mono BV2.out.size)).setCell (p := ⟨w.heap.size + 1 + 1, 3, none⟩) (by simp; omega) _).setCell (p := ⟨w.heap.size + 1 + 1, 4, none⟩) (by simp; omega) _)
    rw [← hFd]
    have hown1 := ownsRow_below (B := 0) O3.out (w' := F) (by rw [hfar _ (Nat.le_refl _)]; exact hb4.block _ (by omega))
    have hrw2 := R3.out.alike (w' := F) (by rw [hfar _ (by omega)]; exact hb4.block _ lt2)
    have hown3 := ownsRow_below (B := 0) hown (w' := F) (hfar _ (by omega))
    obtain ⟨l1, l2, l3⟩ := HLN.out
    rw [l1] at hown1
    rw [l2] at hrw2
    rw [l3] at hown3
    refine ⟨w1.heap.size, V1.heap.size, V2.heap.size, by rw [l1, l2, l3], ⟨own_base hown1 (by omega), hrw2, own_base hown3 (by omega), lt1, lt2, HSS.out, by omega⟩, hFb⟩)
  have z33 := (Z3.out.on hb4).c 3 (by simp)
  have zf33 := (Z3.out.on hb4).fz 3
  have z34 := (Z3.out.on hb4).c 4 (by simp)
  have zf34 := (Z3.out.on hb4).fz 4
  clear r0 r1 r2 r3 r4
  obtain ⟨r0, r1, r2, r3, r4⟩ := s5 (P3.out.on hb4)
  have v0 := Z4.out.c 0 (by simp)
  have v1 := Z4.out.c 1 (by simp)
  have v2 := Z4.out.c 2 (by simp)
  have v3 := Z4.out.c 3 (by simp)
  have v4 := Z4.out.c 4 (by simp)
  have u0 := Y4.out.c 0 (by simp)
  have u1 := Y4.out.c 1 (by simp)
  have u2 := Y4.out.c 2 (by simp)
  have u3 := Y4.out.c 3 (by simp)
  have u4 := Y4.out.c 4 (by simp)
  have uf0 := Y4.out.fz 0
  have uf1 := Y4.out.fz 1
  have uf2 := Y4.out.fz 2
  have uf3 := Y4.out.fz 3
  have uf4 := Y4.out.fz 4
  simp only [List.getElem_cons_succ, List.getElem_cons_zero] at z33 z34 v0 v1 v2 v3 v4 u0 u1 u2 u3 u4
  clear hown hb4 hz4 s1 z22 zf22
  go_wp2_with fail
  have t0 := Y5.out.c 0 (by simp)
  have t1 := Y5.out.c 1 (by simp)
  have t2 := Y5.out.c 2 (by simp)
  have t3 := Y5.out.c 3 (by simp)
  have t4 := Y5.out.c 4 (by simp)
  have hf := HF.out
  simp only [List.getElem_cons_succ, List.getElem_cons_zero, putL, Nat.reduceAdd, Nat.zero_add] at t0 t1 t2 t3 t4 hf
  exact bodyPost_ret (v := .agg #[.int .i64 x.day, .slice (some ⟨w1.heap.size, 0, none⟩) x.n1 x.n1, .slice (some ⟨V1.heap.size, 0, none⟩) x.n2 x.n2, .slice (some ⟨V2.heap.size, 0, none⟩) x.n3 x.n3, .bool x.over]) (by simp [results, Try.results6, go_sem, t0, t1, t2, t3, t4]) rfl hf

/-- What toState answers, where the copy is only read. -/
theorem toSt (x : S) (w : World) (h : LiS w w.heap.size x) (hw : x.st.wt ≤ 1048576) : Calls Try.prog 6 #[x.val] w fun e w' => ∃ q : S, e = .returned q.val ∧ q.st = x.st ∧ LiS w' w'.heap.size q ∧ Below w.heap.size w w' := by
  have h1 := h.wt
  have h2 := h.f.len
  have h3 := h.d.len
  have h4 := h.b.len
  exact (toSm x w h hw).mono fun e w' ⟨g1, g2, g3, he, hwr, hb⟩ => ⟨_, he, rfl, hwr.has (by omega) (by omega) (by omega), hb⟩

set_option maxRecDepth 100000 in
set_option maxHeartbeats 8000000 in
theorem eqSt (x y : S) (w : World) (hc : x.st = y.st) (hw : y.st.wt ≤ 1048576) (hx : LiS w w.heap.size x) (hy : LiS w w.heap.size y) :
    Calls Try.prog 8 #[x.val, y.val] w fun e w' => e = .returned (.bool true) ∧ Below w.heap.size w w' := by
  obtain ⟨q1, q2, q3, q4, q5⟩ : x.day = y.day ∧ x.ss = y.ss ∧ x.ds = y.ds ∧ x.zs = y.zs ∧ x.over = y.over := ⟨congrArg St.day hc, congrArg St.ss hc, congrArg St.ds hc, congrArg St.zs hc, congrArg St.over hc⟩
  have e1 : x.n1 = y.n1 := by rw [hx.f.len, hy.f.len, q2]
  have e2 : x.n2 = y.n2 := by rw [hx.d.len, hy.d.len, q3]
  have e3 : x.n3 = y.n3 := by rw [hx.b.len, hy.b.len, q4]
  have hwt := hy.wt
  have hn1 : y.n1 ≤ 1048576 := by omega
  have hn2 : y.n2 ≤ 1048576 := by omega
  have hn3 : y.n3 ≤ 1048576 := by omega
  obtain ⟨X, hX⟩ : ∃ X, X = (w.alloc (.cells #[.int .i64 x.day, .slice x.A1 x.n1 x.c1, .slice x.A2 x.n2 x.c2, .slice x.A3 x.n3 x.c3, .bool x.over] 31)).alloc (.cells #[.int .i64 y.day, .slice y.A1 y.n1 y.c1, .slice y.A2 y.n2 y.c2, .slice y.A3 y.n3 y.c3, .bool y.over] 31) := ⟨_, rfl⟩
  have HW := Lib.hid (two_new w x y 31 31)
  rw [← hX] at HW
  have hx2 := hx.on HW.out.bel
  have hy2 := hy.on HW.out.bel
  have HS : Hid (∀ v, Below X.heap.size X v → Calls Try.prog 19 #[.slice x.A1 x.n1 x.c1, .slice y.A1 y.n1 y.c1] v fun e w' => e = .returned (.bool true) ∧ Below v.heap.size v w') := Lib.hid fun v hv => by
    have h1 := (hx2.on hv).f.is
    rw [q2] at h1
    rw [e1]
    refine (Row.eqS x.A1 y.A1 y.n1 x.c1 y.c1 v.heap.size y.ss v hy.f.len (by omega) h1 (hy2.on hv).f.is).mono fun e w' ⟨he, n, hn⟩ => ⟨he, by rw [hn]; exact below_drewN (Below.refl _ _) _⟩
  have HD : Hid (∀ v, Below X.heap.size X v → Calls Try.prog 20 #[.slice x.A2 x.n2 x.c2, .slice y.A2 y.n2 y.c2] v fun e w' => e = .returned (.bool true) ∧ Below v.heap.size v w') := Lib.hid fun v hv => by
    have h1 := (hx2.on hv).d
    rw [q3, e2] at h1
    rw [e2]
    exact eqDS x.A2 y.A2 y.n2 x.c2 y.c2 y.ds v hn2 h1 (hy2.on hv).d
  have HZ : Hid (∀ v, Below X.heap.size X v → Calls Try.prog 21 #[.slice x.A3 x.n3 x.c3, .slice y.A3 y.n3 y.c3] v fun e w' => e = .returned (.bool true) ∧ Below v.heap.size v w') := Lib.hid fun v hv => by
    have h1 := (hx2.on hv).b.is
    rw [q4] at h1
    rw [e3]
    refine (IRow.eqI x.A3 y.A3 y.n3 x.c3 y.c3 v.heap.size y.zs v hy.b.len (by omega) h1 (hy2.on hv).b.is).mono fun e w' ⟨he, n, hn⟩ => ⟨he, by rw [hn]; exact below_drewN (Below.refl _ _) _⟩
  obtain ⟨x0, x1, x2, x3, x4⟩ := s5 HW.out.b1
  obtain ⟨y0, y1, y2, y3, y4⟩ := s5 HW.out.b2
  rw [hX] at x0 x1 x2 x3 x4 y0 y1 y2 y3 y4
  have HX := Lib.hid hX
  have X0 : Hid (Below X.heap.size X ((w.alloc (.cells #[.int .i64 x.day, .slice x.A1 x.n1 x.c1, .slice x.A2 x.n2 x.c2, .slice x.A3 x.n3 x.c3, .bool x.over] 31)).alloc (.cells #[.int .i64 y.day, .slice y.A1 y.n1 y.c1, .slice y.A2 y.n2 y.c2, .slice y.A3 y.n3 y.c3, .bool y.over] 31))) := Lib.hid (by rw [← HX.out]; exact Below.refl _ _)
  have Q5 := Lib.hid q5
  have X0d := X0.out
  rw [q1] at X0d
  have X0D := Lib.hid X0d
  clear X0d
  clear hx hy hX hc e1 e2 e3 q2 q3 q4 hx2 hy2 hwt hw q5
  go_enter Try.func8, Try.ntmps8
  go_wp2_with (go_at_call 19; (first | refine (HS.out _ X0D.out).mono ?_ | refine (HS.out _ X0.out).mono ?_); rintro e wa ⟨rfl, hb⟩; refine Hid.out ?_)
  refine Lib.hid ?_
  have BA : Hid (Below X.heap.size X wa) := Lib.hid (X0D.out.trans (hb.mono X0D.out.size))
  clear hb x0 x1 x2 x3 x4 y0 y1 y2 y3 y4
  obtain ⟨x0, x1, x2, x3, x4⟩ := s5 (HW.out.on BA.out).b1
  obtain ⟨y0, y1, y2, y3, y4⟩ := s5 (HW.out.on BA.out).b2
  go_wp2_with (go_at_call 20; refine (HD.out _ BA.out).mono ?_; rintro e wb ⟨rfl, hb⟩; refine Hid.out ?_)
  refine Lib.hid ?_
  have BB : Hid (Below X.heap.size X wb) := Lib.hid (BA.out.trans (hb.mono BA.out.size))
  clear hb x0 x1 x2 x3 x4 y0 y1 y2 y3 y4
  obtain ⟨x0, x1, x2, x3, x4⟩ := s5 (HW.out.on BB.out).b1
  obtain ⟨y0, y1, y2, y3, y4⟩ := s5 (HW.out.on BB.out).b2
  go_wp2_with (go_at_call 21; refine (HZ.out _ BB.out).mono ?_; rintro e wc ⟨rfl, hb⟩; refine Hid.out ?_)
  refine Lib.hid ?_
  have BC : Hid (Below X.heap.size X wc) := Lib.hid (BB.out.trans (hb.mono BB.out.size))
  clear hb x0 x1 x2 x3 x4 y0 y1 y2 y3 y4
  obtain ⟨x0, x1, x2, x3, x4⟩ := s5 (HW.out.on BC.out).b1
  obtain ⟨y0, y1, y2, y3, y4⟩ := s5 (HW.out.on BC.out).b2
  rw [Q5.out] at x4
  cases y.over
  all_goals
    go_wp2_with fail
    go_ret
    exact ⟨rfl, HW.out.bel.trans (BC.out.mono HW.out.bel.size)⟩

end Go.Proofs.Ythdjdjgilnpmkaa.Sta
