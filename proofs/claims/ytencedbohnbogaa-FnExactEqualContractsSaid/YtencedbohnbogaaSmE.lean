/-
  l6Same of the model.
-/
import Derived.Test.YtencedbohnbogaaCl
import Derived.Test.YtencedbohnbogaaSmQ
import Derived.BigQuiet
import Derived.Deep.RegionHeld3
namespace Go.Proofs.Ytencedbohnbogaa.Cl
open Go.RowKit Go.Proofs.Ytencedbohnbogaa.Cond Go.Proofs.Ytencedbohnbogaa.Gx
set_option linter.unusedVariables false
set_option linter.unusedSimpArgs false

/-- The fields of two clauses, one by one. -/
structure Fld (m q : M) (t0 t1 t2 t3 t4 t5 t6 t7 t8 : Bool) : Prop where
  e0 : t0 = decide (m.id.toList = q.id.toList)
  e1 : t1 = decide (m.kind = q.kind)
  e2 : t2 = decide (m.party = q.party)
  e3 : t3 = decide (m.act.toList = q.act.toList)
  e4 : t4 = decide (m.other = q.other)
  e5 : t5 = decide (m.amt = q.amt)
  e6 : t6 = sameC m.k.cond q.k.cond
  e7 : t7 = decide (m.within = q.within)
  e8 : t8 = decide (m.rep.toList = q.rep.toList)
theorem bytes_eq {a b : ByteArray} (h : a.toList = b.toList) : a = b := toList_inj h
theorem Fld.iff {m q : M} {t0 t1 t2 t3 t4 t5 t6 t7 t8 : Bool} (h : Fld m q t0 t1 t2 t3 t4 t5 t6 t7 t8) : (t0 && t1 && t2 && t3 && t4 && t5 && t6 && t7 && t8) = true ↔ m.cl = q.cl := by
  rw [h.e0, h.e1, h.e2, h.e3, h.e4, h.e5, h.e6, h.e7, h.e8]
  simp only [Bool.and_eq_true, decide_eq_true_eq, same_iff]
  constructor
  · rintro ⟨⟨⟨⟨⟨⟨⟨⟨h0, h1⟩, h2⟩, h3⟩, h4⟩, h5⟩, h6⟩, h7⟩, h8⟩
    unfold M.cl
    rw [bytes_eq h0, h1, h2, bytes_eq h3, h4, h5, h6, h7, bytes_eq h8]
  · intro e
    have e0 := congrArg L.id e
    have e1 := congrArg L.kind e
    have e2 := congrArg L.party e
    have e3 := congrArg L.act e
    have e4 := congrArg L.other e
    have e5 := congrArg L.amt e
    have e6 := congrArg L.c e
    have e7 := congrArg L.within e
    have e8 := congrArg L.rep e
    simp only [M.cl] at e0 e1 e2 e3 e4 e5 e6 e7 e8
    exact ⟨⟨⟨⟨⟨⟨⟨⟨by rw [e0], e1⟩, e2⟩, by rw [e3]⟩, e4⟩, e5⟩, e6⟩, e7⟩, by rw [e8]⟩

set_option maxRecDepth 100000 in
set_option maxHeartbeats 8000000 in
theorem l6Same (m q : M) (w : World) (hm : LiM w w.heap.size m) (hq : LiM w w.heap.size q) (t : Bool) (ht : t = true ↔ m.cl = q.cl) :
    Calls Try.prog 28 #[m.val, q.val] w fun e w' => e = .returned (.bool t) ∧ Below w.heap.size w w' := by
  obtain ⟨X, hX⟩ : ∃ X, X = (w.alloc (.cells #[.string m.id, .int .i64 m.kind, .int .i64 m.party, .string m.act, .int .i64 m.other, .int .i64 m.amt, .int .i64 m.k.op, .string m.k.nm, .int .i64 m.k.day, .slice m.k.A m.k.ps.length m.k.cap, .int .i64 m.within, .string m.rep] 56)).alloc (.cells #[.string q.id, .int .i64 q.kind, .int .i64 q.party, .string q.act, .int .i64 q.other, .int .i64 q.amt, .int .i64 q.k.op, .string q.k.nm, .int .i64 q.k.day, .slice q.k.A q.k.ps.length q.k.cap, .int .i64 q.within, .string q.rep] 56) := ⟨_, rfl⟩
  have B0 : Below w.heap.size w X := by rw [hX]; exact (below1 _ _).alloc (by simp) _
  have P0 : Bk w.heap.size X m.cells := by rw [hX]; exact (Bk.new w #[.string m.id, .int .i64 m.kind, .int .i64 m.party, .string m.act, .int .i64 m.other, .int .i64 m.amt, .int .i64 m.k.op, .string m.k.nm, .int .i64 m.k.day, .slice m.k.A m.k.ps.length m.k.cap, .int .i64 m.within, .string m.rep] 56).alloc _
  have Q0 : Bk (w.heap.size + 1) X q.cells := by
    rw [hX]
    have := Bk.new (w.alloc (.cells #[.string m.id, .int .i64 m.kind, .int .i64 m.party, .string m.act, .int .i64 m.other, .int .i64 m.amt, .int .i64 m.k.op, .string m.k.nm, .int .i64 m.k.day, .slice m.k.A m.k.ps.length m.k.cap, .int .i64 m.within, .string m.rep] 56)) #[.string q.id, .int .i64 q.kind, .int .i64 q.party, .string q.act, .int .i64 q.other, .int .i64 q.amt, .int .i64 q.k.op, .string q.k.nm, .int .i64 q.k.day, .slice q.k.A q.k.ps.length q.k.cap, .int .i64 q.within, .string q.rep] 56
    rw [World.size_alloc] at this
    exact this
  have KX : Hid (∀ v, Below X.heap.size X v → v.cell? ⟨w.heap.size, 0, none⟩ = some (.string m.id) ∧ v.cell? ⟨w.heap.size, 1, none⟩ = some (.int .i64 m.kind) ∧ v.cell? ⟨w.heap.size, 2, none⟩ = some (.int .i64 m.party) ∧ v.cell? ⟨w.heap.size, 3, none⟩ = some (.string m.act) ∧ v.cell? ⟨w.heap.size, 4, none⟩ = some (.int .i64 m.other) ∧ v.cell? ⟨w.heap.size, 5, none⟩ = some (.int .i64 m.amt) ∧ v.cell? ⟨w.heap.size, 6, none⟩ = some (.int .i64 m.k.op) ∧ v.cell? ⟨w.heap.size, 7, none⟩ = some (.string m.k.nm) ∧ v.cell? ⟨w.heap.size, 8, none⟩ = some (.int .i64 m.k.day) ∧ v.cell? ⟨w.heap.size, 9, none⟩ = some (.slice m.k.A m.k.ps.length m.k.cap) ∧ v.cell? ⟨w.heap.size, 10, none⟩ = some (.int .i64 m.within) ∧ v.cell? ⟨w.heap.size, 11, none⟩ = some (.string m.rep) ∧ v.cell? ⟨w.heap.size + 1, 0, none⟩ = some (.string q.id) ∧ v.cell? ⟨w.heap.size + 1, 1, none⟩ = some (.int .i64 q.kind) ∧ v.cell? ⟨w.heap.size + 1, 2, none⟩ = some (.int .i64 q.party) ∧ v.cell? ⟨w.heap.size + 1, 3, none⟩ = some (.string q.act) ∧ v.cell? ⟨w.heap.size + 1, 4, none⟩ = some (.int .i64 q.other) ∧ v.cell? ⟨w.heap.size + 1, 5, none⟩ = some (.int .i64 q.amt) ∧ v.cell? ⟨w.heap.size + 1, 6, none⟩ = some (.int .i64 q.k.op) ∧ v.cell? ⟨w.heap.size + 1, 7, none⟩ = some (.string q.k.nm) ∧ v.cell? ⟨w.heap.size + 1, 8, none⟩ = some (.int .i64 q.k.day) ∧ v.cell? ⟨w.heap.size + 1, 9, none⟩ = some (.slice q.k.A q.k.ps.length q.k.cap) ∧ v.cell? ⟨w.heap.size + 1, 10, none⟩ = some (.int .i64 q.within) ∧ v.cell? ⟨w.heap.size + 1, 11, none⟩ = some (.string q.rep)) := Lib.hid fun v hv => by
    obtain ⟨a0, a1, a2, a3, a4, a5, a6, a7, a8, a9, a10, a11⟩ := b12 (P0.on hv)
    obtain ⟨b0, b1, b2, b3, b4, b5, b6, b7, b8, b9, b10, b11⟩ := b12 (Q0.on hv)
    exact ⟨a0, a1, a2, a3, a4, a5, a6, a7, a8, a9, a10, a11, b0, b1, b2, b3, b4, b5, b6, b7, b8, b9, b10, b11⟩
  obtain ⟨t0, e0⟩ : ∃ b, b = decide (m.id.toList = q.id.toList) := ⟨_, rfl⟩
  obtain ⟨t1, e1⟩ : ∃ b, b = decide (m.kind = q.kind) := ⟨_, rfl⟩
  obtain ⟨t2, e2⟩ : ∃ b, b = decide (m.party = q.party) := ⟨_, rfl⟩
  obtain ⟨t3, e3⟩ : ∃ b, b = decide (m.act.toList = q.act.toList) := ⟨_, rfl⟩
  obtain ⟨t4, e4⟩ : ∃ b, b = decide (m.other = q.other) := ⟨_, rfl⟩
  obtain ⟨t5, e5⟩ : ∃ b, b = decide (m.amt = q.amt) := ⟨_, rfl⟩
  obtain ⟨t6, e6⟩ : ∃ b, b = sameC m.k.cond q.k.cond := ⟨_, rfl⟩
  obtain ⟨t7, e7⟩ : ∃ b, b = decide (m.within = q.within) := ⟨_, rfl⟩
  obtain ⟨t8, e8⟩ : ∃ b, b = decide (m.rep.toList = q.rep.toList) := ⟨_, rfl⟩
  have HT : Hid (t = (t0 && t1 && t2 && t3 && t4 && t5 && t6 && t7 && t8)) := Lib.hid (by rw [Bool.eq_iff_iff, ht]; exact (Fld.iff ⟨e0, e1, e2, e3, e4, e5, e6, e7, e8⟩).symm)
  have HS : Hid (∀ v, Below X.heap.size X v → Calls Try.prog 48 #[m.k.val, q.k.val] v fun e w' => e = .returned (.bool t6) ∧ Below v.heap.size v w') := Lib.hid fun v hv => by rw [e6]; exact l5Same m.k q.k v ((hm.k.on B0).on hv) ((hq.k.on B0).on hv)
  have g0 : (m.id.toList == q.id.toList) = t0 := by rw [e0]; (rw [Bool.eq_iff_iff, beq_iff_eq]; exact decide_eq_true_iff.symm)
  have g1 : (m.kind == q.kind) = t1 := by rw [e1]; rfl
  have g2 : (m.party == q.party) = t2 := by rw [e2]; rfl
  have g3 : (m.act.toList == q.act.toList) = t3 := by rw [e3]; (rw [Bool.eq_iff_iff, beq_iff_eq]; exact decide_eq_true_iff.symm)
  have g4 : (m.other == q.other) = t4 := by rw [e4]; rfl
  have g5 : (m.amt == q.amt) = t5 := by rw [e5]; rfl
  have g7 : (m.within == q.within) = t7 := by rw [e7]; rfl
  have g8 : (m.rep.toList == q.rep.toList) = t8 := by rw [e8]; (rw [Bool.eq_iff_iff, beq_iff_eq]; exact decide_eq_true_iff.symm)
  have HB := Lib.hid B0
  have HX := Lib.hid hX
  have hcells := KX.out X (Below.refl _ _)
  obtain ⟨a0, a1, a2, a3, a4, a5, a6, a7, a8, a9, a10, a11, b0, b1, b2, b3, b4, b5, b6, b7, b8, b9, b10, b11⟩ := hcells
  clear hm hq ht B0 P0 Q0 hX e0 e1 e2 e3 e4 e5 e6 e7 e8
  go_enter Try.func28, Try.ntmps28
  cases t0
  · go_wp2_with fail
    go_ret
    exact ⟨by rw [HT.out]; simp, by rw [← HX.out]; exact HB.out⟩
  cases t1
  · go_wp2_with fail
    go_ret
    exact ⟨by rw [HT.out]; simp, by rw [← HX.out]; exact HB.out⟩
  cases t2
  · go_wp2_with fail
    go_ret
    exact ⟨by rw [HT.out]; simp, by rw [← HX.out]; exact HB.out⟩
  cases t3
  · go_wp2_with fail
    go_ret
    exact ⟨by rw [HT.out]; simp, by rw [← HX.out]; exact HB.out⟩
  cases t4
  · go_wp2_with fail
    go_ret
    exact ⟨by rw [HT.out]; simp, by rw [← HX.out]; exact HB.out⟩
  cases t5
  · go_wp2_with fail
    go_ret
    exact ⟨by rw [HT.out]; simp, by rw [← HX.out]; exact HB.out⟩
  have HT2 : Hid (t = (t6 && t7 && t8)) := Lib.hid (by rw [HT.out]; simp)
  cases t6
  all_goals
    go_wp2_with (go_at_call 48; (try rw [← HX.out]); refine (HS.out _ (Below.refl _ _)).mono ?_; rintro e wa ⟨rfl, hb⟩; refine Hid.out ?_)
    refine Lib.hid ?_
    have HB2 := Lib.hid (HB.out.trans (hb.mono HB.out.size))
    have hc2 := KX.out wa hb
    clear hb a0 a1 a2 a3 a4 a5 a6 a7 a8 a9 a10 a11 b0 b1 b2 b3 b4 b5 b6 b7 b8 b9 b10 b11
    obtain ⟨a0, a1, a2, a3, a4, a5, a6, a7, a8, a9, a10, a11, b0, b1, b2, b3, b4, b5, b6, b7, b8, b9, b10, b11⟩ := hc2
    cases t7 <;> cases t8
    all_goals
      go_wp2_with fail
      go_ret
      exact ⟨by rw [HT2.out]; rfl, HB2.out⟩

end Go.Proofs.Ytencedbohnbogaa.Cl
