/-
  The program's checks of a clause by itself and of the parties.
-/
import Derived.Test.YtlionlbihmldlaaClNo
import Derived.Test.YtlionlbihmldlaaGoodI
import Derived.Test.YtlionlbihmldlaaShelfNm
namespace Go.Proofs.Ytlionlbihmldlaa.Cl
open Go.RowKit Go.Proofs.Ytlionlbihmldlaa.Cond Go.Proofs.Ytlionlbihmldlaa.Gx Go.Proofs.Ytlionlbihmldlaa.NdI Go.Proofs.Ytlionlbihmldlaa.NdS
set_option linter.unusedVariables false
set_option linter.unusedSimpArgs false

def isIx (i : Int) (n : Nat) : Bool := decide (0 ≤ i) && decide (i < (n : Int))
theorem isIndex (i : Int) (n : Nat) (w : World) : Calls Try.prog 43 #[.int .i64 i, .int .i64 (n : Int)] w fun e w' => e = .returned (.bool (isIx i n)) ∧ w = w' := by
  unfold isIx
  go_enter Try.func43, Try.ntmps43
  go_wp2
  all_goals go_ret
  all_goals refine ⟨?_, rfl⟩
  all_goals (first | (simp; done) | (simp; omega) | (simp; rw [Bool.eq_iff_iff]; simp; omega))

/-- What isValidAlone asks first. -/
structure Tsv (np : Nat) (m : M) (t0 t1 t3 t4 t5 t6 : Bool) : Prop where
  e0 : t0 = isNm m.id
  e1 : t1 = isNm m.act
  e3 : t3 = isIx m.party np
  e4 : t4 = isIx m.other np
  e5 : t5 = decide (m.party = m.other)
  e6 : t6 = m.k.cond.good
theorem ix_le (i : Int) (n : Nat) : isIx i n = (decide (0 ≤ i) && decide (i ≤ (n : Int) - 1)) := by
  unfold isIx
  congr 1
  exact decide_eq_decide.2 (by omega)
/-- The rest, by kind. -/
def okK (x : L) : Bool :=
  if x.kind = 1 then decide (0 ≤ x.amt) && decide (x.amt ≤ 1000000) && decide (0 ≤ x.within) && decide (x.within ≤ 400)
  else if x.kind = 2 ∨ x.kind = 4 then decide (x.amt = 0) && decide (x.within = 0)
  else if x.kind = 3 then decide (x.amt = 0) && decide (x.within = 0) && decide (x.rep.toList = [])
  else false
theorem Tsv.ok {np : Nat} {m : M} {t0 t1 t3 t4 t5 t6 : Bool} (h : Tsv np m t0 t1 t3 t4 t5 t6) : okV np m.cl = (t0 && t1 && t6 && (t3 && t4 && !t5) && okK m.cl) := by
  have h1 : okV np m.cl = (isNm m.id && isNm m.act && m.k.cond.good && (isIx m.party np && isIx m.other np && !decide (m.party = m.other)) && ((decide (1 ≤ m.kind) && decide (m.kind ≤ 4)) && okA m.cl && (!decide (m.kind = 3) || decide (m.rep.toList = [])))) := by
    unfold okV okC
    rw [ix_le, ix_le]
    show (isNm m.id && isNm m.act && (decide (1 ≤ m.kind) && decide (m.kind ≤ 4)) && (decide (0 ≤ m.party) && decide (m.party ≤ (np : Int) - 1)) && (decide (0 ≤ m.other) && decide (m.other ≤ (np : Int) - 1)) && !decide (m.party = m.other) && m.k.cond.good && okA m.cl && (!decide (m.kind = 3) || decide (m.rep.toList = []))) = _
    ac_rfl
  have h2 : ((decide (1 ≤ m.kind) && decide (m.kind ≤ 4)) && okA m.cl && (!decide (m.kind = 3) || decide (m.rep.toList = []))) = okK m.cl := by
    unfold okK okA
    show ((decide (1 ≤ m.kind) && decide (m.kind ≤ 4)) && ((decide (0 ≤ m.amt) && decide (m.amt ≤ 1000000)) && (decide (0 ≤ m.within) && decide (m.within ≤ 400)) && (decide (m.kind = 1) || (decide (m.amt = 0) && decide (m.within = 0)))) && (!decide (m.kind = 3) || decide (m.rep.toList = []))) = (if m.kind = 1 then decide (0 ≤ m.amt) && decide (m.amt ≤ 1000000) && decide (0 ≤ m.within) && decide (m.within ≤ 400) else if m.kind = 2 ∨ m.kind = 4 then decide (m.amt = 0) && decide (m.within = 0) else if m.kind = 3 then decide (m.amt = 0) && decide (m.within = 0) && decide (m.rep.toList = []) else false)
    rw [Bool.eq_iff_iff]
    by_cases k1 : m.kind = 1
    · simp [k1]; omega
    by_cases k2 : m.kind = 2 ∨ m.kind = 4
    · rcases k2 with k2 | k2 <;> simp [k2] <;> omega
    by_cases k3 : m.kind = 3
    · simp [k3]; omega
    · simp [k1, k2, k3]; omega
  rw [h1, h2, ← h.e0, ← h.e1, ← h.e3, ← h.e4, ← h.e5, ← h.e6]

set_option maxRecDepth 100000 in
set_option maxHeartbeats 16000000 in
theorem isValidAlone (np : Nat) (m : M) (w : World) (h : LiM w w.heap.size m) (hw : m.cl.wt ≤ 1048576) (ok : Bool) (hok : ok = okV np m.cl) :
    Calls Try.prog 28 #[m.val, .int .i64 (np : Int)] w fun e w' => e = .returned (.bool ok) ∧ Below w.heap.size w w' := by
  obtain ⟨X, hX⟩ : ∃ X, X = w.alloc (.cells #[.string m.id, .int .i64 m.kind, .int .i64 m.party, .string m.act, .int .i64 m.other, .int .i64 m.amt, .int .i64 m.k.op, .string m.k.nm, .int .i64 m.k.day, .slice m.k.A m.k.ps.length m.k.cap, .int .i64 m.within, .string m.rep] 60) := ⟨_, rfl⟩
  have B0 : Below w.heap.size w X := by rw [hX]; exact below1 _ _
  have HLM := h.on B0
  have Q0 : Hid (Bk w.heap.size X m.cells) := Lib.hid (by rw [hX]; exact Bk.new _ _ _)
  obtain ⟨t0, e0⟩ : ∃ t, t = isNm m.id := ⟨_, rfl⟩
  obtain ⟨t1, e1⟩ : ∃ t, t = isNm m.act := ⟨_, rfl⟩
  obtain ⟨t3, e3⟩ : ∃ t, t = isIx m.party np := ⟨_, rfl⟩
  obtain ⟨t4, e4⟩ : ∃ t, t = isIx m.other np := ⟨_, rfl⟩
  obtain ⟨t5, e5⟩ : ∃ t, t = decide (m.party = m.other) := ⟨_, rfl⟩
  obtain ⟨t6, e6⟩ : ∃ t, t = m.k.cond.good := ⟨_, rfl⟩
  have HOK : Hid (ok = (t0 && t1 && t6 && (t3 && t4 && !t5) && okK m.cl)) := Lib.hid (by rw [hok]; exact Tsv.ok ⟨e0, e1, e3, e4, e5, e6⟩)
  have q0 : Hid (∀ v, Calls Try.prog 40 #[.string m.id] v fun e w' => e = .returned (.bool t0) ∧ v = w') := Lib.hid fun v => by rw [e0]; exact isValidName _ h.si v
  have q1 : Hid (∀ v, Calls Try.prog 40 #[.string m.act] v fun e w' => e = .returned (.bool t1) ∧ v = w') := Lib.hid fun v => by rw [e1]; exact isValidName _ h.sa v
  have q3 : Hid (∀ v, Calls Try.prog 43 #[.int .i64 m.party, .int .i64 (np : Int)] v fun e w' => e = .returned (.bool t3) ∧ v = w') := Lib.hid fun v => by rw [e3]; exact isIndex _ _ v
  have q4 : Hid (∀ v, Calls Try.prog 43 #[.int .i64 m.other, .int .i64 (np : Int)] v fun e w' => e = .returned (.bool t4) ∧ v = w') := Lib.hid fun v => by rw [e4]; exact isIndex _ _ v
  have q6 : Hid (Calls Try.prog 42 #[m.k.val] X fun e w' => e = .returned (.bool t6) ∧ Below X.heap.size X w') := Lib.hid (by rw [e6]; exact implGood m.k X HLM.k (by simp only [L.wt, M.cl] at hw; omega))
  have g5 : (m.party == m.other) = t5 := by rw [e5]; rfl
  have HB := Lib.hid B0
  have HX := Lib.hid hX
  have qc := b12 Q0.out
  rw [hX] at qc
  obtain ⟨c0, c1, c2, c3, c4, c5, c6, c7, c8, c9, c10, c11⟩ := qc
  clear h hw hok B0 HLM hX e0 e1 e3 e4 e5 e6
  go_enter Try.func28, Try.ntmps28
  cases t0
  · skip
    go_wp2_with (first | (go_at_call_of 40 (m.id); with_reducible refine (q0.out _).mono ?_; rintro e w2 ⟨rfl, rfl⟩) | (go_at_call_of 40 (m.act); with_reducible refine (q1.out _).mono ?_; rintro e w2 ⟨rfl, rfl⟩))
    go_ret
    exact ⟨by rw [HOK.out]; rfl, by rw [← HX.out]; exact HB.out⟩
  cases t1
  · skip
    go_wp2_with (first | (go_at_call_of 40 (m.id); with_reducible refine (q0.out _).mono ?_; rintro e w2 ⟨rfl, rfl⟩) | (go_at_call_of 40 (m.act); with_reducible refine (q1.out _).mono ?_; rintro e w2 ⟨rfl, rfl⟩))
    go_ret
    exact ⟨by rw [HOK.out]; rfl, by rw [← HX.out]; exact HB.out⟩
  cases t6
  · skip
    go_wp2_with (first | (first | (go_at_call_of 40 (m.id); with_reducible refine (q0.out _).mono ?_; rintro e w2 ⟨rfl, rfl⟩) | (go_at_call_of 40 (m.act); with_reducible refine (q1.out _).mono ?_; rintro e w2 ⟨rfl, rfl⟩)) | (go_at_call 42; (try rw [← HX.out]); refine q6.out.mono ?_; rintro e w2 ⟨rfl, hb2⟩; refine Hid.out ?_))
    refine Lib.hid ?_
    have HB2 := Lib.hid (HB.out.trans (hb2.mono HB.out.size))
    clear hb2
    go_wp2_with fail
    go_ret
    exact ⟨by rw [HOK.out]; rfl, HB2.out⟩
  go_wp2_with (first | (first | (go_at_call_of 40 (m.id); with_reducible refine (q0.out _).mono ?_; rintro e w2 ⟨rfl, rfl⟩) | (go_at_call_of 40 (m.act); with_reducible refine (q1.out _).mono ?_; rintro e w2 ⟨rfl, rfl⟩)) | (go_at_call 42; (try rw [← HX.out]); refine q6.out.mono ?_; rintro e w2 ⟨rfl, hb2⟩; refine Hid.out ?_))
  refine Lib.hid ?_
  have HB2 := Lib.hid (HB.out.trans (hb2.mono HB.out.size))
  have Q2 := Lib.hid (Q0.out.on hb2)
  clear hb2 c0 c1 c2 c3 c4 c5 c6 c7 c8 c9 c10 c11
  obtain ⟨c0, c1, c2, c3, c4, c5, c6, c7, c8, c9, c10, c11⟩ := b12 Q2.out
  cases t3
  · skip
    go_wp2_with (first | (go_at_call_of 43 (m.party); with_reducible refine (q3.out _).mono ?_; rintro e w3 ⟨rfl, rfl⟩) | (go_at_call_of 43 (m.other); with_reducible refine (q4.out _).mono ?_; rintro e w3 ⟨rfl, rfl⟩))
    go_ret
    exact ⟨by rw [HOK.out]; rfl, HB2.out⟩
  cases t4
  · skip
    go_wp2_with (first | (go_at_call_of 43 (m.party); with_reducible refine (q3.out _).mono ?_; rintro e w3 ⟨rfl, rfl⟩) | (go_at_call_of 43 (m.other); with_reducible refine (q4.out _).mono ?_; rintro e w3 ⟨rfl, rfl⟩))
    go_ret
    exact ⟨by rw [HOK.out]; rfl, HB2.out⟩
  cases t5
  rotate_left
  · skip
    go_wp2_with (first | (go_at_call_of 43 (m.party); with_reducible refine (q3.out _).mono ?_; rintro e w3 ⟨rfl, rfl⟩) | (go_at_call_of 43 (m.other); with_reducible refine (q4.out _).mono ?_; rintro e w3 ⟨rfl, rfl⟩))
    go_ret
    exact ⟨by rw [HOK.out]; rfl, HB2.out⟩
  have HO : Hid (ok = okK m.cl) := Lib.hid (by rw [HOK.out]; simp)
  clear HOK
  by_cases k1 : m.kind = 1
  · have HE : Hid (ok = (decide (0 ≤ m.amt) && decide (m.amt ≤ 1000000) && decide (0 ≤ m.within) && decide (m.within ≤ 400))) := Lib.hid (by rw [HO.out]; unfold okK; exact if_pos k1)
    rw [k1] at c1
    clear k1 HO
    go_wp2_with (first | (go_at_call_of 43 (m.party); with_reducible refine (q3.out _).mono ?_; rintro e w3 ⟨rfl, rfl⟩) | (go_at_call_of 43 (m.other); with_reducible refine (q4.out _).mono ?_; rintro e w3 ⟨rfl, rfl⟩))
    all_goals go_ret
    all_goals refine ⟨?_, HB2.out⟩
    all_goals (first | (rw [HE.out]; done) | (rw [HE.out]; (first | (simp_all; done) | (simp_all; omega) | (simp_all; rw [Bool.eq_iff_iff]; simp; done) | (simp_all; rw [Bool.eq_iff_iff]; simp; omega))))
  by_cases k2 : m.kind = 2
  · have HE : Hid (ok = (decide (m.amt = 0) && decide (m.within = 0))) := Lib.hid (by rw [HO.out]; unfold okK; rw [if_neg (show ¬ m.cl.kind = 1 from k1)]; exact if_pos (.inl k2))
    rw [k2] at c1
    clear k1 k2 HO
    go_wp2_with (first | (go_at_call_of 43 (m.party); with_reducible refine (q3.out _).mono ?_; rintro e w3 ⟨rfl, rfl⟩) | (go_at_call_of 43 (m.other); with_reducible refine (q4.out _).mono ?_; rintro e w3 ⟨rfl, rfl⟩))
    all_goals go_ret
    all_goals refine ⟨?_, HB2.out⟩
    all_goals (first | (rw [HE.out]; done) | (rw [HE.out]; (first | (simp_all; done) | (simp_all; omega) | (simp_all; rw [Bool.eq_iff_iff]; simp; done) | (simp_all; rw [Bool.eq_iff_iff]; simp; omega))))
  by_cases k4 : m.kind = 4
  · have HE : Hid (ok = (decide (m.amt = 0) && decide (m.within = 0))) := Lib.hid (by rw [HO.out]; unfold okK; rw [if_neg (show ¬ m.cl.kind = 1 from k1)]; exact if_pos (.inr k4))
    rw [k4] at c1
    clear k1 k2 k4 HO
    go_wp2_with (first | (go_at_call_of 43 (m.party); with_reducible refine (q3.out _).mono ?_; rintro e w3 ⟨rfl, rfl⟩) | (go_at_call_of 43 (m.other); with_reducible refine (q4.out _).mono ?_; rintro e w3 ⟨rfl, rfl⟩))
    all_goals go_ret
    all_goals refine ⟨?_, HB2.out⟩
    all_goals (first | (rw [HE.out]; done) | (rw [HE.out]; (first | (simp_all; done) | (simp_all; omega) | (simp_all; rw [Bool.eq_iff_iff]; simp; done) | (simp_all; rw [Bool.eq_iff_iff]; simp; omega))))
  by_cases k3 : m.kind = 3
  · obtain ⟨r, hr⟩ : ∃ r, r = decide (m.rep.toList = []) := ⟨_, rfl⟩
    have HE : Hid (ok = (decide (m.amt = 0) && decide (m.within = 0) && r)) := Lib.hid (by rw [HO.out, hr]; unfold okK; rw [if_neg (show ¬ m.cl.kind = 1 from k1), if_neg (show ¬ (m.cl.kind = 2 ∨ m.cl.kind = 4) from fun h => h.elim k2 k4)]; exact if_pos k3)
    have hr2 : (m.rep.toList == []) = r := by rw [hr, Bool.eq_iff_iff]; simp
    rw [k3] at c1
    clear k1 k2 k3 k4 HO hr
    cases r
    all_goals go_wp2_with (first | (go_at_call_of 43 (m.party); with_reducible refine (q3.out _).mono ?_; rintro e w3 ⟨rfl, rfl⟩) | (go_at_call_of 43 (m.other); with_reducible refine (q4.out _).mono ?_; rintro e w3 ⟨rfl, rfl⟩))
    all_goals go_ret
    all_goals refine ⟨?_, HB2.out⟩
    all_goals (first | (rw [HE.out]; done) | (rw [HE.out]; (first | (simp_all; done) | (simp_all; omega) | (simp_all; rw [Bool.eq_iff_iff]; simp; done) | (simp_all; rw [Bool.eq_iff_iff]; simp; omega))))
  · have HE : Hid (ok = false) := Lib.hid (by rw [HO.out]; unfold okK; rw [if_neg (show ¬ m.cl.kind = 1 from k1), if_neg (show ¬ (m.cl.kind = 2 ∨ m.cl.kind = 4) from fun h => h.elim k2 k4)]; exact if_neg k3)
    clear HO
    go_wp2_with (first | (go_at_call_of 43 (m.party); with_reducible refine (q3.out _).mono ?_; rintro e w3 ⟨rfl, rfl⟩) | (go_at_call_of 43 (m.other); with_reducible refine (q4.out _).mono ?_; rintro e w3 ⟨rfl, rfl⟩))
    go_ret
    exact ⟨by rw [HE.out]; rfl, HB2.out⟩

end Go.Proofs.Ytlionlbihmldlaa.Cl
