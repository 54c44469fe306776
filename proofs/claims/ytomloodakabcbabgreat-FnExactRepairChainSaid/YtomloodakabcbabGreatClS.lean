/-
  l6Find and l6Clause of the model.
-/
import Derived.Test.YtomloodakabcbabGreatClQ
namespace Go.Proofs.YtomloodakabcbabGreat.Cl
open Go.RowKit Go.Proofs.YtomloodakabcbabGreat.Cond Go.Proofs.YtomloodakabcbabGreat.Gx
set_option linter.unusedVariables false
set_option linter.unusedSimpArgs false

theorem ct_get {x : Kt} {k : Nat} (hk : k < x.ms.length) : ∃ h : k < x.ct.ls.length, x.ct.ls[k] = x.ms[k].cl := ⟨by simpa [Kt.ct] using hk, by simp [Kt.ct]⟩

/-- Clause i of the contract that lies in memory. -/
structure CAt (x : Kt) (i : Nat) (m : M) : Prop where
  lt : i < x.ms.length
  eq : m = x.ms[i]
theorem CAt.cl {x : Kt} {i : Nat} {m : M} (h : CAt x i m) : ∃ hh : i < x.ct.ls.length, x.ct.ls[i] = m.cl := by
  obtain ⟨h1, h2⟩ := ct_get h.lt
  exact ⟨h1, by rw [h2]; exact congrArg M.cl h.eq.symm⟩
theorem LiC.clause {w : World} {B : Nat} {x : Kt} (h : LiC w B x) {i : Nat} {m : M} (hm : CAt x i m) : LiM w B m := by rw [hm.eq]; exact h.c.all _ (List.getElem_mem hm.lt)
/-- What l6Clause asks first. -/
structure Tst (np : Nat) (m : M) (t0 t1 t2 t3 t4 t5 t6 t7 t8 : Bool) : Prop where
  e0 : t0 = isNm m.id
  e1 : t1 = isNm m.act
  e2 : t2 = (decide (1 ≤ m.kind) && decide (m.kind ≤ 4))
  e3 : t3 = (decide (0 ≤ m.party) && decide (m.party ≤ (np : Int) - 1))
  e4 : t4 = (decide (0 ≤ m.other) && decide (m.other ≤ (np : Int) - 1))
  e5 : t5 = decide (m.party = m.other)
  e6 : t6 = m.k.cond.good
  e7 : t7 = (decide (0 ≤ m.amt) && decide (m.amt ≤ 1000000))
  e8 : t8 = (decide (0 ≤ m.within) && decide (m.within ≤ 400))
theorem Tst.c {np : Nat} {m : M} {t0 t1 t2 t3 t4 t5 t6 t7 t8 : Bool} (h : Tst np m t0 t1 t2 t3 t4 t5 t6 t7 t8) : okC np m.cl = (t0 && t1 && t2 && t3 && t4 && !t5 && t6) := by
  rw [h.e0, h.e1, h.e2, h.e3, h.e4, h.e5, h.e6]; rfl
theorem Tst.a {np : Nat} {m : M} {t0 t1 t2 t3 t4 t5 t6 t7 t8 : Bool} (h : Tst np m t0 t1 t2 t3 t4 t5 t6 t7 t8) : okA m.cl = (t7 && t8 && (decide (m.kind = 1) || (decide (m.amt = 0) && decide (m.within = 0)))) := by
  rw [h.e7, h.e8]; rfl
theorem okL_eq (np : Nat) (ls : List L) (i : Nat) (m : M) : okL np ls i m.cl = (okC np m.cl && okA m.cl && okR ls i m.cl) := rfl
theorem kind_at {x : Kt} {k : Nat} {p : M} (h : CAt x k p) : kindAt x.ct.ls k = p.kind := by
  obtain ⟨h1, h2⟩ := h.cl
  unfold kindAt
  rw [dif_pos h1, h2]
  rfl

set_option maxHeartbeats 4000000 in
theorem l6Find (x : Kt) (id : ByteArray) (w : World) (h : LiC w w.heap.size x) :
    Calls Tryz.prog 30 #[x.val, .string id] w fun e w' => e = .returned (.int .i64 (fndI x.ct.ls id)) ∧ Below w.heap.size w w' := by
  obtain ⟨X, hX⟩ : ∃ X, X = w.alloc (.cells #[.slice x.A1 x.n1 x.c1, .slice x.A2 x.n2 x.c2] 32) := ⟨_, rfl⟩
  have B0 : Below w.heap.size w X := by rw [hX]; exact below1 _ _
  have HL := Lib.hid (h.c.on B0)
  have HLL : Hid (x.ct.ls.length = x.n2) := Lib.hid (by rw [h.c.len]; simp [Kt.ct])
  have P0 : Hid (Bk w.heap.size X [.slice x.A1 x.n1 x.c1, .slice x.A2 x.n2 x.c2]) := Lib.hid (by rw [hX]; exact Bk.new _ _ _)
  have HB := Lib.hid B0
  have HX := Lib.hid hX
  have hn9 : x.n2 ≤ 9223372036854775807 := Nat.le_trans h.c.nc h.c.cm
  clear h B0 hX
  go_enter Tryz.func30, Tryz.ntmps30
  go_wp2_with fail
  go_loopw [5] (fun i wr => ∃ k : Nat, k ≤ x.n2 ∧ i = .int .i64 k ∧ Hid (∀ j, ∀ h : j < x.ct.ls.length, j < k → hasId id x.ct.ls[j] = false) ∧ Hid (Below X.heap.size X wr)) (fun i _ => x.n2 - (intOf i).toNat)
  case atStart => exact ⟨0, Nat.zero_le _, rfl, Lib.hid fun j _ h => by omega, by rw [← HX.out]; exact Lib.hid (Below.refl _ _)⟩
  case round =>
    obtain ⟨k, hk, rfl, HK, HB2⟩ := hrel
    have p1 := (P0.out.on HB2.out).c 1 (by simp)
    simp only [List.getElem_cons_succ, List.getElem_cons_zero] at p1
    have HBW := Lib.hid (HB.out.trans (HB2.out.mono HB.out.size))
    by_cases hlt : k < x.n2
    · have hk' : k < x.ms.length := by have := HL.out.len; omega
      obtain ⟨A2, hA2⟩ : ∃ A, A = x.A2 := ⟨_, rfl⟩
      obtain ⟨b, o, e, hB, hc⟩ := HL.out.at_ (by omega)
      obtain ⟨p, hp⟩ : ∃ p, p = x.ms[k] := ⟨_, rfl⟩
      have hE := (hc k hk').alike (HB2.out.block b hB)
      rw [← hp] at hE
      obtain ⟨c0, -⟩ := e12 hE
      rw [e] at p1
      have hk2 : k < x.ct.ls.length := by simpa [Kt.ct] using hk'
      have HKC : Hid (x.ct.ls[k] = p.cl) := Lib.hid (by rw [hp]; simp [Kt.ct])
      have i0 : (0 : Int) ≤ (k : Int) := by omega
      have i1 : (k : Int) < (x.n2 : Int) := by omega
      clear hp hc hE e hA2
      by_cases hid : p.id.toList = id.toList
      · have hb1 : (p.id.toList == id.toList) = true := by simpa using hid
        have HF : Hid (fndI x.ct.ls id = (k : Int)) := Lib.hid (by
          have : fnd x.ct.ls id = k := fnd_at hk2 (fun j hj => HK.out j (by omega) hj) (by rw [HKC.out]; exact decide_eq_true hid)
          unfold fndI
          rw [this, if_pos hk2])
        clear hid
        go_wp2_with fail
        go_ret
        exact ⟨by rw [HF.out]; rfl, HBW.out⟩
      · have hb1 : (p.id.toList == id.toList) = false := by simpa using hid
        have HK2 : Hid (∀ j, ∀ h : j < x.ct.ls.length, j < k + 1 → hasId id x.ct.ls[j] = false) := Lib.hid fun j h hj => by
          by_cases e : j = k
          · subst e; rw [HKC.out]; exact decide_eq_false hid
          · exact HK.out j h (by omega)
        clear hid
        go_wp2_with fail
        go_roundw
        case rel => exact ⟨k + 1, by omega, by go_num, HK2, HB2⟩
        case measure => simp [intOf]; omega
    · have HF : Hid (fndI x.ct.ls id = -1) := Lib.hid (by
        have : fnd x.ct.ls id = x.ct.ls.length := fnd_no (fun j hj => HK.out j hj (by have := HLL.out; omega))
        unfold fndI
        rw [if_neg (by omega)])
      go_wp2_with fail
      go_ret
      exact ⟨by rw [HF.out]; rfl, HBW.out⟩

set_option maxRecDepth 100000 in
set_option maxHeartbeats 16000000 in
theorem l6Clause (x : Kt) (i : Nat) (m : M) (w : World) (h : LiC w w.heap.size x) (hi : CAt x i m) (hw : m.cl.wt ≤ 1048576) (ok : Bool) (hok : ok = okL x.n1 x.ct.ls i m.cl) :
    Calls Tryz.prog 31 #[x.val, .int .i64 (i : Int)] w fun e w' => e = .returned (.bool ok) ∧ Below w.heap.size w w' := by
  obtain ⟨X, hX⟩ : ∃ X, X = (w.alloc (.cells #[.slice x.A1 x.n1 x.c1, .slice x.A2 x.n2 x.c2] 32)).alloc (.cells #[.string m.id, .int .i64 m.kind, .int .i64 m.party, .string m.act, .int .i64 m.other, .int .i64 m.amt, .int .i64 m.k.op, .string m.k.nm, .int .i64 m.k.day, .slice m.k.A m.k.ps.length m.k.cap, .int .i64 m.within, .string m.rep] 70) := ⟨_, rfl⟩
  have B0 : Below w.heap.size w X := by rw [hX]; exact (below1 _ _).alloc (by simp) _
  have HL := Lib.hid (h.on B0)
  have HLM := (h.clause hi).on B0
  have P0 : Hid (Bk w.heap.size X [.slice x.A1 x.n1 x.c1, .slice x.A2 x.n2 x.c2]) := Lib.hid (by rw [hX]; exact (Bk.new w #[.slice x.A1 x.n1 x.c1, .slice x.A2 x.n2 x.c2] 32).alloc _)
  have Q0 : Hid (Bk (w.heap.size + 1) X m.cells) := Lib.hid (by
    rw [hX]
    have := Bk.new (w.alloc (.cells #[.slice x.A1 x.n1 x.c1, .slice x.A2 x.n2 x.c2] 32)) #[.string m.id, .int .i64 m.kind, .int .i64 m.party, .string m.act, .int .i64 m.other, .int .i64 m.amt, .int .i64 m.k.op, .string m.k.nm, .int .i64 m.k.day, .slice m.k.A m.k.ps.length m.k.cap, .int .i64 m.within, .string m.rep] 70
    rw [World.size_alloc] at this
    exact this)
  have H1 := h.p.nc
  have H2 := h.p.cm
  unfold maxLen at H2
  have hn1 : x.n1 ≤ 9223372036854775807 := by omega
  have hn2 : x.n2 ≤ 9223372036854775807 := Nat.le_trans h.c.nc h.c.cm
  have hi2 : i < x.n2 := by have := hi.lt; have := h.c.len; omega
  obtain ⟨b, oo, eA, hB, hc⟩ := h.c.at_ (by have := hi.lt; omega)
  have hE := hc i hi.lt
  rw [← hi.eq] at hE
  obtain ⟨c0, c1, c2, c3, c4, c5, c6, c7, c8, c9, c10, c11⟩ := e12 (hE.alike ((below1 w (.cells #[.slice x.A1 x.n1 x.c1, .slice x.A2 x.n2 x.c2] 32)).block b hB))
  have HB := Lib.hid B0
  have HI := Lib.hid hi
  have HAA := Lib.hid eA
  have HEE := Lib.hid (And.intro hB hc)
  obtain ⟨t0, e0⟩ : ∃ t, t = isNm m.id := ⟨_, rfl⟩
  obtain ⟨t1, e1⟩ : ∃ t, t = isNm m.act := ⟨_, rfl⟩
  obtain ⟨t2, e2⟩ : ∃ t, t = (decide (1 ≤ m.kind) && decide (m.kind ≤ 4)) := ⟨_, rfl⟩
  obtain ⟨t3, e3⟩ : ∃ t, t = (decide (0 ≤ m.party) && decide (m.party ≤ (x.n1 : Int) - 1)) := ⟨_, rfl⟩
  obtain ⟨t4, e4⟩ : ∃ t, t = (decide (0 ≤ m.other) && decide (m.other ≤ (x.n1 : Int) - 1)) := ⟨_, rfl⟩
  obtain ⟨t5, e5⟩ : ∃ t, t = decide (m.party = m.other) := ⟨_, rfl⟩
  obtain ⟨t6, e6⟩ : ∃ t, t = m.k.cond.good := ⟨_, rfl⟩
  obtain ⟨t7, e7⟩ : ∃ t, t = (decide (0 ≤ m.amt) && decide (m.amt ≤ 1000000)) := ⟨_, rfl⟩
  obtain ⟨t8, e8⟩ : ∃ t, t = (decide (0 ≤ m.within) && decide (m.within ≤ 400)) := ⟨_, rfl⟩
  obtain ⟨u1, f1⟩ : ∃ t, t = decide (m.kind = 1) := ⟨_, rfl⟩
  obtain ⟨u2, f2⟩ : ∃ t, t = decide (m.amt = 0) := ⟨_, rfl⟩
  obtain ⟨u3, f3⟩ : ∃ t, t = decide (m.within = 0) := ⟨_, rfl⟩
  have HT : Hid (Tst x.n1 m t0 t1 t2 t3 t4 t5 t6 t7 t8) := Lib.hid ⟨e0, e1, e2, e3, e4, e5, e6, e7, e8⟩
  have HOK : Hid (ok = ((t0 && t1 && t2 && t3 && t4 && !t5 && t6) && (t7 && t8 && (u1 || (u2 && u3))) && okR x.ct.ls i m.cl)) := Lib.hid (by rw [hok, okL_eq, HT.out.c, HT.out.a, f1, f2, f3])
  have q0 : Hid (∀ v, Calls Tryz.prog 44 #[.string m.id] v fun e w' => e = .returned (.bool t0) ∧ v = w') := Lib.hid fun v => by rw [e0]; exact l5Name _ v
  have q1 : Hid (∀ v, Calls Tryz.prog 44 #[.string m.act] v fun e w' => e = .returned (.bool t1) ∧ v = w') := Lib.hid fun v => by rw [e1]; exact l5Name _ v
  have q2 : Hid (∀ v, Calls Tryz.prog 16 #[.int .i64 m.kind, .int .i64 1, .int .i64 4] v fun e w' => e = .returned (.bool t2) ∧ v = w') := Lib.hid fun v => by rw [e2]; exact l1In _ _ _ v
  have q3 : Hid (∀ v, Calls Tryz.prog 16 #[.int .i64 m.party, .int .i64 0, .int .i64 ((x.n1 : Int) - 1)] v fun e w' => e = .returned (.bool t3) ∧ v = w') := Lib.hid fun v => by rw [e3]; exact l1In _ _ _ v
  have q4 : Hid (∀ v, Calls Tryz.prog 16 #[.int .i64 m.other, .int .i64 0, .int .i64 ((x.n1 : Int) - 1)] v fun e w' => e = .returned (.bool t4) ∧ v = w') := Lib.hid fun v => by rw [e4]; exact l1In _ _ _ v
  have q6 : Hid (Calls Tryz.prog 46 #[m.k.val] X fun e w' => e = .returned (.bool t6) ∧ Below X.heap.size X w') := Lib.hid (by rw [e6]; exact l5Good m.k X HLM.k (by simp only [L.wt, M.cl] at hw; omega))
  have q7 : Hid (∀ v, Calls Tryz.prog 16 #[.int .i64 m.amt, .int .i64 0, .int .i64 1000000] v fun e w' => e = .returned (.bool t7) ∧ v = w') := Lib.hid fun v => by rw [e7]; exact l1In _ _ _ v
  have q8 : Hid (∀ v, Calls Tryz.prog 16 #[.int .i64 m.within, .int .i64 0, .int .i64 400] v fun e w' => e = .returned (.bool t8) ∧ v = w') := Lib.hid fun v => by rw [e8]; exact l1In _ _ _ v
  have g5 : (m.party == m.other) = t5 := by rw [e5]; rfl
  have g1 : (m.kind == 1) = u1 := by rw [f1]; rfl
  have g1' : (m.kind != 1) = !u1 := by rw [f1]; rfl
  have g2 : (m.amt == 0) = u2 := by rw [f2]; rfl
  have g2' : (m.amt != 0) = !u2 := by rw [f2]; rfl
  have g3 : (m.within == 0) = u3 := by rw [f3]; rfl
  have g3' : (m.within != 0) = !u3 := by rw [f3]; rfl
  have HX := Lib.hid hX
  clear h hi hw hok B0 HLM hE hc hB e0 e1 e2 e3 e4 e5 e6 e7 e8 f1 f2 f3 H1 H2 hX
  rw [eA] at HX P0 c0 c1 c2 c3 c4 c5 c6 c7 c8 c9 c10 c11
  have HFN : Hid (∀ v, Below X.heap.size X v → Calls Tryz.prog 30 #[.agg #[.slice x.A1 x.n1 x.c1, .slice (some ⟨b, oo, none⟩) x.n2 x.c2], .string m.rep] v fun e w' => e = .returned (.int .i64 (fndI x.ct.ls m.rep)) ∧ Below v.heap.size v w') := Lib.hid fun v hv => by
    have := l6Find x m.rep v (HL.out.on hv)
    rw [show x.val = .agg #[.slice x.A1 x.n1 x.c1, .slice x.A2 x.n2 x.c2] from rfl, eA] at this
    exact this
  show Calls Tryz.prog 31 #[.agg #[.slice x.A1 x.n1 x.c1, .slice x.A2 x.n2 x.c2], .int .i64 (i : Int)] w fun e w' => e = .returned (.bool ok) ∧ Below w.heap.size w w'
  rw [eA]
  clear eA
  go_enter Tryz.func31, Tryz.ntmps31
  cases t0
  · skip
    go_wp2_with (first | (go_at_call_of 44 (m.id); with_reducible refine (q0.out _).mono ?_; rintro e w2 ⟨rfl, rfl⟩) | (go_at_call_of 44 (m.act); with_reducible refine (q1.out _).mono ?_; rintro e w2 ⟨rfl, rfl⟩) | (go_at_call_of 16 (m.kind); with_reducible refine (q2.out _).mono ?_; rintro e w2 ⟨rfl, rfl⟩) | (go_at_call_of 16 (m.party); with_reducible refine (q3.out _).mono ?_; rintro e w2 ⟨rfl, rfl⟩) | (go_at_call_of 16 (m.other); with_reducible refine (q4.out _).mono ?_; rintro e w2 ⟨rfl, rfl⟩))
    go_ret
    exact ⟨by rw [HOK.out]; rfl, by rw [← HX.out]; exact HB.out⟩
  · skip
    cases t1
    · skip
      go_wp2_with (first | (go_at_call_of 44 (m.id); with_reducible refine (q0.out _).mono ?_; rintro e w2 ⟨rfl, rfl⟩) | (go_at_call_of 44 (m.act); with_reducible refine (q1.out _).mono ?_; rintro e w2 ⟨rfl, rfl⟩) | (go_at_call_of 16 (m.kind); with_reducible refine (q2.out _).mono ?_; rintro e w2 ⟨rfl, rfl⟩) | (go_at_call_of 16 (m.party); with_reducible refine (q3.out _).mono ?_; rintro e w2 ⟨rfl, rfl⟩) | (go_at_call_of 16 (m.other); with_reducible refine (q4.out _).mono ?_; rintro e w2 ⟨rfl, rfl⟩))
      go_ret
      exact ⟨by rw [HOK.out]; rfl, by rw [← HX.out]; exact HB.out⟩
    · skip
      cases t2
      · skip
        go_wp2_with (first | (go_at_call_of 44 (m.id); with_reducible refine (q0.out _).mono ?_; rintro e w2 ⟨rfl, rfl⟩) | (go_at_call_of 44 (m.act); with_reducible refine (q1.out _).mono ?_; rintro e w2 ⟨rfl, rfl⟩) | (go_at_call_of 16 (m.kind); with_reducible refine (q2.out _).mono ?_; rintro e w2 ⟨rfl, rfl⟩) | (go_at_call_of 16 (m.party); with_reducible refine (q3.out _).mono ?_; rintro e w2 ⟨rfl, rfl⟩) | (go_at_call_of 16 (m.other); with_reducible refine (q4.out _).mono ?_; rintro e w2 ⟨rfl, rfl⟩))
        go_ret
        exact ⟨by rw [HOK.out]; rfl, by rw [← HX.out]; exact HB.out⟩
      · skip
        cases t3
        · skip
          go_wp2_with (first | (go_at_call_of 44 (m.id); with_reducible refine (q0.out _).mono ?_; rintro e w2 ⟨rfl, rfl⟩) | (go_at_call_of 44 (m.act); with_reducible refine (q1.out _).mono ?_; rintro e w2 ⟨rfl, rfl⟩) | (go_at_call_of 16 (m.kind); with_reducible refine (q2.out _).mono ?_; rintro e w2 ⟨rfl, rfl⟩) | (go_at_call_of 16 (m.party); with_reducible refine (q3.out _).mono ?_; rintro e w2 ⟨rfl, rfl⟩) | (go_at_call_of 16 (m.other); with_reducible refine (q4.out _).mono ?_; rintro e w2 ⟨rfl, rfl⟩))
          go_ret
          exact ⟨by rw [HOK.out]; rfl, by rw [← HX.out]; exact HB.out⟩
        · skip
          cases t4
          · skip
            go_wp2_with (first | (go_at_call_of 44 (m.id); with_reducible refine (q0.out _).mono ?_; rintro e w2 ⟨rfl, rfl⟩) | (go_at_call_of 44 (m.act); with_reducible refine (q1.out _).mono ?_; rintro e w2 ⟨rfl, rfl⟩) | (go_at_call_of 16 (m.kind); with_reducible refine (q2.out _).mono ?_; rintro e w2 ⟨rfl, rfl⟩) | (go_at_call_of 16 (m.party); with_reducible refine (q3.out _).mono ?_; rintro e w2 ⟨rfl, rfl⟩) | (go_at_call_of 16 (m.other); with_reducible refine (q4.out _).mono ?_; rintro e w2 ⟨rfl, rfl⟩))
            go_ret
            exact ⟨by rw [HOK.out]; rfl, by rw [← HX.out]; exact HB.out⟩
          · skip
            cases t5
            rotate_left
            · skip
              go_wp2_with (first | (go_at_call_of 44 (m.id); with_reducible refine (q0.out _).mono ?_; rintro e w2 ⟨rfl, rfl⟩) | (go_at_call_of 44 (m.act); with_reducible refine (q1.out _).mono ?_; rintro e w2 ⟨rfl, rfl⟩) | (go_at_call_of 16 (m.kind); with_reducible refine (q2.out _).mono ?_; rintro e w2 ⟨rfl, rfl⟩) | (go_at_call_of 16 (m.party); with_reducible refine (q3.out _).mono ?_; rintro e w2 ⟨rfl, rfl⟩) | (go_at_call_of 16 (m.other); with_reducible refine (q4.out _).mono ?_; rintro e w2 ⟨rfl, rfl⟩))
              go_ret
              exact ⟨by rw [HOK.out]; rfl, by rw [← HX.out]; exact HB.out⟩
            · skip
              cases t6
              · skip
                go_wp2_with (first | (first | (go_at_call_of 44 (m.id); with_reducible refine (q0.out _).mono ?_; rintro e w2 ⟨rfl, rfl⟩) | (go_at_call_of 44 (m.act); with_reducible refine (q1.out _).mono ?_; rintro e w2 ⟨rfl, rfl⟩) | (go_at_call_of 16 (m.kind); with_reducible refine (q2.out _).mono ?_; rintro e w2 ⟨rfl, rfl⟩) | (go_at_call_of 16 (m.party); with_reducible refine (q3.out _).mono ?_; rintro e w2 ⟨rfl, rfl⟩) | (go_at_call_of 16 (m.other); with_reducible refine (q4.out _).mono ?_; rintro e w2 ⟨rfl, rfl⟩)) | (go_at_call 46; (try rw [← HX.out]); refine q6.out.mono ?_; rintro e w2 ⟨rfl, hb2⟩; refine Hid.out ?_))
                refine Lib.hid ?_
                have HB2 := Lib.hid (HB.out.trans (hb2.mono HB.out.size))
                clear hb2
                go_wp2_with fail
                go_ret
                exact ⟨by rw [HOK.out]; rfl, HB2.out⟩
              · skip
                go_wp2_with (first | (first | (go_at_call_of 44 (m.id); with_reducible refine (q0.out _).mono ?_; rintro e w2 ⟨rfl, rfl⟩) | (go_at_call_of 44 (m.act); with_reducible refine (q1.out _).mono ?_; rintro e w2 ⟨rfl, rfl⟩) | (go_at_call_of 16 (m.kind); with_reducible refine (q2.out _).mono ?_; rintro e w2 ⟨rfl, rfl⟩) | (go_at_call_of 16 (m.party); with_reducible refine (q3.out _).mono ?_; rintro e w2 ⟨rfl, rfl⟩) | (go_at_call_of 16 (m.other); with_reducible refine (q4.out _).mono ?_; rintro e w2 ⟨rfl, rfl⟩)) | (go_at_call 46; (try rw [← HX.out]); refine q6.out.mono ?_; rintro e w2 ⟨rfl, hb2⟩; refine Hid.out ?_))
                refine Lib.hid ?_
                have HB2 := Lib.hid (HB.out.trans (hb2.mono HB.out.size))
                have P2 := Lib.hid (P0.out.on hb2)
                have Q2 := Lib.hid (Q0.out.on hb2)
                have HFN2 := Lib.hid (HFN.out w2 hb2)
                clear hb2 c0 c1 c2 c3 c4 c5 c6 c7 c8 c9 c10 c11
                obtain ⟨c0, c1, c2, c3, c4, c5, c6, c7, c8, c9, c10, c11⟩ := b12 Q2.out
                have p0 := P2.out.c 0 (by simp)
                have p1 := P2.out.c 1 (by simp)
                simp only [List.getElem_cons_succ, List.getElem_cons_zero] at p0 p1
                cases t7
                · skip
                  go_wp2_with (first | (go_at_call_of 16 (m.amt); with_reducible refine (q7.out _).mono ?_; rintro e w3 ⟨rfl, rfl⟩) | (go_at_call_of 16 (m.within); with_reducible refine (q8.out _).mono ?_; rintro e w3 ⟨rfl, rfl⟩))
                  go_ret
                  exact ⟨by rw [HOK.out]; rfl, HB2.out⟩
                · skip
                  cases t8
                  · skip
                    go_wp2_with (first | (go_at_call_of 16 (m.amt); with_reducible refine (q7.out _).mono ?_; rintro e w3 ⟨rfl, rfl⟩) | (go_at_call_of 16 (m.within); with_reducible refine (q8.out _).mono ?_; rintro e w3 ⟨rfl, rfl⟩))
                    go_ret
                    exact ⟨by rw [HOK.out]; rfl, HB2.out⟩
                  · skip
                    have HKW : u1 = true ∨ u1 = false ∧ u2 = false ∨ u1 = false ∧ u2 = true ∧ u3 = false ∨ u1 = false ∧ u2 = true ∧ u3 = true := by cases u1 <;> cases u2 <;> cases u3 <;> simp
                    rcases HKW with rfl | ⟨rfl, rfl⟩ | ⟨rfl, rfl, rfl⟩ | ⟨rfl, rfl, rfl⟩
                    rotate_left 1
                    · skip
                      go_wp2_with (first | (go_at_call_of 16 (m.amt); with_reducible refine (q7.out _).mono ?_; rintro e w3 ⟨rfl, rfl⟩) | (go_at_call_of 16 (m.within); with_reducible refine (q8.out _).mono ?_; rintro e w3 ⟨rfl, rfl⟩))
                      go_ret
                      exact ⟨by rw [HOK.out]; rfl, HB2.out⟩
                    · skip
                      go_wp2_with (first | (go_at_call_of 16 (m.amt); with_reducible refine (q7.out _).mono ?_; rintro e w3 ⟨rfl, rfl⟩) | (go_at_call_of 16 (m.within); with_reducible refine (q8.out _).mono ?_; rintro e w3 ⟨rfl, rfl⟩))
                      go_ret
                      exact ⟨by rw [HOK.out]; rfl, HB2.out⟩
                    · skip
                      simp only [Bool.true_and, Bool.and_true, Bool.not_false, Bool.true_or, Bool.false_or, Bool.or_true] at HOK
                      by_cases hr : m.rep.toList = []
                      · have hr2 : (m.rep.toList == []) = true := by rw [hr]; rfl
                        have HRR : Hid (okR x.ct.ls i m.cl = true) := Lib.hid (by show (decide (m.rep.toList = []) || _) = true; rw [decide_eq_true hr]; rfl)
                        go_wp2_with (first | (go_at_call_of 16 (m.amt); with_reducible refine (q7.out _).mono ?_; rintro e w3 ⟨rfl, rfl⟩) | (go_at_call_of 16 (m.within); with_reducible refine (q8.out _).mono ?_; rintro e w3 ⟨rfl, rfl⟩))
                        go_ret
                        exact ⟨by rw [HOK.out, HRR.out]; rfl, HB2.out⟩
                      have hr2 : (m.rep.toList == []) = false := by simpa using hr
                      have HRR : Hid (okR x.ct.ls i m.cl = (decide (fnd x.ct.ls m.rep < x.ct.ls.length) && !decide (fnd x.ct.ls m.rep = i) && decide (kindAt x.ct.ls (fnd x.ct.ls m.rep) = 1) && !decide (m.kind = 3))) := Lib.hid (by show (decide (m.rep.toList = []) || _) = _; rw [decide_eq_false hr]; rfl)
                      obtain ⟨k, hk⟩ : ∃ k, k = fnd x.ct.ls m.rep := ⟨_, rfl⟩
                      by_cases hf : k < x.ct.ls.length
                      rotate_left
                      · have HK1 : Hid (fndI x.ct.ls m.rep = -1) := Lib.hid (by unfold fndI; rw [← hk, if_neg hf])
                        have HO : Hid (ok = false) := Lib.hid (by rw [HOK.out, HRR.out, ← hk, decide_eq_false hf]; simp)
                        have HFN3 := HFN2.out
                        rw [HK1.out] at HFN3
                        have HFN4 := Lib.hid HFN3
                        clear HFN3 hk hf hr
                        go_wp2_with (first | (first | (go_at_call_of 16 (m.amt); with_reducible refine (q7.out _).mono ?_; rintro e w3 ⟨rfl, rfl⟩) | (go_at_call_of 16 (m.within); with_reducible refine (q8.out _).mono ?_; rintro e w3 ⟨rfl, rfl⟩)) | (go_at_call 30; refine HFN4.out.mono ?_; rintro e w4 ⟨rfl, hb4⟩))
                        go_ret
                        exact ⟨by rw [HO.out]; rfl, HB2.out.trans (hb4.mono HB2.out.size)⟩
                      have hkm : k < x.ms.length := by simpa [Kt.ct] using hf
                      obtain ⟨p, hp⟩ : ∃ p, p = x.ms[k] := ⟨_, rfl⟩
                      have HCP : Hid (CAt x k p) := Lib.hid ⟨hkm, hp⟩
                      have HK1 : Hid (fndI x.ct.ls m.rep = (k : Int)) := Lib.hid (by unfold fndI; rw [← hk, if_pos hf])
                      have HRB : Hid (okR x.ct.ls i m.cl = (!decide (k = i) && decide (p.kind = 1) && !decide (m.kind = 3))) := Lib.hid (by rw [HRR.out, ← hk, decide_eq_true hf, kind_at HCP.out]; rfl)
                      have HFN3 := HFN2.out
                      rw [HK1.out] at HFN3
                      have HFN4 := Lib.hid HFN3
                      have hk0 : (0 : Int) ≤ (k : Int) := by omega
                      have hk2 : k < x.n2 := by have := HL.out.c.len; omega
                      have hk2' : (k : Int) < (x.n2 : Int) := by omega
                      clear HFN3 hk hf hr hkm hp
                      go_wp2_with (first | (first | (go_at_call_of 16 (m.amt); with_reducible refine (q7.out _).mono ?_; rintro e w3 ⟨rfl, rfl⟩) | (go_at_call_of 16 (m.within); with_reducible refine (q8.out _).mono ?_; rintro e w3 ⟨rfl, rfl⟩)) | (go_at_call 30; refine HFN4.out.mono ?_; rintro e w4 ⟨rfl, hb4⟩; refine Hid.out ?_))
                      refine Lib.hid ?_
                      have HB4 := Lib.hid (HB2.out.trans (hb4.mono HB2.out.size))
                      have Q4 := Lib.hid (Q2.out.on hb4)
                      have P4 := Lib.hid (P2.out.on hb4)
                      clear hb4 c0 c1 c2 c3 c4 c5 c6 c7 c8 c9 c10 c11 p0 p1
                      have d1 := (b12 Q4.out).2.1
                      have p1 := P4.out.c 1 (by simp)
                      simp only [List.getElem_cons_succ, List.getElem_cons_zero] at p1
                      have hE := HEE.out.2 k HCP.out.lt
                      rw [← HCP.out.eq] at hE
                      have d2 := (e12 (hE.alike (HB4.out.block b HEE.out.1))).2.1
                      clear hE
                      by_cases hki : k = i
                      · have hki' : ((k : Int) == (i : Int)) = true := by rw [hki]; simp
                        have hki2 : ((k : Int) != (i : Int)) = false := by rw [hki]; simp
                        have HO : Hid (ok = false) := Lib.hid (by rw [HOK.out, HRB.out, decide_eq_true hki]; simp)
                        clear hki
                        go_wp2_with fail
                        go_ret
                        exact ⟨by rw [HO.out]; rfl, HB4.out⟩
                      have hki' : ((k : Int) == (i : Int)) = false := by rw [beq_eq_false_iff_ne]; omega
                      have hki2 : ((k : Int) != (i : Int)) = true := by rw [bne_iff_ne]; omega
                      obtain ⟨y1, z1⟩ : ∃ y, y = decide (p.kind = 1) := ⟨_, rfl⟩
                      obtain ⟨y2, z2⟩ : ∃ y, y = decide (m.kind = 3) := ⟨_, rfl⟩
                      have HO : Hid (ok = (y1 && !y2)) := Lib.hid (by rw [HOK.out, HRB.out, decide_eq_false hki, z1, z2]; simp)
                      have z1' : (p.kind == 1) = y1 := by rw [z1]; rfl
                      have z2' : (m.kind == 3) = y2 := by rw [z2]; rfl
                      have z2'' : (m.kind != 3) = !y2 := by rw [z2]; rfl
                      clear hki z1 z2
                      cases y1
                      · skip
                        go_wp2_with fail
                        go_ret
                        exact ⟨by rw [HO.out]; rfl, HB4.out⟩
                      cases y2
                      · skip
                        go_wp2_with fail
                        go_ret
                        exact ⟨by rw [HO.out]; rfl, HB4.out⟩
                      · skip
                        go_wp2_with fail
                        go_ret
                        exact ⟨by rw [HO.out]; rfl, HB4.out⟩
                    · skip
                      simp only [Bool.true_and, Bool.and_true, Bool.not_false, Bool.true_or, Bool.false_or, Bool.or_true] at HOK
                      by_cases hr : m.rep.toList = []
                      · have hr2 : (m.rep.toList == []) = true := by rw [hr]; rfl
                        have HRR : Hid (okR x.ct.ls i m.cl = true) := Lib.hid (by show (decide (m.rep.toList = []) || _) = true; rw [decide_eq_true hr]; rfl)
                        go_wp2_with (first | (go_at_call_of 16 (m.amt); with_reducible refine (q7.out _).mono ?_; rintro e w3 ⟨rfl, rfl⟩) | (go_at_call_of 16 (m.within); with_reducible refine (q8.out _).mono ?_; rintro e w3 ⟨rfl, rfl⟩))
                        go_ret
                        exact ⟨by rw [HOK.out, HRR.out]; rfl, HB2.out⟩
                      have hr2 : (m.rep.toList == []) = false := by simpa using hr
                      have HRR : Hid (okR x.ct.ls i m.cl = (decide (fnd x.ct.ls m.rep < x.ct.ls.length) && !decide (fnd x.ct.ls m.rep = i) && decide (kindAt x.ct.ls (fnd x.ct.ls m.rep) = 1) && !decide (m.kind = 3))) := Lib.hid (by show (decide (m.rep.toList = []) || _) = _; rw [decide_eq_false hr]; rfl)
                      obtain ⟨k, hk⟩ : ∃ k, k = fnd x.ct.ls m.rep := ⟨_, rfl⟩
                      by_cases hf : k < x.ct.ls.length
                      rotate_left
                      · have HK1 : Hid (fndI x.ct.ls m.rep = -1) := Lib.hid (by unfold fndI; rw [← hk, if_neg hf])
                        have HO : Hid (ok = false) := Lib.hid (by rw [HOK.out, HRR.out, ← hk, decide_eq_false hf]; simp)
                        have HFN3 := HFN2.out
                        rw [HK1.out] at HFN3
                        have HFN4 := Lib.hid HFN3
                        clear HFN3 hk hf hr
                        go_wp2_with (first | (first | (go_at_call_of 16 (m.amt); with_reducible refine (q7.out _).mono ?_; rintro e w3 ⟨rfl, rfl⟩) | (go_at_call_of 16 (m.within); with_reducible refine (q8.out _).mono ?_; rintro e w3 ⟨rfl, rfl⟩)) | (go_at_call 30; refine HFN4.out.mono ?_; rintro e w4 ⟨rfl, hb4⟩))
                        go_ret
                        exact ⟨by rw [HO.out]; rfl, HB2.out.trans (hb4.mono HB2.out.size)⟩
                      have hkm : k < x.ms.length := by simpa [Kt.ct] using hf
                      obtain ⟨p, hp⟩ : ∃ p, p = x.ms[k] := ⟨_, rfl⟩
                      have HCP : Hid (CAt x k p) := Lib.hid ⟨hkm, hp⟩
                      have HK1 : Hid (fndI x.ct.ls m.rep = (k : Int)) := Lib.hid (by unfold fndI; rw [← hk, if_pos hf])
                      have HRB : Hid (okR x.ct.ls i m.cl = (!decide (k = i) && decide (p.kind = 1) && !decide (m.kind = 3))) := Lib.hid (by rw [HRR.out, ← hk, decide_eq_true hf, kind_at HCP.out]; rfl)
                      have HFN3 := HFN2.out
                      rw [HK1.out] at HFN3
                      have HFN4 := Lib.hid HFN3
                      have hk0 : (0 : Int) ≤ (k : Int) := by omega
                      have hk2 : k < x.n2 := by have := HL.out.c.len; omega
                      have hk2' : (k : Int) < (x.n2 : Int) := by omega
                      clear HFN3 hk hf hr hkm hp
                      go_wp2_with (first | (first | (go_at_call_of 16 (m.amt); with_reducible refine (q7.out _).mono ?_; rintro e w3 ⟨rfl, rfl⟩) | (go_at_call_of 16 (m.within); with_reducible refine (q8.out _).mono ?_; rintro e w3 ⟨rfl, rfl⟩)) | (go_at_call 30; refine HFN4.out.mono ?_; rintro e w4 ⟨rfl, hb4⟩; refine Hid.out ?_))
                      refine Lib.hid ?_
                      have HB4 := Lib.hid (HB2.out.trans (hb4.mono HB2.out.size))
                      have Q4 := Lib.hid (Q2.out.on hb4)
                      have P4 := Lib.hid (P2.out.on hb4)
                      clear hb4 c0 c1 c2 c3 c4 c5 c6 c7 c8 c9 c10 c11 p0 p1
                      have d1 := (b12 Q4.out).2.1
                      have p1 := P4.out.c 1 (by simp)
                      simp only [List.getElem_cons_succ, List.getElem_cons_zero] at p1
                      have hE := HEE.out.2 k HCP.out.lt
                      rw [← HCP.out.eq] at hE
                      have d2 := (e12 (hE.alike (HB4.out.block b HEE.out.1))).2.1
                      clear hE
                      by_cases hki : k = i
                      · have hki' : ((k : Int) == (i : Int)) = true := by rw [hki]; simp
                        have hki2 : ((k : Int) != (i : Int)) = false := by rw [hki]; simp
                        have HO : Hid (ok = false) := Lib.hid (by rw [HOK.out, HRB.out, decide_eq_true hki]; simp)
                        clear hki
                        go_wp2_with fail
                        go_ret
                        exact ⟨by rw [HO.out]; rfl, HB4.out⟩
                      have hki' : ((k : Int) == (i : Int)) = false := by rw [beq_eq_false_iff_ne]; omega
                      have hki2 : ((k : Int) != (i : Int)) = true := by rw [bne_iff_ne]; omega
                      obtain ⟨y1, z1⟩ : ∃ y, y = decide (p.kind = 1) := ⟨_, rfl⟩
                      obtain ⟨y2, z2⟩ : ∃ y, y = decide (m.kind = 3) := ⟨_, rfl⟩
                      have HO : Hid (ok = (y1 && !y2)) := Lib.hid (by rw [HOK.out, HRB.out, decide_eq_false hki, z1, z2]; simp)
                      have z1' : (p.kind == 1) = y1 := by rw [z1]; rfl
                      have z2' : (m.kind == 3) = y2 := by rw [z2]; rfl
                      have z2'' : (m.kind != 3) = !y2 := by rw [z2]; rfl
                      clear hki z1 z2
                      cases y1
                      · skip
                        go_wp2_with fail
                        go_ret
                        exact ⟨by rw [HO.out]; rfl, HB4.out⟩
                      cases y2
                      · skip
                        go_wp2_with fail
                        go_ret
                        exact ⟨by rw [HO.out]; rfl, HB4.out⟩
                      · skip
                        go_wp2_with fail
                        go_ret
                        exact ⟨by rw [HO.out]; rfl, HB4.out⟩

end Go.Proofs.YtomloodakabcbabGreat.Cl
