/-
  Valid contracts by the model: l6Good, IsValidContract.
-/
import Derived.Test.YtomloodakabcbabGreatClG
import Derived.Deep.RegionHeld3
namespace Go.Proofs.YtomloodakabcbabGreat.Cl
open Go.RowKit Go.Proofs.YtomloodakabcbabGreat.Cond Go.Proofs.YtomloodakabcbabGreat.Gx Go.Proofs.YtomloodakabcbabGreat.NdS
set_option linter.unusedVariables false
set_option linter.unusedSimpArgs false

theorem okAll_no {np : Nat} {ls : List L} {k : Nat} (hk : k < ls.length) (h : okI np ls k ls[k] = false) : okAll np ls = false := by
  unfold okAll
  exact decide_eq_false fun hh => by rw [hh k hk] at h; cases h
theorem okAll_yes {np : Nat} {ls : List L} (h : ∀ i, ∀ hi : i < ls.length, okI np ls i ls[i] = true) : okAll np ls = true := decide_eq_true h
theorem fndI_is {ls : List L} {id : ByteArray} {k : Nat} (hk : k < ls.length) : fndI ls id = (k : Int) ↔ fnd ls id = k := by
  unfold fndI
  split
  · omega
  · omega

set_option maxRecDepth 100000 in
set_option maxHeartbeats 8000000 in
theorem l6Good (x : Kt) (w : World) (h : LiC w w.heap.size x) (hw : x.ct.wt ≤ 1048576) :
    Calls Tryz.prog 15 #[x.val] w fun e w' => e = .returned (.bool x.ct.good) ∧ Below w.heap.size w w' := by
  obtain ⟨X, hX⟩ : ∃ X, X = w.alloc (.cells #[.slice x.A1 x.n1 x.c1, .slice x.A2 x.n2 x.c2] 32) := ⟨_, rfl⟩
  have B0 : Below w.heap.size w X := by rw [hX]; exact below1 _ _
  have HL := Lib.hid (h.on B0)
  have P0 : Hid (Bk w.heap.size X [.slice x.A1 x.n1 x.c1, .slice x.A2 x.n2 x.c2]) := Lib.hid (by rw [hX]; exact Bk.new _ _ _)
  have hn1 : x.n1 ≤ 1048576 := by have := h.p.len; simp only [Ct.wt, Kt.ct] at hw; omega
  have hn2 : x.n2 ≤ 1048576 := by have := h.c.len; simp only [Ct.wt, Kt.ct, List.length_map] at hw; omega
  have HLN : Hid (x.n2 = x.ms.length ∧ x.ct.ls.length = x.n2 ∧ x.ct.ss.length = x.n1 ∧ x.ct.ss = x.ss) := Lib.hid ⟨h.c.len, by rw [h.c.len]; simp [Kt.ct], by rw [h.p.len]; rfl, rfl⟩
  have HWT : Hid (∀ m ∈ x.ms, m.cl.wt ≤ 1048576) := Lib.hid fun m hm => Nat.le_trans (wtL_mem (List.mem_map.2 ⟨m, hm, rfl⟩)) (by simp only [Ct.wt, Kt.ct] at hw; omega)
  obtain ⟨t0, e0⟩ : ∃ t, t = (decide (1 ≤ x.n2) && decide (x.n2 ≤ 12)) := ⟨_, rfl⟩
  obtain ⟨t1, e1⟩ : ∃ t, t = (okN x.ss && (decide (2 ≤ x.ss.length) && decide (x.ss.length ≤ 4))) := ⟨_, rfl⟩
  have HGD : Hid (x.ct.good = (t0 && t1 && okAll x.n1 x.ct.ls && decide ((names x.ct.ls).length ≤ 16))) := Lib.hid (by
    have h1 := HLN.out
    rw [e0, e1]
    show (decide (1 ≤ x.ct.ls.length) && decide (x.ct.ls.length ≤ 12) && (okN x.ct.ss && (decide (2 ≤ x.ct.ss.length) && decide (x.ct.ss.length ≤ 4))) && okAll x.ct.ss.length x.ct.ls && _) = _
    rw [h1.2.1, h1.2.2.1, h1.2.2.2, ← h1.2.2.1, h1.2.2.2])
  have H1I : Hid (∀ v, Calls Tryz.prog 16 #[.int .i64 (x.n2 : Int), .int .i64 1, .int .i64 12] v fun e w' => e = .returned (.bool t0) ∧ v = w') := Lib.hid fun v => by
    have := l1In (x.n2 : Int) 1 12 v
    have q1 : decide ((1 : Int) ≤ (x.n2 : Int)) = decide (1 ≤ x.n2) := decide_eq_decide.2 (by omega)
    have q2 : decide ((x.n2 : Int) ≤ 12) = decide (x.n2 ≤ 12) := decide_eq_decide.2 (by omega)
    rw [q1, q2, ← e0] at this
    exact this
  have HPA : Hid (Calls Tryz.prog 29 #[x.val] X fun e w' => e = .returned (.bool t1) ∧ Below X.heap.size X w') := Lib.hid (l6Parties x X HL.out hn1 t1 e1)
  have H12 : Hid (t0 = true → x.n2 ≤ 12) := Lib.hid fun h => by
    rw [e0] at h
    simp only [Bool.and_eq_true, decide_eq_true_eq] at h
    exact h.2
  have HB := Lib.hid B0
  have HX := Lib.hid hX
  clear h B0 hX hw e0 e1
  go_enter Tryz.func15, Tryz.ntmps15
  cases t0
  · go_wp2_with (go_at_call 16; refine (H1I.out _).mono ?_; rintro e w2 ⟨rfl, rfl⟩)
    go_ret
    exact ⟨by rw [HGD.out]; rfl, by rw [← HX.out]; exact HB.out⟩
  have h12 := H12.out rfl
  cases t1
  · go_wp2_with (first | (go_at_call 16; refine (H1I.out _).mono ?_; rintro e w2 ⟨rfl, rfl⟩) | (go_at_call 29; (try rw [← HX.out]); refine HPA.out.mono ?_; rintro e w2 ⟨rfl, hb2⟩))
    go_ret
    exact ⟨by rw [HGD.out]; rfl, HB.out.trans (hb2.mono HB.out.size)⟩
  go_wp2_with (first | (go_at_call 16; refine (H1I.out _).mono ?_; rintro e w2 ⟨rfl, rfl⟩) | (go_at_call 29; (try rw [← HX.out]); refine HPA.out.mono ?_; rintro e w2 ⟨rfl, hb2⟩; refine Hid.out ?_))
  refine Lib.hid ?_
  have HB2 := Lib.hid hb2
  clear hb2 H1I HPA H12
  go_wp2_with fail
  go_loopw [3] (fun i wr => ∃ k : Nat, k ≤ x.n2 ∧ i = .int .i64 k ∧ Hid (∀ j, ∀ h : j < x.ct.ls.length, j < k → okI x.n1 x.ct.ls j x.ct.ls[j] = true) ∧ Hid (Below X.heap.size X wr)) (fun i _ => x.n2 - (intOf i).toNat)
  case atStart => exact ⟨0, Nat.zero_le _, rfl, Lib.hid fun j _ h => by omega, HB2⟩
  case round =>
    clear HB2
    obtain ⟨k, hk, rfl, HK, HB3⟩ := hrel
    have hp0 := (P0.out.on HB3.out).c 0 (by simp)
    have hp1 := (P0.out.on HB3.out).c 1 (by simp)
    simp only [List.getElem_cons_succ, List.getElem_cons_zero] at hp0 hp1
    have HBW := Lib.hid (HB.out.trans (HB3.out.mono HB.out.size))
    by_cases hlt : k < x.n2
    · have hk' : k < x.ms.length := by have := HLN.out.1; omega
      obtain ⟨b, o, e, hB, hc⟩ := HL.out.c.at_ (by omega)
      obtain ⟨p, hp⟩ : ∃ p, p = x.ms[k] := ⟨_, rfl⟩
      have HCP : Hid (CAt x k p) := Lib.hid ⟨hk', hp⟩
      have hkl : k < x.ct.ls.length := by have := HLN.out.2.1; omega
      have HKL : Hid (x.ct.ls[k] = p.cl) := Lib.hid HCP.out.cl.2
      have hE := (hc k hk').alike (HB3.out.block b hB)
      rw [← hp] at hE
      obtain ⟨c0, -⟩ := e12 hE
      have hbw : b < wr.heap.size := Nat.lt_of_lt_of_le hB HB3.out.size
      have hw1 : w.heap.size < wr.heap.size := (P0.out.on HB3.out).lt
      rw [e] at hp1
      have KX : Hid (∀ v, Below wr.heap.size wr v → v.cell? ⟨w.heap.size, 0, none⟩ = some (.slice x.A1 x.n1 x.c1) ∧ v.cell? ⟨w.heap.size, 1, none⟩ = some (.slice (some ⟨b, o, none⟩) x.n2 x.c2) ∧ v.cell? ⟨b, o + k * 12, none⟩ = some (.string p.id)) := Lib.hid fun v hv =>
        ⟨(hv.cell (p := ⟨w.heap.size, 0, none⟩) hw1).trans hp0, (hv.cell (p := ⟨w.heap.size, 1, none⟩) hw1).trans hp1, (hv.cell (p := ⟨b, o + k * 12, none⟩) hbw).trans c0⟩
      have HFN : Hid (∀ v, Below wr.heap.size wr v → Calls Tryz.prog 30 #[.agg #[.slice x.A1 x.n1 x.c1, .slice (some ⟨b, o, none⟩) x.n2 x.c2], .string p.id] v fun e w' => e = .returned (.int .i64 (fndI x.ct.ls p.id)) ∧ Below v.heap.size v w') := Lib.hid fun v hv => by
        have := l6Find x p.id v (HL.out.on (HB3.out.trans (hv.mono HB3.out.size)))
        rw [show x.val = .agg #[.slice x.A1 x.n1 x.c1, .slice x.A2 x.n2 x.c2] from rfl, e] at this
        exact this
      obtain ⟨u, hu⟩ : ∃ u, u = okL x.n1 x.ct.ls k p.cl := ⟨_, rfl⟩
      have HCL : Hid (∀ v, Below wr.heap.size wr v → Calls Tryz.prog 31 #[.agg #[.slice x.A1 x.n1 x.c1, .slice (some ⟨b, o, none⟩) x.n2 x.c2], .int .i64 (k : Int)] v fun e w' => e = .returned (.bool u) ∧ Below v.heap.size v w') := Lib.hid fun v hv => by
        have := l6Clause x k p v (HL.out.on (HB3.out.trans (hv.mono HB3.out.size))) HCP.out (HWT.out p (by rw [hp]; exact List.getElem_mem hk')) u hu
        rw [show x.val = .agg #[.slice x.A1 x.n1 x.c1, .slice x.A2 x.n2 x.c2] from rfl, e] at this
        exact this
      obtain ⟨z, hz⟩ : ∃ z, z = fndI x.ct.ls p.id := ⟨_, rfl⟩
      rw [← hz] at HFN
      have HOI : Hid (okI x.n1 x.ct.ls k x.ct.ls[k] = (decide (fnd x.ct.ls p.id = k) && u)) := Lib.hid (by rw [HKL.out, hu]; rfl)
      have i0 : (0 : Int) ≤ (k : Int) := by omega
      have i1 : (k : Int) < (x.n2 : Int) := by omega
      have hcells := KX.out wr (Below.refl _ _)
      obtain ⟨e0, e1, e2⟩ := hcells
      by_cases hf : fnd x.ct.ls p.id = k
      rotate_left
      · have hzk : (z == (k : Int)) = false := by rw [beq_eq_false_iff_ne, hz]; intro h; exact hf ((fndI_is hkl).1 h)
        have hzk2 : (z != (k : Int)) = true := by rw [bne, hzk]; rfl
        have HO : Hid (x.ct.good = false) := Lib.hid (by rw [HGD.out, okAll_no hkl (by rw [HOI.out, decide_eq_false hf]; rfl)]; rfl)
        clear hp hc hE e hB hbw c0 hp0 hp1 hu hz hw1 hf HCL
        go_wp2_with fail
        first | (go_region_with
          (first | (go_at_call 30; (with_reducible refine (HFN.out _ (by (repeat (first | exact Below.refl _ _ | exact b2 | exact b1 | apply Below.drew)))).mono ?_); rintro e wa ⟨rfl, hb⟩; have b1 : Below wr.heap.size wr wa := (Below.trans (by (repeat (first | exact Below.refl _ _ | exact b2 | exact b1 | apply Below.drew))) (hb.mono (by first | omega | (simp; done) | (simp; omega) | exact b1.size | (have := b1.size; simp; omega)))); clear hb))) | fail
        all_goals clear e0 e1 e2 KX HFN
        all_goals
          have B9 := Lib.hid (HBW.out.trans (b1.mono HBW.out.size))
          clear b1
          go_wp2_with fail
          go_ret
          exact ⟨by rw [HO.out]; rfl, B9.out⟩
      · have hzk : z = (k : Int) := by rw [hz]; exact (fndI_is hkl).2 hf
        subst hzk
        have HO2 : Hid (okI x.n1 x.ct.ls k x.ct.ls[k] = u) := Lib.hid (by rw [HOI.out, decide_eq_true hf]; rfl)
        clear hp hc hE e hB hbw c0 hp0 hp1 hu hz hw1 hf
        cases u
        · have HO : Hid (x.ct.good = false) := Lib.hid (by rw [HGD.out, okAll_no hkl HO2.out]; rfl)
          go_wp2_with fail
          go_region_held3 (fun v => v.cell? ⟨w.heap.size, 0, none⟩ = some (.slice x.A1 x.n1 x.c1) ∧ v.cell? ⟨w.heap.size, 1, none⟩ = some (.slice (some ⟨b, o, none⟩) x.n2 x.c2) ∧ v.cell? ⟨b, o + k * 12, none⟩ = some (.string p.id)) (first | (refine KX.out _ ?_; (repeat (first | exact Below.refl _ _ | exact b2 | exact b1 | apply Below.drew)); done))
            (first
              | (go_at_call 30; (with_reducible refine (HFN.out _ (by (repeat (first | exact Below.refl _ _ | exact b2 | exact b1 | apply Below.drew)))).mono ?_); rintro e wa ⟨rfl, hb⟩; have b1 : Below wr.heap.size wr wa := (Below.trans (by (repeat (first | exact Below.refl _ _ | exact b2 | exact b1 | apply Below.drew))) (hb.mono (by first | omega | (simp; done) | (simp; omega) | exact b1.size | (have := b1.size; simp; omega)))); clear hb)
              | (go_at_call 31; (with_reducible refine (HCL.out _ (by (repeat (first | exact Below.refl _ _ | exact b2 | exact b1 | apply Below.drew)))).mono ?_); rintro e wb ⟨rfl, hb⟩; have b2 : Below wr.heap.size wr wb := (Below.trans (by (repeat (first | exact Below.refl _ _ | exact b2 | exact b1 | apply Below.drew))) (hb.mono (by first | omega | (simp; done) | (simp; omega) | exact b1.size | (have := b1.size; simp; omega)))); clear hb))
          all_goals clear e0 e1 e2 KX HFN HCL
          all_goals
            have B9 := Lib.hid (HBW.out.trans (b2.mono HBW.out.size))
            clear b2
            go_wp2_with fail
            go_ret
            exact ⟨by rw [HO.out]; rfl, B9.out⟩
        · have HK2 : Hid (∀ j, ∀ h : j < x.ct.ls.length, j < k + 1 → okI x.n1 x.ct.ls j x.ct.ls[j] = true) := Lib.hid fun j hj hjk => by
            by_cases e : j = k
            · subst e; exact HO2.out
            · exact HK.out j hj (by omega)
          go_wp2_with fail
          go_region_held3 (fun v => v.cell? ⟨w.heap.size, 0, none⟩ = some (.slice x.A1 x.n1 x.c1) ∧ v.cell? ⟨w.heap.size, 1, none⟩ = some (.slice (some ⟨b, o, none⟩) x.n2 x.c2) ∧ v.cell? ⟨b, o + k * 12, none⟩ = some (.string p.id)) (first | (refine KX.out _ ?_; (repeat (first | exact Below.refl _ _ | exact b2 | exact b1 | apply Below.drew)); done))
            (first
              | (go_at_call 30; (with_reducible refine (HFN.out _ (by (repeat (first | exact Below.refl _ _ | exact b2 | exact b1 | apply Below.drew)))).mono ?_); rintro e wa ⟨rfl, hb⟩; have b1 : Below wr.heap.size wr wa := (Below.trans (by (repeat (first | exact Below.refl _ _ | exact b2 | exact b1 | apply Below.drew))) (hb.mono (by first | omega | (simp; done) | (simp; omega) | exact b1.size | (have := b1.size; simp; omega)))); clear hb)
              | (go_at_call 31; (with_reducible refine (HCL.out _ (by (repeat (first | exact Below.refl _ _ | exact b2 | exact b1 | apply Below.drew)))).mono ?_); rintro e wb ⟨rfl, hb⟩; have b2 : Below wr.heap.size wr wb := (Below.trans (by (repeat (first | exact Below.refl _ _ | exact b2 | exact b1 | apply Below.drew))) (hb.mono (by first | omega | (simp; done) | (simp; omega) | exact b1.size | (have := b1.size; simp; omega)))); clear hb))
          all_goals clear e0 e1 e2 KX HFN HCL
          all_goals
            have B9 := Lib.hid (HB3.out.trans (b2.mono HB3.out.size))
            clear b2
            go_wp2_with fail
            go_roundw
            case rel => exact ⟨k + 1, by omega, by go_num, HK2, B9⟩
            case measure => simp [intOf]; omega
    · have HALL : Hid (okAll x.n1 x.ct.ls = true) := Lib.hid (okAll_yes fun i hi => HK.out i hi (by have := HLN.out.2.1; omega))
      have HNM := Lib.hid (l6Names x wr (HL.out.on HB3.out) h12 (fun m hm => by
        obtain ⟨i, hi, rfl⟩ := List.getElem_of_mem hm
        obtain ⟨h1, h2⟩ := ct_get hi
        have h3 := HK.out i h1 (by have := HLN.out.1; omega)
        rw [h2] at h3
        simp only [okI, Bool.and_eq_true] at h3
        have h4 := okL_c h3.2
        simp only [C.good, Bool.and_eq_true, decide_eq_true_eq] at h4
        exact h4.2))
      obtain ⟨N, hN⟩ : ∃ N, N = (names x.ct.ls).length := ⟨_, rfl⟩
      have HO : Hid (x.ct.good = decide (N ≤ 16)) := Lib.hid (by rw [HGD.out, HALL.out, ← hN]; rfl)
      have HNN := Lib.hid hN
      have e16 : decide ((N : Int) ≤ 16) = decide (N ≤ 16) := decide_eq_decide.2 (by omega)
      obtain ⟨y, hy⟩ : ∃ y, y = decide (N ≤ 16) := ⟨_, rfl⟩
      rw [← hy] at HO e16
      clear hN hy
      go_wp2_with (go_at_call 32; refine HNM.out.mono ?_; rintro e w5 ⟨g3, n3, c3, hn3, rfl, hown, hb5⟩; have hnn : n3 = N := hn3.trans HNN.out.symm; clear hn3; subst hnn; have HB5 := Lib.hid hb5; clear hown hb5; refine Hid.out ?_)
      refine Lib.hid ?_
      go_wp2_with fail
      go_ret
      exact ⟨by rw [HO.out, ← e16]; rfl, HBW.out.trans (HB5.out.mono HBW.out.size)⟩

end Go.Proofs.YtomloodakabcbabGreat.Cl
