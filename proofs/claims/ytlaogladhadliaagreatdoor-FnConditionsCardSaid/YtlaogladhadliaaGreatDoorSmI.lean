/-
  Equal conditions and constant ones, by the program: isTrue, isNotTrue, slices.EqualFunc, equalConditions.
-/
import Derived.Test.YtlaogladhadliaaGreatDoorSmS
import Derived.Deep.RegionHeld3
namespace Go.Proofs.YtlaogladhadliaaGreatDoor.Cond
open Go.RowKit
set_option linter.unusedVariables false
set_option linter.unusedSimpArgs false

set_option maxHeartbeats 2000000 in
theorem isTrue (q : Q) (k : K) (w : World) (hk : k.cond = q.c) :
    Calls Tryz.prog 43 #[k.val] w fun e w' => e = .returned (.bool (isTru q)) ∧ Below w.heap.size w w' := by
  have ho := op_is hk
  have B0 := Lib.hid (below1 w (.cells #[.int .i64 k.op, .string k.nm, .int .i64 k.day, .slice k.A k.ps.length k.cap] 26))
  rw [← tru_op, ← ho]
  clear hk ho
  go_enter Tryz.func43, Tryz.ntmps43
  go_wp2_with fail
  go_ret
  exact ⟨rfl, B0.out⟩

set_option maxHeartbeats 2000000 in
theorem isNotTrue (q : Q) (k : K) (w : World) (hk : k.cond = q.c) (hin : Lies w w.heap.size k) :
    Calls Tryz.prog 44 #[k.val] w fun e w' => e = .returned (.bool (isNev q)) ∧ Below w.heap.size w w' := by
  have ho := op_is hk
  by_cases h4 : ∃ a, q = .neg a
  · obtain ⟨a, rfl⟩ := h4
    obtain ⟨A, cap, p, rfl, hp⟩ := K.one hk
    obtain ⟨b, o, rfl, hb, hE⟩ := One' hin
    have B0 := Lib.hid (below1 w (.cells #[.int .i64 4, .string .empty, .int .i64 0, .slice (some ⟨b, o, none⟩) 1 cap] 26))
    obtain ⟨c0, c1, c2, c3⟩ := hE.alike (B0.out.block b hb)
    have HN : Hid (isNev (.neg a) = isTru a) := Lib.hid (by cases a <;> rfl)
    have HI : Hid (∀ v, Calls Tryz.prog 43 #[p.val] v fun e w' => e = .returned (.bool (isTru a)) ∧ Below v.heap.size v w') := Lib.hid fun v => isTrue a p v hp
    show Calls Tryz.prog 44 #[.agg #[.int .i64 4, .string .empty, .int .i64 0, .slice (some ⟨b, o, none⟩) 1 cap]] w fun e w' => e = .returned (.bool (isNev (.neg a))) ∧ Below w.heap.size w w'
    rw [HN.out]
    clear hk hin hE hp ho
    generalize isTru a = x at *
    go_enter Tryz.func44, Tryz.ntmps44
    go_wp2_with (go_at_call 43; refine (HI.out _).mono ?_; rintro e w2 ⟨rfl, hb2⟩)
    go_ret
    exact ⟨rfl, B0.out.trans (hb2.mono B0.out.size)⟩
  · have HF : Hid (isNev q = false) := Lib.hid (by
      cases q with
      | neg a => exact absurd ⟨a, rfl⟩ h4
      | _ => rfl)
    have hne : ¬ k.op = 4 := by
      rw [ho]
      cases q with
      | neg a => exact absurd ⟨a, rfl⟩ h4
      | _ => simp [opQ]
    have B0 := Lib.hid (below1 w (.cells #[.int .i64 k.op, .string k.nm, .int .i64 k.day, .slice k.A k.ps.length k.cap] 26))
    rw [HF.out]
    clear hk hin ho h4
    go_enter Tryz.func44, Tryz.ntmps44
    go_wp2_with fail
    go_ret
    exact ⟨rfl, B0.out⟩

set_option maxRecDepth 100000 in
set_option maxHeartbeats 4000000 in
theorem eqFunc {op op' : Int} {nm nm' : ByteArray} {day day' : Int} {A A' : Option Addr} {cap cap' : Nat} {ps qs : List K} (w : World) (hk : Lies w w.heap.size (.mk op nm day A cap ps)) (hq : Lies w w.heap.size (.mk op' nm' day' A' cap' qs))
    (IH0 : ∀ p ∈ ps, ∀ q ∈ qs, ∀ v, Below w.heap.size w v → Calls Tryz.prog 62 #[p.val, q.val] v fun e w' => e = .returned (.bool (sameC p.cond q.cond)) ∧ Below v.heap.size v w') :
    Calls Tryz.prog 70 #[.slice A ps.length cap, .slice A' qs.length cap', .func (.func 62) #[] #[]] w fun e w' => e = .returned (.bool (sameL (conds ps) (conds qs))) ∧ Below w.heap.size w w' := by
  have hz := hk.sz.2
  have hz' := hq.sz.2
  unfold maxLen at hz hz'
  have HA := Lib.hid hk.at
  have HA' := Lib.hid hq.at
  have IH := Lib.hid IH0
  have HL := Lib.hid (And.intro (conds_len ps) (conds_len qs))
  clear hk hq IH0
  by_cases h4 : ps.length = qs.length
  · obtain ⟨n, hn⟩ : ∃ n, n = ps.length := ⟨_, rfl⟩
    have HN := Lib.hid hn
    have HN' : Hid (n = qs.length) := Lib.hid (by rw [hn, h4])
    rw [← h4, ← hn]
    rw [← hn] at hz
    clear h4 hn hz'
    go_enter Tryz.func70, Tryz.ntmps70
    go_wp2_with fail
    go_loopw [17] (fun i wr => ∃ j : Nat, j ≤ n ∧ i = .int .i64 j ∧ Hid (∀ t, ∀ h : t < (conds ps).length, t < j → ∀ h2 : t < (conds qs).length, sameC (conds ps)[t] (conds qs)[t] = true) ∧ Hid (Below w.heap.size w wr)) (fun i _ => n - (intOf i).toNat)
    case atStart => exact ⟨0, Nat.zero_le _, rfl, Lib.hid fun t _ h => by omega, Lib.hid (Below.refl _ _)⟩
    case round =>
      obtain ⟨j, hj, rfl, HJ, HB⟩ := hrel
      by_cases hlt : j < n
      · have hj1 : j < ps.length := by have := HN.out; omega
        have hj2 : j < qs.length := by have := HN'.out; omega
        obtain ⟨b, o, rfl, hBb, hc⟩ := HA.out (by omega)
        obtain ⟨b', o', rfl, hBb', hc'⟩ := HA'.out (by omega)
        obtain ⟨p, hp⟩ : ∃ p, p = ps[j] := ⟨_, rfl⟩
        obtain ⟨q, hq⟩ : ∃ q, q = qs[j] := ⟨_, rfl⟩
        have hE := (hc j hj1).alike (HB.out.block b hBb)
        have hE' := (hc' j hj2).alike (HB.out.block b' hBb')
        rw [← hp] at hE
        rw [← hq] at hE'
        obtain ⟨c0, c1, c2, c3⟩ := hE
        obtain ⟨d0, d1, d2, d3⟩ := hE'
        have hbs := HB.out.size
        have l1 : b < wr.heap.size := by omega
        have l2 : b' < wr.heap.size := by omega
        have hk1 : j < (conds ps).length := by have := HL.out.1; omega
        have hk2 : j < (conds qs).length := by have := HL.out.2; omega
        have HP : Hid ((conds ps)[j] = p.cond ∧ (conds qs)[j] = q.cond) := Lib.hid ⟨by simp [conds_map, hp], by simp [conds_map, hq]⟩
        have B2 : Hid (∀ x y, Below w.heap.size w ((wr.alloc x).alloc y)) := Lib.hid fun x y => (HB.out.alloc (by omega) x).alloc (by simp; omega) y
        have IHH : Hid (∀ x y, Calls Tryz.prog 62 #[p.val, q.val] ((wr.alloc x).alloc y) fun e w' => e = .returned (.bool (sameC p.cond q.cond)) ∧ Below w.heap.size w w') := Lib.hid fun x y => (IH.out p (by rw [hp]; exact List.getElem_mem hj1) q (by rw [hq]; exact List.getElem_mem hj2) _ (B2.out x y)).mono fun e w' ⟨h1, h2⟩ => ⟨h1, (B2.out x y).trans (h2.mono (B2.out x y).size)⟩
        obtain ⟨r, hr⟩ : ∃ r, r = sameC p.cond q.cond := ⟨_, rfl⟩
        rw [← hr] at IHH
        have HR := Lib.hid hr
        clear hp hq hc hc' hr
        have i0 : (0 : Int) ≤ (j : Int) := by omega
        have i1 : (j : Int) < (n : Int) := by omega
        cases r
        · go_wp2_with (go_at_call 62; refine (IHH.out _ _).mono ?_; rintro e w3 ⟨rfl, hb3⟩)
          go_ret
          exact ⟨by rw [sameL_at (by rw [HL.out.1, HL.out.2, ← HN.out, ← HN'.out]) hk1 (by rw [HP.out.1, HP.out.2, ← HR.out])]; rfl, hb3⟩
        · have HJJ : Hid (∀ t, ∀ h : t < (conds ps).length, t < j + 1 → ∀ h2 : t < (conds qs).length, sameC (conds ps)[t] (conds qs)[t] = true) := Lib.hid fun t h htj h2 => by
            by_cases e : t = j
            · subst e; rw [HP.out.1, HP.out.2, ← HR.out]
            · exact HJ.out t h (by omega) h2
          go_wp2_with (go_at_call 62; refine (IHH.out _ _).mono ?_; rintro e w3 ⟨rfl, hb3⟩)
          go_roundw
          all_goals first
            | exact ⟨j + 1, by omega, by go_num, HJJ, Lib.hid hb3⟩
            | (simp [intOf]; omega)
      · go_wp2_with fail
        go_ret
        exact ⟨by rw [sameL_all (by rw [HL.out.1, HL.out.2, ← HN.out, ← HN'.out]) (fun t h => HJ.out t h (by have := HL.out.1; have := HN.out; omega) _)]; rfl, HB.out⟩
  · have HS : Hid (sameL (conds ps) (conds qs) = false) := Lib.hid (sameL_len (by rw [HL.out.1, HL.out.2]; exact h4))
    rw [HS.out]
    generalize ps.length = n1 at *
    generalize qs.length = n2 at *
    have h5 : ¬ (n1 : Int) = (n2 : Int) := by omega
    go_enter Tryz.func70, Tryz.ntmps70
    go_wp2_with fail
    go_ret
    exact ⟨rfl, Below.refl _ _⟩

set_option maxRecDepth 100000 in
set_option maxHeartbeats 4000000 in
theorem equalConditions (k : K) : ∀ (q : K) (w : World), Lies w w.heap.size k → Lies w w.heap.size q →
    Calls Tryz.prog 62 #[k.val, q.val] w fun e w' => e = .returned (.bool (sameC k.cond q.cond)) ∧ Below w.heap.size w w' := by
  induction k using K.ind with
  | h op nm day A cap ps ih =>
    intro q w hk hq
    cases q with
    | mk op' nm' day' A' cap' qs =>
      obtain ⟨X, hX⟩ : ∃ X, X = (w.alloc (.cells #[.int .i64 op, .string nm, .int .i64 day, .slice A ps.length cap] 26)).alloc (.cells #[.int .i64 op', .string nm', .int .i64 day', .slice A' qs.length cap'] 26) := ⟨_, rfl⟩
      have B0 : Hid (Below w.heap.size w X) := Lib.hid (by rw [hX]; exact (below1 _ _).alloc (by simp) _)
      have HE := Lib.hid (eqFunc X (hk.on B0.out) (hq.on B0.out) (fun p hp q hq' v hb => ih p hp q v (((hk.part hp).on B0.out).on hb) (((hq.part hq').on B0.out).on hb)))
      have HX := Lib.hid hX
      show Calls Tryz.prog 62 #[.agg #[.int .i64 op, .string nm, .int .i64 day, .slice A ps.length cap], .agg #[.int .i64 op', .string nm', .int .i64 day', .slice A' qs.length cap']] w fun e w' => e = .returned (.bool (decide (op = op') && decide (nm.toList = nm'.toList) && decide (day = day') && sameL (conds ps) (conds qs))) ∧ Below w.heap.size w w'
      have HC : Hid (∀ x y, Below w.heap.size w ((w.alloc x).alloc y)) := Lib.hid fun x y => (below1 _ _).alloc (by simp) _
      clear ih hk hq hX
      generalize sameL (conds ps) (conds qs) = r at *
      generalize ps.length = n1 at *
      generalize qs.length = n2 at *
      by_cases h1 : op = op'
      · subst h1
        rw [decide_eq_true rfl, Bool.true_and]
        by_cases h2 : nm.toList = nm'.toList
        · rw [decide_eq_true h2, Bool.true_and]
          obtain rfl := toList_inj h2
          clear h2
          by_cases h3 : day = day'
          · subst h3
            rw [decide_eq_true rfl, Bool.true_and]
            go_enter Tryz.func62, Tryz.ntmps62
            go_wp2_with (go_at_call 70; (try rw [← HX.out]); refine HE.out.mono ?_; rintro e w3 ⟨rfl, hb3⟩)
            go_ret
            exact ⟨rfl, B0.out.trans (hb3.mono B0.out.size)⟩
          · rw [decide_eq_false h3, Bool.false_and]
            go_enter Tryz.func62, Tryz.ntmps62
            go_wp2_with fail
            go_ret
            exact ⟨rfl, HC.out _ _⟩
        · rw [decide_eq_false h2, Bool.false_and, Bool.false_and]
          go_enter Tryz.func62, Tryz.ntmps62
          go_wp2_with fail
          go_ret
          exact ⟨rfl, HC.out _ _⟩
      · rw [decide_eq_false h1, Bool.false_and, Bool.false_and, Bool.false_and]
        go_enter Tryz.func62, Tryz.ntmps62
        go_wp2_with fail
        go_ret
        exact ⟨rfl, HC.out _ _⟩

end Go.Proofs.YtlaogladhadliaaGreatDoor.Cond
