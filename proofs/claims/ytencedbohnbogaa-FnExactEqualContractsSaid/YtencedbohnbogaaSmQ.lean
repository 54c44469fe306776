/-
  Simplification in plain facts, and when two conditions are the same: l5Same and l5Never of the model, equalConditions, isTrue and isNotTrue of the program.
-/
import Derived.Test.YtencedbohnbogaaGoodI
import Derived.Test.YtencedbohnbogaaCoMk
namespace Go.Proofs.Ytencedbohnbogaa.Cond
open Go.RowKit
set_option linter.unusedVariables false

mutual
def sameC : C → C → Bool
  | .mk o n d ps, .mk o' n' d' qs => decide (o = o') && decide (n.toList = n'.toList) && decide (d = d') && sameL ps qs
def sameL : List C → List C → Bool
  | [], [] => true
  | p :: ps, q :: qs => sameC p q && sameL ps qs
  | [], _ :: _ => false
  | _ :: _, [] => false
end
theorem toList_inj {a b : ByteArray} (h : a.toList = b.toList) : a = b := by
  rw [Go.ByteArray.toList_eq, Go.ByteArray.toList_eq] at h
  cases a; cases b
  simpa [Array.toList_inj] using h
mutual
theorem same_iff : ∀ (a b : C), sameC a b = true ↔ a = b
  | .mk o n d ps, .mk o' n' d' qs => by
    simp only [sameC, Bool.and_eq_true, decide_eq_true_eq, sameL_iff ps qs, C.mk.injEq]
    constructor
    · rintro ⟨⟨⟨h1, h2⟩, h3⟩, h4⟩
      exact ⟨h1, toList_inj h2, h3, h4⟩
    · rintro ⟨h1, h2, h3, h4⟩
      exact ⟨⟨⟨h1, by rw [h2]⟩, h3⟩, h4⟩
theorem sameL_iff : ∀ (a b : List C), sameL a b = true ↔ a = b
  | [], [] => by simp [sameL]
  | p :: ps, q :: qs => by simp only [sameL, Bool.and_eq_true, same_iff p q, sameL_iff ps qs, List.cons.injEq]
  | [], _ :: _ => by simp [sameL]
  | _ :: _, [] => by simp [sameL]
end
theorem sameL_len : ∀ {a b : List C}, a.length ≠ b.length → sameL a b = false
  | [], [], h => absurd rfl h
  | p :: ps, q :: qs, h => by simp only [sameL, sameL_len (a := ps) (b := qs) (by simpa using h), Bool.and_false]
  | [], _ :: _, _ => rfl
  | _ :: _, [], _ => rfl
theorem sameL_at {a b : List C} (hl : a.length = b.length) {i : Nat} (hi : i < a.length) (h : sameC a[i] (b[i]'(by omega)) = false) : sameL a b = false := by
  cases hs : sameL a b with
  | false => rfl
  | true =>
    have := (sameL_iff a b).1 hs
    subst this
    rw [(same_iff a[i] a[i]).2 rfl] at h
    cases h
theorem sameL_all {a b : List C} (hl : a.length = b.length) (h : ∀ i, ∀ hi : i < a.length, sameC a[i] (b[i]'(by omega)) = true) : sameL a b = true := by
  rw [sameL_iff]
  exact List.ext_getElem hl fun i h1 h2 => (same_iff _ _).1 (h i h1)

set_option maxHeartbeats 4000000 in
theorem l5Same (k : K) : ∀ (q : K) (w : World), Lies w w.heap.size k → Lies w w.heap.size q →
    Calls Try.prog 48 #[k.val, q.val] w fun e w' => e = .returned (.bool (sameC k.cond q.cond)) ∧ Below w.heap.size w w' := by
  induction k using K.ind with
  | h op nm day A cap ps ih =>
    intro q w hk hq
    cases q with
    | mk op' nm' day' A' cap' qs =>
      have hz := hk.sz.2
      have hz' := hq.sz.2
      unfold maxLen at hz hz'
      obtain ⟨X, hX⟩ : ∃ X, X = (w.alloc (.cells #[.int .i64 op, .string nm, .int .i64 day, .slice A ps.length cap] 28)).alloc (.cells #[.int .i64 op', .string nm', .int .i64 day', .slice A' qs.length cap'] 28) := ⟨_, rfl⟩
      have B0 : Hid (Below w.heap.size w X) := Lib.hid (by rw [hX]; exact (below1 _ _).alloc (by simp) _)
      have X0 : Hid (B4 w.heap.size X (.int .i64 op) (.string nm) (.int .i64 day) (.slice A ps.length cap)) := Lib.hid (by rw [hX]; exact (B4.new w _ _ _ _ _).alloc _)
      have Y0 : Hid (B4 (w.heap.size + 1) X (.int .i64 op') (.string nm') (.int .i64 day') (.slice A' qs.length cap')) := Lib.hid (by
        rw [hX]
        have := B4.new (w.alloc (.cells #[.int .i64 op, .string nm, .int .i64 day, .slice A ps.length cap] 28)) (.int .i64 op') (.string nm') (.int .i64 day') (.slice A' qs.length cap') 28
        simpa using this)
      have HX := Lib.hid hX
      have HA := Lib.hid hk.at
      have HA' := Lib.hid hq.at
      have IH : Hid (∀ p ∈ ps, ∀ q ∈ qs, ∀ v, Below w.heap.size w v → Calls Try.prog 48 #[p.val, q.val] v fun e w' => e = .returned (.bool (sameC p.cond q.cond)) ∧ Below v.heap.size v w') := Lib.hid fun p hp q hq' v hb => ih p hp q v ((hk.part hp).on hb) ((hq.part hq').on hb)
      show Calls Try.prog 48 #[.agg #[.int .i64 op, .string nm, .int .i64 day, .slice A ps.length cap], .agg #[.int .i64 op', .string nm', .int .i64 day', .slice A' qs.length cap']] w fun e w' => e = .returned (.bool (decide (op = op') && decide (nm.toList = nm'.toList) && decide (day = day') && sameL (conds ps) (conds qs))) ∧ Below w.heap.size w w'
      have HL := Lib.hid (And.intro (conds_len ps) (conds_len qs))
      clear ih hk hq hX
      by_cases h1 : op = op'
      · subst h1
        rw [decide_eq_true rfl, Bool.true_and]
        by_cases h2 : nm.toList = nm'.toList
        · rw [decide_eq_true h2, Bool.true_and]
          obtain rfl := toList_inj h2
          clear h2
          by_cases h3 : day = day'
          · subst h3
            rw [decide_eq_true rfl, Bool.true_and]
            by_cases h4 : ps.length = qs.length
            · obtain ⟨n, hn⟩ : ∃ n, n = ps.length := ⟨_, rfl⟩
              have HN := Lib.hid hn
              have HN' : Hid (n = qs.length) := Lib.hid (by rw [hn, h4])
              rw [← h4, ← hn]
              rw [← hn] at hz X0 HX
              rw [← h4, ← hn] at Y0 HX
              clear h4 hn hz'
              go_enter Try.func48, Try.ntmps48
              go_wp2_with fail
              go_loopw [5] (fun i wr => ∃ j : Nat, j ≤ n ∧ i = .int .i64 j ∧ Hid (∀ t, ∀ h : t < (conds ps).length, t < j → ∀ h2 : t < (conds qs).length, sameC (conds ps)[t] (conds qs)[t] = true) ∧ Hid (Below X.heap.size X wr)) (fun i _ => n - (intOf i).toNat)
              case atStart => exact ⟨0, Nat.zero_le _, rfl, Lib.hid fun t _ h => by omega, by rw [← HX.out]; exact Lib.hid (Below.refl _ _)⟩
              case round =>
                obtain ⟨j, hj, rfl, HJ, HB⟩ := hrel
                obtain ⟨_, x0, x1, x2, x3, _⟩ := (X0.out.on HB.out)
                obtain ⟨_, y0, y1, y2, y3, _⟩ := (Y0.out.on HB.out)
                have HBW := Lib.hid (B0.out.trans (HB.out.mono B0.out.size))
                by_cases hlt : j < n
                · have hj1 : j < ps.length := by have := HN.out; omega
                  have hj2 : j < qs.length := by have := HN'.out; omega
                  obtain ⟨b, o, rfl, hBb, hc⟩ := HA.out (by omega)
                  obtain ⟨b', o', rfl, hBb', hc'⟩ := HA'.out (by omega)
                  obtain ⟨p, hp⟩ : ∃ p, p = ps[j] := ⟨_, rfl⟩
                  obtain ⟨q, hq⟩ : ∃ q, q = qs[j] := ⟨_, rfl⟩
                  have hE := (hc j hj1).alike (HBW.out.block b hBb)
                  have hE' := (hc' j hj2).alike (HBW.out.block b' hBb')
                  rw [← hp] at hE
                  rw [← hq] at hE'
                  obtain ⟨c0, c1, c2, c3⟩ := hE
                  obtain ⟨d0, d1, d2, d3⟩ := hE'
                  have hk1 : j < (conds ps).length := by have := HL.out.1; omega
                  have hk2 : j < (conds qs).length := by have := HL.out.2; omega
                  have HP : Hid ((conds ps)[j] = p.cond ∧ (conds qs)[j] = q.cond) := Lib.hid ⟨by simp [conds_map, hp], by simp [conds_map, hq]⟩
                  have IHp := IH.out p (by rw [hp]; exact List.getElem_mem hj1) q (by rw [hq]; exact List.getElem_mem hj2) wr.drew (HBW.out.trans (drew_below _ _))
                  obtain ⟨r, hr⟩ : ∃ r, r = sameC p.cond q.cond := ⟨_, rfl⟩
                  rw [← hr] at IHp
                  have HR := Lib.hid hr
                  have IHH := Lib.hid IHp
                  clear hp hq hc hc' hr IHp
                  have i0 : (0 : Int) ≤ (j : Int) := by omega
                  have i1 : (j : Int) < (n : Int) := by omega
                  cases r
                  · go_wp2_with fail
                    go_region_with (go_at_call 48; refine IHH.out.mono ?_; rintro e w3 ⟨rfl, hb3'⟩; have hb3 := below_of_drew hb3'; clear hb3')
                    all_goals go_wp2_with fail
                    all_goals go_ret
                    all_goals exact ⟨by rw [sameL_at (by rw [HL.out.1, HL.out.2, ← HN.out, ← HN'.out]) hk1 (by rw [HP.out.1, HP.out.2, ← HR.out])]; rfl, HBW.out.trans (hb3.mono HBW.out.size)⟩
                  · have HJJ : Hid (∀ t, ∀ h : t < (conds ps).length, t < j + 1 → ∀ h2 : t < (conds qs).length, sameC (conds ps)[t] (conds qs)[t] = true) := Lib.hid fun t h htj h2 => by
                      by_cases e : t = j
                      · subst e; rw [HP.out.1, HP.out.2, ← HR.out]
                      · exact HJ.out t h (by omega) h2
                    go_wp2_with fail
                    go_region_with (go_at_call 48; refine IHH.out.mono ?_; rintro e w3 ⟨rfl, hb3'⟩; have hb3 := below_of_drew hb3'; clear hb3')
                    all_goals go_wp2_with fail
                    all_goals go_roundw
                    all_goals first
                      | exact ⟨j + 1, by omega, by go_num, HJJ, Lib.hid (HB.out.trans (hb3.mono HB.out.size))⟩
                      | (simp [intOf]; omega)
                · go_wp2_with fail
                  go_ret
                  exact ⟨by rw [sameL_all (by rw [HL.out.1, HL.out.2, ← HN.out, ← HN'.out]) (fun t h => HJ.out t h (by have := HL.out.1; have := HN.out; omega) _)]; rfl, HBW.out⟩
            · have hne : ¬ (ps.length : Int) = (qs.length : Int) := by omega
              rw [sameL_len (by rw [HL.out.1, HL.out.2]; exact h4)]
              clear h4
              go_enter Try.func48, Try.ntmps48
              go_wp2_with fail
              go_ret
              exact ⟨rfl, by rw [← HX.out]; exact B0.out⟩
          · rw [decide_eq_false h3, Bool.false_and]
            go_enter Try.func48, Try.ntmps48
            go_wp2_with fail
            go_ret
            exact ⟨rfl, by rw [← HX.out]; exact B0.out⟩
        · have h2' : (nm.toList == nm'.toList) = false := by simpa using h2
          rw [decide_eq_false h2, Bool.false_and]
          go_enter Try.func48, Try.ntmps48
          go_wp2_with fail
          go_ret
          exact ⟨rfl, by rw [← HX.out]; exact B0.out⟩
      · rw [decide_eq_false h1, Bool.false_and, Bool.false_and, Bool.false_and]
        go_enter Try.func48, Try.ntmps48
        go_wp2_with fail
        go_ret
        exact ⟨rfl, by rw [← HX.out]; exact B0.out⟩

end Go.Proofs.Ytencedbohnbogaa.Cond
