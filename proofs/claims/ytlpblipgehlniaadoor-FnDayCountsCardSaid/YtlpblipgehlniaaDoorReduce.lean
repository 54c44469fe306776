/-
  What reducing a quotient returns, of the program.
-/
import Derived.Test.YtlpblipgehlniaaDoorFrac
namespace Go.Proofs.YtlpblipgehlniaaDoor.Reduce
open Go.RowKit Go.Proofs.YtlpblipgehlniaaDoor.Gcd Go.Proofs.YtlpblipgehlniaaDoor.Tz Go.Proofs.YtlpblipgehlniaaDoor.Common Go.Proofs.YtlpblipgehlniaaDoor.Red Go.Proofs.YtlpblipgehlniaaDoor.Amount Go.Proofs.YtlpblipgehlniaaDoor.Frac

set_option maxHeartbeats 1000000 in
theorem implPos (n d : Int) (hd : 0 < d) (hd9 : d ≤ 3000000000000000000) (hn0 : -3000000000000000000 ≤ n) (hn9 : n ≤ 3000000000000000000) (w : World) (hT : Tab w) :
    Calls Tryd.prog 68 #[.int .i64 n, .int .i64 d] w (redAns n d w) := by
  have HT := Lib.hid hT
  clear hT
  have hg1 := rg_pos n d (by omega)
  have hg2 : rg n d ≤ 3000000000000000000 := by have := rg_le n d (by omega); omega
  have e1 := rn_tdiv n d
  have e2 := rd_tdiv n d
  have hb := rn_bd n d (by omega)
  have hp := rd_pos n d (by omega)
  rw [show sg n d = n by unfold sg; rw [if_neg (by omega)]] at e1
  rw [show (d.natAbs : Int) = d by omega] at e2
  have HG : Hid (rg n d = Nat.gcd n.natAbs d.natAbs) := Lib.hid rfl
  have HV := Lib.hid (ok_valid n d (by omega))
  obtain ⟨n', hn'⟩ : ∃ x, rn n d = x := ⟨_, rfl⟩
  obtain ⟨d', hd'⟩ : ∃ x, rd n d = x := ⟨_, rfl⟩
  have HOk : Hid (Ok n d ↔ Amt n' ∧ d' ≤ 1000000000) := Lib.hid (by unfold Ok; rw [hn', hd'])
  have HY : Hid (Ok n d → redAns n d w = fun e w' => e = fracRet n' d' true ∧ Below w.heap.size w w') := Lib.hid (fun h => by
    obtain ⟨a1, a2, a3⟩ := res_yes h
    funext e w'; unfold redAns; rw [a1, a2, a3, hn', hd'])
  have HNo : Hid (¬ Ok n d → redAns n d w = fun e w' => e = fracRet 0 0 false ∧ Below w.heap.size w w') := Lib.hid (fun h => by
    obtain ⟨a1, a2, a3⟩ := res_no h
    funext e w'; unfold redAns; rw [a1, a2, a3])
  rw [hn', hd'] at hb HV
  rw [hd'] at hp
  rw [hn'] at e1
  rw [hd'] at e2
  generalize rg n d = g at *
  have f1 : IntKind.i64.wrap n' = n' := IntWalk.i64_in _ (by omega)
  have f2 : IntKind.i64.wrap d' = d' := IntWalk.i64_in _ (by omega)
  have hg0 : ¬ ((g : Int) = 0) := by omega
  obtain ⟨hb1, hb2⟩ := hb
  clear hn' hd'
  clear HV
  by_cases hok : Amt n' ∧ d' ≤ 1000000000
  · rw [HY.out (HOk.out.2 hok)]
    obtain ⟨hA, hD⟩ := hok
    have HA := Lib.hid hA
    clear hA HY HNo HOk
    go_enter Tryd.func68, Tryd.ntmps68
    go_wp2_with (first
      | (go_at_call 87; refine (magnitude _ (by omega) (by omega) _).mono ?_; rintro e w' ⟨rfl, rfl⟩)
      | (go_at_call 86; refine (common _ _ g (by first | exact HG.out | (rw [Int.natAbs_neg, Int.natAbs_neg]; exact HG.out)) (by omega) (by omega) (by omega) _ (Tab.alloc HT.out _)).mono ?_; rintro e w' ⟨rfl, rfl⟩))
    go_region
    go_wp2_with (go_at_call 88; refine (implYes _ HA.out _).mono ?_; rintro e w' ⟨rfl, rfl⟩)
    exact bodyPost_ret (v := .tuple #[.agg #[.int .i64 n', .int .i64 d'], .bool true]) (by simp [results, Tryd.results68, go_sem]) rfl ⟨rfl, (((Below.refl _ _).alloc (Nat.le_refl _) _).alloc (by simp) _).drew⟩
  · rw [HNo.out (fun h => hok (HOk.out.1 h))]
    have HK := Lib.hid hok
    clear hok HY HNo HOk
    by_cases hA : Amt n'
    · have hD : ¬ d' ≤ 1000000000 := fun h => HK.out ⟨hA, h⟩
      have HA := Lib.hid hA
      clear hA HK
      go_enter Tryd.func68, Tryd.ntmps68
      go_wp2_with (first
        | (go_at_call 87; refine (magnitude _ (by omega) (by omega) _).mono ?_; rintro e w' ⟨rfl, rfl⟩)
        | (go_at_call 86; refine (common _ _ g (by first | exact HG.out | (rw [Int.natAbs_neg, Int.natAbs_neg]; exact HG.out)) (by omega) (by omega) (by omega) _ (Tab.alloc HT.out _)).mono ?_; rintro e w' ⟨rfl, rfl⟩))
      go_region
      go_wp2_with (go_at_call 88; refine (implYes _ HA.out _).mono ?_; rintro e w' ⟨rfl, rfl⟩)
      exact bodyPost_ret (v := .tuple #[.agg #[.int .i64 0, .int .i64 0], .bool false]) (by simp [results, Tryd.results68, go_sem]) rfl ⟨rfl, (((Below.refl _ _).alloc (Nat.le_refl _) _).alloc (by simp) _).drew⟩
    · have HA := Lib.hid hA
      clear hA HK
      go_enter Tryd.func68, Tryd.ntmps68
      go_wp2_with (first
        | (go_at_call 87; refine (magnitude _ (by omega) (by omega) _).mono ?_; rintro e w' ⟨rfl, rfl⟩)
        | (go_at_call 86; refine (common _ _ g (by first | exact HG.out | (rw [Int.natAbs_neg, Int.natAbs_neg]; exact HG.out)) (by omega) (by omega) (by omega) _ (Tab.alloc HT.out _)).mono ?_; rintro e w' ⟨rfl, rfl⟩))
      go_region
      go_wp2_with (go_at_call 88; refine (implNo _ HA.out _).mono ?_; rintro e w' ⟨rfl, rfl⟩)
      exact bodyPost_ret (v := .tuple #[.agg #[.int .i64 0, .int .i64 0], .bool false]) (by simp [results, Tryd.results68, go_sem]) rfl ⟨rfl, (((Below.refl _ _).alloc (Nat.le_refl _) _).alloc (by simp) _).drew⟩

set_option maxHeartbeats 1000000 in
theorem implNeg (n d : Int) (hd : d < 0) (hd9 : -3000000000000000000 ≤ d) (hn0 : -3000000000000000000 ≤ n) (hn9 : n ≤ 3000000000000000000) (w : World) (hT : Tab w) :
    Calls Tryd.prog 68 #[.int .i64 n, .int .i64 d] w (redAns n d w) := by
  have HT := Lib.hid hT
  clear hT
  have hg1 := rg_pos n d (by omega)
  have hg2 : rg n d ≤ 3000000000000000000 := by have := rg_le n d (by omega); omega
  have e1 := rn_tdiv n d
  have e2 := rd_tdiv n d
  have hb := rn_bd n d (by omega)
  have hp := rd_pos n d (by omega)
  rw [show sg n d = -n by unfold sg; rw [if_pos (by omega)]] at e1
  rw [show (d.natAbs : Int) = -d by omega] at e2
  have HG : Hid (rg n d = Nat.gcd n.natAbs d.natAbs) := Lib.hid rfl
  have HV := Lib.hid (ok_valid n d (by omega))
  obtain ⟨n', hn'⟩ : ∃ x, rn n d = x := ⟨_, rfl⟩
  obtain ⟨d', hd'⟩ : ∃ x, rd n d = x := ⟨_, rfl⟩
  have HOk : Hid (Ok n d ↔ Amt n' ∧ d' ≤ 1000000000) := Lib.hid (by unfold Ok; rw [hn', hd'])
  have HY : Hid (Ok n d → redAns n d w = fun e w' => e = fracRet n' d' true ∧ Below w.heap.size w w') := Lib.hid (fun h => by
    obtain ⟨a1, a2, a3⟩ := res_yes h
    funext e w'; unfold redAns; rw [a1, a2, a3, hn', hd'])
  have HNo : Hid (¬ Ok n d → redAns n d w = fun e w' => e = fracRet 0 0 false ∧ Below w.heap.size w w') := Lib.hid (fun h => by
    obtain ⟨a1, a2, a3⟩ := res_no h
    funext e w'; unfold redAns; rw [a1, a2, a3])
  rw [hn', hd'] at hb HV
  rw [hd'] at hp
  rw [hn'] at e1
  rw [hd'] at e2
  generalize rg n d = g at *
  have f1 : IntKind.i64.wrap n' = n' := IntWalk.i64_in _ (by omega)
  have f2 : IntKind.i64.wrap d' = d' := IntWalk.i64_in _ (by omega)
  have hg0 : ¬ ((g : Int) = 0) := by omega
  obtain ⟨hb1, hb2⟩ := hb
  clear hn' hd'
  clear HV
  by_cases hok : Amt n' ∧ d' ≤ 1000000000
  · rw [HY.out (HOk.out.2 hok)]
    obtain ⟨hA, hD⟩ := hok
    have HA := Lib.hid hA
    clear hA HY HNo HOk
    go_enter Tryd.func68, Tryd.ntmps68
    go_wp2_with (first
      | (go_at_call 87; refine (magnitude _ (by omega) (by omega) _).mono ?_; rintro e w' ⟨rfl, rfl⟩)
      | (go_at_call 86; refine (common _ _ g (by first | exact HG.out | (rw [Int.natAbs_neg, Int.natAbs_neg]; exact HG.out)) (by omega) (by omega) (by omega) _ (Tab.alloc HT.out _)).mono ?_; rintro e w' ⟨rfl, rfl⟩))
    go_region
    go_wp2_with (go_at_call 88; refine (implYes _ HA.out _).mono ?_; rintro e w' ⟨rfl, rfl⟩)
    exact bodyPost_ret (v := .tuple #[.agg #[.int .i64 n', .int .i64 d'], .bool true]) (by simp [results, Tryd.results68, go_sem]) rfl ⟨rfl, (((Below.refl _ _).alloc (Nat.le_refl _) _).alloc (by simp) _).drew⟩
  · rw [HNo.out (fun h => hok (HOk.out.1 h))]
    have HK := Lib.hid hok
    clear hok HY HNo HOk
    by_cases hA : Amt n'
    · have hD : ¬ d' ≤ 1000000000 := fun h => HK.out ⟨hA, h⟩
      have HA := Lib.hid hA
      clear hA HK
      go_enter Tryd.func68, Tryd.ntmps68
      go_wp2_with (first
        | (go_at_call 87; refine (magnitude _ (by omega) (by omega) _).mono ?_; rintro e w' ⟨rfl, rfl⟩)
        | (go_at_call 86; refine (common _ _ g (by first | exact HG.out | (rw [Int.natAbs_neg, Int.natAbs_neg]; exact HG.out)) (by omega) (by omega) (by omega) _ (Tab.alloc HT.out _)).mono ?_; rintro e w' ⟨rfl, rfl⟩))
      go_region
      go_wp2_with (go_at_call 88; refine (implYes _ HA.out _).mono ?_; rintro e w' ⟨rfl, rfl⟩)
      exact bodyPost_ret (v := .tuple #[.agg #[.int .i64 0, .int .i64 0], .bool false]) (by simp [results, Tryd.results68, go_sem]) rfl ⟨rfl, (((Below.refl _ _).alloc (Nat.le_refl _) _).alloc (by simp) _).drew⟩
    · have HA := Lib.hid hA
      clear hA HK
      go_enter Tryd.func68, Tryd.ntmps68
      go_wp2_with (first
        | (go_at_call 87; refine (magnitude _ (by omega) (by omega) _).mono ?_; rintro e w' ⟨rfl, rfl⟩)
        | (go_at_call 86; refine (common _ _ g (by first | exact HG.out | (rw [Int.natAbs_neg, Int.natAbs_neg]; exact HG.out)) (by omega) (by omega) (by omega) _ (Tab.alloc HT.out _)).mono ?_; rintro e w' ⟨rfl, rfl⟩))
      go_region
      go_wp2_with (go_at_call 88; refine (implNo _ HA.out _).mono ?_; rintro e w' ⟨rfl, rfl⟩)
      exact bodyPost_ret (v := .tuple #[.agg #[.int .i64 0, .int .i64 0], .bool false]) (by simp [results, Tryd.results68, go_sem]) rfl ⟨rfl, (((Below.refl _ _).alloc (Nat.le_refl _) _).alloc (by simp) _).drew⟩

theorem impl (n d : Int) (hd0 : d ≠ 0) (hd8 : -3000000000000000000 ≤ d) (hd9 : d ≤ 3000000000000000000) (hn0 : -3000000000000000000 ≤ n) (hn9 : n ≤ 3000000000000000000) (w : World) (hT : Tab w) :
    Calls Tryd.prog 68 #[.int .i64 n, .int .i64 d] w (redAns n d w) := by
  rcases Int.lt_or_gt_of_ne hd0 with h | h
  · exact implNeg n d h hd8 hn0 hn9 w hT
  · exact implPos n d h hd9 hn0 hn9 w hT

end Go.Proofs.YtlpblipgehlniaaDoor.Reduce
