/-
  What reducing a quotient returns, of the model.
-/
import Derived.Test.YtlpblipgehlniaaDoorFrac
namespace Go.Proofs.YtlpblipgehlniaaDoor.ReduceSpec
open Go.RowKit Go.Proofs.YtlpblipgehlniaaDoor.Gcd Go.Proofs.YtlpblipgehlniaaDoor.Tz Go.Proofs.YtlpblipgehlniaaDoor.Common Go.Proofs.YtlpblipgehlniaaDoor.Red Go.Proofs.YtlpblipgehlniaaDoor.Amount Go.Proofs.YtlpblipgehlniaaDoor.Frac

set_option maxHeartbeats 1000000 in
theorem specPos (n d : Int) (hd : 0 < d) (hd9 : d ≤ 3000000000000000000) (hn0 : -3000000000000000000 ≤ n) (hn9 : n ≤ 3000000000000000000) (w : World) :
    Calls Tryd.prog 47 #[.int .i64 n, .int .i64 d] w (redAns n d w) := by
  have hg1 := rg_pos n d (by omega)
  have hg2 : rg n d ≤ 3000000000000000000 := by have := rg_le n d (by omega); omega
  have e1 := rn_tdiv n d
  have e2 := rd_tdiv n d
  have hb := rn_bd n d (by omega)
  have hp := rd_pos n d (by omega)
  rw [show sg n d = n by unfold sg; rw [if_neg (by omega)]] at e1
  rw [show (d.natAbs : Int) = d by omega] at e2
  have HG : Hid (rg n d = Nat.gcd n.natAbs d.natAbs) := Lib.hid rfl
  have HV := Lib.hid (ok_valid n d (by omega))
  obtain ⟨n', hn'⟩ : ∃ x, rn n d = x := ⟨_, rfl⟩
  obtain ⟨d', hd'⟩ : ∃ x, rd n d = x := ⟨_, rfl⟩
  have HOk : Hid (Ok n d ↔ Amt n' ∧ d' ≤ 1000000000) := Lib.hid (by unfold Ok; rw [hn', hd'])
  have HY : Hid (Ok n d → redAns n d w = fun e w' => e = fracRet n' d' true ∧ Below w.heap.size w w') := Lib.hid (fun h => by
    obtain ⟨a1, a2, a3⟩ := res_yes h
    funext e w'; unfold redAns; rw [a1, a2, a3, hn', hd'])
  have HNo : Hid (¬ Ok n d → redAns n d w = fun e w' => e = fracRet 0 0 false ∧ Below w.heap.size w w') := Lib.hid (fun h => by
    obtain ⟨a1, a2, a3⟩ := res_no h
    funext e w'; unfold redAns; rw [a1, a2, a3])
  rw [hn', hd'] at hb HV
  rw [hd'] at hp
  rw [hn'] at e1
  rw [hd'] at e2
  generalize rg n d = g at *
  have f1 : IntKind.i64.wrap n' = n' := IntWalk.i64_in _ (by omega)
  have f2 : IntKind.i64.wrap d' = d' := IntWalk.i64_in _ (by omega)
  have hg0 : ¬ ((g : Int) = 0) := by omega
  obtain ⟨hb1, hb2⟩ := hb
  clear hn' hd'
  by_cases hok : Ok n d
  · rw [HY.out hok]
    have HW := Lib.hid (HV.out.1 hok)
    clear HV hok HY HNo HOk
    go_enter Tryd.func47, Tryd.ntmps47
    go_wp2_with (first
      | (go_at_call 76; refine (l2Abs _ (by omega) _).mono ?_; rintro e w' ⟨rfl, rfl⟩)
      | (go_at_call 75; refine (gcdIs _ _ g (by first | exact HG.out | (rw [Int.natAbs_neg]; exact HG.out)) (by omega) (by omega) (by omega) _).mono ?_; rintro e w' ⟨rfl, rfl⟩))
    go_region
    go_wp2_with (go_at_call 46; refine (fracYes n' d' HW.out _).mono ?_; rintro e w1 ⟨rfl, m, rfl⟩)
    exact bodyPost_ret (v := .tuple #[.agg #[.int .i64 n', .int .i64 d'], .bool true]) (by simp [results, Tryd.results47, go_sem, setCell_drewN]) rfl ⟨rfl, ((below_drewN ((((Below.refl _ _).alloc (Nat.le_refl _) _).alloc (by simp) _).alloc (by simp; omega) _) _).setCell (Nat.le_refl _) _).setCell (Nat.le_refl _) _⟩
  · rw [HNo.out hok]
    have HW : Hid (¬ Valid n' d') := Lib.hid (fun h => hok (HV.out.2 h))
    clear HV hok HY HNo HOk
    go_enter Tryd.func47, Tryd.ntmps47
    go_wp2_with (first
      | (go_at_call 76; refine (l2Abs _ (by omega) _).mono ?_; rintro e w' ⟨rfl, rfl⟩)
      | (go_at_call 75; refine (gcdIs _ _ g (by first | exact HG.out | (rw [Int.natAbs_neg]; exact HG.out)) (by omega) (by omega) (by omega) _).mono ?_; rintro e w' ⟨rfl, rfl⟩))
    go_region
    go_wp2_with (go_at_call 46; refine (fracNo n' d' HW.out _).mono ?_; rintro e w1 ⟨rfl, m, rfl⟩)
    exact bodyPost_ret (v := .tuple #[.agg #[.int .i64 0, .int .i64 0], .bool false]) (by simp [results, Tryd.results47, go_sem, setCell_drewN]) rfl ⟨rfl, ((below_drewN ((((Below.refl _ _).alloc (Nat.le_refl _) _).alloc (by simp) _).alloc (by simp; omega) _) _).setCell (Nat.le_refl _) _).setCell (Nat.le_refl _) _⟩

set_option maxHeartbeats 1000000 in
theorem specNeg (n d : Int) (hd : d < 0) (hd9 : -3000000000000000000 ≤ d) (hn0 : -3000000000000000000 ≤ n) (hn9 : n ≤ 3000000000000000000) (w : World) :
    Calls Tryd.prog 47 #[.int .i64 n, .int .i64 d] w (redAns n d w) := by
  have hg1 := rg_pos n d (by omega)
  have hg2 : rg n d ≤ 3000000000000000000 := by have := rg_le n d (by omega); omega
  have e1 := rn_tdiv n d
  have e2 := rd_tdiv n d
  have hb := rn_bd n d (by omega)
  have hp := rd_pos n d (by omega)
  rw [show sg n d = -n by unfold sg; rw [if_pos (by omega)]] at e1
  rw [show (d.natAbs : Int) = -d by omega] at e2
  have HG : Hid (rg n d = Nat.gcd n.natAbs d.natAbs) := Lib.hid rfl
  have HV := Lib.hid (ok_valid n d (by omega))
  obtain ⟨n', hn'⟩ : ∃ x, rn n d = x := ⟨_, rfl⟩
  obtain ⟨d', hd'⟩ : ∃ x, rd n d = x := ⟨_, rfl⟩
  have HOk : Hid (Ok n d ↔ Amt n' ∧ d' ≤ 1000000000) := Lib.hid (by unfold Ok; rw [hn', hd'])
  have HY : Hid (Ok n d → redAns n d w = fun e w' => e = fracRet n' d' true ∧ Below w.heap.size w w') := Lib.hid (fun h => by
    obtain ⟨a1, a2, a3⟩ := res_yes h
    funext e w'; unfold redAns; rw [a1, a2, a3, hn', hd'])
  have HNo : Hid (¬ Ok n d → redAns n d w = fun e w' => e = fracRet 0 0 false ∧ Below w.heap.size w w') := Lib.hid (fun h => by
    obtain ⟨a1, a2, a3⟩ := res_no h
    funext e w'; unfold redAns; rw [a1, a2, a3])
  rw [hn', hd'] at hb HV
  rw [hd'] at hp
  rw [hn'] at e1
  rw [hd'] at e2
  generalize rg n d = g at *
  have f1 : IntKind.i64.wrap n' = n' := IntWalk.i64_in _ (by omega)
  have f2 : IntKind.i64.wrap d' = d' := IntWalk.i64_in _ (by omega)
  have hg0 : ¬ ((g : Int) = 0) := by omega
  obtain ⟨hb1, hb2⟩ := hb
  clear hn' hd'
  by_cases hok : Ok n d
  · rw [HY.out hok]
    have HW := Lib.hid (HV.out.1 hok)
    clear HV hok HY HNo HOk
    go_enter Tryd.func47, Tryd.ntmps47
    go_wp2_with (first
      | (go_at_call 76; refine (l2Abs _ (by omega) _).mono ?_; rintro e w' ⟨rfl, rfl⟩)
      | (go_at_call 75; refine (gcdIs _ _ g (by first | exact HG.out | (rw [Int.natAbs_neg]; exact HG.out)) (by omega) (by omega) (by omega) _).mono ?_; rintro e w' ⟨rfl, rfl⟩))
    go_region
    go_wp2_with (go_at_call 46; refine (fracYes n' d' HW.out _).mono ?_; rintro e w1 ⟨rfl, m, rfl⟩)
    exact bodyPost_ret (v := .tuple #[.agg #[.int .i64 n', .int .i64 d'], .bool true]) (by simp [results, Tryd.results47, go_sem, setCell_drewN]) rfl ⟨rfl, ((below_drewN ((((Below.refl _ _).alloc (Nat.le_refl _) _).alloc (by simp) _).alloc (by simp; omega) _) _).setCell (Nat.le_refl _) _).setCell (Nat.le_refl _) _⟩
  · rw [HNo.out hok]
    have HW : Hid (¬ Valid n' d') := Lib.hid (fun h => hok (HV.out.2 h))
    clear HV hok HY HNo HOk
    go_enter Tryd.func47, Tryd.ntmps47
    go_wp2_with (first
      | (go_at_call 76; refine (l2Abs _ (by omega) _).mono ?_; rintro e w' ⟨rfl, rfl⟩)
      | (go_at_call 75; refine (gcdIs _ _ g (by first | exact HG.out | (rw [Int.natAbs_neg]; exact HG.out)) (by omega) (by omega) (by omega) _).mono ?_; rintro e w' ⟨rfl, rfl⟩))
    go_region
    go_wp2_with (go_at_call 46; refine (fracNo n' d' HW.out _).mono ?_; rintro e w1 ⟨rfl, m, rfl⟩)
    exact bodyPost_ret (v := .tuple #[.agg #[.int .i64 0, .int .i64 0], .bool false]) (by simp [results, Tryd.results47, go_sem, setCell_drewN]) rfl ⟨rfl, ((below_drewN ((((Below.refl _ _).alloc (Nat.le_refl _) _).alloc (by simp) _).alloc (by simp; omega) _) _).setCell (Nat.le_refl _) _).setCell (Nat.le_refl _) _⟩

theorem spec (n d : Int) (hd0 : d ≠ 0) (hd8 : -3000000000000000000 ≤ d) (hd9 : d ≤ 3000000000000000000) (hn0 : -3000000000000000000 ≤ n) (hn9 : n ≤ 3000000000000000000) (w : World) :
    Calls Tryd.prog 47 #[.int .i64 n, .int .i64 d] w (redAns n d w) := by
  rcases Int.lt_or_gt_of_ne hd0 with h | h
  · exact specNeg n d h hd8 hn0 hn9 w
  · exact specPos n d h hd9 hn0 hn9 w

end Go.Proofs.YtlpblipgehlniaaDoor.ReduceSpec
