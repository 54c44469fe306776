/-
  Valid dates and their days: what the program's and the model's functions return.
-/
import Derived.Test.YtgjihejneadadaaDoorLen
namespace Go.Proofs.YtgjihejneadadaaDoor.Valid
open Go.RowKit Go.Proofs.YtgjihejneadadaaDoor.Cal Go.Proofs.YtgjihejneadadaaDoor.Tab Go.Proofs.YtgjihejneadadaaDoor.Wd Go.Proofs.YtgjihejneadadaaDoor.Len

theorem quiet_eq {P : Program} {f : FuncId} {args : Array Value} {w : World} {n : Nat} {v : Value}
    (h : Calls P f args (w.drewN n) fun e w' => e = .returned v ∧ w.drewN n = w') : Calls P f args (w.drewN n) fun e w'' => e = .returned v ∧ ∃ m, w'' = w.drewN m :=
  h.mono fun _ _ ⟨he, hm⟩ => ⟨he, n, hm.symm⟩

theorem vld_parts {y m d : Int} (h : ¬ Vld y m d) : ¬ (InY y ∧ InM m) ∨ ((InY y ∧ InM m) ∧ (d < 1 ∨ lenM y m < d)) := by
  by_cases h1 : InY y ∧ InM m
  · right
    refine ⟨h1, ?_⟩
    unfold Vld at h
    simp only [h1, true_and] at h
    omega
  · exact .inl h1

set_option maxHeartbeats 400000 in
theorem l3Day (y m d : Int) (hy : InY y) (hm : InM m) (d1 : -100 ≤ d) (d2 : d ≤ 100) (w : World) :
    Calls Tryd.prog 62 #[.agg #[.int .i64 y, .int .i64 m, .int .i64 d]] w fun e w' => e = .returned (.int .i64 (num y m d)) ∧ w.alloc (.cells #[.int .i64 y, .int .i64 m, .int .i64 d] 75) = w' := by
  have HE : Hid (365 * (y - 2000) + (y - 2000 + 3) / 4 = dby y + bef y 1) := Lib.hid (by rw [bef_one]; unfold dby; omega)
  have hb := dby_bd hy
  obtain ⟨y1, y2⟩ := hy
  have HM := Lib.hid hm
  obtain ⟨m1, m2⟩ := hm
  go_enter Tryd.func62, Tryd.ntmps62
  go_wp2
  go_loop [4, 5] (fun n i => ∃ k : Int, 1 ≤ k ∧ k ≤ m ∧ i = .int .i64 k ∧ n = .int .i64 (dby y + bef y k)) (fun _ i => (m - intOf i).toNat)
  case atStart => exact ⟨1, by omega, m1, rfl, by rw [HE.out]⟩
  case round =>
    obtain ⟨k, k1, k2, rfl, rfl⟩ := hrel
    have hk := bef_bd y (m := k) ⟨by omega, by omega⟩
    by_cases hlt : k < m
    · have HS : Hid (dby y + bef y k + lenM y k = dby y + bef y (k + 1)) := Lib.hid (by rw [bef_succ y (m := k) ⟨by omega, by omega⟩]; omega)
      have hL := len_bd y k
      generalize dby y = D at *
      generalize bef y k = B at *
      go_wp2_with (go_at_call 68; refine (l3Length y k (by omega) _).mono ?_; rintro e w' ⟨rfl, rfl⟩)
      go_round
      case rel => exact ⟨k + 1, by omega, by omega, rfl, by rw [← HS.out]⟩
      case measure => simp [intOf]; omega
    · obtain rfl : k = m := by omega
      have HS : Hid (dby y + bef y k + d - 1 = num y k d) := Lib.hid (by unfold num; omega)
      generalize dby y = D at *
      generalize bef y k = B at *
      go_wp2_with fail
      go_ret
      exact ⟨ret_int HS.out, rfl⟩

end Go.Proofs.YtgjihejneadadaaDoor.Valid
