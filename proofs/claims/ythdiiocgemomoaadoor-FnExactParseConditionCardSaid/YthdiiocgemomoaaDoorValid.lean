/-
  Valid dates and their days: what the program's and the model's functions return.
-/
import Derived.Test.YthdiiocgemomoaaDoorLen
namespace Go.Proofs.YthdiiocgemomoaaDoor.Valid
open Go.RowKit Go.Proofs.YthdiiocgemomoaaDoor.Cal Go.Proofs.YthdiiocgemomoaaDoor.Tab Go.Proofs.YthdiiocgemomoaaDoor.Wd Go.Proofs.YthdiiocgemomoaaDoor.Len

theorem quiet_eq {P : Program} {f : FuncId} {args : Array Value} {w : World} {n : Nat} {v : Value}
    (h : Calls P f args (w.drewN n) fun e w' => e = .returned v ∧ w.drewN n = w') : Calls P f args (w.drewN n) fun e w'' => e = .returned v ∧ ∃ m, w'' = w.drewN m :=
  h.mono fun _ _ ⟨he, hm⟩ => ⟨he, n, hm.symm⟩

theorem vld_parts {y m d : Int} (h : ¬ Vld y m d) : ¬ (InY y ∧ InM m) ∨ ((InY y ∧ InM m) ∧ (d < 1 ∨ lenM y m < d)) := by
  by_cases h1 : InY y ∧ InM m
  · right
    refine ⟨h1, ?_⟩
    unfold Vld at h
    simp only [h1, true_and] at h
    omega
  · exact .inl h1

set_option maxHeartbeats 400000 in
theorem validYes (y m d : Int) (h : Vld y m d) (w : World) (hT : Tab w) :
    Calls Tryd.prog 46 #[.agg #[.int .i64 y, .int .i64 m, .int .i64 d]] w fun e w' => e = .returned (.bool true) ∧ w.alloc (.cells #[.int .i64 y, .int .i64 m, .int .i64 d] 47) = w' := by
  have HT := Lib.hid hT
  obtain ⟨hy, hm, h1, h2⟩ := h
  have HY := Lib.hid hy
  have HM := Lib.hid hm
  have HL := Lib.hid (fun w hw => lenYes y m HY.out HM.out w hw)
  have hb := len_bd y m
  clear hT hy hm
  generalize lenM y m = L at *
  go_enter Tryd.func46, Tryd.ntmps46
  go_wp2_with (go_at_call 57; refine (HL.out _ (HT.out.alloc _)).mono ?_; rintro e w' ⟨rfl, rfl⟩)
  go_ret
  exact ⟨by simp, rfl⟩

set_option maxHeartbeats 400000 in
theorem validNo (y m d : Int) (h : ¬ Vld y m d) (w : World) (hT : Tab w) :
    Calls Tryd.prog 46 #[.agg #[.int .i64 y, .int .i64 m, .int .i64 d]] w fun e w' => e = .returned (.bool false) ∧ w.alloc (.cells #[.int .i64 y, .int .i64 m, .int .i64 d] 47) = w' := by
  have HT := Lib.hid hT
  rcases vld_parts h with h1 | ⟨⟨hy, hm⟩, h1⟩
  · have H1 := Lib.hid h1
    clear hT h h1
    go_enter Tryd.func46, Tryd.ntmps46
    go_wp2_with (go_at_call 57; refine (lenNo y m H1.out _).mono ?_; rintro e w' ⟨rfl, rfl⟩)
    go_ret
    exact ⟨rfl, rfl⟩
  · have HY := Lib.hid hy
    have HM := Lib.hid hm
    have HL := Lib.hid (fun w hw => lenYes y m HY.out HM.out w hw)
    have hb := len_bd y m
    clear hT hy hm h
    generalize lenM y m = L at *
    by_cases h2 : d < 1
    · clear h1
      go_enter Tryd.func46, Tryd.ntmps46
      go_wp2_with (go_at_call 57; refine (HL.out _ (HT.out.alloc _)).mono ?_; rintro e w' ⟨rfl, rfl⟩)
      go_ret
      exact ⟨rfl, rfl⟩
    · have h3 : L < d := by omega
      clear h1
      go_enter Tryd.func46, Tryd.ntmps46
      go_wp2_with (go_at_call 57; refine (HL.out _ (HT.out.alloc _)).mono ?_; rintro e w' ⟨rfl, rfl⟩)
      go_ret
      exact ⟨by simp [h3], rfl⟩

set_option maxHeartbeats 1000000 in
theorem l3ValidYes (y m d : Int) (h : Vld y m d) (w : World) :
    Calls Tryd.prog 30 #[.agg #[.int .i64 y, .int .i64 m, .int .i64 d]] w fun e w' => e = .returned (.bool true) ∧ ∃ n, w' = (w.alloc (.cells #[.int .i64 y, .int .i64 m, .int .i64 d] 47)).drewN n := by
  obtain ⟨⟨y1, y2⟩, ⟨m1, m2⟩, h1, h2⟩ := h
  have HL := Lib.hid (fun w => l3Length y m (by omega) w)
  generalize lenM y m = L at *
  go_enter Tryd.func30, Tryd.ntmps30
  go_wp2_with fail
  go_quiet ((first
    | (go_at_call 32; with_reducible exact quiet_eq (l1In_true _ _ _ (by omega) (by omega) _))
    | (go_at_call 37; with_reducible exact quiet_eq (HL.out _))))
  go_wp2_with fail
  go_ret
  exact ⟨rfl, _, rfl⟩

set_option maxHeartbeats 1000000 in
theorem l3ValidNo (y m d : Int) (h : ¬ Vld y m d) (w : World) :
    Calls Tryd.prog 30 #[.agg #[.int .i64 y, .int .i64 m, .int .i64 d]] w fun e w' => e = .returned (.bool false) ∧ ∃ n, w' = (w.alloc (.cells #[.int .i64 y, .int .i64 m, .int .i64 d] 47)).drewN n := by
  by_cases hy : InY y
  · by_cases hm : InM m
    · have h3 : d < 1 ∨ lenM y m < d := by
        rcases vld_parts h with h1 | ⟨_, h1⟩
        · exact absurd ⟨hy, hm⟩ h1
        · exact h1
      obtain ⟨y1, y2⟩ := hy
      obtain ⟨m1, m2⟩ := hm
      have HL := Lib.hid (fun w => l3Length y m (by omega) w)
      clear h
      generalize lenM y m = L at *
      go_enter Tryd.func30, Tryd.ntmps30
      go_wp2_with fail
      go_quiet ((first
        | (go_at_call 32; with_reducible exact quiet_eq (l1In_true y 2000 2099 y1 y2 _))
        | (go_at_call 32; with_reducible exact quiet_eq (l1In_true m 1 12 m1 m2 _))
        | (go_at_call 32; with_reducible exact quiet_eq (l1In_false d 1 L h3 _))
        | (go_at_call 37; with_reducible exact quiet_eq (HL.out _))))
      go_wp2_with fail
      go_ret
      exact ⟨rfl, _, rfl⟩
    · have h3 : m < 1 ∨ 12 < m := by unfold InM at hm; omega
      obtain ⟨y1, y2⟩ := hy
      clear h hm
      go_enter Tryd.func30, Tryd.ntmps30
      go_wp2_with fail
      go_quiet ((first
        | (go_at_call 32; with_reducible exact quiet_eq (l1In_true y 2000 2099 y1 y2 _))
        | (go_at_call 32; with_reducible exact quiet_eq (l1In_false m 1 12 h3 _))))
      go_wp2_with fail
      go_ret
      exact ⟨rfl, _, rfl⟩
  · have h3 : y < 2000 ∨ 2099 < y := by unfold InY at hy; omega
    clear h hy
    go_enter Tryd.func30, Tryd.ntmps30
    go_wp2_with fail
    go_quiet ((first
      | (go_at_call 32; with_reducible exact quiet_eq (l1In_false y 2000 2099 h3 _))))
    go_wp2_with fail
    go_ret
    exact ⟨rfl, _, rfl⟩

set_option maxHeartbeats 400000 in
theorem l3Day (y m d : Int) (hy : InY y) (hm : InM m) (d1 : -100 ≤ d) (d2 : d ≤ 100) (w : World) :
    Calls Tryd.prog 31 #[.agg #[.int .i64 y, .int .i64 m, .int .i64 d]] w fun e w' => e = .returned (.int .i64 (num y m d)) ∧ w.alloc (.cells #[.int .i64 y, .int .i64 m, .int .i64 d] 47) = w' := by
  have HE : Hid (365 * (y - 2000) + (y - 2000 + 3) / 4 = dby y + bef y 1) := Lib.hid (by rw [bef_one]; unfold dby; omega)
  have hb := dby_bd hy
  obtain ⟨y1, y2⟩ := hy
  have HM := Lib.hid hm
  obtain ⟨m1, m2⟩ := hm
  go_enter Tryd.func31, Tryd.ntmps31
  go_wp2
  go_loop [4, 5] (fun n i => ∃ k : Int, 1 ≤ k ∧ k ≤ m ∧ i = .int .i64 k ∧ n = .int .i64 (dby y + bef y k)) (fun _ i => (m - intOf i).toNat)
  case atStart => exact ⟨1, by omega, m1, rfl, by rw [HE.out]⟩
  case round =>
    obtain ⟨k, k1, k2, rfl, rfl⟩ := hrel
    have hk := bef_bd y (m := k) ⟨by omega, by omega⟩
    by_cases hlt : k < m
    · have HS : Hid (dby y + bef y k + lenM y k = dby y + bef y (k + 1)) := Lib.hid (by rw [bef_succ y (m := k) ⟨by omega, by omega⟩]; omega)
      have hL := len_bd y k
      generalize dby y = D at *
      generalize bef y k = B at *
      go_wp2_with (go_at_call 37; refine (l3Length y k (by omega) _).mono ?_; rintro e w' ⟨rfl, rfl⟩)
      go_round
      case rel => exact ⟨k + 1, by omega, by omega, rfl, by rw [← HS.out]⟩
      case measure => simp [intOf]; omega
    · obtain rfl : k = m := by omega
      have HS : Hid (dby y + bef y k + d - 1 = num y k d) := Lib.hid (by unfold num; omega)
      generalize dby y = D at *
      generalize bef y k = B at *
      go_wp2_with fail
      go_ret
      exact ⟨ret_int HS.out, rfl⟩

end Go.Proofs.YthdiiocgemomoaaDoor.Valid
