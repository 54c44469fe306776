/-
  Valid dates and their days: what the program's and the model's functions return.
-/
import Derived.Test.YtlaogladhadliaaGreatDoorLen
namespace Go.Proofs.YtlaogladhadliaaGreatDoor.Valid
open Go.RowKit Go.Proofs.YtlaogladhadliaaGreatDoor.Cal Go.Proofs.YtlaogladhadliaaGreatDoor.Tab Go.Proofs.YtlaogladhadliaaGreatDoor.Wd Go.Proofs.YtlaogladhadliaaGreatDoor.Len

theorem quiet_eq {P : Program} {f : FuncId} {args : Array Value} {w : World} {n : Nat} {v : Value}
    (h : Calls P f args (w.drewN n) fun e w' => e = .returned v ∧ w.drewN n = w') : Calls P f args (w.drewN n) fun e w'' => e = .returned v ∧ ∃ m, w'' = w.drewN m :=
  h.mono fun _ _ ⟨he, hm⟩ => ⟨he, n, hm.symm⟩

theorem vld_parts {y m d : Int} (h : ¬ Vld y m d) : ¬ (InY y ∧ InM m) ∨ ((InY y ∧ InM m) ∧ (d < 1 ∨ lenM y m < d)) := by
  by_cases h1 : InY y ∧ InM m
  · right
    refine ⟨h1, ?_⟩
    unfold Vld at h
    simp only [h1, true_and] at h
    omega
  · exact .inl h1

set_option maxHeartbeats 400000 in
theorem validYes (y m d : Int) (h : Vld y m d) (w : World) (hT : Tab w) :
    Calls Tryz.prog 82 #[.agg #[.int .i64 y, .int .i64 m, .int .i64 d]] w fun e w' => e = .returned (.bool true) ∧ w.alloc (.cells #[.int .i64 y, .int .i64 m, .int .i64 d] 74) = w' := by
  have HT := Lib.hid hT
  obtain ⟨hy, hm, h1, h2⟩ := h
  have HY := Lib.hid hy
  have HM := Lib.hid hm
  have HL := Lib.hid (fun w hw => lenYes y m HY.out HM.out w hw)
  have hb := len_bd y m
  clear hT hy hm
  generalize lenM y m = L at *
  go_enter Tryz.func82, Tryz.ntmps82
  go_wp2_with (go_at_call 92; refine (HL.out _ (HT.out.alloc _)).mono ?_; rintro e w' ⟨rfl, rfl⟩)
  go_ret
  exact ⟨by simp, rfl⟩

set_option maxHeartbeats 400000 in
theorem validNo (y m d : Int) (h : ¬ Vld y m d) (w : World) (hT : Tab w) :
    Calls Tryz.prog 82 #[.agg #[.int .i64 y, .int .i64 m, .int .i64 d]] w fun e w' => e = .returned (.bool false) ∧ w.alloc (.cells #[.int .i64 y, .int .i64 m, .int .i64 d] 74) = w' := by
  have HT := Lib.hid hT
  rcases vld_parts h with h1 | ⟨⟨hy, hm⟩, h1⟩
  · have H1 := Lib.hid h1
    clear hT h h1
    go_enter Tryz.func82, Tryz.ntmps82
    go_wp2_with (go_at_call 92; refine (lenNo y m H1.out _).mono ?_; rintro e w' ⟨rfl, rfl⟩)
    go_ret
    exact ⟨rfl, rfl⟩
  · have HY := Lib.hid hy
    have HM := Lib.hid hm
    have HL := Lib.hid (fun w hw => lenYes y m HY.out HM.out w hw)
    have hb := len_bd y m
    clear hT hy hm h
    generalize lenM y m = L at *
    by_cases h2 : d < 1
    · clear h1
      go_enter Tryz.func82, Tryz.ntmps82
      go_wp2_with (go_at_call 92; refine (HL.out _ (HT.out.alloc _)).mono ?_; rintro e w' ⟨rfl, rfl⟩)
      go_ret
      exact ⟨rfl, rfl⟩
    · have h3 : L < d := by omega
      clear h1
      go_enter Tryz.func82, Tryz.ntmps82
      go_wp2_with (go_at_call 92; refine (HL.out _ (HT.out.alloc _)).mono ?_; rintro e w' ⟨rfl, rfl⟩)
      go_ret
      exact ⟨by simp [h3], rfl⟩

end Go.Proofs.YtlaogladhadliaaGreatDoor.Valid
