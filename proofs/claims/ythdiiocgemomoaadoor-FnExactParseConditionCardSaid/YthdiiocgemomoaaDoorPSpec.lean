/-
  ParseDate of the model; the walk of the law FnExactParseDate.
-/
import Derived.Test.YthdiiocgemomoaaDoorPImpl
namespace Go.Proofs.YthdiiocgemomoaaDoor.PSpec
open Go.RowKit Go.Proofs.YthdiiocgemomoaaDoor.Cal Go.Proofs.YthdiiocgemomoaaDoor.Tab Go.Proofs.YthdiiocgemomoaaDoor.Wd Go.Proofs.YthdiiocgemomoaaDoor.Len Go.Proofs.YthdiiocgemomoaaDoor.Valid Go.Proofs.YthdiiocgemomoaaDoor.DayOf Go.Proofs.YthdiiocgemomoaaDoor.DateOf Go.Proofs.YthdiiocgemomoaaDoor.FmtPlain Go.Proofs.YthdiiocgemomoaaDoor.LiesD Go.Proofs.YthdiiocgemomoaaDoor.DPlain Go.Proofs.YthdiiocgemomoaaDoor.PImpl Go.Proofs.YthdiiocgemomoaaDoor.IntText Go.Proofs.YthdiiocgemomoaaDoor.Plain
set_option linter.unusedVariables false
set_option linter.unusedSimpArgs false

set_option maxHeartbeats 1000000 in
theorem l3Digits (s : ByteArray) (hs : s.size ≤ 4) (w : World) :
    Calls Tryd.prog 29 #[.string s] w fun e w' => e = .returned (.int .i64 (dig s.data.toList)) ∧ w = w' := by
  go_enter Tryd.func29, Tryd.ntmps29
  go_wp2_with fail
  go_loop [3, 4] (fun n i => ∃ k m : Nat, k ≤ s.size ∧ i = .int .i64 k ∧ n = .int .i64 m ∧ Lib.decFrom 0 (s.data.toList.take k) = some m) (fun _ i => s.size - (intOf i).toNat)
  case atStart => exact ⟨0, 0, Nat.zero_le _, rfl, rfl, rfl⟩
  case round =>
    obtain ⟨k, m, hk, rfl, rfl, hm⟩ := hrel
    have hm6 : m ≤ 999999 := decFrom_six hm (by have := List.length_take_le k s.data.toList; omega)
    have HM := Lib.hid hm
    clear hm
    by_cases hlt : k < s.size
    · by_cases h48 : s[k].toNat < 48
      · have HN : Hid (-1 = dig s.data.toList) := Lib.hid (by unfold dig; rw [decFrom_stop hlt (.inl h48)])
        have h48' : ((s[k].toNat : Int)) < 48 := by omega
        go_wp2_with fail
        go_ret
        exact ⟨ret_int HN.out, rfl⟩
      · by_cases h57 : 57 < s[k].toNat
        · have HN : Hid (-1 = dig s.data.toList) := Lib.hid (by unfold dig; rw [decFrom_stop hlt (.inr h57)])
          go_wp2_with fail
          go_ret
          exact ⟨ret_int HN.out, rfl⟩
        · have HS := Lib.hid (decFrom_step hlt HM.out (by omega) (by omega))
          go_wp2_with fail
          go_round
          case rel => exact ⟨k + 1, m * 10 + (s[k].toNat - 48), by omega, by go_num, by go_num, HS.out⟩
          case measure => simp [intOf]; omega
    · have HE : Hid ((m : Int) = dig s.data.toList) := Lib.hid (by have := HM.out; rw [take_all s k (by omega)] at this; unfold dig; rw [this])
      go_wp2_with fail
      go_ret
      exact ⟨ret_int HE.out, rfl⟩

theorem short (s : ByteArray) (h : s.size ≠ 10) (hs : s.size ≤ 2000000) (w : World) :
    Calls Tryd.prog 16 #[.string s] w fun e w' => Ans s e ∧ Below w.heap.size w w' := by
  have h1 : ((s.size : Int) == 10) = false := by simp; omega
  have h2 : ((s.size : Int) != 10) = true := by simp; omega
  have HN : Hid (∀ x, ¬ Is s.data.toList x) := Lib.hid fun x hx => h (by rw [size_len]; exact hx.len)
  clear h
  go_enter Tryd.func16, Tryd.ntmps16
  go_wp2_with fail
  go_ret2
  exact ⟨.inr ⟨HN.out, rfl⟩, Below.refl _ _⟩

theorem other (s : ByteArray) (hsz : s.size = 10) (h : (s[4]'(by omega)).toNat ≠ 45 ∨ (s[7]'(by omega)).toNat ≠ 45) (HN : Hid (∀ x, ¬ Is s.data.toList x)) (w : World) :
    Calls Tryd.prog 16 #[.string s] w fun e w' => Ans s e ∧ Below w.heap.size w w' := by
  have p4 : 4 < s.size := by omega
  have p7 : 7 < s.size := by omega
  by_cases h4 : s[4].toNat = 45
  · have q4 : ((s[4].toNat : Int)) = 45 := by omega
    have q7 : ((s[7].toNat : Int) != 45) = true := by have : s[7].toNat ≠ 45 := h.elim (fun h => absurd h4 h) id; simp; omega
    clear h h4
    go_enter Tryd.func16, Tryd.ntmps16
    go_wp2_with fail
    go_ret2
    exact ⟨.inr ⟨HN.out, rfl⟩, Below.refl _ _⟩
  · have q4 : ((s[4].toNat : Int) != 45) = true := by simp; omega
    clear h h4
    go_enter Tryd.func16, Tryd.ntmps16
    go_wp2_with fail
    go_ret2
    exact ⟨.inr ⟨HN.out, rfl⟩, Below.refl _ _⟩

set_option maxHeartbeats 4000000 in
theorem tenAux (s p1 p2 p3 : ByteArray) (Y M D : Int) (w : World) (hsz : s.size = 10) (h4 : (s[4]'(by omega)).toNat = 45) (h7 : (s[7]'(by omega)).toNat = 45)
    (s1 : ∀ w, (Instr.slice 9 (.string s) none (some (.int .i64 4)) none).run Tryd.prog w = .ok (.string p1) w)
    (s2 : ∀ w, (Instr.slice 9 (.string s) (some (.int .i64 5)) (some (.int .i64 7)) none).run Tryd.prog w = .ok (.string p2) w)
    (s3 : ∀ w, (Instr.slice 9 (.string s) (some (.int .i64 8)) none none).run Tryd.prog w = .ok (.string p3) w)
    (H1 : Hid (∀ w, Calls Tryd.prog 29 #[.string p1] w fun e w' => e = .returned (.int .i64 Y) ∧ w = w'))
    (H2 : Hid (∀ w, Calls Tryd.prog 29 #[.string p2] w fun e w' => e = .returned (.int .i64 M) ∧ w = w'))
    (H3 : Hid (∀ w, Calls Tryd.prog 29 #[.string p3] w fun e w' => e = .returned (.int .i64 D) ∧ w = w'))
    (HA : Hid ((Vld Y M D ∧ Is s.data.toList (num Y M D)) ∨ (¬ Vld Y M D ∧ ∀ x, ¬ Is s.data.toList x))) :
    Calls Tryd.prog 16 #[.string s] w fun e w' => Ans s e ∧ Below w.heap.size w w' := by
  have p4 : 4 < s.size := by omega
  have p7 : 7 < s.size := by omega
  have q4 : ((s[4].toNat : Int)) = 45 := by omega
  have q7 : ((s[7].toNat : Int)) = 45 := by omega
  clear h4 h7
  go_enter Tryd.func16, Tryd.ntmps16
  go_wp2_with fail
  go_region_with (first
    | (go_at_call 29; (with_reducible refine (H1.out _).mono ?_); rintro e w2 ⟨rfl, rfl⟩)
    | (go_at_call 29; (with_reducible refine (H2.out _).mono ?_); rintro e w2 ⟨rfl, rfl⟩)
    | (go_at_call 29; (with_reducible refine (H3.out _).mono ?_); rintro e w2 ⟨rfl, rfl⟩))
  all_goals
    clear s1 s2 s3 H1 H2 H3
    rcases HA.out with ⟨hv, hi⟩ | ⟨hv, hi⟩
    · have HV := Lib.hid hv
      have HI := Lib.hid hi
      have hl := len_bd Y M
      have HD : Hid (∀ w, Calls Tryd.prog 31 #[.agg #[.int .i64 Y, .int .i64 M, .int .i64 D]] w fun e w' => e = .returned (.int .i64 (num Y M D)) ∧ w.alloc (.cells #[.int .i64 Y, .int .i64 M, .int .i64 D] 47) = w') := Lib.hid fun w => l3Day Y M D HV.out.1 HV.out.2.1 (by have := HV.out.2.2; omega) (by have := HV.out.2.2; omega) w
      clear hv hi hl
      generalize num Y M D = N at *
      go_wp2_with (first
        | (go_at_call 30; refine (l3ValidYes Y M D HV.out _).mono ?_; rintro e w2 ⟨rfl, k, rfl⟩)
        | (go_at_call 31; refine (HD.out _).mono ?_; rintro e w2 ⟨rfl, rfl⟩))
      go_ret2
      exact ⟨.inl ⟨N, HI.out, rfl⟩, by first | exact below_drewN (below3 _ _ _ _) _ | exact (below_drewN (below3 _ _ _ _) _).drew⟩
    · have HV := Lib.hid hv
      have HI := Lib.hid hi
      clear hv hi
      go_wp2_with (go_at_call 30; refine (l3ValidNo Y M D HV.out _).mono ?_; rintro e w2 ⟨rfl, k, rfl⟩)
      go_ret2
      exact ⟨.inr ⟨HI.out, rfl⟩, by first | exact below_drewN (below2 _ _ _) _ | exact (below_drewN (below2 _ _ _) _).drew⟩

theorem ten (a0 a1 a2 a3 a4 a5 a6 a7 a8 a9 : UInt8) (w : World) :
    Calls Tryd.prog 16 #[.string ⟨#[a0, a1, a2, a3, a4, a5, a6, a7, a8, a9]⟩] w fun e w' => Ans ⟨#[a0, a1, a2, a3, a4, a5, a6, a7, a8, a9]⟩ e ∧ Below w.heap.size w w' := by
  have e45 : (45 : UInt8).toNat = 45 := rfl
  have inj : ∀ {a : UInt8}, a.toNat = 45 → a = 45 := fun h => UInt8.toNat_inj.1 (h.trans e45.symm)
  by_cases h4 : a4.toNat = 45
  · by_cases h7 : a7.toNat = 45
    · refine tenAux ⟨#[a0, a1, a2, a3, a4, a5, a6, a7, a8, a9]⟩ ⟨#[a0, a1, a2, a3]⟩ ⟨#[a5, a6]⟩ ⟨#[a8, a9]⟩ (dig [a0, a1, a2, a3]) (dig [a5, a6]) (dig [a8, a9]) w rfl h4 h7 (fun w => ?_) (fun w => ?_) (fun w => ?_)
        (Lib.hid fun w => l3Digits _ (by simp [ByteArray.size]) w) (Lib.hid fun w => l3Digits _ (by simp [ByteArray.size]) w) (Lib.hid fun w => l3Digits _ (by simp [ByteArray.size]) w) (Lib.hid ?_)
      rotate_right
      · obtain rfl := inj h4
        obtain rfl := inj h7
        by_cases hv : Vld (dig [a0, a1, a2, a3]) (dig [a5, a6]) (dig [a8, a9])
        · left
          refine ⟨hv, ?_⟩
          have := Is.num hv
          rw [← text_of hv] at this
          exact this
        · right
          refine ⟨hv, fun x hx => ?_⟩
          obtain ⟨d1, d2, d3, -, -⟩ := dig_text (date_is hx.1).1 hx.2
          rw [d1, d2, d3] at hv
          exact hv (date_is hx.1).1
      all_goals
        simp [go_sem, ByteArray.size]
        rfl
    · refine other ⟨#[a0, a1, a2, a3, a4, a5, a6, a7, a8, a9]⟩ rfl (.inr h7) (Lib.hid fun x hx => h7 ?_) w
      have := (dig_text (date_is hx.1).1 hx.2).2.2.2.2
      rw [this]; rfl
  · refine other ⟨#[a0, a1, a2, a3, a4, a5, a6, a7, a8, a9]⟩ rfl (.inl h4) (Lib.hid fun x hx => h4 ?_) w
    have := (dig_text (date_is hx.1).1 hx.2).2.2.2.1
    rw [this]; rfl

theorem spec (s : ByteArray) (hs : s.size ≤ 2000000) (w : World) :
    Calls Tryd.prog 16 #[.string s] w fun e w' => Ans s e ∧ Below w.heap.size w w' := by
  by_cases h : s.size = 10
  · have hl : s.data.toList.length = 10 := by rw [← size_len]; exact h
    obtain ⟨a0, a1, a2, a3, a4, a5, a6, a7, a8, a9, e⟩ : ∃ a0 a1 a2 a3 a4 a5 a6 a7 a8 a9, s.data.toList = [a0, a1, a2, a3, a4, a5, a6, a7, a8, a9] := by
      match s.data.toList, hl with
      | [a0, a1, a2, a3, a4, a5, a6, a7, a8, a9], _ => exact ⟨_, _, _, _, _, _, _, _, _, _, rfl⟩
    obtain rfl : s = ⟨#[a0, a1, a2, a3, a4, a5, a6, a7, a8, a9]⟩ := by
      apply ByteArray.ext
      apply Array.toList_inj.1
      rw [e]
    exact ten a0 a1 a2 a3 a4 a5 a6 a7 a8 a9 w
  · exact short s h hs w

theorem Ans.det {s : ByteArray} : ∃ (v : Int) (b : Bool), ∀ e, Ans s e → e = .returned (.tuple #[.int .i64 v, .bool b]) := by
  by_cases h : ∃ x, Is s.data.toList x
  · obtain ⟨x, hx⟩ := h
    refine ⟨x, true, fun e he => ?_⟩
    rcases he with ⟨y, hy, rfl⟩ | ⟨hn, rfl⟩
    · rw [hx.uniq hy]
    · exact absurd hx (hn x)
  · refine ⟨0, false, fun e he => ?_⟩
    rcases he with ⟨y, hy, rfl⟩ | ⟨hn, rfl⟩
    · exact absurd ⟨y, hy⟩ h
    · rfl

end Go.Proofs.YthdiiocgemomoaaDoor.PSpec
