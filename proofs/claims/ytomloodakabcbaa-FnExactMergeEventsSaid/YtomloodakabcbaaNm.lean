/-
  Names: both IsValidName.
-/
import Derived.Test.YtomloodakabcbaaCondQ
import Derived.WalkSmall
namespace Go.Proofs.Ytomloodakabcbaa.Cond
open Go.RowKit

theorem bAt_lt {s : ByteArray} {i : Nat} (h : i < s.size) : bAt s i = s[i].toNat := by simp [bAt, h]

theorem l1In (x a b : Int) (w : World) : Calls Try.prog 28 #[.int .i64 x, .int .i64 a, .int .i64 b] w fun e w' => e = .returned (.bool (decide (a ≤ x) && decide (x ≤ b))) ∧ w = w' := by
  go_enter Try.func28, Try.ntmps28
  go_wp2
  · go_ret
    rename_i h
    exact ⟨by simp [h], rfl⟩
  · go_ret
    rename_i h
    exact ⟨by rw [decide_eq_false (show ¬ a ≤ x by omega)]; rfl, rfl⟩

theorem sgn_spec (b : Nat) : sgn b = (decide ((97 : Int) ≤ b) && decide ((b : Int) ≤ 122) || decide ((48 : Int) ≤ b) && decide ((b : Int) ≤ 57)) := by
  unfold sgn
  congr 2 <;> exact decide_eq_decide.2 (by omega)

theorem ret_bool {x y : Bool} (h : x = y) : Ending.returned (.bool x) = Ending.returned (.bool y) := by rw [h]

theorem l5Sign (b : Nat) (w : World) : Calls Try.prog 56 #[.int .u8 b] w fun e w' => e = .returned (.bool (sgn b)) ∧ w = w' := by
  rw [sgn_spec]
  go_enter Try.func56, Try.ntmps56
  go_wp2
  all_goals go_ret
  all_goals refine ⟨?_, rfl⟩
  all_goals (first | (simp; done) | (simp; omega) | (simp; rw [Bool.eq_iff_iff]; simp; omega))

theorem isDigit (b : Nat) (w : World) : Calls Try.prog 57 #[.int .u8 b] w fun e w' => e = .returned (.bool (decide (48 ≤ b) && decide (b ≤ 57))) ∧ w = w' := by
  go_enter Try.func57, Try.ntmps57
  go_wp2
  all_goals go_ret
  all_goals refine ⟨?_, rfl⟩
  all_goals (first | (simp; done) | (simp; omega) | (simp; rw [Bool.eq_iff_iff]; simp; omega))

set_option maxHeartbeats 1000000 in
theorem l5Name (s : ByteArray) (w : World) : Calls Try.prog 40 #[.string s] w fun e w' => e = .returned (.bool (isNm s)) ∧ w = w' := by
  by_cases h : 1 ≤ s.size ∧ s.size ≤ 8
  · obtain ⟨g0, g1⟩ := h
    have h0 : 0 < s.size := by omega
    have e1 : (1 : Int) ≤ (s.size : Int) := by omega
    have e2 : (s.size : Int) ≤ 8 := by omega
    have E0 : Hid (bAt s 0 = s[0].toNat) := Lib.hid (bAt_lt h0)
    by_cases hl : 97 ≤ s[0].toNat ∧ s[0].toNat ≤ 122
    · obtain ⟨l0, l1⟩ := hl
      have k0 : (97 : Int) ≤ (s[0].toNat : Int) := by omega
      have k1 : (s[0].toNat : Int) ≤ 122 := by omega
      have L0 := Lib.hid l0
      have L1 := Lib.hid l1
      clear l0 l1
      go_enter Try.func40, Try.ntmps40
      go_wp2_with (go_at_call 28; refine (l1In _ _ _ _).mono ?_; rintro e w' ⟨rfl, rfl⟩)
      go_loopw [3] (fun i wr => ∃ k : Nat, k ≤ s.size ∧ i = .int .i64 k ∧ Hid (∀ j, j < k → sgn (bAt s j) = true) ∧ w = wr) (fun i _ => s.size - (intOf i).toNat)
      case atStart => exact ⟨0, Nat.zero_le _, rfl, Lib.hid fun j hj => by omega, rfl⟩
      case round =>
        obtain ⟨k, hk, rfl, HK, rfl⟩ := hrel
        by_cases hlt : k < s.size
        · have i0 : (0 : Int) ≤ (k : Int) := by omega
          have i1 : (k : Int) < (s.size : Int) := by omega
          have EK : Hid (bAt s k = s[k].toNat) := Lib.hid (bAt_lt hlt)
          obtain ⟨v, hv⟩ : ∃ v, v = sgn s[k].toNat := ⟨_, rfl⟩
          have HS := Lib.hid (l5Sign s[k].toNat w)
          rw [← hv] at HS
          have HV := Lib.hid hv
          clear hv
          cases v
          · go_wp2_with (go_at_call 56; refine HS.out.mono ?_; rintro e w' ⟨rfl, rfl⟩)
            go_ret
            refine ⟨ret_bool ?_, rfl⟩
            have : isNm s = false := by
              unfold isNm
              rw [decide_eq_false (p := ∀ i, i < s.size → sgn (bAt s i) = true) (fun h => by have := h k hlt; rw [EK.out, ← HV.out] at this; cases this)]
              simp
            exact this.symm
          · go_wp2_with (go_at_call 56; refine HS.out.mono ?_; rintro e w' ⟨rfl, rfl⟩)
            go_roundw
            case rel => exact ⟨k + 1, by omega, by go_num, Lib.hid fun j hj => by
              by_cases e : j = k
              · subst e; rw [EK.out, ← HV.out]
              · exact HK.out j (by omega), trivial⟩
            case measure => simp [intOf]; omega
        · have HA : Hid (isNm s = !isWd s) := Lib.hid (by
            have hall : ∀ i, i < s.size → sgn (bAt s i) = true := fun i hi => HK.out i (by omega)
            unfold isNm
            rw [decide_eq_true hall, E0.out]
            simp [g0, g1, L0.out, L1.out])
          go_wp2_with fail
          all_goals go_ret
          all_goals refine ⟨?_, rfl⟩
          all_goals rw [HA.out]
          all_goals (simp_all [isWd])
    · have HF : Hid (isNm s = false) := Lib.hid (by
        unfold isNm
        rw [E0.out]
        simp; omega)
      rw [HF.out]
      have hx : ¬ ((97 : Int) ≤ (s[0].toNat : Int) ∧ (s[0].toNat : Int) ≤ 122) := by omega
      clear hl
      go_enter Try.func40, Try.ntmps40
      go_wp2_with (go_at_call 28; refine (l1In _ _ _ _).mono ?_; rintro e w' ⟨rfl, rfl⟩)
      all_goals (first | go_ret | (exfalso; omega))
      all_goals exact ⟨rfl, rfl⟩
  · have HF : Hid (isNm s = false) := Lib.hid (by
      unfold isNm
      simp; omega)
    have hx : ¬ ((1 : Int) ≤ (s.size : Int) ∧ (s.size : Int) ≤ 8) := by omega
    rw [HF.out]
    go_enter Try.func40, Try.ntmps40
    go_wp2_with (go_at_call 28; refine (l1In _ _ _ _).mono ?_; rintro e w' ⟨rfl, rfl⟩)
    all_goals (first | go_ret | (exfalso; omega))
    all_goals exact ⟨rfl, rfl⟩

end Go.Proofs.Ytomloodakabcbaa.Cond
