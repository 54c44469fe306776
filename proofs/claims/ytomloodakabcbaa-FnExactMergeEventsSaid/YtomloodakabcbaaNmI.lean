/-
  Names: wordLength and IsValidName of the program.
-/
import Derived.Test.YtomloodakabcbaaNm
namespace Go.Proofs.Ytomloodakabcbaa.Cond
open Go.RowKit

/-- How many letters and digits stand at the start. -/
def wl (s : ByteArray) : Nat := (s.data.toList.takeWhile fun b => sgn b.toNat).length

theorem wl_list {l : List UInt8} : ∀ {k : Nat}, k ≤ l.length → (∀ j, ∀ h : j < l.length, j < k → sgn l[j].toNat = true) → (∀ h : k < l.length, sgn l[k].toNat = false) → (l.takeWhile fun b => sgn b.toNat).length = k := by
  induction l with
  | nil => intro k hk _ _; simp at hk; simp [hk]
  | cons b l ih =>
    intro k hk h1 h2
    cases k with
    | zero => simp [show sgn b.toNat = false from h2 (by simp)]
    | succ k =>
      have hb : sgn b.toNat = true := h1 0 (by simp) (by omega)
      have := ih (k := k) (by simpa using hk) (fun j hj hjk => h1 (j + 1) (by simpa using hj) (by omega)) (fun h => h2 (by simpa using h))
      simp [hb, this]
theorem wl_of {s : ByteArray} {k : Nat} (hk : k ≤ s.size) (h1 : ∀ j, j < k → sgn (bAt s j) = true) (h2 : k < s.size → sgn (bAt s k) = false) : wl s = k := by
  unfold wl
  have hl : s.data.toList.length = s.size := by simp
  refine wl_list (by omega) (fun j hj hjk => ?_) (fun h => ?_)
  · have := h1 j hjk
    rw [bAt_lt (by omega), ByteArray.getElem_eq_getElem_data] at this
    simpa using this
  · have := h2 (by omega)
    rw [bAt_lt (by omega), ByteArray.getElem_eq_getElem_data] at this
    simpa using this
theorem wl_le (s : ByteArray) : wl s ≤ s.size := by
  unfold wl
  have := (List.takeWhile_prefix (p := fun b : UInt8 => sgn b.toNat) (l := s.data.toList)).length_le
  simpa using this
theorem wl_all {s : ByteArray} : wl s = s.size ↔ ∀ i, i < s.size → sgn (bAt s i) = true := by
  constructor
  · intro h i hi
    have h2 : (s.data.toList.takeWhile fun b => sgn b.toNat) = s.data.toList := (List.takeWhile_prefix _).eq_of_length (by unfold wl at h; simpa using h)
    have h3 : ∀ l : List UInt8, (l.takeWhile fun b => sgn b.toNat) = l → ∀ b ∈ l, sgn b.toNat = true := fun l => by
      induction l with
      | nil => intro _ b hb; simp at hb
      | cons a l ih =>
        intro h b hb
        rw [List.takeWhile_cons] at h
        split at h
        · rename_i ha
          rcases List.mem_cons.1 hb with rfl | hb
          · exact ha
          · exact ih (by simpa using h) b hb
        · cases h
    rw [bAt_lt hi]
    exact h3 _ h2 s[i] (by simp [ByteArray.getElem_eq_getElem_data])
  · intro h
    exact wl_of (Nat.le_refl _) h (fun h => by omega)

set_option maxHeartbeats 1000000 in
theorem wordLength (s : ByteArray) (hs : s.size ≤ maxLen) (w : World) : Calls Try.prog 58 #[.string s] w fun e w' => e = .returned (.int .i64 (wl s)) ∧ w = w' := by
  unfold maxLen at hs
  go_enter Try.func58, Try.ntmps58
  go_wp2_with fail
  go_loopw [3] (fun i wr => ∃ k : Nat, k ≤ s.size ∧ i = .int .i64 k ∧ Hid (∀ j, j < k → sgn (bAt s j) = true) ∧ w = wr) (fun i _ => s.size - (intOf i).toNat)
  case atStart => exact ⟨0, Nat.zero_le _, rfl, Lib.hid fun j hj => by omega, rfl⟩
  case round =>
    obtain ⟨k, hk, rfl, HK, rfl⟩ := hrel
    by_cases hlt : k < s.size
    · have i0 : (0 : Int) ≤ (k : Int) := by omega
      have i1 : (k : Int) < (s.size : Int) := by omega
      have EK : Hid (bAt s k = s[k].toNat) := Lib.hid (bAt_lt hlt)
      have HD := Lib.hid (isDigit s[k].toNat w)
      go_wp2_with (go_at_call 57; refine HD.out.mono ?_; rintro e w' ⟨rfl, rfl⟩)
      all_goals first
        | (go_ret
           exact ⟨by rw [wl_of hk HK.out (fun _ => by rw [EK.out]; unfold sgn; simp; omega)]; rfl, rfl⟩)
        | (go_roundw
           case rel => exact ⟨k + 1, by omega, by go_num, Lib.hid fun j hj => by
             by_cases e : j = k
             · subst e; rw [EK.out]; unfold sgn; simp; omega
             · exact HK.out j (by omega), trivial⟩
           case measure => simp [intOf]; omega)
    · have HE : Hid (wl s = k) := Lib.hid (wl_of hk HK.out (fun h => by omega))
      go_wp2_with fail
      go_ret
      exact ⟨by rw [HE.out]; rfl, rfl⟩

set_option maxHeartbeats 1000000 in
theorem isValidName (s : ByteArray) (hs : s.size ≤ maxLen) (w : World) : Calls Try.prog 44 #[.string s] w fun e w' => e = .returned (.bool (isNm s)) ∧ w = w' := by
  have HW := Lib.hid (wordLength s hs w)
  unfold maxLen at hs
  by_cases h : 1 ≤ s.size ∧ s.size ≤ 8
  · obtain ⟨g0, g1⟩ := h
    have h0 : 0 < s.size := by omega
    have e1 : ¬ (s.size : Int) < 1 := by omega
    have e2 : ¬ (8 : Int) < (s.size : Int) := by omega
    have E0 : Hid (bAt s 0 = s[0].toNat) := Lib.hid (bAt_lt h0)
    have HD := Lib.hid (isDigit s[0].toNat w)
    have HX : Hid ((48 ≤ s[0].toNat ∧ s[0].toNat ≤ 57) → isNm s = false) := Lib.hid fun h => by
      unfold isNm
      rw [E0.out]
      simp; omega
    have HA : Hid ((¬ 48 ≤ s[0].toNat ∨ ¬ s[0].toNat ≤ 57) → isNm s = (decide (wl s = s.size) && !isWd s)) := Lib.hid fun h => by
      by_cases e : wl s = s.size
      · have h1 := wl_all.1 e
        have h2 := h1 0 h0
        unfold isNm
        rw [decide_eq_true h1, decide_eq_true e, E0.out]
        rw [E0.out] at h2
        unfold sgn at h2
        simp at h2
        have h3 : 97 ≤ s[0].toNat := by omega
        have h4 : s[0].toNat ≤ 122 := by omega
        simp [g0, g1, h3, h4]
      · unfold isNm
        rw [decide_eq_false (fun h1 => e (wl_all.2 h1)), decide_eq_false e]
        simp
    go_enter Try.func44, Try.ntmps44
    go_wp2_with (first | (go_at_call 57; refine HD.out.mono ?_; rintro e w' ⟨rfl, rfl⟩) | (go_at_call 58; refine HW.out.mono ?_; rintro e w' ⟨rfl, rfl⟩))
    all_goals go_ret
    all_goals refine ⟨?_, rfl⟩
    · rw [HX.out (by assumption)]; rfl
    all_goals rw [HA.out (by assumption)]
    all_goals (first | (simp_all [isWd]; done) | (simp_all [isWd]; rw [Bool.eq_iff_iff]; simp; omega))
  · have HF : Hid (isNm s = false) := Lib.hid (by
      unfold isNm
      simp; omega)
    have hx : (s.size : Int) < 1 ∨ (8 : Int) < (s.size : Int) := by omega
    rw [HF.out]
    go_enter Try.func44, Try.ntmps44
    go_wp2_with fail
    all_goals (first | go_ret | (exfalso; omega))
    all_goals exact ⟨rfl, rfl⟩

end Go.Proofs.Ytomloodakabcbaa.Cond
