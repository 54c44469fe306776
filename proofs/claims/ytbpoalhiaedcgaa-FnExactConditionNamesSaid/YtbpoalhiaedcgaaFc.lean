/-
  Fact lists: isFactList of the program, l5Facts and l5Has of the model.
-/
import Derived.Test.YtbpoalhiaedcgaaNmI
import Derived.Test.YtbpoalhiaedcgaaRow
import Derived.Laws.Cover1
namespace Go.Proofs.Ytbpoalhiaedcgaa.Cond
open Go.RowKit

/-- Strings by their bytes: less. -/
def sl (a b : ByteArray) : Bool := Op.bytesLess a.toList b.toList
/-- Element j of a fact list is a name, greater than the one before. -/
def fAt (ss : List ByteArray) (j : Nat) : Prop := ∀ h : j < ss.length, isNm ss[j] = true ∧ (0 < j → sl (ss[j - 1]'(by omega)) ss[j] = true)
/-- A fact list. -/
def FOk (ss : List ByteArray) : Prop := ss.length ≤ 16 ∧ ∀ j, j < ss.length → fAt ss j

theorem fAt_of {ss : List ByteArray} {k : Nat} (hk : k < ss.length) {p : ByteArray} (hp : p = ss[k]) (h1 : isNm p = true) (h2 : ∀ h : 0 < k, sl (ss[k - 1]'(by omega)) p = true) : fAt ss k := fun h => by
  subst hp
  exact ⟨h1, h2⟩

set_option maxHeartbeats 1000000 in
theorem isFactList (A : Option Addr) (n cap : Nat) (ss : List ByteArray) (B : Nat) (w : World) (hn : n = ss.length) (hm : n ≤ 1048576) (hA : Row.Is w B A ss) (hs : ∀ p ∈ ss, p.size ≤ maxLen) (f : Bool) (hf : f = true ↔ FOk ss) :
    Calls Try.prog 47 #[.slice A n cap] w fun e w' => e = .returned (.bool f) ∧ w = w' := by
  have HN := Lib.hid hn
  have HF := Lib.hid hf
  clear hn hf
  have HFN : Hid (∀ j, ∀ h : j < ss.length, ¬ (isNm ss[j] = true ∧ (0 < j → sl (ss[j - 1]'(by omega)) ss[j] = true)) → f = false) := Lib.hid fun j h hno => by
    cases hv : f with
    | false => rfl
    | true => exact absurd ((HF.out.1 hv).2 j h h) hno
  by_cases hbig : n ≤ 16
  · have hb2 : ¬ (16 : Int) < (n : Int) := by omega
    go_enter Try.func47, Try.ntmps47
    go_wp2_with fail
    go_loopw [10] (fun i wr => ∃ k : Nat, k ≤ n ∧ i = .int .i64 k ∧ Hid (∀ j, j < k → fAt ss j) ∧ w = wr) (fun i _ => n - (intOf i).toNat)
    case atStart => exact ⟨0, Nat.zero_le _, rfl, Lib.hid fun j hj => by omega, rfl⟩
    case round =>
      obtain ⟨k, hk, rfl, HK, rfl⟩ := hrel
      by_cases hlt : k < n
      · have hk' : k < ss.length := by have := HN.out; omega
        obtain ⟨ad, rfl, hB, hc⟩ := hA (by omega)
        obtain ⟨p, hp⟩ : ∃ p, p = ss[k] := ⟨_, rfl⟩
        have hcell : w.cell? (ad.add k) = some (.string p) := by rw [hp]; exact hc k hk'
        have HV := isValidName p (by rw [hp]; exact hs _ (List.getElem_mem hk')) w
        have HP := Lib.hid hp
        obtain ⟨v, hv⟩ : ∃ v, v = isNm p := ⟨_, rfl⟩
        rw [← hv] at HV
        have HVH := Lib.hid HV
        have HVV := Lib.hid hv
        clear hv HV
        cases v
        · have HE : Hid (f = false) := Lib.hid (HFN.out k hk' (fun h => by rw [← HP.out, ← HVV.out] at h; exact absurd h.1 (by simp)))
          clear hp hc
          go_wp2_with (go_at_call 11; refine HVH.out.mono ?_; rintro e w' ⟨rfl, rfl⟩)
          go_ret
          exact ⟨by rw [HE.out]; rfl, rfl⟩
        · by_cases h0 : 0 < k
          · obtain ⟨q, hq⟩ : ∃ q, q = ss[k - 1]'(by omega) := ⟨_, rfl⟩
            have hcell2 : w.cell? (ad.add (k - 1)) = some (.string q) := by rw [hq]; exact hc (k - 1) (by omega)
            have HQ := Lib.hid hq
            obtain ⟨u, hu⟩ : ∃ u, u = Op.bytesLess q.toList p.toList := ⟨_, rfl⟩
            have HU := Lib.hid hu
            have hu' := hu.symm
            have h0' : (0 : Int) < (k : Int) := by omega
            clear hp hq hc hu
            cases u
            · have HE : Hid (f = false) := Lib.hid (HFN.out k hk' (fun h => by
                have := h.2 h0
                unfold sl at this
                rw [← HP.out, ← HQ.out, ← HU.out] at this
                cases this))
              go_wp2_with (go_at_call 11; refine HVH.out.mono ?_; rintro e w' ⟨rfl, rfl⟩)
              go_ret
              exact ⟨by rw [HE.out]; rfl, rfl⟩
            · go_wp2_with (go_at_call 11; refine HVH.out.mono ?_; rintro e w' ⟨rfl, rfl⟩)
              go_roundw
              case rel => exact ⟨k + 1, by omega, by go_num, Lib.hid fun j hj => by
                by_cases e : j = k
                · subst e
                  exact fAt_of hk' HP.out HVV.out.symm (fun _ => by unfold sl; rw [← HQ.out]; exact HU.out.symm)
                · exact HK.out j (by omega), trivial⟩
              case measure => simp [intOf]; omega
          · have h0' : ¬ (0 : Int) < (k : Int) := by omega
            clear hp hc
            go_wp2_with (go_at_call 11; refine HVH.out.mono ?_; rintro e w' ⟨rfl, rfl⟩)
            go_roundw
            case rel => exact ⟨k + 1, by omega, by go_num, Lib.hid fun j hj => by
              by_cases e : j = k
              · subst e
                exact fAt_of hk' HP.out HVV.out.symm (fun h => absurd h h0)
              · exact HK.out j (by omega), trivial⟩
            case measure => simp [intOf]; omega
      · have HE : Hid (f = true) := Lib.hid (HF.out.2 ⟨by have := HN.out; omega, fun j hj => HK.out j (by have := HN.out; omega)⟩)
        go_wp2_with fail
        go_ret
        exact ⟨by rw [HE.out]; rfl, rfl⟩
  · have hb2 : (16 : Int) < (n : Int) := by omega
    have HE : Hid (f = false) := Lib.hid (by
      cases hv : f with
      | false => rfl
      | true => exact absurd (HF.out.1 hv).1 (by have := HN.out; omega))
    rw [HE.out]
    go_enter Try.func47, Try.ntmps47
    go_wp2_with fail
    go_ret
    exact ⟨rfl, rfl⟩

set_option maxHeartbeats 2000000 in
theorem l5Facts (A : Option Addr) (n cap : Nat) (ss : List ByteArray) (B : Nat) (w : World) (hn : n = ss.length) (hm : n ≤ 1048576) (hA : Row.Is w B A ss) (f : Bool) (hf : f = true ↔ FOk ss) :
    Calls Try.prog 44 #[.slice A n cap] w fun e w' => e = .returned (.bool f) ∧ ∃ m, w' = w.drewN m := by
  have HN := Lib.hid hn
  have HF := Lib.hid hf
  clear hn hf
  have HFN : Hid (∀ j, ∀ h : j < ss.length, ¬ (isNm ss[j] = true ∧ (0 < j → sl (ss[j - 1]'(by omega)) ss[j] = true)) → f = false) := Lib.hid fun j h hno => by
    cases hv : f with
    | false => rfl
    | true => exact absurd ((HF.out.1 hv).2 j h h) hno
  go_enter Try.func44, Try.ntmps44
  go_wp2_with fail
  go_loopw [3] (fun i wr => ∃ k : Nat, k ≤ n ∧ i = .int .i64 k ∧ Hid (∀ j, j < k → fAt ss j) ∧ Hid (∃ m, wr = w.drewN m)) (fun i _ => n - (intOf i).toNat)
  case atStart => exact ⟨0, Nat.zero_le _, rfl, Lib.hid fun j hj => by omega, Lib.hid ⟨0, rfl⟩⟩
  case round =>
    obtain ⟨k, hk, rfl, HK, HW⟩ := hrel
    have HCL : Hid (∀ a, wr.cell? a = w.cell? a) := Lib.hid fun a => by obtain ⟨m, rfl⟩ := HW.out; rfl
    have HDR : Hid (∀ q, ∃ m, wr.drewN q = w.drewN m) := Lib.hid fun q => by obtain ⟨m, hm⟩ := HW.out; exact ⟨m + q, by rw [hm, World.drewN_drewN]⟩
    by_cases hlt : k < n
    · have i0 : (0 : Int) ≤ (k : Int) := by omega
      have i1 : (k : Int) < (n : Int) := by omega
      by_cases h16 : k ≤ 16
      · have h16' : (k : Int) ≤ 16 := by omega
        have hk' : k < ss.length := by have := HN.out; omega
        obtain ⟨ad, rfl, hB, hc⟩ := hA (by omega)
        obtain ⟨p, hp⟩ : ∃ p, p = ss[k] := ⟨_, rfl⟩
        have hcell : wr.cell? (ad.add k) = some (.string p) := by rw [HCL.out, hp]; exact hc k hk'
        have HV : ∀ v, Calls Try.prog 34 #[.string p] v fun e w' => e = .returned (.bool (isNm p)) ∧ ∃ m, w' = v.drewN m := fun v => (l5Name p v).mono fun e w' ⟨he, hw⟩ => ⟨he, 0, hw.symm⟩
        have HP := Lib.hid hp
        obtain ⟨v, hv⟩ : ∃ v, v = isNm p := ⟨_, rfl⟩
        rw [← hv] at HV
        have HVH := Lib.hid HV
        have HVV := Lib.hid hv
        clear hv HV
        cases v
        · have HE : Hid (f = false) := Lib.hid (HFN.out k hk' (fun h => by rw [← HP.out, ← HVV.out] at h; exact absurd h.1 (by simp)))
          clear hp hc
          go_wp2_with fail
          go_quiet ((go_at_call 34; with_reducible exact Calls.quiet_of (HVH.out _)))
          go_wp2_with fail
          go_ret
          exact ⟨by rw [HE.out]; rfl, HDR.out _⟩
        · by_cases h0 : 0 < k
          · obtain ⟨q, hq⟩ : ∃ q, q = ss[k - 1]'(by omega) := ⟨_, rfl⟩
            have hcell2 : wr.cell? (ad.add (k - 1)) = some (.string q) := by rw [HCL.out, hq]; exact hc (k - 1) (by omega)
            have HQ := Lib.hid hq
            obtain ⟨u, hu⟩ : ∃ u, u = Op.bytesLess q.toList p.toList := ⟨_, rfl⟩
            have HU := Lib.hid hu
            have hu' := hu.symm
            have h0' : (0 : Int) < (k : Int) := by omega
            have h1' : IntKind.i64.wrap ((k : Int) - 1) = ((k - 1 : Nat) : Int) := by rw [IntKind.wrap_i64]; omega
            have j0 : (0 : Int) ≤ ((k - 1 : Nat) : Int) := by omega
            have j1 : ((k - 1 : Nat) : Int) < (n : Int) := by omega
            clear hp hq hc hu
            cases u
            · have HE : Hid (f = false) := Lib.hid (HFN.out k hk' (fun h => by
                have := h.2 h0
                unfold sl at this
                rw [← HP.out, ← HQ.out, ← HU.out] at this
                cases this))
              go_wp2_with fail
              go_quiet ((go_at_call 34; with_reducible exact Calls.quiet_of (HVH.out _)))
              go_wp2_with fail
              go_ret
              exact ⟨by rw [HE.out]; rfl, HDR.out _⟩
            · go_wp2_with fail
              go_quiet ((go_at_call 34; with_reducible exact Calls.quiet_of (HVH.out _)))
              go_wp2_with fail
              go_roundw
              case rel => exact ⟨k + 1, by omega, by go_num, Lib.hid fun j hj => by
                by_cases e : j = k
                · subst e
                  exact fAt_of hk' HP.out HVV.out.symm (fun _ => by unfold sl; rw [← HQ.out]; exact HU.out.symm)
                · exact HK.out j (by omega), Lib.hid (HDR.out _)⟩
              case measure => simp [intOf]; omega
          · have h0' : ¬ (0 : Int) < (k : Int) := by omega
            clear hp hc
            go_wp2_with fail
            go_quiet ((go_at_call 34; with_reducible exact Calls.quiet_of (HVH.out _)))
            go_wp2_with fail
            go_roundw
            case rel => exact ⟨k + 1, by omega, by go_num, Lib.hid fun j hj => by
              by_cases e : j = k
              · subst e
                exact fAt_of hk' HP.out HVV.out.symm (fun h => absurd h h0)
              · exact HK.out j (by omega), Lib.hid (HDR.out _)⟩
            case measure => simp [intOf]; omega
      · have h16' : ¬ (k : Int) ≤ 16 := by omega
        have HE : Hid (f = false) := Lib.hid (by
          cases hv : f with
          | false => rfl
          | true => exact absurd (HF.out.1 hv).1 (by have := HN.out; omega))
        have hb2 : ¬ (n : Int) ≤ 16 := by omega
        go_wp2_with fail
        go_ret
        exact ⟨by rw [HE.out]; simp, HW.out⟩
    · have HE : Hid (f = decide (n ≤ 16)) := Lib.hid (by
        by_cases h : n ≤ 16
        · rw [decide_eq_true h]
          exact HF.out.2 ⟨by have := HN.out; omega, fun j hj => HK.out j (by have := HN.out; omega)⟩
        · rw [decide_eq_false h]
          cases hv : f with
          | false => rfl
          | true => exact absurd (HF.out.1 hv).1 (by have := HN.out; omega))
      have i1 : ¬ (k : Int) < (n : Int) := by omega
      have e : decide ((n : Int) ≤ 16) = decide (n ≤ 16) := decide_eq_decide.2 (by omega)
      go_wp2_with fail
      go_ret
      exact ⟨by rw [HE.out, ← e]; rfl, HW.out⟩

end Go.Proofs.Ytbpoalhiaedcgaa.Cond
