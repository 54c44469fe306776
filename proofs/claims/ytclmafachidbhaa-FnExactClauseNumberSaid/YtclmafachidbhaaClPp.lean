/-
  The program's check of the parties.
-/
import Derived.Test.YtclmafachidbhaaClP
namespace Go.Proofs.Ytclmafachidbhaa.Cl
open Go.RowKit Go.Proofs.Ytclmafachidbhaa.Cond Go.Proofs.Ytclmafachidbhaa.Gx Go.Proofs.Ytclmafachidbhaa.NdS
set_option linter.unusedVariables false
set_option linter.unusedSimpArgs false

set_option maxHeartbeats 4000000 in
theorem isPartyList (A : Option Addr) (n c : Nat) (ss : List ByteArray) (w : World) (h : LiN w w.heap.size A n c ss) (ok : Bool) (hok : ok = (okN ss && (decide (2 ≤ ss.length) && decide (ss.length ≤ 4)))) :
    Calls Try.prog 34 #[.slice A n c] w fun e w' => e = .returned (.bool ok) ∧ w = w' := by
  by_cases h2 : n < 2
  · have HO : Hid (ok = false) := Lib.hid (by rw [hok, decide_eq_false (by have := h.len; omega)]; simp)
    have g2 : ((n : Int) < 2) := by omega
    clear h hok h2
    go_enter Try.func34, Try.ntmps34
    go_wp2_with fail
    go_ret
    exact ⟨by rw [HO.out]; rfl, rfl⟩
  by_cases h4 : 4 < n
  · have HO : Hid (ok = false) := Lib.hid (by rw [hok, decide_eq_false (p := ss.length ≤ 4) (by have := h.len; omega)]; simp)
    have g2 : ¬ ((n : Int) < 2) := by omega
    have g4 : ((4 : Int) < n) := by omega
    clear h hok h2 h4
    go_enter Try.func34, Try.ntmps34
    go_wp2_with fail
    go_ret
    exact ⟨by rw [HO.out]; rfl, rfl⟩
  have HO : Hid (ok = okN ss) := Lib.hid (by rw [hok, decide_eq_true (by have := h.len; omega), decide_eq_true (by have := h.len; omega)]; simp)
  have HLN := Lib.hid h.len
  have HSZ := Lib.hid h.szs
  obtain ⟨ad, e, hB, hc⟩ := h.is (by have := h.len; omega)
  have had := h.sp ad e (by omega)
  obtain ⟨b, oo, had2⟩ : ∃ b oo, ad = ⟨b, oo, none⟩ := ⟨_, _, had⟩
  have HC : Hid (∀ j, ∀ hj : j < ss.length, w.cell? ⟨b, oo + j, none⟩ = some (.string ss[j])) := Lib.hid fun j hj => by
    have := hc j hj
    rw [had2, add_none] at this
    exact this
  have g2 : ¬ ((n : Int) < 2) := by omega
  have g4 : ¬ ((4 : Int) < n) := by omega
  have hnc := h.nc
  rw [e, had2]
  clear h hok h2 h4 hc e hB had had2
  go_enter Try.func34, Try.ntmps34
  go_wp2_with fail
  go_loopw [15] (fun i wr => ∃ k : Nat, k ≤ n ∧ i = .int .i64 k ∧ Hid (nOk ss k) ∧ Hid (wr = w)) (fun i _ => n - (intOf i).toNat)
  case atStart => exact ⟨0, Nat.zero_le _, rfl, Lib.hid fun i _ h => by omega, Lib.hid rfl⟩
  case round =>
    obtain ⟨k, hk, rfl, HK, HW⟩ := hrel
    have hwr := HW.out
    subst hwr
    by_cases hlt : k < n
    · have hk' : k < ss.length := by have := HLN.out; omega
      obtain ⟨p, hp⟩ : ∃ p, p = ss[k] := ⟨_, rfl⟩
      have hcell := HC.out k hk'
      rw [← hp] at hcell
      have HPP := Lib.hid hp
      have i0 : (0 : Int) ≤ (k : Int) := by omega
      have i1 : (k : Int) < (n : Int) := by omega
      have i2 : (k : Int) ≤ (c : Int) := by omega
      obtain ⟨t, ht⟩ : ∃ t, t = isNm p := ⟨_, rfl⟩
      obtain ⟨u, hu⟩ : ∃ u, u = has (ss.take k) p := ⟨_, rfl⟩
      have HNM : Hid (∀ v, Calls Try.prog 48 #[.string p] v fun e w' => e = .returned (.bool t) ∧ v = w') := Lib.hid fun v => by
        rw [ht]; exact isValidName p (by rw [hp]; exact HSZ.out _ (List.getElem_mem hk')) v
      have HHAS : Hid (Calls Try.prog 49 #[.slice (some ⟨b, oo, none⟩) k c, .string p] wr fun e w' => e = .returned (.bool u) ∧ w' = wr) := Lib.hid (by
        rw [hu, ← contains_has]
        exact Try.slices_Contains_string b oo k c ss p wr (by omega) (by omega) (fun j hj => by rw [HC.out j hj]; simp [List.getD, hj]))
      have HTU := Lib.hid (And.intro ht hu)
      clear hp ht hu
      cases t
      · have HO2 : Hid (ok = false) := Lib.hid (by rw [HO.out, okN_no hk' (.inl (by rw [← HPP.out, ← HTU.out.1]))])
        go_wp2_with (go_at_call 48; refine (HNM.out _).mono ?_; rintro e w' ⟨rfl, rfl⟩)
        go_ret
        exact ⟨by rw [HO2.out]; rfl, rfl⟩
      cases u
      · have HK2 : Hid (nOk ss (k + 1)) := Lib.hid fun j hj hjk => by
          by_cases e : j = k
          · subst e; rw [← HPP.out]; exact ⟨HTU.out.1.symm, HTU.out.2.symm⟩
          · exact HK.out j hj (by omega)
        go_wp2_with (first | (go_at_call 48; refine (HNM.out _).mono ?_; rintro e w' ⟨rfl, rfl⟩) | (go_at_call 49; refine HHAS.out.mono ?_; rintro e w' ⟨rfl, rfl⟩))
        go_roundw
        case rel => exact ⟨k + 1, by omega, by go_num, HK2, Lib.hid trivial⟩
        case measure => simp [intOf]; omega
      · have HO2 : Hid (ok = false) := Lib.hid (by rw [HO.out, okN_no hk' (.inr (by rw [← HPP.out, ← HTU.out.2]))])
        go_wp2_with (first | (go_at_call 48; refine (HNM.out _).mono ?_; rintro e w' ⟨rfl, rfl⟩) | (go_at_call 49; refine HHAS.out.mono ?_; rintro e w' ⟨rfl, rfl⟩))
        go_ret
        exact ⟨by rw [HO2.out]; rfl, rfl⟩
    · have HO2 : Hid (ok = true) := Lib.hid (by rw [HO.out]; exact okN_yes (fun i hi _ => HK.out i hi (by have := HLN.out; omega)))
      go_wp2_with fail
      go_ret
      exact ⟨by rw [HO2.out]; rfl, rfl⟩

end Go.Proofs.Ytclmafachidbhaa.Cl
