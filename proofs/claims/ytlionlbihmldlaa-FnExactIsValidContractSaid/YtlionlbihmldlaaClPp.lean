/-
  The program's check of the parties.
-/
import Derived.Test.YtlionlbihmldlaaClP
namespace Go.Proofs.Ytlionlbihmldlaa.Cl
open Go.RowKit Go.Proofs.Ytlionlbihmldlaa.Cond Go.Proofs.Ytlionlbihmldlaa.Gx Go.Proofs.Ytlionlbihmldlaa.NdS
set_option linter.unusedVariables false
set_option linter.unusedSimpArgs false

theorem isPartyCount (p : Int) (w : World) : Calls Try.prog 39 #[.int .i64 p] w fun e w' => e = .returned (.bool (decide (2 ≤ p) && decide (p ≤ 4))) ∧ w' = w := by
  go_enter Try.func39, Try.ntmps39
  go_wp2
  all_goals go_ret
  all_goals refine ⟨?_, rfl⟩
  all_goals (first | (simp; done) | (simp; omega) | (simp; rw [Bool.eq_iff_iff]; simp; omega))

set_option maxHeartbeats 4000000 in
theorem isPartyList (A : Option Addr) (n c : Nat) (ss : List ByteArray) (w : World) (h : LiN w w.heap.size A n c ss) (ok : Bool) (hok : ok = (okN ss && (decide (2 ≤ ss.length) && decide (ss.length ≤ 4)))) :
    Calls Try.prog 27 #[.slice A n c] w fun e w' => e = .returned (.bool ok) ∧ w = w' := by
  obtain ⟨q, hq⟩ : ∃ q, q = (decide (2 ≤ (n : Int)) && decide ((n : Int) ≤ 4)) := ⟨_, rfl⟩
  have HPC : Hid (∀ v, Calls Try.prog 39 #[.int .i64 (n : Int)] v fun e w' => e = .returned (.bool q) ∧ w' = v) := Lib.hid fun v => by rw [hq]; exact isPartyCount _ v
  by_cases h2 : n < 2
  · have HO : Hid (ok = false) := Lib.hid (by rw [hok, decide_eq_false (by have := h.len; omega)]; simp)
    have hqf : q = false := by rw [hq, decide_eq_false (by omega)]; rfl
    rw [hqf] at HPC
    clear h hok h2 hq hqf
    go_enter Try.func27, Try.ntmps27
    go_wp2_with (go_at_call 39; refine (HPC.out _).mono ?_; rintro e w2 ⟨rfl, hw⟩; rw [hw]; clear hw)
    go_ret
    exact ⟨by rw [HO.out]; rfl, rfl⟩
  by_cases h4 : 4 < n
  · have HO : Hid (ok = false) := Lib.hid (by rw [hok, decide_eq_false (p := ss.length ≤ 4) (by have := h.len; omega)]; simp)
    have hqf : q = false := by rw [hq, decide_eq_false (p := (n : Int) ≤ 4) (by omega)]; simp
    rw [hqf] at HPC
    clear h hok h2 h4 hq hqf
    go_enter Try.func27, Try.ntmps27
    go_wp2_with (go_at_call 39; refine (HPC.out _).mono ?_; rintro e w2 ⟨rfl, hw⟩; rw [hw]; clear hw)
    go_ret
    exact ⟨by rw [HO.out]; rfl, rfl⟩
  have hqt : q = true := by rw [hq, decide_eq_true (by omega), decide_eq_true (by omega)]; rfl
  rw [hqt] at HPC
  have HO : Hid (ok = okN ss) := Lib.hid (by rw [hok, decide_eq_true (by have := h.len; omega), decide_eq_true (by have := h.len; omega)]; simp)
  have HLN := Lib.hid h.len
  have HSZ := Lib.hid h.szs
  obtain ⟨ad, e, hB, hc⟩ := h.is (by have := h.len; omega)
  have had := h.sp ad e (by omega)
  obtain ⟨b, oo, had2⟩ : ∃ b oo, ad = ⟨b, oo, none⟩ := ⟨_, _, had⟩
  have HC : Hid (∀ j, ∀ hj : j < ss.length, w.cell? ⟨b, oo + j, none⟩ = some (.string ss[j])) := Lib.hid fun j hj => by
    have := hc j hj
    rw [had2, add_none] at this
    exact this
  have hnc := h.nc
  have g4 : n ≤ 4 := by omega
  rw [e, had2]
  clear h hok h2 h4 hc e hB had had2 hq hqt
  go_enter Try.func27, Try.ntmps27
  go_wp2_with (go_at_call 39; refine (HPC.out _).mono ?_; rintro e w2 ⟨rfl, hw⟩; rw [hw]; clear hw)
  go_loopw [11] (fun i wr => ∃ k : Nat, k ≤ n ∧ i = .int .i64 k ∧ Hid (nOk ss k) ∧ Hid (wr = w)) (fun i _ => n - (intOf i).toNat)
  case atStart => exact ⟨0, Nat.zero_le _, rfl, Lib.hid fun i _ h => by omega, Lib.hid rfl⟩
  case round =>
    obtain ⟨k, hk, rfl, HK, HW⟩ := hrel
    have hwr := HW.out
    subst hwr
    by_cases hlt : k < n
    · have hk' : k < ss.length := by have := HLN.out; omega
      obtain ⟨p, hp⟩ : ∃ p, p = ss[k] := ⟨_, rfl⟩
      have hcell := HC.out k hk'
      rw [← hp] at hcell
      have HPP := Lib.hid hp
      have i0 : (0 : Int) ≤ (k : Int) := by omega
      have i1 : (k : Int) < (n : Int) := by omega
      have i2 : (k : Int) ≤ (c : Int) := by omega
      obtain ⟨t, ht⟩ : ∃ t, t = isNm p := ⟨_, rfl⟩
      obtain ⟨u, hu⟩ : ∃ u, u = has (ss.take k) p := ⟨_, rfl⟩
      have HNM : Hid (∀ v, Calls Try.prog 40 #[.string p] v fun e w' => e = .returned (.bool t) ∧ v = w') := Lib.hid fun v => by
        rw [ht]; exact isValidName p (by rw [hp]; exact HSZ.out _ (List.getElem_mem hk')) v
      have HHAS : Hid (Calls Try.prog 41 #[.slice (some ⟨b, oo, none⟩) k c, .string p] wr fun e w' => e = .returned (.bool u) ∧ w' = wr) := Lib.hid (by
        rw [hu, ← contains_has]
        exact Try.slices_Contains_string b oo k c ss p wr (by omega) (by omega) (fun j hj => by rw [HC.out j hj]; simp [List.getD, hj]))
      have HTU := Lib.hid (And.intro ht hu)
      clear hp ht hu
      cases t
      · have HO2 : Hid (ok = false) := Lib.hid (by rw [HO.out, okN_no hk' (.inl (by rw [← HPP.out, ← HTU.out.1]))])
        go_wp2_with (go_at_call 40; refine (HNM.out _).mono ?_; rintro e w' ⟨rfl, rfl⟩)
        go_ret
        exact ⟨by rw [HO2.out]; rfl, rfl⟩
      cases u
      · have HK2 : Hid (nOk ss (k + 1)) := Lib.hid fun j hj hjk => by
          by_cases e : j = k
          · subst e; rw [← HPP.out]; exact ⟨HTU.out.1.symm, HTU.out.2.symm⟩
          · exact HK.out j hj (by omega)
        go_wp2_with (first | (go_at_call 40; refine (HNM.out _).mono ?_; rintro e w' ⟨rfl, rfl⟩) | (go_at_call 41; refine HHAS.out.mono ?_; rintro e w' ⟨rfl, rfl⟩))
        go_roundw
        case rel => exact ⟨k + 1, by omega, by go_num, HK2, Lib.hid trivial⟩
        case measure => simp [intOf]; omega
      · have HO2 : Hid (ok = false) := Lib.hid (by rw [HO.out, okN_no hk' (.inr (by rw [← HPP.out, ← HTU.out.2]))])
        go_wp2_with (first | (go_at_call 40; refine (HNM.out _).mono ?_; rintro e w' ⟨rfl, rfl⟩) | (go_at_call 41; refine HHAS.out.mono ?_; rintro e w' ⟨rfl, rfl⟩))
        go_ret
        exact ⟨by rw [HO2.out]; rfl, rfl⟩
    · have HO2 : Hid (ok = true) := Lib.hid (by rw [HO.out]; exact okN_yes (fun i hi _ => HK.out i hi (by have := HLN.out; omega)))
      go_wp2_with fail
      go_ret
      exact ⟨by rw [HO2.out]; rfl, rfl⟩

end Go.Proofs.Ytlionlbihmldlaa.Cl
