/-
  sort's partition over a row of at most 40 events.
-/
import Derived.Test.YtomloodakabcbaaSoI
import Derived.Sort.WalkC
import Derived.Sort.WalkC4
import Derived.Deep.LoopGhost
namespace Go.Proofs.Ytomloodakabcbaa.Et
open Go.RowKit Go.Proofs.Ytomloodakabcbaa.Cond Go.Proofs.Ytomloodakabcbaa.Gx
set_option linter.unusedVariables false
set_option linter.unusedSimpArgs false

set_option maxRecDepth 100000 in
set_option maxHeartbeats 16000000 in
theorem ptA {g n : Nat} (a b pivot : Nat) (d : Array E) (w : World) (h : Sw g n w d w) (hn : n ≤ 40) (hap : a ≤ pivot) (hpb : pivot < b) (hb : b ≤ n) :
    Calls Try.prog 55 #[rvE g n, .int .i64 (a : Int), .int .i64 (b : Int), .int .i64 (pivot : Int)] w fun e w' => e = .returned (.tuple #[.int .i64 ((Sort.partition ltE d a b pivot).1 : Int), .bool (Sort.partition ltE d a b pivot).2.1]) ∧ Sw g n w (Sort.partition ltE d a b pivot).2.2 w' := by
  have mL := reachLess (some ⟨g, 0, none⟩) n n
  have mS := reachSwap (some ⟨g, 0, none⟩) n n
  have HL := Lib.hid (lsA (g := g) (w := w) hn)
  have HS := Lib.hid (ssA (g := g) (w := w) hn)
  have H0 := Lib.hid h
  have HS0 := Lib.hid (HS.out d w a pivot h (by omega) (by omega))
  obtain ⟨i, hi⟩ : ∃ i : Nat, i = a + 1 := ⟨_, rfl⟩
  obtain ⟨j, hj⟩ : ∃ j : Nat, j = b - 1 := ⟨_, rfl⟩
  obtain ⟨dk, hdk⟩ : ∃ dk : Array E, dk = Sort.swp d a pivot := ⟨_, rfl⟩
  have hai : a < i := by omega
  have hij : i ≤ j + 1 := by omega
  have hjb : j < b := by omega
  rw [← hdk] at HS0
  have Hi := Lib.hid hi
  have Hj := Lib.hid hj
  have Hdk := Lib.hid hdk
  have ei : ((a : Int) + 1) = (i : Int) := by omega
  have ej : ((b : Int) - 1) = (j : Int) := by omega
  clear h hi hj hdk
  go_enter Try.func55, Try.ntmps55
  go_wp2_with (go_at_call 83; refine HS0.out.mono ?_; rintro e w3 ⟨rfl, hw3⟩)
  (try rw [ei, ej])
  have HW := Lib.hid hw3
  clear hw3 HS0 ei ej
  go_loopw [10] (fun vi w1 => ∃ (i' : Nat), vi = .int .i64 (i' : Int) ∧ i ≤ i' ∧ i' ≤ j + 1 ∧ Hid (Sw g n w dk w1) ∧ Hid (Sort.scanUp (fun x => ltE x dk[a]!) dk j i' = Sort.scanUp (fun x => ltE x dk[a]!) dk j i)) (fun vi _ => j + 1 - (intOf vi).toNat)
  case atStart => exact ⟨i, rfl, Nat.le_refl _, hij, HW, Lib.hid rfl⟩
  case round =>
    obtain ⟨i', rfl, hii, hij', HJ, HSC⟩ := hrel
    by_cases hle : i' ≤ j
    · have hlez : (i' : Int) ≤ (j : Int) := by omega
      have HLU : Hid (∀ v, Sw g n w dk v → Calls Try.prog 82 #[.slice (some ⟨g, 0, none⟩) n n, .int .i64 (i' : Int), .int .i64 (a : Int)] v fun e w' => e = .returned (.bool (ltE dk[i']! dk[a]!)) ∧ Sw g n w dk w') := Lib.hid fun v hv => HL.out dk v i' a hv (by omega) (by omega)
      obtain ⟨u, hu⟩ : ∃ u, u = ltE dk[i']! dk[a]! := ⟨_, rfl⟩
      rw [← hu] at HLU
      have HU := Lib.hid hu
      clear hu
      cases u
      · have HI2 : Hid (i' = Sort.scanUp (fun x => ltE x dk[a]!) dk j i) := Lib.hid ((scanUp_end (fun x => ltE x dk[a]!) dk j i' (.inr HU.out.symm)).symm.trans HSC.out)
        go_wp2_with (go_at_call 82; (with_reducible refine (HLU.out _ (by (repeat (first | exact HJ.out | apply Sw.drew)))).mono ?_); rintro e w2 ⟨rfl, hw2⟩)
        have HJ2 := Lib.hid hw2
        clear hw2 HLU
        go_loopw [11] (fun vj w2 => ∃ (j' : Nat), vj = .int .i64 (j' : Int) ∧ j' ≤ j ∧ i' ≤ j' + 1 ∧ Hid (Sw g n w dk w2) ∧ Hid (Sort.scanDown (fun x => !ltE x dk[a]!) dk i' j' = Sort.scanDown (fun x => !ltE x dk[a]!) dk i' j)) (fun vj _ => (intOf vj).toNat)
        case atStart => exact ⟨j, rfl, Nat.le_refl _, hij', HJ2, Lib.hid rfl⟩
        case round =>
          obtain ⟨j', rfl, hjj, hij2, HD, HSD⟩ := hrel
          by_cases hle2 : i' ≤ j'
          · have hle2z : (i' : Int) ≤ (j' : Int) := by omega
            have HLD : Hid (∀ v, Sw g n w dk v → Calls Try.prog 82 #[.slice (some ⟨g, 0, none⟩) n n, .int .i64 (j' : Int), .int .i64 (a : Int)] v fun e w' => e = .returned (.bool (ltE dk[j']! dk[a]!)) ∧ Sw g n w dk w') := Lib.hid fun v hv => HL.out dk v j' a hv (by omega) (by omega)
            obtain ⟨v, hv⟩ : ∃ u, u = ltE dk[j']! dk[a]! := ⟨_, rfl⟩
            rw [← hv] at HLD
            have HV := Lib.hid hv
            clear hv
            cases v
            · have HN : Hid (Sort.scanDown (fun x => !ltE x dk[a]!) dk i' (j' - 1) = Sort.scanDown (fun x => !ltE x dk[a]!) dk i' j) := Lib.hid ((scanDown_go (fun x => !ltE x dk[a]!) dk i' j' hle2 (by omega) (by simp [← HV.out])).symm.trans HSD.out)
              go_wp2_with (go_at_call 82; (with_reducible refine (HLD.out _ (by (repeat (first | exact HD.out | apply Sw.drew)))).mono ?_); rintro e w2 ⟨rfl, hw2⟩)
              go_roundw
              case rel => exact ⟨j' - 1, by go_num, by omega, by omega, Lib.hid hw2, HN⟩
              case measure => simp [intOf]; omega
            · have HJX : Hid (j' = Sort.scanDown (fun x => !ltE x dk[a]!) dk i' j) := Lib.hid ((scanDown_end (fun x => !ltE x dk[a]!) dk i' j' (.inr (by simp [← HV.out]))).symm.trans HSD.out)
              have hlt3 := part_scans_lt ltE a i j dk (by omega) HI2.out HJX.out hle2
              have HSX := Lib.hid fun v hv => HS.out dk v i' j' hv (by omega) (by omega)
              go_wp2_with (first
                | (go_at_call 82; (with_reducible refine (HLD.out _ (by (repeat (first | exact HD.out | apply Sw.drew)))).mono ?_); rintro e w2 ⟨rfl, hw2⟩)
                | (go_at_call 83; (with_reducible refine (HSX.out _ (by (repeat (first | exact hw2 | apply Sw.drew)))).mono ?_); rintro e w3 ⟨rfl, hw3⟩))
              (try rw [decide_eq_false (show ¬ j' < i' by omega)])
              obtain ⟨I0, hI0⟩ : ∃ I0 : Nat, I0 = i' + 1 := ⟨_, rfl⟩
              obtain ⟨J0, hJ0⟩ : ∃ J0 : Nat, J0 = j' - 1 := ⟨_, rfl⟩
              obtain ⟨D0, hD0⟩ : ∃ D0 : Array E, D0 = Sort.swp dk i' j' := ⟨_, rfl⟩
              have PF : Hid (Sort.partition ltE d a b pivot = ((Sort.partLoop ltE a I0 J0 D0).1, false, Sort.swp (Sort.partLoop ltE a I0 J0 D0).2 (Sort.partLoop ltE a I0 J0 D0).1 a)) := Lib.hid (by
                rw [hI0, hJ0, hD0]; exact part_first_go ltE d a b pivot Hi.out Hj.out Hdk.out HI2.out HJX.out (by omega))
              go_loopw [10, 11] (fun vi vj wr => ∃ (i j : Nat) (dk : Array E), vi = .int .i64 (i : Int) ∧ vj = .int .i64 (j : Int) ∧ a < i ∧ i ≤ j + 1 ∧ j < b ∧ Hid (Sw g n w dk wr) ∧ Hid (Sort.partLoop ltE a i j dk = Sort.partLoop ltE a I0 J0 D0)) (fun vi vj _ => (intOf vj).toNat + 1 - (intOf vi).toNat)
              case atStart => exact ⟨i' + 1, j' - 1, Sort.swp dk i' j', by go_num, by go_num, by omega, by omega, by omega, Lib.hid hw3, Lib.hid (by rw [hI0, hJ0, hD0])⟩
              case round =>
                clear hI0 hJ0 hD0 hw3 hw2 HSX HLD HD HSD HJX HI2 hlt3 HJ2 HJ HSC HW Hi Hj Hdk HU HV
                obtain ⟨i, j, dk, rfl, rfl, hai, hij, hjb, HW, AE⟩ := hrel
                go_wp2_with fail
                go_loopw [10] (fun vi w1 => ∃ (i' : Nat), vi = .int .i64 (i' : Int) ∧ i ≤ i' ∧ i' ≤ j + 1 ∧ Hid (Sw g n w dk w1) ∧ Hid (Sort.scanUp (fun x => ltE x dk[a]!) dk j i' = Sort.scanUp (fun x => ltE x dk[a]!) dk j i)) (fun vi _ => j + 1 - (intOf vi).toNat)
                case atStart => exact ⟨i, rfl, Nat.le_refl _, hij, HW, Lib.hid rfl⟩
                case round =>
                  obtain ⟨i', rfl, hii, hij', HJ, HSC⟩ := hrel
                  by_cases hle : i' ≤ j
                  · have hlez : (i' : Int) ≤ (j : Int) := by omega
                    have HLU : Hid (∀ v, Sw g n w dk v → Calls Try.prog 82 #[.slice (some ⟨g, 0, none⟩) n n, .int .i64 (i' : Int), .int .i64 (a : Int)] v fun e w' => e = .returned (.bool (ltE dk[i']! dk[a]!)) ∧ Sw g n w dk w') := Lib.hid fun v hv => HL.out dk v i' a hv (by omega) (by omega)
                    obtain ⟨u, hu⟩ : ∃ u, u = ltE dk[i']! dk[a]! := ⟨_, rfl⟩
                    rw [← hu] at HLU
                    have HU := Lib.hid hu
                    clear hu
                    cases u
                    · have HI2 : Hid (i' = Sort.scanUp (fun x => ltE x dk[a]!) dk j i) := Lib.hid ((scanUp_end (fun x => ltE x dk[a]!) dk j i' (.inr HU.out.symm)).symm.trans HSC.out)
                      go_wp2_with (go_at_call 82; (with_reducible refine (HLU.out _ (by (repeat (first | exact HJ.out | apply Sw.drew)))).mono ?_); rintro e w2 ⟨rfl, hw2⟩)
                      have HJ2 := Lib.hid hw2
                      clear hw2 HLU
                      go_loopw [11] (fun vj w2 => ∃ (j' : Nat), vj = .int .i64 (j' : Int) ∧ j' ≤ j ∧ i' ≤ j' + 1 ∧ Hid (Sw g n w dk w2) ∧ Hid (Sort.scanDown (fun x => !ltE x dk[a]!) dk i' j' = Sort.scanDown (fun x => !ltE x dk[a]!) dk i' j)) (fun vj _ => (intOf vj).toNat)
                      case atStart => exact ⟨j, rfl, Nat.le_refl _, hij', HJ2, Lib.hid rfl⟩
                      case round =>
                        obtain ⟨j', rfl, hjj, hij2, HD, HSD⟩ := hrel
                        by_cases hle2 : i' ≤ j'
                        · have hle2z : (i' : Int) ≤ (j' : Int) := by omega
                          have HLD : Hid (∀ v, Sw g n w dk v → Calls Try.prog 82 #[.slice (some ⟨g, 0, none⟩) n n, .int .i64 (j' : Int), .int .i64 (a : Int)] v fun e w' => e = .returned (.bool (ltE dk[j']! dk[a]!)) ∧ Sw g n w dk w') := Lib.hid fun v hv => HL.out dk v j' a hv (by omega) (by omega)
                          obtain ⟨v, hv⟩ : ∃ u, u = ltE dk[j']! dk[a]! := ⟨_, rfl⟩
                          rw [← hv] at HLD
                          have HV := Lib.hid hv
                          clear hv
                          cases v
                          · have HN : Hid (Sort.scanDown (fun x => !ltE x dk[a]!) dk i' (j' - 1) = Sort.scanDown (fun x => !ltE x dk[a]!) dk i' j) := Lib.hid ((scanDown_go (fun x => !ltE x dk[a]!) dk i' j' hle2 (by omega) (by simp [← HV.out])).symm.trans HSD.out)
                            go_wp2_with (go_at_call 82; (with_reducible refine (HLD.out _ (by (repeat (first | exact HD.out | apply Sw.drew)))).mono ?_); rintro e w2 ⟨rfl, hw2⟩)
                            go_roundw
                            case rel => exact ⟨j' - 1, by go_num, by omega, by omega, Lib.hid hw2, HN⟩
                            case measure => simp [intOf]; omega
                          · have HJX : Hid (j' = Sort.scanDown (fun x => !ltE x dk[a]!) dk i' j) := Lib.hid ((scanDown_end (fun x => !ltE x dk[a]!) dk i' j' (.inr (by simp [← HV.out]))).symm.trans HSD.out)
                            have hlt3 := part_scans_lt ltE a i j dk (by omega) HI2.out HJX.out hle2
                            have HSX := Lib.hid fun v hv => HS.out dk v i' j' hv (by omega) (by omega)
                            go_wp2_with (first
                              | (go_at_call 82; (with_reducible refine (HLD.out _ (by (repeat (first | exact HD.out | apply Sw.drew)))).mono ?_); rintro e w2 ⟨rfl, hw2⟩)
                              | (go_at_call 83; (with_reducible refine (HSX.out _ (by (repeat (first | exact hw2 | apply Sw.drew)))).mono ?_); rintro e w3 ⟨rfl, hw3⟩))
                            have HN : Hid (Sort.partLoop ltE a (i' + 1) (j' - 1) (Sort.swp dk i' j') = Sort.partLoop ltE a I0 J0 D0) := Lib.hid (by rw [← AE.out]; exact (part_go ltE a i j dk HI2.out HJX.out (by omega)).symm)
                            go_roundw
                            case rel => exact ⟨i' + 1, j' - 1, Sort.swp dk i' j', by go_num, by go_num, by omega, by omega, by omega, Lib.hid hw3, HN⟩
                            case measure => simp [intOf]; omega
                        · have hle2z : ¬ (i' : Int) ≤ (j' : Int) := by omega
                          have HJX : Hid (j' = Sort.scanDown (fun x => !ltE x dk[a]!) dk i' j) := Lib.hid ((scanDown_end (fun x => !ltE x dk[a]!) dk i' j' (.inl hle2)).symm.trans HSD.out)
                          have HX : Hid (Sort.partition ltE d a b pivot = (j', false, Sort.swp dk j' a)) := Lib.hid (by rw [PF.out, ← AE.out, part_break ltE a i j dk HI2.out HJX.out (by omega)])
                          have HSX := Lib.hid fun v hv => HS.out dk v j' a hv (by omega) (by omega)
                          go_wp2_with (go_at_call 83; (with_reducible refine (HSX.out _ (by (repeat (first | exact HD.out | apply Sw.drew)))).mono ?_); rintro e w3 ⟨rfl, hw3⟩)
                          go_ret2
                          rw [HX.out]
                          exact ⟨rfl, hw3⟩
                    · have HN : Hid (Sort.scanUp (fun x => ltE x dk[a]!) dk j (i' + 1) = Sort.scanUp (fun x => ltE x dk[a]!) dk j i) := Lib.hid ((scanUp_go (fun x => ltE x dk[a]!) dk j i' hle HU.out.symm).symm.trans HSC.out)
                      go_wp2_with (go_at_call 82; (with_reducible refine (HLU.out _ (by (repeat (first | exact HJ.out | apply Sw.drew)))).mono ?_); rintro e w2 ⟨rfl, hw2⟩)
                      go_roundw
                      case rel => exact ⟨i' + 1, by go_num, by omega, by omega, Lib.hid hw2, HN⟩
                      case measure => simp [intOf]; omega
                  · have hlez : ¬ (i' : Int) ≤ (j : Int) := by omega
                    have HI2 : Hid (i' = Sort.scanUp (fun x => ltE x dk[a]!) dk j i) := Lib.hid ((scanUp_end (fun x => ltE x dk[a]!) dk j i' (.inl hle)).symm.trans HSC.out)
                    go_wp2_with fail
                    go_loopw [11] (fun vj w2 => ∃ (j' : Nat), vj = .int .i64 (j' : Int) ∧ j' ≤ j ∧ i' ≤ j' + 1 ∧ Hid (Sw g n w dk w2) ∧ Hid (Sort.scanDown (fun x => !ltE x dk[a]!) dk i' j' = Sort.scanDown (fun x => !ltE x dk[a]!) dk i' j)) (fun vj _ => (intOf vj).toNat)
                    case atStart => exact ⟨j, rfl, Nat.le_refl _, hij', HJ, Lib.hid rfl⟩
                    case round =>
                      obtain ⟨j', rfl, hjj, hij2, HD, HSD⟩ := hrel
                      by_cases hle2 : i' ≤ j'
                      · exfalso; omega
                      · have hle2z : ¬ (i' : Int) ≤ (j' : Int) := by omega
                        have HJX : Hid (j' = Sort.scanDown (fun x => !ltE x dk[a]!) dk i' j) := Lib.hid ((scanDown_end (fun x => !ltE x dk[a]!) dk i' j' (.inl hle2)).symm.trans HSD.out)
                        have HX : Hid (Sort.partition ltE d a b pivot = (j', false, Sort.swp dk j' a)) := Lib.hid (by rw [PF.out, ← AE.out, part_break ltE a i j dk HI2.out HJX.out (by omega)])
                        have HSX := Lib.hid fun v hv => HS.out dk v j' a hv (by omega) (by omega)
                        go_wp2_with (go_at_call 83; (with_reducible refine (HSX.out _ (by (repeat (first | exact HD.out | apply Sw.drew)))).mono ?_); rintro e w3 ⟨rfl, hw3⟩)
                        go_ret2
                        rw [HX.out]
                        exact ⟨rfl, hw3⟩
          · have hle2z : ¬ (i' : Int) ≤ (j' : Int) := by omega
            have HJX : Hid (j' = Sort.scanDown (fun x => !ltE x dk[a]!) dk i' j) := Lib.hid ((scanDown_end (fun x => !ltE x dk[a]!) dk i' j' (.inl hle2)).symm.trans HSD.out)
            have HX : Hid (Sort.partition ltE d a b pivot = (j', true, Sort.swp dk j' a)) := Lib.hid (part_first_break ltE d a b pivot Hi.out Hj.out Hdk.out HI2.out HJX.out (by omega))
            have HSX := Lib.hid fun v hv => HS.out dk v j' a hv (by omega) (by omega)
            go_wp2_with (go_at_call 83; (with_reducible refine (HSX.out _ (by (repeat (first | exact HD.out | apply Sw.drew)))).mono ?_); rintro e w3 ⟨rfl, hw3⟩)
            go_ret2
            rw [HX.out]
            exact ⟨rfl, hw3⟩
      · have HN : Hid (Sort.scanUp (fun x => ltE x dk[a]!) dk j (i' + 1) = Sort.scanUp (fun x => ltE x dk[a]!) dk j i) := Lib.hid ((scanUp_go (fun x => ltE x dk[a]!) dk j i' hle HU.out.symm).symm.trans HSC.out)
        go_wp2_with (go_at_call 82; (with_reducible refine (HLU.out _ (by (repeat (first | exact HJ.out | apply Sw.drew)))).mono ?_); rintro e w2 ⟨rfl, hw2⟩)
        go_roundw
        case rel => exact ⟨i' + 1, by go_num, by omega, by omega, Lib.hid hw2, HN⟩
        case measure => simp [intOf]; omega
    · have hlez : ¬ (i' : Int) ≤ (j : Int) := by omega
      have HI2 : Hid (i' = Sort.scanUp (fun x => ltE x dk[a]!) dk j i) := Lib.hid ((scanUp_end (fun x => ltE x dk[a]!) dk j i' (.inl hle)).symm.trans HSC.out)
      go_wp2_with fail
      go_loopw [11] (fun vj w2 => ∃ (j' : Nat), vj = .int .i64 (j' : Int) ∧ j' ≤ j ∧ i' ≤ j' + 1 ∧ Hid (Sw g n w dk w2) ∧ Hid (Sort.scanDown (fun x => !ltE x dk[a]!) dk i' j' = Sort.scanDown (fun x => !ltE x dk[a]!) dk i' j)) (fun vj _ => (intOf vj).toNat)
      case atStart => exact ⟨j, rfl, Nat.le_refl _, hij', HJ, Lib.hid rfl⟩
      case round =>
        obtain ⟨j', rfl, hjj, hij2, HD, HSD⟩ := hrel
        by_cases hle2 : i' ≤ j'
        · exfalso; omega
        · have hle2z : ¬ (i' : Int) ≤ (j' : Int) := by omega
          have HJX : Hid (j' = Sort.scanDown (fun x => !ltE x dk[a]!) dk i' j) := Lib.hid ((scanDown_end (fun x => !ltE x dk[a]!) dk i' j' (.inl hle2)).symm.trans HSD.out)
          have HX : Hid (Sort.partition ltE d a b pivot = (j', true, Sort.swp dk j' a)) := Lib.hid (part_first_break ltE d a b pivot Hi.out Hj.out Hdk.out HI2.out HJX.out (by omega))
          have HSX := Lib.hid fun v hv => HS.out dk v j' a hv (by omega) (by omega)
          go_wp2_with (go_at_call 83; (with_reducible refine (HSX.out _ (by (repeat (first | exact HD.out | apply Sw.drew)))).mono ?_); rintro e w3 ⟨rfl, hw3⟩)
          go_ret2
          rw [HX.out]
          exact ⟨rfl, hw3⟩

end Go.Proofs.Ytomloodakabcbaa.Et
