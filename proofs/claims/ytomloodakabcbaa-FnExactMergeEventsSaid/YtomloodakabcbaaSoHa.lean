/-
  sort's siftDown, heapSort and partialInsertionSort over a row of at most 40 events.
-/
import Derived.Test.YtomloodakabcbaaSoI
import Derived.Sort.WalkB2
import Derived.Sort.WalkB3
import Derived.Sort.WalkA6
namespace Go.Proofs.Ytomloodakabcbaa.Et
open Go.RowKit Go.Proofs.Ytomloodakabcbaa.Cond Go.Proofs.Ytomloodakabcbaa.Gx
set_option linter.unusedVariables false
set_option linter.unusedSimpArgs false

set_option maxRecDepth 100000 in
set_option maxHeartbeats 8000000 in
theorem sdA {g n : Nat} (lo hi first : Nat) (d : Array E) (w : World) (h : Sw g n w d w) (hn : n ≤ 40) (hlo : lo ≤ hi) (hb : first + hi ≤ n) :
    Calls Try.prog 59 #[rvE g n, .int .i64 (lo : Int), .int .i64 (hi : Int), .int .i64 (first : Int)] w fun e w' => e = .returned (.tuple #[]) ∧ Sw g n w (Sort.siftDown ltE hi first lo d) w' := by
  have mL := reachLess (some ⟨g, 0, none⟩) n n
  have mS := reachSwap (some ⟨g, 0, none⟩) n n
  have HL := Lib.hid (lsA (g := g) (w := w) hn)
  have HS := Lib.hid (ssA (g := g) (w := w) hn)
  have H0 := Lib.hid h
  clear h
  go_enter Try.func59, Try.ntmps59
  go_wp2_with fail
  go_loopg [8] (hi - lo) (fun kx s8 wr => ∃ (root : Nat) (dk : Array E), s8 = .int .i64 (root : Int) ∧ root ≤ hi ∧ hi - root ≤ kx ∧ Hid (Sw g n w dk wr) ∧ Hid (Sort.siftDown ltE hi first root dk = Sort.siftDown ltE hi first lo d))
  case atStart => exact ⟨lo, d, rfl, hlo, Nat.le_refl _, H0, Lib.hid rfl⟩
  case round =>
    obtain ⟨root, dk, rfl, hr, hkx, HW, HE⟩ := hrel
    by_cases h0 : hi ≤ 2 * root + 1
    · have h0z : (hi : Int) ≤ 2 * (root : Int) + 1 := by omega
      have HX : Hid (Sort.siftDown ltE hi first lo d = dk) := Lib.hid (by rw [← HE.out, Sort.sd_end ltE dk h0])
      go_wp2_with fail
      go_end0
      exact ⟨rfl, by rw [HX.out]; exact HW.out⟩
    · have h0z : ¬ ((hi : Int) ≤ 2 * (root : Int) + 1) := by omega
      by_cases h1 : 2 * root + 2 < hi
      · have h1z : 2 * (root : Int) + 1 + 1 < (hi : Int) := by omega
        have HL1 : Hid (∀ v, Sw g n w dk v → Calls Try.prog 82 #[.slice (some ⟨g, 0, none⟩) n n, .int .i64 ((first : Int) + (2 * (root : Int) + 1)), .int .i64 ((first : Int) + (2 * (root : Int) + 1) + 1)] v fun e w' => e = .returned (.bool (ltE dk[first + (2 * root + 1)]! dk[first + (2 * root + 2)]!)) ∧ Sw g n w dk w') := Lib.hid fun v hv => by
          have := HL.out dk v (first + (2 * root + 1)) (first + (2 * root + 2)) hv (by omega) (by omega)
          rwa [show ((first + (2 * root + 1) : Nat) : Int) = (first : Int) + (2 * (root : Int) + 1) by omega, show ((first + (2 * root + 2) : Nat) : Int) = (first : Int) + (2 * (root : Int) + 1) + 1 by omega] at this
        obtain ⟨u1, hu1⟩ : ∃ u, u = ltE dk[first + (2 * root + 1)]! dk[first + (2 * root + 2)]! := ⟨_, rfl⟩
        rw [← hu1] at HL1
        have HU := Lib.hid hu1
        clear hu1
        cases u1
        · skip
          have HL2 : Hid (∀ v, Sw g n w dk v → Calls Try.prog 82 #[.slice (some ⟨g, 0, none⟩) n n, .int .i64 ((first : Int) + (root : Int)), .int .i64 ((first : Int) + (2 * (root : Int) + 1))] v fun e w' => e = .returned (.bool (ltE dk[first + root]! dk[first + (2 * root + 1)]!)) ∧ Sw g n w dk w') := Lib.hid fun v hv => by
            have := HL.out dk v (first + root) (first + (2 * root + 1)) hv (by omega) (by omega)
            rwa [show ((first + root : Nat) : Int) = (first : Int) + (root : Int) by omega, show ((first + (2 * root + 1) : Nat) : Int) = (first : Int) + (2 * (root : Int) + 1) by omega] at this
          have HS2 : Hid (∀ v, Sw g n w dk v → Calls Try.prog 83 #[.slice (some ⟨g, 0, none⟩) n n, .int .i64 ((first : Int) + (root : Int)), .int .i64 ((first : Int) + (2 * (root : Int) + 1))] v fun e w' => e = .returned (.tuple #[]) ∧ Sw g n w (Sort.swp dk (first + root) (first + (2 * root + 1))) w') := Lib.hid fun v hv => by
            have := HS.out dk v (first + root) (first + (2 * root + 1)) hv (by omega) (by omega)
            rwa [show ((first + root : Nat) : Int) = (first : Int) + (root : Int) by omega, show ((first + (2 * root + 1) : Nat) : Int) = (first : Int) + (2 * (root : Int) + 1) by omega] at this
          obtain ⟨u2, hu2⟩ : ∃ u, u = ltE dk[first + root]! dk[first + (2 * root + 1)]! := ⟨_, rfl⟩
          rw [← hu2] at HL2
          have HV := Lib.hid hu2
          clear hu2
          cases u2
          · have HX : Hid (Sort.siftDown ltE hi first lo d = dk) := Lib.hid (by rw [← HE.out, Sort.sd_left_stop ltE dk (by omega) (fun _ => HU.out.symm) HV.out.symm])
            go_wp2_with (first
              | (go_at_call 82; (with_reducible refine (HL1.out _ (by (repeat (first | exact HW.out | apply Sw.drew)))).mono ?_); rintro e w1 ⟨rfl, hw1⟩)
              | (go_at_call 82; (with_reducible refine (HL2.out _ (by (repeat (first | exact hw1 | apply Sw.drew)))).mono ?_); rintro e w2 ⟨rfl, hw2⟩))
            (try simp only [Exit.inBlock, Exit.then])
            refine bodyPost_ret (results_none rfl _ _ _) rfl ?_
            exact ⟨rfl, by rw [HX.out]; exact hw2⟩
          · have HX : Hid (Sort.siftDown ltE hi first (2 * root + 1) (Sort.swp dk (first + root) (first + (2 * root + 1))) = Sort.siftDown ltE hi first lo d) := Lib.hid (by rw [← HE.out, Sort.sd_left_go ltE dk (by omega) (fun _ => HU.out.symm) HV.out.symm])
            go_wp2_with (first
              | (go_at_call 82; (with_reducible refine (HL1.out _ (by (repeat (first | exact HW.out | apply Sw.drew)))).mono ?_); rintro e w1 ⟨rfl, hw1⟩)
              | (go_at_call 82; (with_reducible refine (HL2.out _ (by (repeat (first | exact hw1 | apply Sw.drew)))).mono ?_); rintro e w2 ⟨rfl, hw2⟩)
              | (go_at_call 83; refine (HS2.out _ (by (repeat (first | exact hw2 | apply Sw.drew)))).mono ?_; rintro e w3 ⟨rfl, hw3⟩))
            go_roundg (hi - (2 * root + 1))
            case measure => omega
            case rel => exact ⟨2 * root + 1, Sort.swp dk (first + root) (first + (2 * root + 1)), by go_num, by omega, Nat.le_refl _, Lib.hid hw3, HX⟩
        · skip
          have HL2 : Hid (∀ v, Sw g n w dk v → Calls Try.prog 82 #[.slice (some ⟨g, 0, none⟩) n n, .int .i64 ((first : Int) + (root : Int)), .int .i64 ((first : Int) + (2 * (root : Int) + 1 + 1))] v fun e w' => e = .returned (.bool (ltE dk[first + root]! dk[first + (2 * root + 2)]!)) ∧ Sw g n w dk w') := Lib.hid fun v hv => by
            have := HL.out dk v (first + root) (first + (2 * root + 2)) hv (by omega) (by omega)
            rwa [show ((first + root : Nat) : Int) = (first : Int) + (root : Int) by omega, show ((first + (2 * root + 2) : Nat) : Int) = (first : Int) + (2 * (root : Int) + 1 + 1) by omega] at this
          have HS2 : Hid (∀ v, Sw g n w dk v → Calls Try.prog 83 #[.slice (some ⟨g, 0, none⟩) n n, .int .i64 ((first : Int) + (root : Int)), .int .i64 ((first : Int) + (2 * (root : Int) + 1 + 1))] v fun e w' => e = .returned (.tuple #[]) ∧ Sw g n w (Sort.swp dk (first + root) (first + (2 * root + 2))) w') := Lib.hid fun v hv => by
            have := HS.out dk v (first + root) (first + (2 * root + 2)) hv (by omega) (by omega)
            rwa [show ((first + root : Nat) : Int) = (first : Int) + (root : Int) by omega, show ((first + (2 * root + 2) : Nat) : Int) = (first : Int) + (2 * (root : Int) + 1 + 1) by omega] at this
          obtain ⟨u2, hu2⟩ : ∃ u, u = ltE dk[first + root]! dk[first + (2 * root + 2)]! := ⟨_, rfl⟩
          rw [← hu2] at HL2
          have HV := Lib.hid hu2
          clear hu2
          cases u2
          · have HX : Hid (Sort.siftDown ltE hi first lo d = dk) := Lib.hid (by rw [← HE.out, Sort.sd_right_stop ltE dk h1 HU.out.symm HV.out.symm])
            go_wp2_with (first
              | (go_at_call 82; (with_reducible refine (HL1.out _ (by (repeat (first | exact HW.out | apply Sw.drew)))).mono ?_); rintro e w1 ⟨rfl, hw1⟩)
              | (go_at_call 82; (with_reducible refine (HL2.out _ (by (repeat (first | exact hw1 | apply Sw.drew)))).mono ?_); rintro e w2 ⟨rfl, hw2⟩))
            (try simp only [Exit.inBlock, Exit.then])
            refine bodyPost_ret (results_none rfl _ _ _) rfl ?_
            exact ⟨rfl, by rw [HX.out]; exact hw2⟩
          · have HX : Hid (Sort.siftDown ltE hi first (2 * root + 2) (Sort.swp dk (first + root) (first + (2 * root + 2))) = Sort.siftDown ltE hi first lo d) := Lib.hid (by rw [← HE.out, Sort.sd_right_go ltE dk h1 HU.out.symm HV.out.symm])
            go_wp2_with (first
              | (go_at_call 82; (with_reducible refine (HL1.out _ (by (repeat (first | exact HW.out | apply Sw.drew)))).mono ?_); rintro e w1 ⟨rfl, hw1⟩)
              | (go_at_call 82; (with_reducible refine (HL2.out _ (by (repeat (first | exact hw1 | apply Sw.drew)))).mono ?_); rintro e w2 ⟨rfl, hw2⟩)
              | (go_at_call 83; refine (HS2.out _ (by (repeat (first | exact hw2 | apply Sw.drew)))).mono ?_; rintro e w3 ⟨rfl, hw3⟩))
            go_roundg (hi - (2 * root + 2))
            case measure => omega
            case rel => exact ⟨2 * root + 2, Sort.swp dk (first + root) (first + (2 * root + 2)), by go_num, by omega, Nat.le_refl _, Lib.hid hw3, HX⟩
      · have h1z : ¬ (2 * (root : Int) + 1 + 1 < (hi : Int)) := by omega
        have HL2 : Hid (∀ v, Sw g n w dk v → Calls Try.prog 82 #[.slice (some ⟨g, 0, none⟩) n n, .int .i64 ((first : Int) + (root : Int)), .int .i64 ((first : Int) + (2 * (root : Int) + 1))] v fun e w' => e = .returned (.bool (ltE dk[first + root]! dk[first + (2 * root + 1)]!)) ∧ Sw g n w dk w') := Lib.hid fun v hv => by
          have := HL.out dk v (first + root) (first + (2 * root + 1)) hv (by omega) (by omega)
          rwa [show ((first + root : Nat) : Int) = (first : Int) + (root : Int) by omega, show ((first + (2 * root + 1) : Nat) : Int) = (first : Int) + (2 * (root : Int) + 1) by omega] at this
        have HS2 : Hid (∀ v, Sw g n w dk v → Calls Try.prog 83 #[.slice (some ⟨g, 0, none⟩) n n, .int .i64 ((first : Int) + (root : Int)), .int .i64 ((first : Int) + (2 * (root : Int) + 1))] v fun e w' => e = .returned (.tuple #[]) ∧ Sw g n w (Sort.swp dk (first + root) (first + (2 * root + 1))) w') := Lib.hid fun v hv => by
          have := HS.out dk v (first + root) (first + (2 * root + 1)) hv (by omega) (by omega)
          rwa [show ((first + root : Nat) : Int) = (first : Int) + (root : Int) by omega, show ((first + (2 * root + 1) : Nat) : Int) = (first : Int) + (2 * (root : Int) + 1) by omega] at this
        obtain ⟨u2, hu2⟩ : ∃ u, u = ltE dk[first + root]! dk[first + (2 * root + 1)]! := ⟨_, rfl⟩
        rw [← hu2] at HL2
        have HV := Lib.hid hu2
        clear hu2
        cases u2
        · have HX : Hid (Sort.siftDown ltE hi first lo d = dk) := Lib.hid (by rw [← HE.out, Sort.sd_left_stop ltE dk (by omega) (fun h => absurd h h1) HV.out.symm])
          go_wp2_with (first
            | (go_at_call 82; (with_reducible refine (HL2.out _ (by (repeat (first | exact HW.out | apply Sw.drew)))).mono ?_); rintro e w2 ⟨rfl, hw2⟩))
          (try simp only [Exit.inBlock, Exit.then])
          refine bodyPost_ret (results_none rfl _ _ _) rfl ?_
          exact ⟨rfl, by rw [HX.out]; exact hw2⟩
        · have HX : Hid (Sort.siftDown ltE hi first (2 * root + 1) (Sort.swp dk (first + root) (first + (2 * root + 1))) = Sort.siftDown ltE hi first lo d) := Lib.hid (by rw [← HE.out, Sort.sd_left_go ltE dk (by omega) (fun h => absurd h h1) HV.out.symm])
          go_wp2_with (first
            | (go_at_call 82; (with_reducible refine (HL2.out _ (by (repeat (first | exact HW.out | apply Sw.drew)))).mono ?_); rintro e w2 ⟨rfl, hw2⟩)
            | (go_at_call 83; refine (HS2.out _ (by (repeat (first | exact hw2 | apply Sw.drew)))).mono ?_; rintro e w3 ⟨rfl, hw3⟩))
          go_roundg (hi - (2 * root + 1))
          case measure => omega
          case rel => exact ⟨2 * root + 1, Sort.swp dk (first + root) (first + (2 * root + 1)), by go_num, by omega, Nat.le_refl _, Lib.hid hw3, HX⟩

end Go.Proofs.Ytomloodakabcbaa.Et
