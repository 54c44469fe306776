/-
  sort's siftDown, heapSort and partialInsertionSort over a row of at most 40 events.
-/
import Derived.Test.YtomloodakabcbaaSoI
import Derived.Sort.WalkB2
import Derived.Sort.WalkB3
import Derived.Sort.WalkA6
namespace Go.Proofs.Ytomloodakabcbaa.Et
open Go.RowKit Go.Proofs.Ytomloodakabcbaa.Cond Go.Proofs.Ytomloodakabcbaa.Gx
set_option linter.unusedVariables false
set_option linter.unusedSimpArgs false

set_option maxRecDepth 100000 in
set_option maxHeartbeats 8000000 in
theorem piA {g n : Nat} (a b : Nat) (d : Array E) (w : World) (h : Sw g n w d w) (hn : n ≤ 40) (hab : a < b) (hb : b ≤ n) :
    Calls Try.prog 53 #[rvE g n, .int .i64 (a : Int), .int .i64 (b : Int)] w fun e w' => e = .returned (.bool (Sort.partialInsertionSort ltE d a b).2) ∧ Sw g n w (Sort.partialInsertionSort ltE d a b).1 w' := by
  have mL := reachLess (some ⟨g, 0, none⟩) n n
  have HL := Lib.hid (lsA (g := g) (w := w) hn)
  have H0 := Lib.hid h
  have h50 : b - a < 50 := by omega
  have h50z : (b : Int) - (a : Int) < 50 := by omega
  clear h
  go_enter Try.func53, Try.ntmps53
  go_wp2_with fail
  go_loopg [7, 8] 5 (fun g1 vi vs wr => ∃ (i s : Nat) (dk : Array E), vi = .int .i64 (i : Int) ∧ vs = .int .i64 (s : Int) ∧ s ≤ 5 ∧ 5 - s ≤ g1 ∧ a < i ∧ i ≤ b ∧ Hid (Sw g n w dk wr) ∧ Hid (Sort.partialIns ltE a b (5 - s) i dk = Sort.partialIns ltE a b 5 (a + 1) d))
  case atStart => exact ⟨a + 1, 0, d, by go_num, rfl, by omega, by omega, by omega, by omega, H0, Lib.hid rfl⟩
  case round =>
    obtain ⟨i, s, dk, rfl, rfl, hs5, hg1, hai, hib, HW, HO⟩ := hrel
    by_cases hs : s < 5
    · have hsz5 : (s : Int) < 5 := by omega
      go_wp2_with fail
      go_loopg [7] (b - i) (fun g2 vi wr2 => ∃ (kx : Nat), vi = .int .i64 (kx : Int) ∧ i ≤ kx ∧ kx ≤ b ∧ b - kx ≤ g2 ∧ Hid (Sw g n w dk wr2) ∧ Hid (Sort.scanSorted ltE dk b kx = Sort.scanSorted ltE dk b i))
      case atStart => exact ⟨i, rfl, Nat.le_refl _, hib, Nat.le_refl _, HW, Lib.hid rfl⟩
      case round =>
        obtain ⟨kx, rfl, hik, hkb, hg2, HJ, HSc⟩ := hrel
        by_cases hkb' : kx < b
        · have hkz : (kx : Int) < (b : Int) := by omega
          have HLJ : Hid (∀ v, Sw g n w dk v → Calls Try.prog 82 #[.slice (some ⟨g, 0, none⟩) n n, .int .i64 (kx : Int), .int .i64 ((kx : Int) - 1)] v fun e w' => e = .returned (.bool (ltE dk[kx]! dk[kx - 1]!)) ∧ Sw g n w dk w') := Lib.hid fun v hv => by
            have := HL.out dk v kx (kx - 1) hv (by omega) (by omega)
            rwa [show ((kx - 1 : Nat) : Int) = (kx : Int) - 1 by omega] at this
          obtain ⟨u, hu⟩ : ∃ u, u = ltE dk[kx]! dk[kx - 1]! := ⟨_, rfl⟩
          rw [← hu] at HLJ
          have HU := Lib.hid hu
          clear hu
          cases u
          · have HN : Hid (Sort.scanSorted ltE dk b (kx + 1) = Sort.scanSorted ltE dk b i) := Lib.hid (by rw [← HSc.out, scanSorted_go ltE dk b kx hkb' HU.out.symm])
            go_wp2_with (go_at_call 82; refine (HLJ.out _ (by (repeat (first | exact HJ.out | apply Sw.drew)))).mono ?_; rintro e w2 ⟨rfl, hw2⟩)
            go_roundg (b - (kx + 1))
            case measure => omega
            case rel => exact ⟨kx + 1, by go_num, by omega, by omega, Nat.le_refl _, Lib.hid hw2, HN⟩
          · have HK : Hid (Sort.scanSorted ltE dk b i = kx) := Lib.hid (by rw [← HSc.out, scanSorted_stop ltE dk b kx (.inr HU.out.symm)])
            have hkne : ((kx : Int) == (b : Int)) = false := beq_eq_false_iff_ne.2 (by omega)
            have HV : Hid (Sort.partialInsertionSort ltE d a b = (dk, false)) := Lib.hid (by unfold Sort.partialInsertionSort; rw [← HO.out, pi_short ltE a b s i dk hs (by rw [HK.out]; omega) h50])
            go_wp2_with (go_at_call 82; refine (HLJ.out _ (by (repeat (first | exact HJ.out | apply Sw.drew)))).mono ?_; rintro e w2 ⟨rfl, hw2⟩)
            rw [HV.out]
            go_ret
            exact ⟨rfl, hw2⟩
        · obtain rfl : kx = b := by omega
          have hkz : ¬ (kx : Int) < (kx : Int) := by omega
          have HV : Hid (Sort.partialInsertionSort ltE d a kx = (dk, true)) := Lib.hid (by unfold Sort.partialInsertionSort; rw [← HO.out, pi_true ltE a kx s i dk hs (by rw [← HSc.out, scanSorted_stop ltE dk kx kx (.inl (by omega))])])
          go_wp2_with fail
          rw [HV.out]
          go_ret
          exact ⟨rfl, HJ.out⟩
    · obtain rfl : s = 5 := by omega
      have HV : Hid (Sort.partialInsertionSort ltE d a b = (dk, false)) := Lib.hid (by unfold Sort.partialInsertionSort; rw [← HO.out, pi_end])
      go_wp2_with fail
      rw [HV.out]
      go_ret
      exact ⟨rfl, HW.out⟩

end Go.Proofs.Ytomloodakabcbaa.Et
