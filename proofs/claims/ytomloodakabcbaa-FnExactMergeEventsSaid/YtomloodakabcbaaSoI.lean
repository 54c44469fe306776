/-
  sort's insertionSort, reverseRange over a row of events.
-/
import Derived.Test.YtomloodakabcbaaSoB
import Derived.Sort.WalkA
import Derived.Deep.LoopGhost
namespace Go.Proofs.Ytomloodakabcbaa.Et
open Go.RowKit Go.Proofs.Ytomloodakabcbaa.Cond Go.Proofs.Ytomloodakabcbaa.Gx
set_option linter.unusedVariables false
set_option linter.unusedSimpArgs false

/-- The row, as sort's interface. -/
abbrev rvE (g n : Nat) : Value := .iface 44 (.slice (some ⟨g, 0, none⟩) n n)
/-- Less and Swap at any state. -/
def LsA (g n : Nat) (w : World) : Prop := ∀ (dk : Array E) (v : World) (i j : Nat), Sw g n w dk v → i < n → j < n →
    Calls Try.prog 82 #[.slice (some ⟨g, 0, none⟩) n n, .int .i64 (i : Int), .int .i64 (j : Int)] v fun e w' => e = .returned (.bool (ltE dk[i]! dk[j]!)) ∧ Sw g n w dk w'
def SsA (g n : Nat) (w : World) : Prop := ∀ (dk : Array E) (v : World) (i j : Nat), Sw g n w dk v → i < n → j < n →
    Calls Try.prog 83 #[.slice (some ⟨g, 0, none⟩) n n, .int .i64 (i : Int), .int .i64 (j : Int)] v fun e w' => e = .returned (.tuple #[]) ∧ Sw g n w (Sort.swp dk i j) w'
theorem lsA {g n : Nat} {w : World} (hn : n ≤ 40) : LsA g n w := fun dk v i j hv hi hj => lessA hv hn i j hi hj
theorem ssA {g n : Nat} {w : World} (hn : n ≤ 40) : SsA g n w := fun dk v i j hv hi hj => swapA hv hn i j hi hj

set_option maxRecDepth 100000 in
set_option maxHeartbeats 4000000 in
theorem insA {g n : Nat} (a b : Nat) (d : Array E) (w : World) (h : Sw g n w d w) (hn : n ≤ 40) (hab : a ≤ b) (hb : b ≤ n) :
    Calls Try.prog 48 #[rvE g n, .int .i64 (a : Int), .int .i64 (b : Int)] w fun e w' => e = .returned (.tuple #[]) ∧ Sw g n w (Sort.insertionSort ltE d a b) w' := by
  have mL := reachLess (some ⟨g, 0, none⟩) n n
  have mS := reachSwap (some ⟨g, 0, none⟩) n n
  have HL := Lib.hid (lsA (g := g) (w := w) hn)
  have HS := Lib.hid (ssA (g := g) (w := w) hn)
  have H0 := Lib.hid h
  clear h
  go_enter Try.func48, Try.ntmps48
  go_wp2_with fail
  go_loopw [6] (fun vi wr => ∃ (i : Nat) (dk : Array E), vi = .int .i64 (i : Int) ∧ a < i ∧ i ≤ b + 1 ∧ Hid (Sw g n w dk wr) ∧ Hid (Sort.insOuter ltE a b i dk = Sort.insOuter ltE a b (a + 1) d)) (fun vi _ => b + 1 - (intOf vi).toNat)
  case atStart => exact ⟨a + 1, d, by go_num, by omega, by omega, H0, Lib.hid rfl⟩
  case round =>
    obtain ⟨i, dk, rfl, hai, hib, HW, HO⟩ := hrel
    by_cases hlt : i < b
    · have hltz : (i : Int) < (b : Int) := by omega
      go_wp2_with fail
      go_loopw [7] (fun vj wr2 => ∃ (j : Nat) (dj : Array E), vj = .int .i64 (j : Int) ∧ a ≤ j ∧ j ≤ i ∧ Hid (Sw g n w dj wr2) ∧ Hid (Sort.insInner ltE a j dj = Sort.insInner ltE a i dk)) (fun vj _ => (intOf vj).toNat)
      case atStart => exact ⟨i, dk, rfl, by omega, Nat.le_refl _, HW, Lib.hid rfl⟩
      case round =>
        obtain ⟨j, dj, rfl, haj, hji, HJ, HI⟩ := hrel
        by_cases hja : a < j
        · have hjaz : (a : Int) < (j : Int) := by omega
          have HLJ : Hid (∀ v, Sw g n w dj v → Calls Try.prog 82 #[.slice (some ⟨g, 0, none⟩) n n, .int .i64 (j : Int), .int .i64 ((j : Int) - 1)] v fun e w' => e = .returned (.bool (ltE dj[j]! dj[j - 1]!)) ∧ Sw g n w dj w') := Lib.hid fun v hv => by
            have := HL.out dj v j (j - 1) hv (by omega) (by omega)
            rwa [show ((j - 1 : Nat) : Int) = (j : Int) - 1 by omega] at this
          have HSJ : Hid (∀ v, Sw g n w dj v → Calls Try.prog 83 #[.slice (some ⟨g, 0, none⟩) n n, .int .i64 (j : Int), .int .i64 ((j : Int) - 1)] v fun e w' => e = .returned (.tuple #[]) ∧ Sw g n w (Sort.swp dj j (j - 1)) w') := Lib.hid fun v hv => by
            have := HS.out dj v j (j - 1) hv (by omega) (by omega)
            rwa [show ((j - 1 : Nat) : Int) = (j : Int) - 1 by omega] at this
          obtain ⟨u, hu⟩ : ∃ u, u = ltE dj[j]! dj[j - 1]! := ⟨_, rfl⟩
          rw [← hu] at HLJ
          have HU := Lib.hid hu
          clear hu
          cases u
          · have HN : Hid (Sort.insOuter ltE a b (i + 1) dj = Sort.insOuter ltE a b (a + 1) d) := Lib.hid (by rw [← HO.out, insOuter_go _ _ _ _ _ hlt, ← HI.out, insInner_stop _ _ _ _ (.inr HU.out.symm)])
            go_wp2_with (go_at_call 82; refine (HLJ.out _ (by (repeat (first | exact HJ.out | apply Sw.drew)))).mono ?_; rintro e w2 ⟨rfl, hw2⟩)
            go_roundw
            case rel => exact ⟨i + 1, dj, by go_num, by omega, by omega, Lib.hid (by (repeat (first | exact hw2 | apply Sw.drew))), HN⟩
            case measure => simp [intOf]; omega
          · have HN : Hid (Sort.insInner ltE a (j - 1) (Sort.swp dj j (j - 1)) = Sort.insInner ltE a i dk) := Lib.hid (by rw [← HI.out, insInner_go _ _ _ _ hja HU.out.symm])
            go_wp2_with (first
              | (go_at_call 82; refine (HLJ.out _ (by (repeat (first | exact HJ.out | apply Sw.drew)))).mono ?_; rintro e w2 ⟨rfl, hw2⟩)
              | (go_at_call 83; refine (HSJ.out _ (by (repeat (first | exact hw2 | apply Sw.drew)))).mono ?_; rintro e w3 ⟨rfl, hw3⟩))
            go_roundw
            case rel => exact ⟨j - 1, Sort.swp dj j (j - 1), by congr 1; omega, by omega, by omega, Lib.hid hw3, HN⟩
            case measure => simp [intOf]; omega
        · have hjaz : ¬ (a : Int) < (j : Int) := by omega
          have HN : Hid (Sort.insOuter ltE a b (i + 1) dj = Sort.insOuter ltE a b (a + 1) d) := Lib.hid (by rw [← HO.out, insOuter_go _ _ _ _ _ hlt, ← HI.out, insInner_stop _ _ _ _ (.inl (by omega))])
          go_wp2_with fail
          go_roundw
          case rel => exact ⟨i + 1, dj, by go_num, by omega, by omega, Lib.hid (by (repeat (first | exact HJ.out | apply Sw.drew))), HN⟩
          case measure => simp [intOf]; omega
    · have hltz : ¬ (i : Int) < (b : Int) := by omega
      have HE : Hid (Sort.insertionSort ltE d a b = dk) := Lib.hid (by unfold Sort.insertionSort; rw [← HO.out, insOuter_stop _ _ _ _ _ hlt])
      go_wp2_with fail
      go_end0
      exact ⟨rfl, by rw [HE.out]; exact HW.out⟩

set_option maxRecDepth 100000 in
set_option maxHeartbeats 4000000 in
theorem revA {g n : Nat} (a b : Nat) (d : Array E) (w : World) (h : Sw g n w d w) (hn : n ≤ 40) (hab : a ≤ b) (hb : b ≤ n) :
    Calls Try.prog 52 #[rvE g n, .int .i64 (a : Int), .int .i64 (b : Int)] w fun e w' => e = .returned (.tuple #[]) ∧ Sw g n w (Sort.reverseRange d a b) w' := by
  have mS := reachSwap (some ⟨g, 0, none⟩) n n
  have HS := Lib.hid (ssA (g := g) (w := w) hn)
  have H0 := Lib.hid h
  clear h
  go_enter Try.func52, Try.ntmps52
  go_wp2_with fail
  go_loopg [6, 7] (b - a) (fun k s6 s7 wr => ∃ (i jn : Nat) (jz : Int) (dk : Array E), s6 = .int .i64 (i : Int) ∧ s7 = .int .i64 jz ∧ -1 ≤ jz ∧ jz ≤ 100 ∧ i ≤ 100 ∧ ((i : Int) < jz → jz = jn ∧ jn < n) ∧ (¬ (i : Int) < jz → ¬ i < jn) ∧ jn - i ≤ k ∧ Hid (Sw g n w dk wr) ∧ Hid (Sort.reverseLoop i jn dk = Sort.reverseLoop a (b - 1) d))
  case atStart => exact ⟨a, b - 1, (b : Int) - 1, d, rfl, rfl, by omega, by omega, by omega, fun h => ⟨by omega, by omega⟩, fun h => by omega, by omega, H0, Lib.hid rfl⟩
  case round =>
    obtain ⟨i, jn, jz, dk, rfl, rfl, hz1, hz2, hi1, h1, h2, hk, HW, HQ⟩ := hrel
    by_cases hlt : (i : Int) < jz
    · obtain ⟨rfl, hjn⟩ := h1 hlt
      have hij : i < jn := by omega
      have HSJ := Lib.hid (fun v hv => HS.out dk v i jn hv (by omega) hjn)
      have HN : Hid (Sort.reverseLoop (i + 1) (jn - 1) (Sort.swp dk i jn) = Sort.reverseLoop a (b - 1) d) := Lib.hid (by rw [← HQ.out]; conv => rhs; rw [Sort.reverseLoop, if_pos hij])
      clear h1 h2
      go_wp2_with (go_at_call 83; refine (HSJ.out _ (by (repeat (first | exact HW.out | apply Sw.drew)))).mono ?_; rintro e w3 ⟨rfl, hw3⟩)
      go_roundg (jn - 1 - (i + 1))
      case measure => omega
      case rel => exact ⟨i + 1, jn - 1, (jn : Int) - 1, Sort.swp dk i jn, by simp, rfl, by omega, by omega, by omega, fun h => ⟨by omega, by omega⟩, fun h => by omega, Nat.le_refl _, Lib.hid hw3, HN⟩
    · have hnot := h2 hlt
      have HE : Hid (Sort.reverseRange d a b = dk) := Lib.hid (by rw [Sort.reverseRange, ← HQ.out, Sort.reverseLoop, if_neg hnot])
      clear h1 h2
      go_wp2_with fail
      go_end0
      exact ⟨rfl, by rw [HE.out]; exact HW.out⟩

end Go.Proofs.Ytomloodakabcbaa.Et
