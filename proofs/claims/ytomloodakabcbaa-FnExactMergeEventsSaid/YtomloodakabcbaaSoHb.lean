/-
  sort's siftDown, heapSort and partialInsertionSort over a row of at most 40 events.
-/
import Derived.Test.YtomloodakabcbaaSoI
import Derived.Test.YtomloodakabcbaaSoHa
import Derived.Sort.WalkB2
import Derived.Sort.WalkB3
import Derived.Sort.WalkA6
namespace Go.Proofs.Ytomloodakabcbaa.Et
open Go.RowKit Go.Proofs.Ytomloodakabcbaa.Cond Go.Proofs.Ytomloodakabcbaa.Gx
set_option linter.unusedVariables false
set_option linter.unusedSimpArgs false

set_option maxRecDepth 100000 in
set_option maxHeartbeats 8000000 in
theorem hsA {g n : Nat} (a b : Nat) (d : Array E) (w : World) (h : Sw g n w d w) (hn : n ≤ 40) (hab : a ≤ b) (hb : b ≤ n) :
    Calls Try.prog 49 #[rvE g n, .int .i64 (a : Int), .int .i64 (b : Int)] w fun e w' => e = .returned (.tuple #[]) ∧ Sw g n w (Sort.heapSort ltE d a b) w' := by
  have mS := reachSwap (some ⟨g, 0, none⟩) n n
  have HS := Lib.hid (ssA (g := g) (w := w) hn)
  have HSD : Hid (∀ (dk : Array E) (v : World) (lo hi first : Nat), Sw g n w dk v → lo ≤ hi → first + hi ≤ n → Calls Try.prog 59 #[rvE g n, .int .i64 (lo : Int), .int .i64 (hi : Int), .int .i64 (first : Int)] v fun e w' => e = .returned (.tuple #[]) ∧ Sw g n w (Sort.siftDown ltE hi first lo dk) w') := Lib.hid fun dk v lo hi first hv h1 h2 =>
    (sdA lo hi first dk v hv.re hn h1 h2).mono fun e w' ⟨he, hs⟩ => ⟨he, hv.to hs⟩
  have ecast : ((b - a : Nat) : Int) = (b : Int) - (a : Int) := by omega
  have H0 := Lib.hid h
  have hh := half_start hab
  clear h
  go_enter Try.func49, Try.ntmps49
  go_wp2_with fail
  go_loopg [9] ((b - a - 1) / 2 + 1) (fun kx s9 wr => s9 = .int .i64 ((kx : Int) - 1) ∧ kx ≤ (b - a - 1) / 2 + 1 ∧ ∃ (dk : Array E), Hid (Sw g n w dk wr) ∧ Hid (Sort.heapBuild ltE (b - a) a kx dk = Sort.heapBuild ltE (b - a) a ((b - a - 1) / 2 + 1) d))
  case atStart => exact ⟨by first | rw [hh] | (rw [half_start hab]) | (congr 1; omega), Nat.le_refl _, d, H0, Lib.hid rfl⟩
  case round =>
    obtain ⟨rfl, hkk, dk, HW, HE⟩ := hrel
    cases gk with
    | zero =>
      have HB : Hid (dk = Sort.heapBuild ltE (b - a) a ((b - a - 1) / 2 + 1) d) := Lib.hid HE.out
      clear hkk hh
      go_wp2_with fail
      go_loopg [10] (b - a) (fun kx s10 wr2 => s10 = .int .i64 ((kx : Int) - 1) ∧ kx ≤ b - a ∧ ∃ (dj : Array E), Hid (Sw g n w dj wr2) ∧ Hid (Sort.heapPop ltE a kx dj = Sort.heapPop ltE a (b - a) dk))
      case atStart => exact ⟨by rw [ecast], Nat.le_refl _, dk, HW, Lib.hid rfl⟩
      case round =>
        obtain ⟨rfl, hkk, dj, HJ, HE2⟩ := hrel
        cases gk with
        | zero =>
          have HX : Hid (Sort.heapSort ltE d a b = dj) := Lib.hid (by rw [Sort.heapSort, ← HB.out, ← HE2.out]; rfl)
          go_wp2_with fail
          go_end0
          exact ⟨rfl, by rw [HX.out]; exact HJ.out⟩
        | succ kx =>
          have HS1 : Hid (∀ v, Sw g n w dj v → Calls Try.prog 83 #[.slice (some ⟨g, 0, none⟩) n n, .int .i64 (a : Int), .int .i64 ((a : Int) + (kx : Int))] v fun e w' => e = .returned (.tuple #[]) ∧ Sw g n w (Sort.swp dj a (a + kx)) w') := Lib.hid fun v hv => by
            have := HS.out dj v a (a + kx) hv (by omega) (by omega)
            rwa [show ((a + kx : Nat) : Int) = (a : Int) + (kx : Int) by omega] at this
          have HD1 := Lib.hid fun v hv => HSD.out (Sort.swp dj a (a + kx)) v 0 kx a hv (Nat.zero_le _) (by omega)
          have HN : Hid (Sort.heapPop ltE a kx (Sort.siftDown ltE kx a 0 (Sort.swp dj a (a + kx))) = Sort.heapPop ltE a (b - a) dk) := Lib.hid HE2.out
          go_wp2_with (first
            | (go_at_call 83; refine (HS1.out _ (by (repeat (first | exact HJ.out | apply Sw.drew)))).mono ?_; rintro e w2 ⟨rfl, hw2⟩)
            | (go_at_call 59; refine (HD1.out _ (by (repeat (first | exact hw2 | apply Sw.drew)))).mono ?_; rintro e w3 ⟨rfl, hw3⟩))
          go_roundg kx
          case measure => omega
          case rel => exact ⟨by simp, by omega, _, Lib.hid hw3, HN⟩
    | succ kx =>
      have HD1 : Hid (∀ v, Sw g n w dk v → Calls Try.prog 59 #[rvE g n, .int .i64 (kx : Int), .int .i64 ((b : Int) - (a : Int)), .int .i64 (a : Int)] v fun e w' => e = .returned (.tuple #[]) ∧ Sw g n w (Sort.siftDown ltE (b - a) a kx dk) w') := Lib.hid fun v hv => by
        have := HSD.out dk v kx (b - a) a hv (by omega) (by omega)
        rwa [ecast] at this
      have HN : Hid (Sort.heapBuild ltE (b - a) a kx (Sort.siftDown ltE (b - a) a kx dk) = Sort.heapBuild ltE (b - a) a ((b - a - 1) / 2 + 1) d) := Lib.hid HE.out
      clear hh
      go_wp2_with (go_at_call 59; refine (HD1.out _ (by (repeat (first | exact HW.out | apply Sw.drew)))).mono ?_; rintro e w3 ⟨rfl, hw3⟩)
      go_roundg kx
      case measure => omega
      case rel => exact ⟨by simp, by omega, _, Lib.hid hw3, HN⟩

end Go.Proofs.Ytomloodakabcbaa.Et
