/-
  largestFirst of the program.
-/
import Derived.Test.YtjibnfeeomlnlaaSumW
import Derived.Test.YtjibnfeeomlnlaaShareMath
import Derived.Test.YtjibnfeeomlnlaaShelf
namespace Go.Proofs.Ytjibnfeeomlnlaa.Largest
open Go.RowKit Go.Proofs.Ytjibnfeeomlnlaa.IRow

set_option maxHeartbeats 1000000 in
theorem cmpWalk (A : Option Addr) (n cap : Nat) (rs : List Int) (B i j : Nat) (bx : Addr) (w : World) (hn : n = rs.length) (hm : n ≤ 20) (hA : Is w B A rs) (hb : w.cell? bx = some (.slice A n cap)) (hi : i < n) (hj : j < n) (x y : Int) (hx : x = rs[i]!) (hy : y = rs[j]!) :
    Calls Try.prog 26 #[.int .i64 i, .int .i64 j, .pointer (some bx)] w fun e w' => e = .returned (.int .i64 (Lib.compareInt y x)) ∧ ∃ q, w' = w.drewN q := by
  have hi' : i < rs.length := by omega
  have hj' : j < rs.length := by omega
  obtain ⟨ad, rfl, hB, hc⟩ := hA (by omega)
  have hci : w.cell? (ad.add i) = some (.int .i64 x) := by rw [hx, getElem!_pos rs i hi']; exact hc i hi'
  have hcj : w.cell? (ad.add j) = some (.int .i64 y) := by rw [hy, getElem!_pos rs j hj']; exact hc j hj'
  clear hc hx hy hn hA
  have h0 : (0 : Int) ≤ (i : Int) := by omega
  have h1 : (i : Int) < (n : Int) := by omega
  have h2 : (0 : Int) ≤ (j : Int) := by omega
  have h3 : (j : Int) < (n : Int) := by omega
  go_enter Try.func26, Try.ntmps26
  go_wp2_with fail
  go_quiet ((go_at_call 27; refine Calls.quiet_of_same ((Try.cmp_Compare_int _ _ _).mono fun e w2 h => h)))
  go_wp2_with fail
  go_ret
  exact ⟨rfl, _, rfl⟩

end Go.Proofs.Ytjibnfeeomlnlaa.Largest
