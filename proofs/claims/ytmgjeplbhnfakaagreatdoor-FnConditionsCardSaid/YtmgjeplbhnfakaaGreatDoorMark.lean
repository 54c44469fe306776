/-
  The marks that the laws write into a result: what markText returns.
-/
import Derived.Test.YtmgjeplbhnfakaaGreatDoorRows
import Derived.Test.YtmgjeplbhnfakaaGreatDoorPlain
import Derived.WalkKit
import Derived.ProofKit
import Derived.Lib.Hide
import Derived.WalkSmall
import Derived.Laws.IdiomStrings
import Derived.Maps.AppendAt
import Derived.OwnWalk
namespace Go.Proofs.YtmgjeplbhnfakaaGreatDoor.Mark
open Go.RowKit Go.Proofs.YtmgjeplbhnfakaaGreatDoor.Plain
set_option linter.unusedVariables false

/-- The digits of a number; none of 0. -/
def digs (k : Nat) : List UInt8 := if h : k = 0 then [] else digs (k / 10) ++ [UInt8.ofNat (48 + k % 10)]
termination_by k
decreasing_by omega

theorem digs_step {k : Nat} (h : 1 ≤ k) : digs k = digs (k / 10) ++ [UInt8.ofNat (48 + k % 10)] := by
  rw [digs.eq_def k, dif_neg (by omega)]

theorem digs_zero : digs 0 = [] := by rw [digs.eq_def, dif_pos rfl]

def mt (k : Nat) : ByteArray := ⟨((109 : UInt8) :: digs k).toArray⟩

theorem one_text (w : World) (x : Int) (u : UInt8) (h : x = (u.toNat : Int)) :
    (convert 22 9 (.slice (some ⟨w.heap.size, 0, none⟩) 1 1)).run Tryz.prog (w.alloc (.cells #[.int .u8 x] 5)) = .ok (.string ⟨#[u]⟩) (w.alloc (.cells #[.int .u8 x] 5)) := by
  have h1 := run_convert_bytes_back (P := Tryz.prog) (w.alloc (.cells #[.int .u8 x] 5)) 22 9 5 ⟨w.heap.size, 0, none⟩ 1 [u] Tryz.underlying22 Tryz.underlying5 Tryz.underlying9 (fun j hj => by
    have hj' : j = 0 := by simpa using hj
    subst hj'
    have := cell_one_new w (.int .u8 x) 5 0 (.int .u8 x) rfl
    rw [this, h]; rfl)
  exact h1

end Go.Proofs.YtmgjeplbhnfakaaGreatDoor.Mark
