/-
  What the laws' helper eqCondition returns of two conditions that are the same: true.
-/
import Derived.Test.YtomloodakabcbaaCoTo
import Derived.Deep.RegionWith
namespace Go.Proofs.Ytomloodakabcbaa.Cond
open Go.RowKit

theorem below_of_drew {B : Nat} {a w : World} (h : Below B a.drew w) : Below B a w := ⟨h.os, h.tape, h.output, h.size, h.block⟩
theorem drew_below (B : Nat) (a : World) : Below B a a.drew := (Below.refl _ _).drew
theorem conds_len (ps : List K) : (conds ps).length = ps.length := by rw [conds_map]; simp
theorem conds_get {ps qs : List K} (h : conds ps = conds qs) {i : Nat} (h1 : i < ps.length) (h2 : i < qs.length) : ps[i].cond = qs[i].cond := by
  rw [conds_map, conds_map] at h
  have := congrArg (·[i]?) h
  simpa [h1, h2] using this

end Go.Proofs.Ytomloodakabcbaa.Cond
