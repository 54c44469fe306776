/-
  Valid conditions by the model: l5Forms, l5Size, l5Good.
-/
import Derived.Test.YtomloodakabcbaaFm
import Derived.Test.YtomloodakabcbaaCoEq
namespace Go.Proofs.Ytomloodakabcbaa.Cond
open Go.RowKit

theorem forms_part {ps : List C} {i : Nat} (hi : i < ps.length) : allForms (ps.take (i + 1)) = (allForms (ps.take i) && ps[i].forms) := by
  rw [allForms_all, allForms_all, List.take_succ_eq_append_getElem hi, List.all_append]
  simp only [List.all_cons, List.all_nil, Bool.and_true]
theorem forms_no {ps : List C} {i : Nat} (hi : i < ps.length) (h : ps[i].forms = false) : allForms ps = false := by
  rw [allForms_all, List.all_eq_false]
  exact ⟨ps[i], List.getElem_mem hi, by simp [h]⟩

end Go.Proofs.Ytomloodakabcbaa.Cond
