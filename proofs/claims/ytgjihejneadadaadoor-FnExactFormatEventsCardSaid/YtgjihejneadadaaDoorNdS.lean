/-
  The names and the days of a condition, as the model collects them: l5Names, l5Days.
-/
import Derived.Test.YtgjihejneadadaaDoorNdI
namespace Go.Proofs.YtgjihejneadadaaDoor.NdS
open Go.RowKit Go.Sort Go.Proofs.YtgjihejneadadaaDoor.Cond Go.Proofs.YtgjihejneadadaaDoor.SrtR Go.Proofs.YtgjihejneadadaaDoor.NdI
set_option linter.unusedVariables false

mutual
def dys : C → List Int
  | .mk op _ day ps => if op = 3 then [day] else dysL ps
def dysL : List C → List Int
  | [] => []
  | p :: ps => dys p ++ dysL ps
end
mutual
def nms : C → List (List UInt8)
  | .mk op nm _ ps => if op = 2 then [nm.toList] else nmsL ps
def nmsL : List C → List (List UInt8)
  | [] => []
  | p :: ps => nms p ++ nmsL ps
end
theorem col_q (q : Q) : ∀ s : Sg, col q.c s = (s.1 ++ nms q.c, s.2 ++ dys q.c) := by
  induction q with
  | tru => intro s; simp [col, vis, visL, okN, nxN, Q.c, nms, dys, nmsL, dysL]
  | fact x => intro s; simp [col, vis, visL, okN, nxN, Q.c, nms, dys, dysL]
  | frm d => intro s; simp [col, vis, visL, okN, nxN, Q.c, nms, dys, nmsL]
  | neg a ih =>
    intro s
    have h1 := ih s
    unfold col at h1
    simp [col, vis, visL, okN, nxN, Q.c, nms, dys, nmsL, dysL, vis_all, h1]
  | and a b iha ihb =>
    intro s
    have h1 := iha s
    have h2 := ihb (s.1 ++ nms a.c, s.2 ++ dys a.c)
    unfold col at h1 h2
    simp [col, vis, visL, okN, nxN, Q.c, nms, dys, nmsL, dysL, vis_all, h1, h2]
  | or a b iha ihb =>
    intro s
    have h1 := iha s
    have h2 := ihb (s.1 ++ nms a.c, s.2 ++ dys a.c)
    unfold col at h1 h2
    simp [col, vis, visL, okN, nxN, Q.c, nms, dys, nmsL, dysL, vis_all, h1, h2]


mutual
theorem dys_len : ∀ c : C, (dys c).length ≤ c.size
  | .mk op nm' day ps => by
    have := dysL_len ps
    unfold dys
    split
    · simp only [C.size, List.length_singleton]; omega
    · simp only [C.size]; omega
theorem dysL_len : ∀ ps : List C, (dysL ps).length ≤ sizes ps
  | [] => by simp [dysL, sizes]
  | p :: ps => by have := dys_len p; have := dysL_len ps; simp only [dysL, sizes, List.length_append]; omega
end
theorem dysL_step {ps : List C} {i : Nat} (hi : i < ps.length) : dysL (ps.take (i + 1)) = dysL (ps.take i) ++ dys ps[i] := by
  induction ps generalizing i with
  | nil => simp at hi
  | cons p ps ih =>
    cases i with
    | zero => simp [dysL]
    | succ i =>
      have := ih (i := i) (by simpa using hi)
      simp only [List.take_succ_cons, dysL, List.getElem_cons_succ, this, List.append_assoc]

mutual
theorem nms_len : ∀ c : C, (nms c).length ≤ c.size
  | .mk op nm' day ps => by
    have := nmsL_len ps
    unfold nms
    split
    · simp only [C.size, List.length_singleton]; omega
    · simp only [C.size]; omega
theorem nmsL_len : ∀ ps : List C, (nmsL ps).length ≤ sizes ps
  | [] => by simp [nmsL, sizes]
  | p :: ps => by have := nms_len p; have := nmsL_len ps; simp only [nmsL, sizes, List.length_append]; omega
end
theorem nmsL_step {ps : List C} {i : Nat} (hi : i < ps.length) : nmsL (ps.take (i + 1)) = nmsL (ps.take i) ++ nms ps[i] := by
  induction ps generalizing i with
  | nil => simp at hi
  | cons p ps ih =>
    cases i with
    | zero => simp [nmsL]
    | succ i =>
      have := ih (i := i) (by simpa using hi)
      simp only [List.take_succ_cons, nmsL, List.getElem_cons_succ, this, List.append_assoc]

/-- Sorted, equal neighbours struck: the union. -/
theorem comp_dys (D : List Int) : Lib.compact (srtI D) = UniMath.uni [] D := by
  have := UniMath.compact_sort [] D (by simp)
  simpa using this
theorem comp_nms (D : List (List UInt8)) : Lib.compact (srtT D) = UniTM.uni [] D := by
  have := UniTM.compact_sort [] D (by simp)
  simpa using this

end Go.Proofs.YtgjihejneadadaaDoor.NdS
