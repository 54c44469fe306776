/-
  Valid contracts by the model: l6Parties, l6Names.
-/
import Derived.Test.YtencedbohnbogaaClS
import Derived.Deep.RegionHeld3
namespace Go.Proofs.Ytencedbohnbogaa.Cl
open Go.RowKit Go.Proofs.Ytencedbohnbogaa.Cond Go.Proofs.Ytencedbohnbogaa.Gx Go.Proofs.Ytencedbohnbogaa.NdS
set_option linter.unusedVariables false
set_option linter.unusedSimpArgs false

theorem is_prefix {w : World} {B : Nat} {A : Option Addr} {ss : List ByteArray} (h : Row.Is w B A ss) (k : Nat) : Row.Is w B A (ss.take k) := fun hp => by
  obtain ⟨ad, e, hB, hc⟩ := h (by have := List.length_take (i := k) (l := ss); omega)
  exact ⟨ad, e, hB, fun j hj => by
    have hj' : j < ss.length := by have := List.length_take (i := k) (l := ss); omega
    rw [List.getElem_take]; exact hc j hj'⟩
/-- The first k parties are names, each another. -/
def nOk (ss : List ByteArray) (k : Nat) : Prop := ∀ i, ∀ h : i < ss.length, i < k → isNm ss[i] = true ∧ has (ss.take i) ss[i] = false
theorem okN_no {ss : List ByteArray} {k : Nat} (hk : k < ss.length) (h : isNm ss[k] = false ∨ has (ss.take k) ss[k] = true) : okN ss = false := by
  unfold okN
  refine decide_eq_false fun hh => ?_
  obtain ⟨h1, h2⟩ := hh k hk
  rcases h with h | h
  · rw [h1] at h; cases h
  · rw [h2] at h; cases h
theorem okN_yes {ss : List ByteArray} (h : nOk ss ss.length) : okN ss = true := decide_eq_true fun i hi => h i hi hi

theorem own_on {S : Nat} {w w' : World} {v : Value} {zs : List (List UInt8)} (h : UniT.Own w S v zs) (hb : Below w.heap.size w w') : UniT.Own w' S v zs :=
  h.kept (row := none) ⟨hb.os, hb.tape, hb.output, hb.size, fun j hj _ => hb.block j hj⟩ (by cases hv : v.ownBlock <;> simp)
theorem nms_take {x : Kt} {k : Nat} {p : M} (h : CAt x k p) : names (x.ct.ls.take (k + 1)) = UniTM.uni (UniTM.putL (names (x.ct.ls.take k)) p.act.toList) (nms p.k.cond) := by
  obtain ⟨h1, h2⟩ := h.cl
  rw [names_step h1, h2]
  rfl
theorem str_back (s : ByteArray) : (⟨s.toList.toArray⟩ : ByteArray) = s := by rw [Go.ByteArray.toList_eq]

end Go.Proofs.Ytencedbohnbogaa.Cl
