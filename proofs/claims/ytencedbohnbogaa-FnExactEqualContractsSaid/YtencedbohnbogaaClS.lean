/-
  l6Find and l6Clause of the model.
-/
import Derived.Test.YtencedbohnbogaaClQ
namespace Go.Proofs.Ytencedbohnbogaa.Cl
open Go.RowKit Go.Proofs.Ytencedbohnbogaa.Cond Go.Proofs.Ytencedbohnbogaa.Gx
set_option linter.unusedVariables false
set_option linter.unusedSimpArgs false

theorem ct_get {x : Kt} {k : Nat} (hk : k < x.ms.length) : ∃ h : k < x.ct.ls.length, x.ct.ls[k] = x.ms[k].cl := ⟨by simpa [Kt.ct] using hk, by simp [Kt.ct]⟩

/-- Clause i of the contract that lies in memory. -/
structure CAt (x : Kt) (i : Nat) (m : M) : Prop where
  lt : i < x.ms.length
  eq : m = x.ms[i]
theorem CAt.cl {x : Kt} {i : Nat} {m : M} (h : CAt x i m) : ∃ hh : i < x.ct.ls.length, x.ct.ls[i] = m.cl := by
  obtain ⟨h1, h2⟩ := ct_get h.lt
  exact ⟨h1, by rw [h2]; exact congrArg M.cl h.eq.symm⟩
theorem LiC.clause {w : World} {B : Nat} {x : Kt} (h : LiC w B x) {i : Nat} {m : M} (hm : CAt x i m) : LiM w B m := by rw [hm.eq]; exact h.c.all _ (List.getElem_mem hm.lt)
/-- What l6Clause asks first. -/
structure Tst (np : Nat) (m : M) (t0 t1 t2 t3 t4 t5 t6 t7 t8 : Bool) : Prop where
  e0 : t0 = isNm m.id
  e1 : t1 = isNm m.act
  e2 : t2 = (decide (1 ≤ m.kind) && decide (m.kind ≤ 4))
  e3 : t3 = (decide (0 ≤ m.party) && decide (m.party ≤ (np : Int) - 1))
  e4 : t4 = (decide (0 ≤ m.other) && decide (m.other ≤ (np : Int) - 1))
  e5 : t5 = decide (m.party = m.other)
  e6 : t6 = m.k.cond.good
  e7 : t7 = (decide (0 ≤ m.amt) && decide (m.amt ≤ 1000000))
  e8 : t8 = (decide (0 ≤ m.within) && decide (m.within ≤ 400))
theorem Tst.c {np : Nat} {m : M} {t0 t1 t2 t3 t4 t5 t6 t7 t8 : Bool} (h : Tst np m t0 t1 t2 t3 t4 t5 t6 t7 t8) : okC np m.cl = (t0 && t1 && t2 && t3 && t4 && !t5 && t6) := by
  rw [h.e0, h.e1, h.e2, h.e3, h.e4, h.e5, h.e6]; rfl
theorem Tst.a {np : Nat} {m : M} {t0 t1 t2 t3 t4 t5 t6 t7 t8 : Bool} (h : Tst np m t0 t1 t2 t3 t4 t5 t6 t7 t8) : okA m.cl = (t7 && t8 && (decide (m.kind = 1) || (decide (m.amt = 0) && decide (m.within = 0)))) := by
  rw [h.e7, h.e8]; rfl
theorem okL_eq (np : Nat) (ls : List L) (i : Nat) (m : M) : okL np ls i m.cl = (okC np m.cl && okA m.cl && okR ls i m.cl) := rfl
theorem kind_at {x : Kt} {k : Nat} {p : M} (h : CAt x k p) : kindAt x.ct.ls k = p.kind := by
  obtain ⟨h1, h2⟩ := h.cl
  unfold kindAt
  rw [dif_pos h1, h2]
  rfl

end Go.Proofs.Ytencedbohnbogaa.Cl
