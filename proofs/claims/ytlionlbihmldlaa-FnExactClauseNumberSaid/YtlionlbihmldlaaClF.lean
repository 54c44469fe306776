/-
  The model's ClauseNumber, DependentClauses, ClausesOf, FactNames.
-/
import Derived.Test.YtlionlbihmldlaaClV
import Derived.Test.YtlionlbihmldlaaUniS
import Derived.Deep.RegionHeld3
namespace Go.Proofs.Ytlionlbihmldlaa.Cl
open Go.RowKit Go.Proofs.Ytlionlbihmldlaa.Cond Go.Proofs.Ytlionlbihmldlaa.Gx Go.Proofs.Ytlionlbihmldlaa.NdS
set_option linter.unusedVariables false
set_option linter.unusedSimpArgs false

/-- What ClauseNumber finds. -/
def cnB (c : Ct) (id : ByteArray) : Bool := c.good && decide (fnd c.ls id < c.ls.length)
def cnN (c : Ct) (id : ByteArray) : Int := if cnB c id then (fnd c.ls id : Int) else 0
theorem fndI_yes {ls : List L} {id : ByteArray} (h : fnd ls id < ls.length) : fndI ls id = (fnd ls id : Int) := if_pos h
theorem fndI_none {ls : List L} {id : ByteArray} (h : ¬ fnd ls id < ls.length) : fndI ls id = -1 := if_neg h

set_option maxRecDepth 100000 in
set_option maxHeartbeats 4000000 in
theorem specCn (x : Kt) (id : ByteArray) (w : World) (h : LiC w w.heap.size x) (hw : x.ct.wt ≤ 1048576) :
    Calls Try.prog 10 #[x.val, .string id] w fun e w' => e = .returned (.tuple #[.int .i64 (cnN x.ct id), .bool (cnB x.ct id)]) ∧ Below w.heap.size w w' := by
  obtain ⟨X, hX⟩ : ∃ X, X = w.alloc (.cells #[.slice x.A1 x.n1 x.c1, .slice x.A2 x.n2 x.c2] 30) := ⟨_, rfl⟩
  have B0 : Below w.heap.size w X := by rw [hX]; exact below1 _ _
  have HL := Lib.hid (h.on B0)
  have P0 : Hid (Bk w.heap.size X [.slice x.A1 x.n1 x.c1, .slice x.A2 x.n2 x.c2]) := Lib.hid (by rw [hX]; exact Bk.new _ _ _)
  have KX : Hid (∀ v, Below X.heap.size X v → v.cell? ⟨w.heap.size, 0, none⟩ = some (.slice x.A1 x.n1 x.c1) ∧ v.cell? ⟨w.heap.size, 1, none⟩ = some (.slice x.A2 x.n2 x.c2)) := Lib.hid fun v hv => by
    have h0 := (P0.out.on hv).c 0 (by simp)
    have h1 := (P0.out.on hv).c 1 (by simp)
    simp only [List.getElem_cons_succ, List.getElem_cons_zero] at h0 h1
    exact ⟨h0, h1⟩
  obtain ⟨g, hg⟩ : ∃ g, g = x.ct.good := ⟨_, rfl⟩
  obtain ⟨z, hz⟩ : ∃ z, z = fndI x.ct.ls id := ⟨_, rfl⟩
  have HG : Hid (∀ v, Below X.heap.size X v → Calls Try.prog 14 #[.agg #[.slice x.A1 x.n1 x.c1, .slice x.A2 x.n2 x.c2]] v fun e w' => e = .returned (.bool g) ∧ Below v.heap.size v w') := Lib.hid fun v hv => by rw [hg]; exact l6Good x v (HL.out.on hv) hw
  have HF : Hid (∀ v, Below X.heap.size X v → Calls Try.prog 20 #[.agg #[.slice x.A1 x.n1 x.c1, .slice x.A2 x.n2 x.c2], .string id] v fun e w' => e = .returned (.int .i64 z) ∧ Below v.heap.size v w') := Lib.hid fun v hv => by rw [hz]; exact l6Find x id v (HL.out.on hv)
  have HB := Lib.hid B0
  have HXW := Lib.hid hX
  have HGE := Lib.hid hg
  have HZE := Lib.hid hz
  have hcells := KX.out X (Below.refl _ _)
  rw [hX] at hcells
  obtain ⟨e0, e1⟩ := hcells
  clear B0 hw h hg hz HL P0
  go_enter Try.func10, Try.ntmps10
  cases g
  · have HE : Hid (cnB x.ct id = false ∧ cnN x.ct id = 0) := Lib.hid (by
      have h1 : cnB x.ct id = false := by unfold cnB; rw [← HGE.out]; rfl
      exact ⟨h1, by unfold cnN; rw [h1]; rfl⟩)
    go_wp2_with (go_at_call 14; (try rw [← HXW.out]); refine (HG.out _ (Below.refl _ _)).mono ?_; rintro e wa ⟨rfl, hb⟩)
    go_ret2
    exact ⟨by rw [HE.out.1, HE.out.2]; rfl, HB.out.trans (hb.mono HB.out.size)⟩
  · go_wp2_with (go_at_call 14; (try rw [← HXW.out]); refine (HG.out _ (Below.refl _ _)).mono ?_; rintro e wa ⟨rfl, hb⟩; refine Hid.out ?_)
    refine Lib.hid ?_
    have B1 := Lib.hid hb
    obtain ⟨c0, c1⟩ := KX.out wa hb
    clear hb e0 e1 HG
    by_cases hf : fnd x.ct.ls id < x.ct.ls.length
    · have HZ2 : Hid (z = (fnd x.ct.ls id : Int)) := Lib.hid (by rw [HZE.out]; exact fndI_yes hf)
      have hz0 : ¬ z < 0 := by rw [HZ2.out]; omega
      have HE : Hid (cnB x.ct id = true ∧ cnN x.ct id = z) := Lib.hid (by
        have h1 : cnB x.ct id = true := by unfold cnB; rw [← HGE.out, decide_eq_true hf]; rfl
        exact ⟨h1, by unfold cnN; rw [h1, HZ2.out]; rfl⟩)
      clear hf
      go_wp2_with (go_at_call 20; refine (HF.out _ B1.out).mono ?_; rintro e wb ⟨rfl, hb⟩; refine Hid.out ?_)
      refine Lib.hid ?_
      have B2 := Lib.hid (B1.out.trans (hb.mono B1.out.size))
      obtain ⟨d0, d1⟩ := KX.out wb B2.out
      clear hb c0 c1
      go_wp2_with (go_at_call 20; refine (HF.out _ B2.out).mono ?_; rintro e wc ⟨rfl, hb⟩)
      go_ret2
      exact ⟨by rw [HE.out.1, HE.out.2]; rfl, HB.out.trans ((B2.out.trans (hb.mono B2.out.size)).mono HB.out.size)⟩
    · have HZ2 : z = -1 := by rw [HZE.out]; exact fndI_none hf
      subst HZ2
      have HE : Hid (cnB x.ct id = false ∧ cnN x.ct id = 0) := Lib.hid (by
        have h1 : cnB x.ct id = false := by unfold cnB; rw [decide_eq_false hf, Bool.and_false]
        exact ⟨h1, by unfold cnN; rw [h1]; rfl⟩)
      clear hf
      go_wp2_with (go_at_call 20; refine (HF.out _ B1.out).mono ?_; rintro e wb ⟨rfl, hb⟩)
      go_ret2
      exact ⟨by rw [HE.out.1, HE.out.2]; rfl, HB.out.trans ((B1.out.trans (hb.mono B1.out.size)).mono HB.out.size)⟩

/-- Whether a clause names this Id as its repair. -/
def isRep (id : ByteArray) (y : L) : Bool := decide (y.rep.toList = id.toList)
def dep (ls : List L) (id : ByteArray) : Bool := ls.any (isRep id)
theorem dep_yes {ls : List L} {id : ByteArray} {k : Nat} (hk : k < ls.length) (h : ls[k].rep.toList = id.toList) : dep ls id = true := List.any_eq_true.2 ⟨ls[k], List.getElem_mem hk, decide_eq_true h⟩
theorem dep_no {ls : List L} {id : ByteArray} (h : ∀ k, ∀ hk : k < ls.length, isRep id ls[k] = false) : dep ls id = false := by
  unfold dep
  rw [List.any_eq_false]
  intro y hy
  obtain ⟨k, hk, rfl⟩ := List.getElem_of_mem hy
  rw [h k hk]; simp

end Go.Proofs.Ytlionlbihmldlaa.Cl
