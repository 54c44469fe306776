/-
  The Repair of a clause, by the program.
-/
import Derived.Test.YtlionlbihmldlaaClPp
import Derived.BigQuiet
namespace Go.Proofs.Ytlionlbihmldlaa.Cl
open Go.RowKit Go.Proofs.Ytlionlbihmldlaa.Cond Go.Proofs.Ytlionlbihmldlaa.Gx Go.Proofs.Ytlionlbihmldlaa.NdS
set_option linter.unusedVariables false
set_option linter.unusedSimpArgs false

/-- A checked contract by value. -/
abbrev ckV (x : Kt) (mb : Nat) (v : Value) : Value := .agg #[.slice x.A1 x.n1 x.c1, .slice x.A2 x.n2 x.c2, .map (some mb), v]
theorem nums_drewN {w : World} {b n : Nat} {ls : List L} (h : Nums w b n ls) (m : Nat) : Nums (w.drewN m) b n ls := h.on (below_drewN (Below.refl _ _) m)

set_option maxHeartbeats 4000000 in
theorem repairOf (x : Kt) (mb : Nat) (N : Option Addr) (nn nc i : Nat) (m : M) (w : World) (h : LiC w w.heap.size x) (hi : CAt x i m) (hn : Nums w mb 12 x.ct.ls) :
    Calls Try.prog 44 #[.agg #[.slice x.A1 x.n1 x.c1, .slice x.A2 x.n2 x.c2, .map (some mb), .slice N nn nc], .int .i64 (i : Int)] w fun e w' => e = .returned (.tuple #[.int .i64 (numI x.ct.ls m.rep), .bool (numB x.ct.ls m.rep)]) ∧ Below w.heap.size w w' := by
  obtain ⟨X, hX⟩ : ∃ X, X = w.alloc (.cells #[.slice x.A1 x.n1 x.c1, .slice x.A2 x.n2 x.c2, .map (some mb), .slice N nn nc] 43) := ⟨_, rfl⟩
  have B0 : Below w.heap.size w X := by rw [hX]; exact below1 _ _
  have P0 : Hid (Bk w.heap.size X [.slice x.A1 x.n1 x.c1, .slice x.A2 x.n2 x.c2, .map (some mb), .slice N nn nc]) := Lib.hid (by rw [hX]; exact Bk.new _ _ _)
  obtain ⟨b, oo, eA, hBb, hc⟩ := h.c.at_ (by have := hi.lt; omega)
  have hE := (hc i hi.lt).alike (B0.block b hBb)
  rw [← hi.eq] at hE
  obtain ⟨c0, c1, c2, c3, c4, c5, c6, c7, c8, c9, c10, c11⟩ := e12 hE
  have hr := (h.clause hi).sr
  have HLK : ∀ k, (Instr.lookup 41 (.map (some mb)) (.string m.rep) true).run Try.prog (X.drewN k) = .ok (.tuple #[.int .i64 (numI x.ct.ls m.rep), .bool (numB x.ct.ls m.rep)]) (X.drewN k) := fun k => run_look (nums_drewN (hn.on B0) k) hr
  have p1 := P0.out.c 1 (by simp)
  have p2 := P0.out.c 2 (by simp)
  simp only [List.getElem_cons_succ, List.getElem_cons_zero] at p1 p2
  have i0 : (0 : Int) ≤ (i : Int) := by omega
  have i1 : (i : Int) < (x.n2 : Int) := by have := h.c.len; have := hi.lt; omega
  have HB := Lib.hid B0
  have HX := Lib.hid hX
  rw [eA] at p1 HX ⊢
  generalize numI x.ct.ls m.rep = a at *
  generalize numB x.ct.ls m.rep = t at *
  clear h hi hn B0 hX hE hc hBb eA hr P0 c0 c1 c2 c3 c4 c5 c6 c7 c8 c9 c10
  go_enter Try.func44, Try.ntmps44
  go_wp2_with fail
  rw [← HX.out]
  go_quiet (fail)
  go_wp2_with fail
  go_ret2
  exact ⟨rfl, below_drewN HB.out _⟩

end Go.Proofs.Ytlionlbihmldlaa.Cl
