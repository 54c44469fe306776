/-
  Rows of conditions that a call makes by append.
-/
import Derived.Test.YtlionlbihmldlaaCoTo
import Derived.Maps.AppendAt
import Derived.Deep.RegionWith
namespace Go.Proofs.Ytlionlbihmldlaa.Cond
open Go.RowKit
set_option linter.unusedVariables false

def K.cells (k : K) : List Value := [.int .i64 k.op, .string k.nm, .int .i64 k.day, .slice k.A k.ps.length k.cap]
def cellsL (rs : List K) : List Value := rs.flatMap K.cells
theorem cellsL_len (rs : List K) : (cellsL rs).length = rs.length * 4 := by
  induction rs with
  | nil => rfl
  | cons r rs ih =>
    unfold cellsL at ih ⊢
    rw [List.flatMap_cons, List.length_append, ih]
    simp [K.cells]; omega
theorem cellsL_app (rs : List K) (r : K) : cellsL (rs ++ [r]) = cellsL rs ++ r.cells := by simp [cellsL]
theorem cellsL_get : ∀ (rs : List K) (i : Nat) (h : i < rs.length) (j : Nat), j < 4 → (cellsL rs)[i * 4 + j]? = rs[i].cells[j]?
  | r :: rs, 0, _, j, hj => by
    simp only [cellsL, List.flatMap_cons]
    rw [List.getElem?_append_left (by simp [K.cells]; omega)]
    simp
  | r :: rs, i + 1, h, j, hj => by
    have := cellsL_get rs i (by simpa using h) j hj
    simp only [cellsL, List.flatMap_cons] at this ⊢
    rw [List.getElem?_append_right (by simp [K.cells]; omega)]
    have e : (i + 1) * 4 + j - r.cells.length = i * 4 + j := by simp [K.cells]; omega
    rw [e, this]
    simp
theorem one_cells (r : K) : ∀ u ∈ r.cells, u.oneCell' = true := fun u hu => by
  simp only [K.cells, List.mem_cons, List.not_mem_nil, or_false] at hu
  rcases hu with rfl | rfl | rfl | rfl <;> rfl

abbrev OwnC (w : World) (S : Nat) (v : Value) (rs : List K) : Prop := w.ownsRow S 58 4 v rs.length (cellsL rs)
theorem ownC_form {S : Nat} {w : World} {v : Value} {n : Nat} {xs : List Value} (h : w.ownsRow S 58 4 v n xs) : ∃ a c, v = .slice a n c := by
  rcases h.2 with ⟨hv, h0⟩ | ⟨g', c, cur, hv, _⟩
  · exact ⟨none, 0, by rw [hv, h0]⟩
  · exact ⟨_, c, hv⟩
theorem ownC_el {w : World} {S n cap : Nat} {A : Option Addr} {rs : List K} (h : OwnC w S (.slice A n cap) rs) {i : Nat} (hi : i < rs.length) : ∃ g, A = some ⟨g, 0, none⟩ ∧ S ≤ g ∧ g < w.heap.size ∧ El w g (i * 4) rs[i] := by
  rcases h.2 with ⟨_, h0⟩ | ⟨g, c, cur, hv, hS, hh, hnc, _, hcs, htk⟩
  · omega
  · injection hv with h1 h2 h3
    subst h1
    have hc : ∀ j, j < 4 → w.cell? ⟨g, i * 4 + j, none⟩ = rs[i].cells[j]? := fun j hj => by
      have h4 := cellsL_get rs i hi j hj
      have hlt : i * 4 + j < rs.length * 4 := by omega
      rw [← htk, List.getElem?_take_of_lt hlt] at h4
      rw [← h4]
      simp [World.cell?, hh]
    refine ⟨g, rfl, hS, (Array.getElem?_eq_some_iff.1 hh).1, ?_, ?_, ?_, ?_⟩
    · exact hc 0 (by omega)
    · exact hc 1 (by omega)
    · exact hc 2 (by omega)
    · exact hc 3 (by omega)
theorem ownC_lt {w : World} {S : Nat} {v : Value} {n : Nat} {xs : List Value} (h : w.ownsRow S 58 4 v n xs) {g : Nat} (hg : v.ownBlock = some g) : S ≤ g ∧ g < w.heap.size ∧ ∀ o, w.frozen? ⟨g, o, none⟩ = false := by
  rcases h.2 with ⟨hv, _⟩ | ⟨g', c, cur, hv, hS, hh, _⟩
  · rw [hv] at hg; cases hg
  · rw [hv] at hg
    injection hg with hg
    subst hg
    exact ⟨hS, (Array.getElem?_eq_some_iff.1 hh).1, fun o => by simp [World.frozen?, hh]⟩
theorem ownC_on {B : Nat} {e : TypeId} {k : Nat} {v : Value} {n : Nat} {xs : List Value} {w w' : World} (h : w.ownsRow B e k v n xs) (hb : Below w.heap.size w w') : w'.ownsRow B e k v n xs :=
  h.kept (row := none) ⟨hb.os, hb.tape, hb.output, hb.size, fun j hj _ => hb.block j hj⟩ (by cases hv : v.ownBlock <;> simp)

/-- append of one condition to a row of one's own. -/
theorem wp_appC {u : World} {ops : Array Oper} {rest : List Oper} {o : Oper} {a : Act} {Q : Exit → Act → World → Prop} (hgd : o.guard = none) (s x : Operand)
    (ho : o.op = .call { callee := .builtin .append, args := #[s, x], argTypes := #[56, 56] }) (S : Nat) (v : Value) (rs : List K) (hs : a.eval s = v) (h : OwnC u S v rs) (g c : Nat) (r : K) (hx : a.eval x = .slice (some ⟨g, 0, none⟩) 1 c) (he : El u g 0 r) (hl : rs.length + 1 ≤ 1000000) (hS : S ≤ u.heap.size)
    (hK : ∀ a3 c3 w1, OwnC w1 S (.slice a3 (rs.length + 1) c3) (rs ++ [r]) → u.grownBy w1 v.ownBlock → ((Value.slice a3 (rs.length + 1) c3).ownBlock = v.ownBlock ∨ (Value.slice a3 (rs.length + 1) c3).ownBlock = some u.heap.size) → wpList Try.prog ops Q rest (a.put o.dst (.slice a3 (rs.length + 1) c3)) w1) :
    wpList Try.prog ops Q (o :: rest) a u := by
  refine wpList_plain hgd fun Kp hK' => ?_
  obtain ⟨i0, hi, hz0, hz1, hz2⟩ := info_parts infoCond
  obtain ⟨v', w', hr, h2, h3, _, h5⟩ := run_append_own_at (P := Try.prog) u S 56 o.type 58 i0 _ 4 56 Try.underlying56 hi hz0 hz1 hz2 rfl (by decide) v rs.length (cellsL rs) h ⟨g, 0, none⟩ 1 c r.cells (by simp [K.cells])
    (fun j u' hu => by
      have hj : j < 4 := by
        rcases Nat.lt_or_ge j 4 with h | h
        · exact h
        · rw [List.getElem?_eq_none (by simpa [K.cells] using h)] at hu; cases hu
      match j, hj with
      | 0, _ => simp [K.cells] at hu; subst hu; exact he.c0
      | 1, _ => simp [K.cells] at hu; subst hu; exact he.c1
      | 2, _ => simp [K.cells] at hu; subst hu; exact he.c2
      | 3, _ => simp [K.cells] at hu; subst hu; exact he.c3) (one_cells r) (by unfold maxLen; omega) (by omega) hS
  obtain ⟨a3, c3, rfl⟩ := ownC_form h2
  unfold Oper.wp execOp
  simp only [ho, resolve, invoke, builtin, Sem.run_bind, Sem.run_pure, Result.andThen_ok, List.map_toArray, List.map_cons, List.map_nil, hs, hx, hr]
  exact hK' _ _ (hK a3 c3 w' (by unfold OwnC; rw [cellsL_app, List.length_append]; exact h2) h3 h5)


end Go.Proofs.Ytlionlbihmldlaa.Cond
