/-
  append of some events to a row of one's own; sorting by insertion, in plain facts.
  append at a drawn region: rows of events of one's own.
  l8Sort of the model.
  SortEvents of the model.
  transform of the program, over events: with Event.clone and with the closure of ShiftEvents.
  SortEvents of the program.
  slices.Grow of a nil slice and slices.Concat of two rows of events.
  MergeEvents of the model and of the program.
  MergeEvents of the model.
  The walk of the law FnExactMergeEvents.
  The law FnExactMergeEvents returns true at every input, and its arguments read afterwards as before. No condition.
-/
import Derived.Test.YtomloodakabcbaaEtO
import Derived.Test.YtomloodakabcbaaSoW
import Derived.Test.YtomloodakabcbaaMb
import Derived.Sort.AssemblyPlain
import Derived.Test.YtomloodakabcbaaEtV
import Derived.Test.YtomloodakabcbaaEtL
import Derived.Lib.AppendZerosOnto
import Derived.Test.YtomloodakabcbaaEtR
import Derived.Test.YtomloodakabcbaaEtMk
import Derived.Test.YtomloodakabcbaaEtTo
import Derived.Deep.RegionHeld3
import Derived.Test.YtomloodakabcbaaOpE
import Derived.OpenShut
import Derived.ShutString
import Derived.ChangeSlices
import Derived.Carry
import Derived.Lib.SmallJoins
namespace Go.Proofs.Ytomloodakabcbaa.Et
open Go.RowKit Go.Proofs.Ytomloodakabcbaa.Cond Go.Proofs.Ytomloodakabcbaa.Gx
set_option linter.unusedVariables false
set_option linter.unusedSimpArgs false

theorem flat_cells {u : World} {g oo : Nat} {qs : List E} (he : ∀ i, ∀ h : i < qs.length, El u g (oo + i * 4) qs[i].cells) (j : Nat) (x : Value) (hx : (flat E.cells qs)[j]? = some x) : u.cell? ⟨g, oo + j, none⟩ = some x := by
  have hl := flat_len E.len qs
  have hj : j < qs.length * 4 := by
    rcases Nat.lt_or_ge j (qs.length * 4) with h | h
    · exact h
    · rw [List.getElem?_eq_none (by omega)] at hx; cases hx
  have hi : j / 4 < qs.length := by omega
  have hm : j % 4 < 4 := Nat.mod_lt _ (by omega)
  have h1 := flat_get E.len qs (j / 4) hi (j % 4) hm
  rw [show j / 4 * 4 + j % 4 = j by omega, hx] at h1
  have h2 : j % 4 < (qs[j / 4]).cells.length := by rw [E.len]; exact hm
  have h3 := he (j / 4) hi (j % 4) h2
  rw [List.getElem?_eq_getElem h2] at h1
  rw [show oo + j / 4 * 4 + j % 4 = oo + j by omega] at h3
  rw [h3, h1]
theorem flat_one_cell (qs : List E) : ∀ u ∈ flat E.cells qs, u.oneCell' = true := fun u hu => by
  simp only [flat, List.mem_flatMap] at hu
  obtain ⟨r, _, hr⟩ := hu
  exact one_cellsE r u hr
/-- append of some events to a row of one's own. -/
theorem wp_appEs {u : World} {ops : Array Oper} {rest : List Oper} {o : Oper} {a : Act} {Q : Exit → Act → World → Prop} (hgd : o.guard = none) (s x : Operand)
    (ho : o.op = .call { callee := .builtin .append, args := #[s, x], argTypes := #[24, 24] }) (S : Nat) (v : Value) (rs : List E) (hs : a.eval s = v) (h : OwnE u S v rs) (g oo L c : Nat) (qs : List E) (hL : L = qs.length) (hx : a.eval x = .slice (some ⟨g, oo, none⟩) L c) (he : ∀ i, ∀ h : i < qs.length, El u g (oo + i * 4) qs[i].cells) (hl : rs.length + L ≤ 1000000) (hS : S ≤ u.heap.size)
    (hK : ∀ a3 c3 w1, OwnE w1 S (.slice a3 (rs.length + L) c3) (rs ++ qs) → u.grownBy w1 v.ownBlock → ((Value.slice a3 (rs.length + L) c3).ownBlock = v.ownBlock ∨ (Value.slice a3 (rs.length + L) c3).ownBlock = some u.heap.size) → wpList Try.prog ops Q rest (a.put o.dst (.slice a3 (rs.length + L) c3)) w1) :
    wpList Try.prog ops Q (o :: rest) a u := by
  refine wpList_plain hgd fun Kp hK' => ?_
  obtain ⟨i0, hi, hz0, hz1, hz2⟩ := info_parts infoEvent
  subst hL
  obtain ⟨v', w', hr, h2, h3, _, h5⟩ := run_append_own_at (P := Try.prog) u S 24 o.type 38 i0 _ 4 40 Try.underlying24 hi hz0 hz1 hz2 rfl (by decide) v rs.length (flat E.cells rs) h ⟨g, oo, none⟩ qs.length c (flat E.cells qs) (flat_len E.len qs)
    (fun j u' hu => by rw [addNone]; exact flat_cells he j u' hu) (flat_one_cell qs) (by unfold maxLen; omega) (by omega) hS
  obtain ⟨a3, c3, rfl⟩ := ownE_form h2
  unfold Oper.wp execOp
  simp only [ho, resolve, invoke, builtin, Sem.run_bind, Sem.run_pure, Result.andThen_ok, List.map_toArray, List.map_cons, List.map_nil, hs, hx, hr]
  exact hK' _ _ (hK a3 c3 w' (by unfold OwnE; rw [flat_app, List.length_append]; exact h2) h3 h5)

/-- Where m goes, from the right. -/
def posE (m : E) (rs : List E) : Nat → Nat
  | 0 => 0
  | k + 1 => if h : k < rs.length then (if ltE m rs[k] then posE m rs k else k + 1) else k + 1
def insE (m : E) (rs : List E) : List E := (rs.take (posE m rs rs.length) ++ [m]) ++ rs.drop (posE m rs rs.length)
def insS : List E → List E
  | ms => ms.foldl (fun rs m => insE m rs) []
theorem posE_le (m : E) (rs : List E) : ∀ k, posE m rs k ≤ k
  | 0 => Nat.le_refl _
  | k + 1 => by
    unfold posE
    split
    · split
      · exact Nat.le_succ_of_le (posE_le m rs k)
      · exact Nat.le_refl _
    · exact Nat.le_refl _
theorem insE_perm (m : E) (rs : List E) : (insE m rs).Perm (rs ++ [m]) := by
  unfold insE
  have h : rs = rs.take (posE m rs rs.length) ++ rs.drop (posE m rs rs.length) := (List.take_append_drop _ _).symm
  conv => rhs; rw [h]
  rw [List.append_assoc, List.append_assoc]
  exact (List.perm_append_comm (l₁ := [m])).append_left _
/-- In order: nothing later is before. -/
abbrev OrdE (rs : List E) : Prop := rs.Pairwise fun x y => ltE y x = false
theorem posE_hi (m : E) (rs : List E) (ho : OrdE rs) : ∀ k, k ≤ rs.length → (∀ i, ∀ h : i < rs.length, k ≤ i → ltE m rs[i] = true) → ∀ i, ∀ h : i < rs.length, posE m rs k ≤ i → ltE m rs[i] = true
  | 0, _, hk => fun i h _ => hk i h (Nat.zero_le _)
  | k + 1, hkl, hk => by
    intro i h hi
    unfold posE at hi
    rw [dif_pos (by omega)] at hi
    split at hi
    · rename_i h1
      exact posE_hi m rs ho k (by omega) (fun j hj hkj => by
        by_cases e : j = k
        · subst e; exact h1
        · exact hk j hj (by omega)) i h hi
    · exact hk i h hi
theorem posE_lo (m : E) (rs : List E) (ho : OrdE rs) : ∀ k, k ≤ rs.length → ∀ i, ∀ h : i < rs.length, i < posE m rs k → ltE m rs[i] = false
  | 0, _ => fun i h hi => absurd hi (Nat.not_lt_zero _)
  | k + 1, hkl => by
    intro i h hi
    unfold posE at hi
    rw [dif_pos (by omega)] at hi
    split at hi
    · exact posE_lo m rs ho k (by omega) i h hi
    · rename_i h1
      have h1' : ltE m rs[k] = false := by simpa using h1
      by_cases e : i = k
      · subst e; exact h1'
      · have h2 := List.pairwise_iff_getElem.1 ho i k h (by omega) (by omega)
        exact swoE.ntrans _ _ _ h1' h2
theorem insE_ord (m : E) {rs : List E} (ho : OrdE rs) : OrdE (insE m rs) := by
  unfold insE
  have hp := posE_le m rs rs.length
  generalize hP : posE m rs rs.length = P at *
  have hlo := fun i h hi => posE_lo m rs ho rs.length (Nat.le_refl _) i h (by rw [hP]; exact hi)
  have hhi := fun i h hi => posE_hi m rs ho rs.length (Nat.le_refl _) (fun i h hi => by omega) i h (by rw [hP]; exact hi)
  have h12 : OrdE (rs.take P ++ rs.drop P) := by rw [List.take_append_drop]; exact ho
  have h3 := List.pairwise_append.1 h12
  refine List.pairwise_append.2 ⟨List.pairwise_append.2 ⟨h3.1, List.pairwise_singleton _ _, ?_⟩, h3.2.1, ?_⟩
  · intro x hx y hy
    obtain ⟨i, hi, rfl⟩ := List.mem_iff_getElem.1 hx
    have e : y = m := by simpa using hy
    subst e
    rw [List.length_take] at hi
    rw [List.getElem_take]
    exact hlo i (by omega) (by omega)
  · intro x hx y hy
    obtain ⟨i, hi, rfl⟩ := List.mem_iff_getElem.1 hy
    rw [List.length_drop] at hi
    rw [List.getElem_drop]
    rcases List.mem_append.1 hx with hx | hx
    · have := h3.2.2 x hx ((rs.drop P)[i]'(by rw [List.length_drop]; omega)) (List.getElem_mem _)
      rwa [List.getElem_drop] at this
    · have e : x = m := by simpa using hx
      subst e
      have h4 := hhi (P + i) (by omega) (by omega)
      rcases Bool.eq_false_or_eq_true (ltE rs[P + i] x) with h | h
      · have := swoE.trans _ _ _ h4 h
        rw [swoE.irrefl] at this
        cases this
      · exact h
theorem insS_is : ∀ (ms rs : List E), OrdE rs → OrdE (ms.foldl (fun rs m => insE m rs) rs) ∧ (ms.foldl (fun rs m => insE m rs) rs).Perm (rs ++ ms)
  | [], rs, ho => ⟨ho, by simp⟩
  | m :: ms, rs, ho => by
    have h := insS_is ms (insE m rs) (insE_ord m ho)
    refine ⟨h.1, h.2.trans ?_⟩
    have := (insE_perm m rs).append_right ms
    simpa using this
/-- Both sortings give one list. -/
theorem one_sort (ms : List E) : (srtE ms.toArray ms.length).toList = insS ms := by
  have h1 := srtE_is (d := ms.toArray) (n := ms.length) swoE (by simp)
  have h2 := insS_is ms [] List.Pairwise.nil
  have hs : (srtE ms.toArray ms.length).size = ms.length := by have := h1.1.1; simpa using this
  have p1 : (srtE ms.toArray ms.length).toList.Perm ms := by
    have := h1.1.2.2
    rw [Array.extract_eq_self_of_le (by omega), Array.extract_eq_self_of_le (by simp)] at this
    simpa using this
  have o1 : OrdE (srtE ms.toArray ms.length).toList := by
    refine List.pairwise_iff_getElem.2 fun i j hi hj hij => ?_
    have := h1.2 i j (Nat.zero_le _) hij (by simpa [hs] using hj)
    rwa [getE hi, getE hj] at this
  have p2 : (srtE ms.toArray ms.length).toList.Perm (insS ms) := p1.trans (by have := h2.2.symm; unfold insS; simpa using this)
  exact p2.eq_of_pairwise (fun x y _ _ h1 h2 => antiE x y h2 h1) o1 h2.1

end Go.Proofs.Ytomloodakabcbaa.Et

namespace Go.Proofs.Ytomloodakabcbaa.Et
open Go.RowKit Go.Proofs.Ytomloodakabcbaa.Cond Go.Proofs.Ytomloodakabcbaa.Gx
set_option linter.unusedVariables false
set_option linter.unusedSimpArgs false

theorem step_appEs {u : World} {ops : Array Oper} {o : Oper} {a : Act} {K : Act → World → Prop} {Q : Exit → Act → World → Prop} {F : Prop} (hgd : o.guard = none) (s x : Operand)
    (ho : o.op = .call { callee := .builtin .append, args := #[s, x], argTypes := #[24, 24] }) (S : Nat) (v : Value) (rs : List E) (hs : a.eval s = v) (h : OwnE u S v rs) (g oo L c : Nat) (qs : List E) (hL : L = qs.length) (hx : a.eval x = .slice (some ⟨g, oo, none⟩) L c) (he : ∀ i, ∀ h : i < qs.length, El u g (oo + i * 4) qs[i].cells) (hl : rs.length + L ≤ 1000000) (hS : S ≤ u.heap.size)
    (hK : ∀ a3 c3 w1, OwnE w1 S (.slice a3 (rs.length + L) c3) (rs ++ qs) → u.grownBy w1 v.ownBlock → ((Value.slice a3 (rs.length + L) c3).ownBlock = v.ownBlock ∨ (Value.slice a3 (rs.length + L) c3).ownBlock = some u.heap.size) → K (a.put o.dst (.slice a3 (rs.length + L) c3)) w1) :
    if Region.wanted o (yielded ops a.tmps) = true then Oper.wp Try.prog o a u K Q else F := by
  have hw : Region.wanted o (yielded ops a.tmps) = true := by simp [Region.wanted, hgd]
  rw [if_pos hw]
  obtain ⟨i0, hi, hz0, hz1, hz2⟩ := info_parts infoEvent
  subst hL
  obtain ⟨v', w', hr, h2, h3, _, h5⟩ := run_append_own_at (P := Try.prog) u S 24 o.type 38 i0 _ 4 40 Try.underlying24 hi hz0 hz1 hz2 rfl (by decide) v rs.length (flat E.cells rs) h ⟨g, oo, none⟩ qs.length c (flat E.cells qs) (flat_len E.len qs)
    (fun j u' hu => by rw [addNone]; exact flat_cells he j u' hu) (flat_one_cell qs) (by unfold maxLen; omega) (by omega) hS
  obtain ⟨a3, c3, rfl⟩ := ownE_form h2
  unfold Oper.wp execOp
  simp only [ho, resolve, invoke, builtin, Sem.run_bind, Sem.run_pure, Result.andThen_ok, List.map_toArray, List.map_cons, List.map_nil, hs, hx, hr]
  exact hK _ _ _ (by unfold OwnE; rw [flat_app, List.length_append]; exact h2) h3 h5

theorem own_blockE {S : Nat} {w : World} {v : Value} {rs : List E} (h : OwnE w S v rs) : ∀ k, v.ownBlock = some k → S ≤ k := fun k hk => by
  rcases h.2 with ⟨hv, h0⟩ | ⟨g', c, cur, hv, hS, _⟩
  · subst hv; cases hk
  · subst hv; cases hk; exact hS
/-- A row of the call's own, in a world that has grown. -/
structure PtE (w : World) (u : World) (v : Value) (rs : List E) : Prop where
  own : OwnE u w.heap.size v rs
  bel : Below w.heap.size w u
theorem PtE.new {w u : World} (h : Below w.heap.size w u) : PtE w (u.alloc (.cells #[] 38)) (.slice (some ⟨u.heap.size, 0, none⟩) 0 0) [] :=
  ⟨OwnE.new h.size, h.alloc h.size _⟩
theorem PtE.drew {w u : World} {v : Value} {rs : List E} (h : PtE w u v rs) : PtE w u.drew v rs := ⟨World.ownsRow.drew h.own, h.bel.drew⟩
theorem PtE.alloc {w u : World} {v : Value} {rs : List E} (h : PtE w u v rs) (o : Obj) : PtE w (u.alloc o) v rs := ⟨h.own.alloc _, h.bel.alloc h.bel.size _⟩
theorem PtE.app {w u w1 : World} {v v' : Value} {rs qs : List E} (h : PtE w u v rs) (hown : OwnE w1 w.heap.size v' qs) (hg : u.grownBy w1 v.ownBlock) : PtE w w1 v' qs :=
  ⟨hown, h.bel.grown hg h.bel.size (own_blockE h.own)⟩
/-- One event in a block of its own. -/
theorem one_newE (u : World) (m : E) : Bk u.heap.size (u.alloc (.cells #[.int .i64 m.day, .int .i64 m.party, .string m.act, .int .i64 m.amt] 38)) m.cells := Bk.new _ _ _
theorem size_allocE (w : World) (o : Obj) : (w.alloc o).heap.size = w.heap.size + 1 := by simp [go_sem]
theorem ptBAE (w : World) (o : Obj) : PtE w ((w.alloc o).alloc (.cells #[] 38)).drew (.slice (some ⟨w.heap.size + 1, 0, none⟩) 0 0) [] := by
  rw [← size_allocE w o]; exact (PtE.new ((Below.refl _ _).alloc (Nat.le_refl _) _)).drew
theorem oneAB (w : World) (o : Obj) (m : E) : Bk (w.heap.size + 1) ((w.alloc o).alloc (.cells #[.int .i64 m.day, .int .i64 m.party, .string m.act, .int .i64 m.amt] 38)).drew m.cells := by
  rw [← size_allocE w o]; exact (one_newE _ m).drew
theorem oneBA (w : World) (o : Obj) (m : E) : Bk w.heap.size ((w.alloc (.cells #[.int .i64 m.day, .int .i64 m.party, .string m.act, .int .i64 m.amt] 38)).alloc o).drew m.cells := ((one_newE w m).alloc o).drew

theorem step_oldE {w u : World} {ops : Array Oper} {o : Oper} {a : Act} {K : Act → World → Prop} {Q : Exit → Act → World → Prop} {F : Prop} (hgd : o.guard = none) (s x : Operand)
    (ho : o.op = .call { callee := .builtin .append, args := #[s, x], argTypes := #[24, 24] }) (v : Value) (rs : List E) (hs : a.eval s = v) (h : PtE w u v rs) (g oo L c : Nat) (qs : List E) (hL : L = qs.length) (hx : a.eval x = .slice (some ⟨g, oo, none⟩) L c) (hg : 0 < qs.length → g < w.heap.size) (he : ∀ i, ∀ h : i < qs.length, El w g (oo + i * 4) qs[i].cells) (hl : rs.length + L ≤ 1000000)
    (N : Nat) (DD : List E) (hN : N = rs.length + L) (hD : DD = rs ++ qs)
    (hK : ∀ a3 c3 w1, PtE w w1 (.slice a3 N c3) DD → u.grownBy w1 v.ownBlock → ((Value.slice a3 N c3).ownBlock = v.ownBlock ∨ (Value.slice a3 N c3).ownBlock = some u.heap.size) → K (a.put o.dst (.slice a3 N c3)) w1) :
    if Region.wanted o (yielded ops a.tmps) = true then Oper.wp Try.prog o a u K Q else F := by
  subst hN hD
  exact step_appEs hgd s x ho w.heap.size v rs hs h.own g oo L c qs hL hx (fun i hi => (he i hi).alike (h.bel.block g (hg (by omega)))) hl h.bel.size (fun a3 c3 w1 h1 h2 h3 => hK a3 c3 w1 (h.app h1 h2) h2 h3)

theorem step_oneE {w u : World} {ops : Array Oper} {o : Oper} {a : Act} {K : Act → World → Prop} {Q : Exit → Act → World → Prop} {F : Prop} (hgd : o.guard = none) (s x : Operand)
    (ho : o.op = .call { callee := .builtin .append, args := #[s, x], argTypes := #[24, 24] }) (v : Value) (rs : List E) (hs : a.eval s = v) (h : PtE w u v rs) (b c : Nat) (m : E) (hx : a.eval x = .slice (some ⟨b, 0, none⟩) 1 c) (hI : Bk b u m.cells) (hl : rs.length + 1 ≤ 1000000)
    (N : Nat) (DD : List E) (hN : N = rs.length + 1) (hD : DD = rs ++ [m])
    (hK : ∀ a3 c3 w1, PtE w w1 (.slice a3 N c3) DD → u.grownBy w1 v.ownBlock → ((Value.slice a3 N c3).ownBlock = v.ownBlock ∨ (Value.slice a3 N c3).ownBlock = some u.heap.size) → K (a.put o.dst (.slice a3 N c3)) w1) :
    if Region.wanted o (yielded ops a.tmps) = true then Oper.wp Try.prog o a u K Q else F := by
  subst hN hD
  exact step_appEs hgd s x ho w.heap.size v rs hs h.own b 0 1 c [m] rfl hx (fun i hi => by
    have h0 : i = 0 := by simpa using hi
    subst h0
    simpa using hI.el) hl h.bel.size (fun a3 c3 w1 h1 h2 h3 => hK a3 c3 w1 (h.app h1 h2) h2 h3)

theorem own_cap {w : World} {S g n c : Nat} {rs : List E} (h : w.ownsRow S 38 4 (.slice (some ⟨g, 0, none⟩) n c) rs.length (flat E.cells rs)) : n ≤ c := by
  rcases h.2 with ⟨hv, _⟩ | ⟨g', c', cur, hv, _, _, hle, _⟩
  · cases hv
  · injection hv with h1 h2 h3
    omega
theorem own_max {w : World} {S g n c : Nat} {rs : List E} (h : w.ownsRow S 38 4 (.slice (some ⟨g, 0, none⟩) n c) rs.length (flat E.cells rs)) : c ≤ maxLen := by
  rcases h.2 with ⟨hv, _⟩ | ⟨g', c', cur, hv, _, _, _, hle, _⟩
  · cases hv
  · injection hv with h1 h2 h3
    omega
theorem own_form1 {w : World} {S n c : Nat} {A : Option Addr} {rs : List E} (h : OwnE w S (.slice A n c) rs) (h0 : 0 < rs.length) : ∃ g, A = some ⟨g, 0, none⟩ := by
  rcases h.2 with ⟨_, h1⟩ | ⟨g', c', cur, hv, _⟩
  · omega
  · injection hv with h1 h2 h3
    exact ⟨g', h1⟩
theorem own_lowE {w : World} {S S' : Nat} {v : Value} {rs : List E} (h : OwnE w S v rs) (hS : S' ≤ S) : OwnE w S' v rs := by
  refine ⟨h.1, ?_⟩
  rcases h.2 with h2 | ⟨g, c, cur, hv, hb, hr⟩
  · exact .inl h2
  · exact .inr ⟨g, c, cur, hv, Nat.le_trans hS hb, hr⟩
theorem own_elE {w : World} {S g n c : Nat} {rs : List E} (h : OwnE w S (.slice (some ⟨g, 0, none⟩) n c) rs) : (0 < rs.length → g < w.heap.size) ∧ ∀ i, ∀ hi : i < rs.length, El w g (i * 4) rs[i].cells := by
  have h1 := AtR.of_own E.len h
  refine ⟨fun hp => ?_, fun i hi => ?_⟩
  · obtain ⟨b9, o9, e9, hb, hc9⟩ := h1 hp
    injection e9 with e9
    injection e9 with e10 e11 _
    subst e10
    exact hb
  · obtain ⟨b9, o9, e9, hb, hc9⟩ := h1 (by omega)
    injection e9 with e9
    injection e9 with e10 e11 _
    subst e10 e11
    have := hc9 i hi
    rwa [Nat.zero_add] at this

end Go.Proofs.Ytomloodakabcbaa.Et

namespace Go.Proofs.Ytomloodakabcbaa.Et
open Go.RowKit Go.Proofs.Ytomloodakabcbaa.Cond Go.Proofs.Ytomloodakabcbaa.Gx
set_option linter.unusedVariables false
set_option linter.unusedSimpArgs false

set_option maxRecDepth 100000 in
set_option maxHeartbeats 8000000 in
theorem l8Sort (A : Option Addr) (n cap : Nat) (ms : List E) (w : World) (h : LiE w w.heap.size A n cap ms) (hn : n ≤ 40) :
    Calls Try.prog 16 #[.slice A n cap] w fun e w' => ∃ g c, e = .returned (.slice (some ⟨g, 0, none⟩) n c) ∧ OwnE w' w.heap.size (.slice (some ⟨g, 0, none⟩) n c) (insS ms) ∧ Below w.heap.size w w' := by
  have HCM : Hid (∀ (a b : E) v, Calls Try.prog 29 #[a.val, b.val] v fun e w' => e = .returned (.int .i64 (cE a b)) ∧ Below v.heap.size v w') := Lib.hid specCE
  obtain ⟨X, hX⟩ : ∃ X, X = w.alloc (.cells #[] 38) := ⟨_, rfl⟩
  have HB0 := Lib.hid (show Below w.heap.size w X by rw [hX]; exact below1 _ _)
  have HO0 : Hid (OwnE X w.heap.size (.slice (some ⟨w.heap.size, 0, none⟩) 0 0) []) := Lib.hid (by rw [hX]; exact OwnE.new (Nat.le_refl _))
  have HN := Lib.hid h.len
  have HL := Lib.hid h
  have HX := Lib.hid hX
  clear h hX
  go_enter Try.func16, Try.ntmps16
  go_wp2_with fail
  go_loopw [3, 4] (fun v i wr => ∃ (j g3 c3 : Nat), j ≤ n ∧ i = .int .i64 (j : Int) ∧ v = .slice (some ⟨g3, 0, none⟩) j c3 ∧ Hid (OwnE wr w.heap.size (.slice (some ⟨g3, 0, none⟩) j c3) (insS (ms.take j))) ∧ Hid ((insS (ms.take j)).length = j) ∧ Hid (Below w.heap.size w wr)) (fun _ i _ => n - (intOf i).toNat)
  case atStart => exact ⟨0, _, 0, Nat.zero_le _, rfl, rfl, (by rw [← HX.out]; exact HO0), Lib.hid rfl, (by rw [← HX.out]; exact HB0)⟩
  case round =>
    obtain ⟨j, g3, c3, hj, rfl, rfl, HO, HLJ, HB⟩ := hrel
    by_cases hlt : j < n
    · obtain ⟨b, o, hj', rfl, hBB, hc⟩ := HL.out.get hlt
      obtain ⟨m, hm⟩ : ∃ m, m = ms[j] := ⟨_, rfl⟩
      obtain ⟨rs, hrs⟩ : ∃ rs, rs = insS (ms.take j) := ⟨_, rfl⟩
      rw [← hrs] at HO HLJ
      rw [← hm] at hc
      have KL : Hid (∀ v, Below w.heap.size w v → v.cell? ⟨b, o + j * 4, none⟩ = some (.int .i64 m.day) ∧ v.cell? ⟨b, o + j * 4 + 1, none⟩ = some (.int .i64 m.party) ∧ v.cell? ⟨b, o + j * 4 + 2, none⟩ = some (.string m.act) ∧ v.cell? ⟨b, o + j * 4 + 3, none⟩ = some (.int .i64 m.amt)) := Lib.hid fun v hv => e4 (hc v hv)
      have HMR := Lib.hid (And.intro hm hrs)
      have i0 : (0 : Int) ≤ (j : Int) := by omega
      have i1 : (j : Int) < (n : Int) := by omega
      clear hc hm hrs
      go_wp2_with fail
      go_loopw [5] (fun kv w2 => ∃ k : Nat, k ≤ j ∧ kv = .int .i64 (k : Int) ∧ Hid (posE m rs k = posE m rs rs.length) ∧ Hid (OwnE w2 w.heap.size (.slice (some ⟨g3, 0, none⟩) j c3) rs) ∧ Hid (Below w.heap.size w w2)) (fun kv _ => (intOf kv).toNat)
      case atStart => exact ⟨j, Nat.le_refl _, rfl, Lib.hid (by rw [HLJ.out]), HO, HB⟩
      case round =>
        obtain ⟨k, hk, rfl, HP, HO2, HB2⟩ := hrel
        by_cases hk0 : 0 < k
        · obtain ⟨l, hl⟩ : ∃ l, l = k - 1 := ⟨_, rfl⟩
          have hll : l < rs.length := by have := HLJ.out; omega
          obtain ⟨q, hq⟩ : ∃ q, q = rs[l] := ⟨_, rfl⟩
          have KQ : Hid (∀ v, Below wr.heap.size wr v → (v.cell? ⟨b, o + j * 4, none⟩ = some (.int .i64 m.day) ∧ v.cell? ⟨b, o + j * 4 + 1, none⟩ = some (.int .i64 m.party) ∧ v.cell? ⟨b, o + j * 4 + 2, none⟩ = some (.string m.act) ∧ v.cell? ⟨b, o + j * 4 + 3, none⟩ = some (.int .i64 m.amt)) ∧ v.cell? ⟨g3, l * 4, none⟩ = some (.int .i64 q.day) ∧ v.cell? ⟨g3, l * 4 + 1, none⟩ = some (.int .i64 q.party) ∧ v.cell? ⟨g3, l * 4 + 2, none⟩ = some (.string q.act) ∧ v.cell? ⟨g3, l * 4 + 3, none⟩ = some (.int .i64 q.amt)) := Lib.hid fun v hv => by
            refine ⟨KL.out v (HB2.out.trans (hv.mono HB2.out.size)), ?_⟩
            have hown := ownK HO2.out hv
            have h1 := AtR.of_own E.len hown
            obtain ⟨b9, o9, e9, _, hc9⟩ := h1 (by omega)
            injection e9 with e9
            injection e9 with e10 e11 _
            subst e10 e11
            have h2 := hc9 l hll
            rw [Nat.zero_add, ← hq] at h2
            exact e4 h2
          obtain ⟨z, hz⟩ : ∃ z, z = cE m q := ⟨_, rfl⟩
          have HF : Hid (∀ v, Calls Try.prog 29 #[m.val, q.val] v fun e w' => e = .returned (.int .i64 z) ∧ Below v.heap.size v w') := Lib.hid fun v => by rw [hz]; exact HCM.out m q v
          have HZQ := Lib.hid (And.intro hz hq)
          have hl0 : (0 : Int) < (k : Int) := by omega
          have hl1 : (0 : Int) ≤ (l : Int) := by omega
          have hl2 : (l : Int) < (j : Int) := by omega
          have hk1 : (k : Int) - 1 = (l : Int) := by omega
          have wr1 : IntKind.i64.wrap ((k : Int) - 1) = (l : Int) := by rw [hk1]; simp [IntKind.wrap, IntKind.bits, IntKind.signed]; omega
          have wr2 : IntKind.i64.wrap (l : Int) = (l : Int) := by simp [IntKind.wrap, IntKind.bits, IntKind.signed]; omega
          have HKL : Hid (k = l + 1) := Lib.hid (by omega)
          obtain ⟨⟨p0, p1, p2, p3⟩, q0, q1, q2, q3⟩ := KQ.out wr (Below.refl _ _)
          clear hz hq hl
          by_cases hzz : z < 0
          · have HN : Hid (posE m rs l = posE m rs rs.length) := Lib.hid (by
              rw [← HP.out, HKL.out]
              conv => rhs; unfold posE
              rw [dif_pos hll, if_pos (by unfold ltE; rw [← HZQ.out.2, ← HZQ.out.1]; exact decide_eq_true hzz)])
            go_wp2_with fail
            go_region_held3 (fun v => (v.cell? ⟨b, o + j * 4, none⟩ = some (.int .i64 m.day) ∧ v.cell? ⟨b, o + j * 4 + 1, none⟩ = some (.int .i64 m.party) ∧ v.cell? ⟨b, o + j * 4 + 2, none⟩ = some (.string m.act) ∧ v.cell? ⟨b, o + j * 4 + 3, none⟩ = some (.int .i64 m.amt)) ∧ v.cell? ⟨g3, l * 4, none⟩ = some (.int .i64 q.day) ∧ v.cell? ⟨g3, l * 4 + 1, none⟩ = some (.int .i64 q.party) ∧ v.cell? ⟨g3, l * 4 + 2, none⟩ = some (.string q.act) ∧ v.cell? ⟨g3, l * 4 + 3, none⟩ = some (.int .i64 q.amt)) (first | (refine KQ.out _ ?_; (repeat (first | exact Below.refl _ _ | exact bx | apply Below.drew)); done))
              (first | (go_at_call 29; (with_reducible refine (HF.out _).mono ?_); rintro e wa ⟨rfl, hb⟩; have bx : Below wr.heap.size wr wa := Below.trans (by (repeat (first | exact Below.refl _ _ | apply Below.drew))) (hb.mono (by first | omega | (simp; done) | (simp; omega))); clear hb))
            all_goals go_wp2_with fail
            all_goals go_roundw
            case rel => exact ⟨l, by omega, rfl, HN, Lib.hid (ownK HO2.out bx), Lib.hid (HB2.out.trans (bx.mono HB2.out.size))⟩
            case measure => have := HKL.out; simp [intOf]; omega
          · have HPKx : posE m rs k = k := by
              rw [HKL.out]
              unfold posE
              rw [dif_pos hll, if_neg (by unfold ltE; rw [← HZQ.out.2, ← HZQ.out.1]; simp; omega)]
            have HPKy := Lib.hid HPKx
            clear HPKx
            go_wp2_with fail
            go_region_held3 (fun v => (v.cell? ⟨b, o + j * 4, none⟩ = some (.int .i64 m.day) ∧ v.cell? ⟨b, o + j * 4 + 1, none⟩ = some (.int .i64 m.party) ∧ v.cell? ⟨b, o + j * 4 + 2, none⟩ = some (.string m.act) ∧ v.cell? ⟨b, o + j * 4 + 3, none⟩ = some (.int .i64 m.amt)) ∧ v.cell? ⟨g3, l * 4, none⟩ = some (.int .i64 q.day) ∧ v.cell? ⟨g3, l * 4 + 1, none⟩ = some (.int .i64 q.party) ∧ v.cell? ⟨g3, l * 4 + 2, none⟩ = some (.string q.act) ∧ v.cell? ⟨g3, l * 4 + 3, none⟩ = some (.int .i64 q.amt)) (first | (refine KQ.out _ ?_; (repeat (first | exact Below.refl _ _ | exact bx | apply Below.drew)); done))
              (first | (go_at_call 29; (with_reducible refine (HF.out _).mono ?_); rintro e wa ⟨rfl, hb⟩; have bx : Below wr.heap.size wr wa := Below.trans (by (repeat (first | exact Below.refl _ _ | apply Below.drew))) (hb.mono (by first | omega | (simp; done) | (simp; omega))); clear hb))
            all_goals
              clear p0 p1 p2 p3 q0 q1 q2 q3 KQ HF wr1 wr2 hk1 hl1 hl2 HZQ hll
              obtain ⟨V, hV⟩ : ∃ V, V = wa := ⟨_, rfl⟩
              rw [← hV] at bx ⊢
              have BV := bx
              clear hV bx
              go_wp2_with fail
              have HPK : Hid (posE m rs rs.length = k) := Lib.hid (by rw [← HP.out]; exact HPKy.out)
              have HVB := Lib.hid (HB2.out.trans (BV.mono HB2.out.size))
              have HOV := Lib.hid (ownK HO2.out BV)
              have hgE := own_elE HOV.out
              have HIT : Hid (∀ i, ∀ h : i < (rs.take k).length, El V g3 (0 + i * 4) (rs.take k)[i].cells) := Lib.hid fun i hi => by
                rw [List.length_take] at hi
                rw [Nat.zero_add, List.getElem_take]
                exact hgE.2 i (by omega)
              have HID : Hid (∀ i, ∀ h : i < (rs.drop k).length, El V g3 (k * 4 + i * 4) (rs.drop k)[i].cells) := Lib.hid fun i hi => by
                rw [List.length_drop] at hi
                rw [List.getElem_drop, ← Nat.add_mul]
                exact hgE.2 (k + i) (by omega)
              have HGT : Hid (0 < (rs.take k).length → g3 < V.heap.size) := Lib.hid fun h => hgE.1 (by rw [List.length_take] at h; omega)
              have HGD : Hid (0 < (rs.drop k).length → g3 < V.heap.size) := Lib.hid fun h => hgE.1 (by rw [List.length_drop] at h; omega)
              have HLT : Hid (k = (rs.take k).length) := Lib.hid (by have := HLJ.out; simp; omega)
              have HLD : Hid (j - k = (rs.drop k).length) := Lib.hid (by have := HLJ.out; simp; omega)
              have HN1 : Hid (j + 1 = (rs.take k ++ [m]).length + (j - k)) := Lib.hid (by have := HLT.out; rw [List.length_append, ← this]; simp; omega)
              have HK1 : Hid (k + 1 = (rs.take k).length + 1) := Lib.hid (by rw [← HLT.out])
              have KV : Hid (∀ v, Below V.heap.size V v → v.cell? ⟨b, o + j * 4, none⟩ = some (.int .i64 m.day) ∧ v.cell? ⟨b, o + j * 4 + 1, none⟩ = some (.int .i64 m.party) ∧ v.cell? ⟨b, o + j * 4 + 2, none⟩ = some (.string m.act) ∧ v.cell? ⟨b, o + j * 4 + 3, none⟩ = some (.int .i64 m.amt)) := Lib.hid fun v hv => KL.out v (HVB.out.trans (hv.mono HVB.out.size))
              have hjc : j ≤ c3 := own_cap HOV.out
              have hcm : c3 ≤ maxLen := own_max HOV.out
              unfold maxLen at hcm
              have hj40 : j ≤ 40 := by omega
              have h0 : (0 : Int) ≤ (k : Int) := by omega
              have hkc : k ≤ c3 := by omega
              have HINS : Hid ((rs.take k ++ [m]) ++ rs.drop k = insS (ms.take (j + 1))) := Lib.hid (by
                have e1 : ms.take (j + 1) = ms.take j ++ [m] := by rw [HMR.out.1]; exact List.take_succ_eq_append_getElem hj'
                rw [e1]
                unfold insS
                rw [List.foldl_append]
                show _ = insE m (insS (ms.take j))
                rw [← HMR.out.2]
                unfold insE
                rw [HPK.out])
              have HNJ : Hid ((insS (ms.take (j + 1))).length = j + 1) := Lib.hid (by rw [← HINS.out, List.length_append, ← HLD.out]; exact HN1.out.symm)
              obtain ⟨r0, r1, r2, r3⟩ := KV.out V (Below.refl _ _)
              clear BV hgE
              by_cases hck : c3 = k
              · have HDN : Hid (∀ i, ∀ h : i < (rs.drop k).length, El V g3 (0 + i * 4) (rs.drop k)[i].cells) := Lib.hid fun i hi => by have := HLD.out; exfalso; omega
                go_wp2_with fail
                go_region_held3 (fun v => v.cell? ⟨b, o + j * 4, none⟩ = some (.int .i64 m.day) ∧ v.cell? ⟨b, o + j * 4 + 1, none⟩ = some (.int .i64 m.party) ∧ v.cell? ⟨b, o + j * 4 + 2, none⟩ = some (.string m.act) ∧ v.cell? ⟨b, o + j * 4 + 3, none⟩ = some (.int .i64 m.amt)) (first | (refine KV.out _ ?_; exact (by first | exact Below.refl _ _ | exact (Below.refl _ _).drew | exact below1 _ _ | exact (below1 _ _).drew | exact P5.bel | exact P5.bel.drew | exact P2.bel | exact P2.bel.drew | exact P1.bel | exact P1.bel.drew | exact P1.bel.alloc P1.bel.size _ | exact (P1.bel.alloc P1.bel.size _).drew | exact (below1 _ _).alloc (by simp) _ | exact ((below1 _ _).alloc (by simp) _).drew | exact ((below1 _ _).drew).alloc (by simp) _ | exact (((below1 _ _).drew).alloc (by simp) _).drew | exact P1.bel.drew.alloc (by have := P1.bel.size; simpa using this) _); done) | (refine KV.out _ (by first | exact Below.refl _ _ | exact (Below.refl _ _).drew | exact below1 _ _ | exact (below1 _ _).drew | exact P5.bel | exact P5.bel.drew | exact P2.bel | exact P2.bel.drew | exact P1.bel | exact P1.bel.drew | exact P1.bel.alloc P1.bel.size _ | exact (P1.bel.alloc P1.bel.size _).drew | exact (below1 _ _).alloc (by simp) _ | exact ((below1 _ _).alloc (by simp) _).drew | exact ((below1 _ _).drew).alloc (by simp) _ | exact (((below1 _ _).drew).alloc (by simp) _).drew | exact P1.bel.drew.alloc (by have := P1.bel.size; simpa using this) _)))
                  (first
                    | (refine step_oldE (w := V) rfl _ _ rfl _ (rs.take k ++ [m]) rfl ?_ g3 _ _ _ (rs.drop k) HLD.out rfl HGD.out HDN.out (by simp; omega) (j + 1) ((rs.take k ++ [m]) ++ rs.drop k) HN1.out rfl ?_
                       · first | exact P2 | exact P2.drew
                       intro a5 c5 w5 P5 hg5 hat5)
                    | (refine step_oneE (w := V) rfl _ _ rfl _ (rs.take k) rfl ?_ _ _ m rfl ?_ (by simp; omega) (k + 1) (rs.take k ++ [m]) HK1.out rfl ?_
                       · first | exact P1 | exact P1.alloc _ | exact (P1.alloc _).drew | exact P1.drew.alloc _ | exact (P1.drew.alloc _).drew
                       · first | exact one_newE _ _ | exact (one_newE _ _).drew | exact Bk.kept (oneAB V _ m) hg1 (show some (V.heap.size + 1) ≠ some V.heap.size by simp) | exact Bk.kept (oneBA V _ m) hg1 (show some V.heap.size ≠ some (V.heap.size + 1) by simp) | exact (Bk.kept (oneAB V _ m) hg1 (show some (V.heap.size + 1) ≠ some V.heap.size by simp)).drew | exact (Bk.kept (oneBA V _ m) hg1 (show some V.heap.size ≠ some (V.heap.size + 1) by simp)).drew
                       intro a4 c4 w4 P2 hg2 hat2)
                    | (refine step_oldE (w := V) rfl _ _ rfl _ [] rfl ?_ g3 _ _ _ (rs.take k) HLT.out rfl HGT.out HIT.out (by simp; omega) k (rs.take k) (by simp) rfl ?_
                       · first | exact (PtE.new (Below.refl _ _)).drew | exact ((PtE.new (Below.refl _ _)).alloc _).drew | exact ptBAE V _ | exact PtE.new (Below.refl _ _) | exact (PtE.new (Below.refl _ _)).alloc _
                       intro a3 c3x w1 P1 hg1 hat1))
                all_goals
                  obtain ⟨g4, rfl⟩ := own_form1 P5.own (by rw [HINS.out, HNJ.out]; omega)
                  have HP5 := Lib.hid P5
                  clear P5 P2 P1 hg5 hg2 hg1 hat5 hat2 hat1
                  go_wp2_with fail
                  go_roundw
                  case rel => exact ⟨j + 1, g4, c5, by omega, by go_num, rfl, Lib.hid (by rw [← HINS.out]; exact own_lowE HP5.out.own HVB.out.size), HNJ, Lib.hid (HVB.out.trans (HP5.out.bel.mono HVB.out.size))⟩
                  case measure => simp [intOf]; omega
              · go_wp2_with fail
                go_region_held3 (fun v => v.cell? ⟨b, o + j * 4, none⟩ = some (.int .i64 m.day) ∧ v.cell? ⟨b, o + j * 4 + 1, none⟩ = some (.int .i64 m.party) ∧ v.cell? ⟨b, o + j * 4 + 2, none⟩ = some (.string m.act) ∧ v.cell? ⟨b, o + j * 4 + 3, none⟩ = some (.int .i64 m.amt)) (first | (refine KV.out _ ?_; exact (by first | exact Below.refl _ _ | exact (Below.refl _ _).drew | exact below1 _ _ | exact (below1 _ _).drew | exact P5.bel | exact P5.bel.drew | exact P2.bel | exact P2.bel.drew | exact P1.bel | exact P1.bel.drew | exact P1.bel.alloc P1.bel.size _ | exact (P1.bel.alloc P1.bel.size _).drew | exact (below1 _ _).alloc (by simp) _ | exact ((below1 _ _).alloc (by simp) _).drew | exact ((below1 _ _).drew).alloc (by simp) _ | exact (((below1 _ _).drew).alloc (by simp) _).drew | exact P1.bel.drew.alloc (by have := P1.bel.size; simpa using this) _); done) | (refine KV.out _ (by first | exact Below.refl _ _ | exact (Below.refl _ _).drew | exact below1 _ _ | exact (below1 _ _).drew | exact P5.bel | exact P5.bel.drew | exact P2.bel | exact P2.bel.drew | exact P1.bel | exact P1.bel.drew | exact P1.bel.alloc P1.bel.size _ | exact (P1.bel.alloc P1.bel.size _).drew | exact (below1 _ _).alloc (by simp) _ | exact ((below1 _ _).alloc (by simp) _).drew | exact ((below1 _ _).drew).alloc (by simp) _ | exact (((below1 _ _).drew).alloc (by simp) _).drew | exact P1.bel.drew.alloc (by have := P1.bel.size; simpa using this) _)))
                  (first
                    | (refine step_oldE (w := V) rfl _ _ rfl _ (rs.take k ++ [m]) rfl ?_ g3 _ _ _ (rs.drop k) HLD.out rfl HGD.out HID.out (by simp; omega) (j + 1) ((rs.take k ++ [m]) ++ rs.drop k) HN1.out rfl ?_
                       · first | exact P2 | exact P2.drew
                       intro a5 c5 w5 P5 hg5 hat5)
                    | (refine step_oneE (w := V) rfl _ _ rfl _ (rs.take k) rfl ?_ _ _ m rfl ?_ (by simp; omega) (k + 1) (rs.take k ++ [m]) HK1.out rfl ?_
                       · first | exact P1 | exact P1.alloc _ | exact (P1.alloc _).drew | exact P1.drew.alloc _ | exact (P1.drew.alloc _).drew
                       · first | exact one_newE _ _ | exact (one_newE _ _).drew | exact Bk.kept (oneAB V _ m) hg1 (show some (V.heap.size + 1) ≠ some V.heap.size by simp) | exact Bk.kept (oneBA V _ m) hg1 (show some V.heap.size ≠ some (V.heap.size + 1) by simp) | exact (Bk.kept (oneAB V _ m) hg1 (show some (V.heap.size + 1) ≠ some V.heap.size by simp)).drew | exact (Bk.kept (oneBA V _ m) hg1 (show some V.heap.size ≠ some (V.heap.size + 1) by simp)).drew
                       intro a4 c4 w4 P2 hg2 hat2)
                    | (refine step_oldE (w := V) rfl _ _ rfl _ [] rfl ?_ g3 _ _ _ (rs.take k) HLT.out rfl HGT.out HIT.out (by simp; omega) k (rs.take k) (by simp) rfl ?_
                       · first | exact (PtE.new (Below.refl _ _)).drew | exact ((PtE.new (Below.refl _ _)).alloc _).drew | exact ptBAE V _ | exact PtE.new (Below.refl _ _) | exact (PtE.new (Below.refl _ _)).alloc _
                       intro a3 c3x w1 P1 hg1 hat1))
                all_goals
                  obtain ⟨g4, rfl⟩ := own_form1 P5.own (by rw [HINS.out, HNJ.out]; omega)
                  have HP5 := Lib.hid P5
                  clear P5 P2 P1 hg5 hg2 hg1 hat5 hat2 hat1
                  go_wp2_with fail
                  go_roundw
                  case rel => exact ⟨j + 1, g4, c5, by omega, by go_num, rfl, Lib.hid (by rw [← HINS.out]; exact own_lowE HP5.out.own HVB.out.size), HNJ, Lib.hid (HVB.out.trans (HP5.out.bel.mono HVB.out.size))⟩
                  case measure => simp [intOf]; omega
        · have e0 : ¬ (0 : Int) < (k : Int) := by omega
          have hk00 : k = 0 := by omega
          have HPKy : Hid (posE m rs k = k) := Lib.hid (by rw [hk00]; rfl)
          have e1 : ¬ 0 < k := hk0
          clear hk00 hk0
          go_wp2_with fail
          go_quiet (fail)
          have BV := below_drewN (Below.refl wr.heap.size wr) nq
          obtain ⟨V, hV⟩ : ∃ V, V = wr.drewN nq := ⟨_, rfl⟩
          rw [← hV] at BV ⊢
          clear hV e0
          go_wp2_with fail
          have HPK : Hid (posE m rs rs.length = k) := Lib.hid (by rw [← HP.out]; exact HPKy.out)
          have HVB := Lib.hid (HB2.out.trans (BV.mono HB2.out.size))
          have HOV := Lib.hid (ownK HO2.out BV)
          have hgE := own_elE HOV.out
          have HIT : Hid (∀ i, ∀ h : i < (rs.take k).length, El V g3 (0 + i * 4) (rs.take k)[i].cells) := Lib.hid fun i hi => by
            rw [List.length_take] at hi
            rw [Nat.zero_add, List.getElem_take]
            exact hgE.2 i (by omega)
          have HID : Hid (∀ i, ∀ h : i < (rs.drop k).length, El V g3 (k * 4 + i * 4) (rs.drop k)[i].cells) := Lib.hid fun i hi => by
            rw [List.length_drop] at hi
            rw [List.getElem_drop, ← Nat.add_mul]
            exact hgE.2 (k + i) (by omega)
          have HGT : Hid (0 < (rs.take k).length → g3 < V.heap.size) := Lib.hid fun h => hgE.1 (by rw [List.length_take] at h; omega)
          have HGD : Hid (0 < (rs.drop k).length → g3 < V.heap.size) := Lib.hid fun h => hgE.1 (by rw [List.length_drop] at h; omega)
          have HLT : Hid (k = (rs.take k).length) := Lib.hid (by have := HLJ.out; simp; omega)
          have HLD : Hid (j - k = (rs.drop k).length) := Lib.hid (by have := HLJ.out; simp; omega)
          have HN1 : Hid (j + 1 = (rs.take k ++ [m]).length + (j - k)) := Lib.hid (by have := HLT.out; rw [List.length_append, ← this]; simp; omega)
          have HK1 : Hid (k + 1 = (rs.take k).length + 1) := Lib.hid (by rw [← HLT.out])
          have KV : Hid (∀ v, Below V.heap.size V v → v.cell? ⟨b, o + j * 4, none⟩ = some (.int .i64 m.day) ∧ v.cell? ⟨b, o + j * 4 + 1, none⟩ = some (.int .i64 m.party) ∧ v.cell? ⟨b, o + j * 4 + 2, none⟩ = some (.string m.act) ∧ v.cell? ⟨b, o + j * 4 + 3, none⟩ = some (.int .i64 m.amt)) := Lib.hid fun v hv => KL.out v (HVB.out.trans (hv.mono HVB.out.size))
          have hjc : j ≤ c3 := own_cap HOV.out
          have hcm : c3 ≤ maxLen := own_max HOV.out
          unfold maxLen at hcm
          have hj40 : j ≤ 40 := by omega
          have h0 : (0 : Int) ≤ (k : Int) := by omega
          have hkc : k ≤ c3 := by omega
          have HINS : Hid ((rs.take k ++ [m]) ++ rs.drop k = insS (ms.take (j + 1))) := Lib.hid (by
            have e1 : ms.take (j + 1) = ms.take j ++ [m] := by rw [HMR.out.1]; exact List.take_succ_eq_append_getElem hj'
            rw [e1]
            unfold insS
            rw [List.foldl_append]
            show _ = insE m (insS (ms.take j))
            rw [← HMR.out.2]
            unfold insE
            rw [HPK.out])
          have HNJ : Hid ((insS (ms.take (j + 1))).length = j + 1) := Lib.hid (by rw [← HINS.out, List.length_append, ← HLD.out]; exact HN1.out.symm)
          obtain ⟨r0, r1, r2, r3⟩ := KV.out V (Below.refl _ _)
          clear BV hgE
          by_cases hck : c3 = k
          · have HDN : Hid (∀ i, ∀ h : i < (rs.drop k).length, El V g3 (0 + i * 4) (rs.drop k)[i].cells) := Lib.hid fun i hi => by have := HLD.out; exfalso; omega
            go_wp2_with fail
            go_region_held3 (fun v => v.cell? ⟨b, o + j * 4, none⟩ = some (.int .i64 m.day) ∧ v.cell? ⟨b, o + j * 4 + 1, none⟩ = some (.int .i64 m.party) ∧ v.cell? ⟨b, o + j * 4 + 2, none⟩ = some (.string m.act) ∧ v.cell? ⟨b, o + j * 4 + 3, none⟩ = some (.int .i64 m.amt)) (first | (refine KV.out _ ?_; exact (by first | exact Below.refl _ _ | exact (Below.refl _ _).drew | exact below1 _ _ | exact (below1 _ _).drew | exact P5.bel | exact P5.bel.drew | exact P2.bel | exact P2.bel.drew | exact P1.bel | exact P1.bel.drew | exact P1.bel.alloc P1.bel.size _ | exact (P1.bel.alloc P1.bel.size _).drew | exact (below1 _ _).alloc (by simp) _ | exact ((below1 _ _).alloc (by simp) _).drew | exact ((below1 _ _).drew).alloc (by simp) _ | exact (((below1 _ _).drew).alloc (by simp) _).drew | exact P1.bel.drew.alloc (by have := P1.bel.size; simpa using this) _); done) | (refine KV.out _ (by first | exact Below.refl _ _ | exact (Below.refl _ _).drew | exact below1 _ _ | exact (below1 _ _).drew | exact P5.bel | exact P5.bel.drew | exact P2.bel | exact P2.bel.drew | exact P1.bel | exact P1.bel.drew | exact P1.bel.alloc P1.bel.size _ | exact (P1.bel.alloc P1.bel.size _).drew | exact (below1 _ _).alloc (by simp) _ | exact ((below1 _ _).alloc (by simp) _).drew | exact ((below1 _ _).drew).alloc (by simp) _ | exact (((below1 _ _).drew).alloc (by simp) _).drew | exact P1.bel.drew.alloc (by have := P1.bel.size; simpa using this) _)))
              (first
                | (refine step_oldE (w := V) rfl _ _ rfl _ (rs.take k ++ [m]) rfl ?_ g3 _ _ _ (rs.drop k) HLD.out rfl HGD.out HDN.out (by simp; omega) (j + 1) ((rs.take k ++ [m]) ++ rs.drop k) HN1.out rfl ?_
                   · first | exact P2 | exact P2.drew
                   intro a5 c5 w5 P5 hg5 hat5)
                | (refine step_oneE (w := V) rfl _ _ rfl _ (rs.take k) rfl ?_ _ _ m rfl ?_ (by simp; omega) (k + 1) (rs.take k ++ [m]) HK1.out rfl ?_
                   · first | exact P1 | exact P1.alloc _ | exact (P1.alloc _).drew | exact P1.drew.alloc _ | exact (P1.drew.alloc _).drew
                   · first | exact one_newE _ _ | exact (one_newE _ _).drew | exact Bk.kept (oneAB V _ m) hg1 (show some (V.heap.size + 1) ≠ some V.heap.size by simp) | exact Bk.kept (oneBA V _ m) hg1 (show some V.heap.size ≠ some (V.heap.size + 1) by simp) | exact (Bk.kept (oneAB V _ m) hg1 (show some (V.heap.size + 1) ≠ some V.heap.size by simp)).drew | exact (Bk.kept (oneBA V _ m) hg1 (show some V.heap.size ≠ some (V.heap.size + 1) by simp)).drew
                   intro a4 c4 w4 P2 hg2 hat2)
                | (refine step_oldE (w := V) rfl _ _ rfl _ [] rfl ?_ g3 _ _ _ (rs.take k) HLT.out rfl HGT.out HIT.out (by simp; omega) k (rs.take k) (by simp) rfl ?_
                   · first | exact (PtE.new (Below.refl _ _)).drew | exact ((PtE.new (Below.refl _ _)).alloc _).drew | exact ptBAE V _ | exact PtE.new (Below.refl _ _) | exact (PtE.new (Below.refl _ _)).alloc _
                   intro a3 c3x w1 P1 hg1 hat1))
            all_goals
              obtain ⟨g4, rfl⟩ := own_form1 P5.own (by rw [HINS.out, HNJ.out]; omega)
              have HP5 := Lib.hid P5
              clear P5 P2 P1 hg5 hg2 hg1 hat5 hat2 hat1
              go_wp2_with fail
              go_roundw
              case rel => exact ⟨j + 1, g4, c5, by omega, by go_num, rfl, Lib.hid (by rw [← HINS.out]; exact own_lowE HP5.out.own HVB.out.size), HNJ, Lib.hid (HVB.out.trans (HP5.out.bel.mono HVB.out.size))⟩
              case measure => simp [intOf]; omega
          · go_wp2_with fail
            go_region_held3 (fun v => v.cell? ⟨b, o + j * 4, none⟩ = some (.int .i64 m.day) ∧ v.cell? ⟨b, o + j * 4 + 1, none⟩ = some (.int .i64 m.party) ∧ v.cell? ⟨b, o + j * 4 + 2, none⟩ = some (.string m.act) ∧ v.cell? ⟨b, o + j * 4 + 3, none⟩ = some (.int .i64 m.amt)) (first | (refine KV.out _ ?_; exact (by first | exact Below.refl _ _ | exact (Below.refl _ _).drew | exact below1 _ _ | exact (below1 _ _).drew | exact P5.bel | exact P5.bel.drew | exact P2.bel | exact P2.bel.drew | exact P1.bel | exact P1.bel.drew | exact P1.bel.alloc P1.bel.size _ | exact (P1.bel.alloc P1.bel.size _).drew | exact (below1 _ _).alloc (by simp) _ | exact ((below1 _ _).alloc (by simp) _).drew | exact ((below1 _ _).drew).alloc (by simp) _ | exact (((below1 _ _).drew).alloc (by simp) _).drew | exact P1.bel.drew.alloc (by have := P1.bel.size; simpa using this) _); done) | (refine KV.out _ (by first | exact Below.refl _ _ | exact (Below.refl _ _).drew | exact below1 _ _ | exact (below1 _ _).drew | exact P5.bel | exact P5.bel.drew | exact P2.bel | exact P2.bel.drew | exact P1.bel | exact P1.bel.drew | exact P1.bel.alloc P1.bel.size _ | exact (P1.bel.alloc P1.bel.size _).drew | exact (below1 _ _).alloc (by simp) _ | exact ((below1 _ _).alloc (by simp) _).drew | exact ((below1 _ _).drew).alloc (by simp) _ | exact (((below1 _ _).drew).alloc (by simp) _).drew | exact P1.bel.drew.alloc (by have := P1.bel.size; simpa using this) _)))
              (first
                | (refine step_oldE (w := V) rfl _ _ rfl _ (rs.take k ++ [m]) rfl ?_ g3 _ _ _ (rs.drop k) HLD.out rfl HGD.out HID.out (by simp; omega) (j + 1) ((rs.take k ++ [m]) ++ rs.drop k) HN1.out rfl ?_
                   · first | exact P2 | exact P2.drew
                   intro a5 c5 w5 P5 hg5 hat5)
                | (refine step_oneE (w := V) rfl _ _ rfl _ (rs.take k) rfl ?_ _ _ m rfl ?_ (by simp; omega) (k + 1) (rs.take k ++ [m]) HK1.out rfl ?_
                   · first | exact P1 | exact P1.alloc _ | exact (P1.alloc _).drew | exact P1.drew.alloc _ | exact (P1.drew.alloc _).drew
                   · first | exact one_newE _ _ | exact (one_newE _ _).drew | exact Bk.kept (oneAB V _ m) hg1 (show some (V.heap.size + 1) ≠ some V.heap.size by simp) | exact Bk.kept (oneBA V _ m) hg1 (show some V.heap.size ≠ some (V.heap.size + 1) by simp) | exact (Bk.kept (oneAB V _ m) hg1 (show some (V.heap.size + 1) ≠ some V.heap.size by simp)).drew | exact (Bk.kept (oneBA V _ m) hg1 (show some V.heap.size ≠ some (V.heap.size + 1) by simp)).drew
                   intro a4 c4 w4 P2 hg2 hat2)
                | (refine step_oldE (w := V) rfl _ _ rfl _ [] rfl ?_ g3 _ _ _ (rs.take k) HLT.out rfl HGT.out HIT.out (by simp; omega) k (rs.take k) (by simp) rfl ?_
                   · first | exact (PtE.new (Below.refl _ _)).drew | exact ((PtE.new (Below.refl _ _)).alloc _).drew | exact ptBAE V _ | exact PtE.new (Below.refl _ _) | exact (PtE.new (Below.refl _ _)).alloc _
                   intro a3 c3x w1 P1 hg1 hat1))
            all_goals
              obtain ⟨g4, rfl⟩ := own_form1 P5.own (by rw [HINS.out, HNJ.out]; omega)
              have HP5 := Lib.hid P5
              clear P5 P2 P1 hg5 hg2 hg1 hat5 hat2 hat1
              go_wp2_with fail
              go_roundw
              case rel => exact ⟨j + 1, g4, c5, by omega, by go_num, rfl, Lib.hid (by rw [← HINS.out]; exact own_lowE HP5.out.own HVB.out.size), HNJ, Lib.hid (HVB.out.trans (HP5.out.bel.mono HVB.out.size))⟩
              case measure => simp [intOf]; omega
    · have HE : Hid (ms.take j = ms) := Lib.hid (List.take_of_length_le (by have := HN.out; omega))
      have hjn : j = n := by omega
      subst hjn
      go_wp2_with fail
      go_ret
      exact ⟨g3, c3, rfl, by have h := HO.out; rw [HE.out] at h; exact h, HB.out⟩

end Go.Proofs.Ytomloodakabcbaa.Et

namespace Go.Proofs.Ytomloodakabcbaa.Et
open Go.RowKit Go.Proofs.Ytomloodakabcbaa.Cond Go.Proofs.Ytomloodakabcbaa.Gx
set_option linter.unusedVariables false
set_option linter.unusedSimpArgs false

theorem insS_perm (ms : List E) : (insS ms).Perm ms := by
  have := (insS_is ms [] List.Pairwise.nil).2
  unfold insS
  simpa using this
theorem insS_len (ms : List E) : (insS ms).length = ms.length := (insS_perm ms).length_eq

set_option maxRecDepth 100000 in
set_option maxHeartbeats 4000000 in
theorem specSE (A : Option Addr) (n cap : Nat) (ms : List E) (p : Int) (hp : -9223372036854775808 ≤ p) (hp2 : p ≤ 9223372036854775807) (t : Bool) (ht : t = valE ms p) (w : World) (h : LiE w w.heap.size A n cap ms) :
    Calls Try.prog 6 #[.slice A n cap, .int .i64 p] w (EAns w.heap.size (if t then insS ms else []) t w) := by
  have HVA : Hid (Calls Try.prog 15 #[.slice A n cap, .int .i64 p] w fun e w' => e = .returned (.bool t) ∧ Below w.heap.size w w') := Lib.hid (by rw [ht]; exact l8Valid A n cap ms p hp hp2 w h)
  have h40 : Hid (t = true → n ≤ 40) := Lib.hid fun e => by
    rw [ht] at e
    simp only [valE, Bool.and_eq_true, decide_eq_true_eq] at e
    have := h.len
    omega
  have HL := Lib.hid h
  clear ht h
  go_enter Try.func6, Try.ntmps6
  cases t
  · go_wp2_with (go_at_call 15; refine HVA.out.mono ?_; rintro e w2 ⟨rfl, hb⟩; refine Hid.out ?_)
    refine Lib.hid ?_
    have HB := Lib.hid hb
    clear hb
    go_wp2_with fail
    go_ret2
    exact ⟨_, 0, 0, rfl, rfl, (OwnE.new HB.out.size).re rfl (fun m hm => by simp at hm), HB.out.alloc HB.out.size _⟩
  · have HN4 : Hid (n ≤ 40) := Lib.hid (h40.out rfl)
    go_wp2_with (go_at_call 15; refine HVA.out.mono ?_; rintro e w2 ⟨rfl, hb⟩; refine Hid.out ?_)
    refine Lib.hid ?_
    have HB := Lib.hid hb
    have HS := Lib.hid (l8Sort A n cap ms w2 (HL.out.on hb) HN4.out)
    clear hb
    go_wp2_with (go_at_call 16; refine HS.out.mono ?_; rintro e w3 ⟨g, c, rfl, ho, hb⟩; refine Hid.out ?_)
    refine Lib.hid ?_
    have HO := Lib.hid ho
    have HB3 := Lib.hid hb
    clear ho hb
    go_wp2_with fail
    go_ret2
    have hn : n = (insS ms).length := by rw [insS_len]; exact HL.out.len
    refine ⟨g, n, c, hn, rfl, (own_lowE HO.out HB.out.size).re hn (fun m hm => HL.out.asz m ((insS_perm ms).mem_iff.1 hm)), HB.out.trans (HB3.out.mono HB.out.size)⟩

end Go.Proofs.Ytomloodakabcbaa.Et

namespace Go.Proofs.Ytomloodakabcbaa.Et
open Go.RowKit Go.Proofs.Ytomloodakabcbaa.Cond Go.Proofs.Ytomloodakabcbaa.Gx
set_option linter.unusedVariables false
set_option linter.unusedSimpArgs false

/-- An event, so many days later. -/
def shE (d : Int) (m : E) : E := ⟨m.day + d, m.party, m.act, m.amt⟩

set_option maxRecDepth 100000 in
set_option maxHeartbeats 4000000 in
theorem transC (A : Option Addr) (n cap : Nat) (ms : List E) (w : World) (h : LiE w w.heap.size A n cap ms) (hm : n ≤ 100000) (hfn : ∀ m ∈ ms, ∀ v, Below w.heap.size w v → Calls Try.prog 20 #[m.val] v fun e w' => e = .returned (id m).val ∧ Below v.heap.size v w') (hfs : ∀ m ∈ ms, (id m).act.size ≤ maxLen) :
    Calls Try.prog 19 #[.slice A n cap, .func (.func 20) #[] #[]] w fun e w' => e = .returned (.slice (some ⟨w.heap.size, 0, none⟩) n n) ∧ RwE w' w.heap.size n (ms.map id) ∧ Below w.heap.size w w' := by
  have HFN := Lib.hid hfn
  have HFS := Lib.hid hfs
  have HN := Lib.hid h.len
  have HL := Lib.hid h
  obtain ⟨i0, hi, hz0, hz1, hz2⟩ := info_parts infoEvent
  have HZ := Lib.hid hz2
  clear hz2 h hfn hfs
  go_enter Try.func19, Try.ntmps19
  go_wp2_with (at_make; refine wpList_make_full _ rfl _ _ 24 rfl w.heap.size 38 i0 (.agg #[.int .i64 0, .int .i64 0, .string ByteArray.empty, .int .i64 0]) 4 Try.underlying24 hi hz0 hz1 .i64 .i64 _ _ n rfl rfl rfl rfl (by rw [HZ.out]; omega) (by unfold maxLen; omega) (Nat.le_refl _) ?_; intro w1 hown1 hgrow1; refine Hid.out ?_)
  refine Lib.hid ?_
  have hb1 : Below w.heap.size w w1 := (Below.refl _ _).grown hgrow1 (Nat.le_refl _) (fun k hk => by cases hk)
  have HR0 : Hid (RwE w1 w.heap.size n []) := Lib.hid ⟨Blk.of_own hown1, fun i hi => by simp at hi, fun k hk => by simp at hk⟩
  have HB1 := Lib.hid hb1
  clear hown1 hgrow1 hb1
  go_wp2_with fail
  go_loopw [13] (fun i wr => ∃ (k : Nat) (ks : List E), k ≤ n ∧ i = .int .i64 k ∧ Hid (ks.length = k) ∧ Hid (ks = (ms.take k).map id) ∧ Hid (RwE wr w.heap.size n ks) ∧ Hid (Below w.heap.size w wr)) (fun i _ => n - (intOf i).toNat)
  case atStart => exact ⟨0, [], Nat.zero_le _, rfl, Lib.hid rfl, Lib.hid rfl, HR0, HB1⟩
  case round =>
    obtain ⟨k, ks, hk, rfl, HK, HS, HR, HB⟩ := hrel
    by_cases hlt : k < n
    · obtain ⟨b, o, hk', rfl, hB, hc⟩ := HL.out.get hlt
      obtain ⟨p, hp⟩ : ∃ p, p = ms[k] := ⟨_, rfl⟩
      have hE := hc wr HB.out
      rw [← hp] at hE
      obtain ⟨c0, c1, c2, c3⟩ := e4 hE
      have i0 : (0 : Int) ≤ (k : Int) := by omega
      have i1 : (k : Int) < (n : Int) := by omega
      have hpm : p ∈ ms := by rw [hp]; exact List.getElem_mem hk'
      have HT : Hid (ms.take (k + 1) = ms.take k ++ [p]) := Lib.hid (by rw [hp]; exact List.take_succ_eq_append_getElem hk')
      obtain ⟨X, hX⟩ : ∃ X, X = wr.alloc (.cells #[.int .i64 p.day, .int .i64 p.party, .string p.act, .int .i64 p.amt] 38) := ⟨_, rfl⟩
      have HBX := Lib.hid (show Below wr.heap.size wr X by rw [hX]; exact below1 _ _)
      have IHp := Lib.hid (HFN.out p hpm X (HB.out.trans (HBX.out.mono HB.out.size)))
      have HPS := Lib.hid (HFS.out p hpm)
      obtain ⟨q, hq⟩ : ∃ q, q = id p := ⟨_, rfl⟩
      rw [← hq] at IHp HPS
      have HQ := Lib.hid hq
      have HX := Lib.hid hX
      clear hp hc HR0 HB1 hE hpm hX hq
      go_wp2_with (go_at_call 20; (try rw [← HX.out]); refine IHp.out.mono ?_; rintro e w2 ⟨rfl, hb2⟩; refine Hid.out ?_)
      refine Lib.hid ?_
      have hbb := HBX.out.trans (hb2.mono HBX.out.size)
      have HR2 := Lib.hid (HR.out.on hbb)
      have HW2 : Hid (RwE (putL w2 w.heap.size (ks.length * 4) q.cells) w.heap.size n (ks ++ [q])) := Lib.hid (HR2.out.snoc HPS.out (by have := HK.out; omega))
      have HBB := Lib.hid (putL_below (Nat.le_refl _) q.cells (k * 4) (HB.out.trans (hbb.mono HB.out.size)))
      rw [HK.out] at HW2
      have hblk := HR2.out.blk
      obtain ⟨x0, d0⟩ := hblk.cell (o := k * 4) (by omega)
      have f0 := hblk.frozen (k * 4)
      obtain ⟨x1, d1⟩ := hblk.cell (o := k * 4 + 1) (by omega)
      have f1 := hblk.frozen (k * 4 + 1)
      obtain ⟨x2, d2⟩ := hblk.cell (o := k * 4 + 2) (by omega)
      have f2 := hblk.frozen (k * 4 + 2)
      obtain ⟨x3, d3⟩ := hblk.cell (o := k * 4 + 3) (by omega)
      have f3 := hblk.frozen (k * 4 + 3)
      clear hb2 hbb hblk
      go_wp2_with fail
      go_roundw
      case rel =>
        have h8 := HW2.out
        have h9 := HBB.out
        simp only [putL, E.cells, Nat.add_assoc, Nat.reduceAdd] at h8 h9
        exact ⟨k + 1, ks ++ [q], by omega, by go_num, Lib.hid (by rw [List.length_append, HK.out]; rfl), Lib.hid (by rw [HT.out, List.map_append, HS.out, HQ.out]; rfl), Lib.hid h8, Lib.hid h9⟩
      case measure => simp [intOf]; omega
    · have HE : Hid (ms.take k = ms) := Lib.hid (List.take_of_length_le (by have := HN.out; omega))
      go_wp2_with fail
      go_ret
      exact ⟨rfl, by have h := HR.out; rw [HS.out, HE.out] at h; exact h, HB.out⟩

end Go.Proofs.Ytomloodakabcbaa.Et

namespace Go.Proofs.Ytomloodakabcbaa.Et
open Go.RowKit Go.Proofs.Ytomloodakabcbaa.Cond Go.Proofs.Ytomloodakabcbaa.Gx
set_option linter.unusedVariables false
set_option linter.unusedSimpArgs false

set_option maxRecDepth 100000 in
set_option maxHeartbeats 4000000 in
theorem implSE (A : Option Addr) (n cap : Nat) (ms : List E) (p : Int) (t : Bool) (ht : t = valE ms p) (w : World) (h : LiE w w.heap.size A n cap ms) :
    Calls Try.prog 8 #[.slice A n cap, .int .i64 p] w (EAns w.heap.size (if t then (srtE ms.toArray n).toList else []) t w) := by
  have HVA : Hid (Calls Try.prog 18 #[.slice A n cap, .int .i64 p] w fun e w' => e = .returned (.bool t) ∧ Below w.heap.size w w') := Lib.hid (by rw [ht]; exact areValid A n cap ms p w h)
  have HN := Lib.hid h.len
  have HT := Lib.hid ht
  have h40 : Hid (t = true → n ≤ 40) := Lib.hid fun e => by
    rw [ht] at e
    simp only [valE, Bool.and_eq_true, decide_eq_true_eq] at e
    have := h.len
    omega
  have HA := Lib.hid h.asz
  have HA8 : Hid (t = true → ∀ m ∈ ms, m.act.size ≤ 100) := Lib.hid fun e m hm => by
    rw [ht] at e
    simp only [valE, Bool.and_eq_true, decide_eq_true_eq, List.all_eq_true, okE, isNm] at e
    have := e.2.2 m hm
    omega
  have HTR : Hid (n ≤ 40 → (∀ m ∈ ms, m.act.size ≤ 100) → ∀ v, Below w.heap.size w v → Calls Try.prog 19 #[.slice A n cap, .func (.func 20) #[] #[]] v fun e w' => ∃ g, Hid (g = v.heap.size) ∧ e = .returned (.slice (some ⟨g, 0, none⟩) n n) ∧ RwE w' g n ms ∧ Below v.heap.size v w') := Lib.hid fun hn ha v hv => by
    have := transC A n cap ms v (h.on hv) (by omega) (fun m hm u hu => cloneE m u (Nat.le_trans (ha m hm) (by omega))) (fun m hm => HA.out m hm)
    exact this.mono fun e w' ⟨he, hr, hb⟩ => ⟨_, Lib.hid rfl, he, by simpa using hr, hb⟩
  clear ht h
  go_enter Try.func8, Try.ntmps8
  cases t
  · go_wp2_with (go_at_call 18; refine HVA.out.mono ?_; rintro e w2 ⟨rfl, hb⟩)
    go_ret2
    exact ⟨w2.heap.size, 0, 0, rfl, rfl, (OwnE.new (w := w2) (S := w.heap.size) hb.size).re rfl (fun m hm => by simp at hm), hb.trans ((below1 _ _).mono hb.size)⟩
  have hn := h40.out (by first | trivial | rfl)
  go_wp2_with (go_at_call 18; refine HVA.out.mono ?_; rintro e w2 ⟨rfl, hb⟩; refine Hid.out ?_)
  refine Lib.hid ?_
  have HB2 := Lib.hid hb
  clear hb HVA
  go_wp2_with (go_at_call 19; refine (HTR.out hn (HA8.out (by first | trivial | rfl)) _ HB2.out).mono ?_; rintro e w3 ⟨g, hgg, rfl, hre, hb⟩; refine Hid.out ?_)
  refine Lib.hid ?_
  have HB3 := Lib.hid (HB2.out.trans (hb.mono HB2.out.size))
  have HG : Hid (w.heap.size ≤ g) := Lib.hid (by rw [hgg.out]; exact HB2.out.size)
  have hs : Sw g n w3 ms.toArray w3 := Sw.start (by simpa using hre) (by have := HN.out; simp; omega)
  have HSO := Lib.hid (sortA hn swoE ms.toArray w3 hs)
  clear hgg hre hb hs HTR
  go_wp2_with (go_at_call 21; refine HSO.out.mono ?_; rintro e w4 ⟨rfl, hsw⟩)
  go_ret2
  refine ⟨g, n, n, ?_, rfl, ?_, ?_⟩
  · have := hsw.siz; simp; omega
  · exact hsw.rw.re (by have := hsw.siz; simpa using this) (by unfold maxLen; omega) HG.out
  · exact HB3.out.trans (hsw.oth.below HG.out HB3.out.size)

end Go.Proofs.Ytomloodakabcbaa.Et

namespace Go.Proofs.Ytomloodakabcbaa.Et
open Go.RowKit Go.Proofs.Ytomloodakabcbaa.Cond Go.Proofs.Ytomloodakabcbaa.Gx
set_option linter.unusedVariables false
set_option linter.unusedSimpArgs false

def OwnAnsE (D : List E) (w : World) (e : Ending) (w' : World) : Prop :=
  ∃ A3 n3 c3, n3 = D.length ∧ e = .returned (.slice A3 n3 c3) ∧ OwnE w' w.heap.size (.slice A3 n3 c3) D ∧ Below w.heap.size w w'

set_option maxRecDepth 100000 in
set_option maxHeartbeats 4000000 in
theorem growE (n : Nat) (w : World) (hm : n ≤ 2000) :
    Calls Try.prog 38 #[.slice none 0 0, .int .i64 n] w (OwnAnsE [] w) := by
  obtain ⟨i0, hi, hz0, hz1, hz2⟩ := info_parts infoEvent
  have HZ := Lib.hid hz2
  clear hz2
  have h0 : ¬ ((n : Int) < 0) := by omega
  by_cases hp : 0 < n
  · have h1 : (0 : Int) < (n : Int) := by omega
    have hrz : ∀ ty, (Builtin.append_ #[24, 3] ty #[.slice none 0 0, .int .i64 n]).run Try.prog w =
        .ok (.slice (some ⟨w.heap.size, 0, none⟩) n (grownCap w n 0 38)) (w.drew.alloc (.cells ((#[] : Array Value) ++ Builtin.zeroCells (Value.agg #[.int .i64 0, .int .i64 0, .string ByteArray.empty, .int .i64 0]).cells n ++ Builtin.zeroCells (Value.agg #[.int .i64 0, .int .i64 0, .string ByteArray.empty, .int .i64 0]).cells (grownCap w n 0 38 - n)) 38)) := fun ty => by
      have h := Lib.run_append_grow_zeros w 24 3 ty 38 i0 _ .i64 .i64 Try.underlying24 Try.underlying3 hi hz0 none 0 0 [] (by rw [hz1]; exact run_firstCells_none w.drew 4 0 0 0) n (by omega) (by omega) (by omega) (by omega) (by rw [HZ.out]; omega) (by rw [HZ.out]; exact growslice_fits (by omega) (by omega))
      rw [Nat.zero_add] at h
      exact h
    have hGn : n ≤ grownCap w n 0 38 := grownCap_ge w _ _ _
    have hG63 : grownCap w n 0 38 ≤ 9223372036854775807 := by
      have := grownCap_le_maxLen w n 0 38 (by unfold maxLen; omega)
      unfold maxLen at this
      omega
    have HF : Hid (OwnAnsE [] w (.returned (.slice (some ⟨w.heap.size, 0, none⟩) 0 (grownCap w n 0 38))) (w.drew.alloc (.cells ((#[] : Array Value) ++ Builtin.zeroCells (Value.agg #[.int .i64 0, .int .i64 0, .string ByteArray.empty, .int .i64 0]).cells n ++ Builtin.zeroCells (Value.agg #[.int .i64 0, .int .i64 0, .string ByteArray.empty, .int .i64 0]).cells (grownCap w n 0 38 - n)) 38))) := Lib.hid (by
      refine ⟨_, 0, _, rfl, rfl, ⟨by simp [flat], .inr ⟨w.heap.size, _, _, rfl, Nat.le_refl _, heap_alloc_new w.drew _, Nat.zero_le _, by unfold maxLen; omega, ?_, by simp; rfl⟩⟩, ((Below.refl _ _).drew).alloc (Nat.le_refl _) _⟩
      simp [size_zeroCells, Value.cells]
      omega)
    generalize grownCap w n 0 38 = G at *
    generalize ((#[] : Array Value) ++ Builtin.zeroCells (Value.agg #[.int .i64 0, .int .i64 0, .string ByteArray.empty, .int .i64 0]).cells n ++ Builtin.zeroCells (Value.agg #[.int .i64 0, .int .i64 0, .string ByteArray.empty, .int .i64 0]).cells (G - n)) = cs at *
    go_enter Try.func38, Try.ntmps38
    go_wp2_with (at_builtin; refine Lib.wpList_append_run _ rfl _ _ _ _ rfl _ _ rfl rfl _ _ (hrz _) ?_)
    all_goals (go_ret; exact HF.out)
  · have : n = 0 := by omega
    subst this
    go_enter Try.func38, Try.ntmps38
    go_wp2
    go_ret
    exact ⟨none, 0, 0, rfl, rfl, World.ownsRow_nil _ _ _ _, Below.refl _ _⟩

/-- Two slices in a row of slices. -/
structure TwoE (w : World) (L : Nat) (A1 : Option Addr) (n1 c1 : Nat) (A2 : Option Addr) (n2 c2 : Nat) : Prop where
  lt : L < w.heap.size
  x0 : w.cell? ⟨L, 0, none⟩ = some (.slice A1 n1 c1)
  x1 : w.cell? ⟨L, 1, none⟩ = some (.slice A2 n2 c2)
theorem TwoE.below {w w' : World} {L : Nat} {A1 A2 : Option Addr} {n1 c1 n2 c2 : Nat} (h : TwoE w L A1 n1 c1 A2 n2 c2) (hb : Below w.heap.size w w') : TwoE w' L A1 n1 c1 A2 n2 c2 :=
  ⟨Nat.lt_of_lt_of_le h.lt hb.size, (hb.cell (p := ⟨L, 0, none⟩) h.lt).trans h.x0, (hb.cell (p := ⟨L, 1, none⟩) h.lt).trans h.x1⟩

set_option maxRecDepth 100000 in
set_option maxHeartbeats 4000000 in
theorem concatE (L g1 g2 : Nat) (n1 c1 n2 c2 : Nat) (a b : List E) (w : World) (h2 : TwoE w L (some ⟨g1, 0, none⟩) n1 c1 (some ⟨g2, 0, none⟩) n2 c2) (hm1 : n1 ≤ 1000) (hm2 : n2 ≤ 1000) (hA1 : LiE w w.heap.size (some ⟨g1, 0, none⟩) n1 c1 a) (hA2 : LiE w w.heap.size (some ⟨g2, 0, none⟩) n2 c2 b) :
    Calls Try.prog 26 #[.slice (some ⟨L, 0, none⟩) 2 2] w (OwnAnsE (a ++ b) w) := by
  have HE : ∀ (g n c : Nat) (xs : List E), LiE w w.heap.size (some ⟨g, 0, none⟩) n c xs → ∀ v, Below w.heap.size w v → ∀ i, ∀ h : i < xs.length, El v g (0 + i * 4) xs[i].cells := fun g n c xs h v hv i hi => by
    obtain ⟨b9, o9, h9, e9, _, hc9⟩ := h.get (k := i) (by have := h.len; omega)
    injection e9 with e9
    injection e9 with e10 e11 _
    subst e10 e11
    exact hc9 v hv
  have HE1 := Lib.hid (HE g1 n1 c1 a hA1)
  have HE2 := Lib.hid (HE g2 n2 c2 b hA2)
  have HN1 : Hid (n1 = a.length) := Lib.hid hA1.len
  have HN2 : Hid (n2 = b.length) := Lib.hid hA2.len
  have HT := Lib.hid h2
  obtain ⟨hlt, x0, x1⟩ := h2
  clear hA1 hA2 HE
  go_enter Try.func26, Try.ntmps26
  go_wp2_with fail
  go_loop [3, 11] (fun z i => (i = .int .i64 0 ∧ z = .int .i64 0) ∨ (i = .int .i64 1 ∧ z = .int .i64 n1) ∨ (i = .int .i64 2 ∧ z = .int .i64 ((n1 + n2 : Nat) : Int))) (fun _ i => 2 - (intOf i).toNat)
  case atStart => exact Or.inl ⟨rfl, rfl⟩
  case round =>
    have p1 : ¬ ((n1 : Int) < 0) := by omega
    have p2 : ¬ (((n1 + n2 : Nat) : Int) < 0) := by omega
    have p3 : wrap64 ((n1 : Int) + (n2 : Int)) = ((n1 + n2 : Nat) : Int) := by unfold wrap64; omega
    have p4 : wrap64 (n1 : Int) = (n1 : Int) := by unfold wrap64; omega
    rcases hrel with ⟨rfl, rfl⟩ | ⟨rfl, rfl⟩ | ⟨rfl, rfl⟩
    · go_wp2
      go_round
      case rel => exact Or.inr (Or.inl ⟨rfl, by first | rfl | simp⟩)
      case measure => simp [intOf]
    · go_wp2
      go_round
      case rel => exact Or.inr (Or.inr ⟨rfl, by first | rfl | simp⟩)
      case measure => simp [intOf]
    · go_wp2_with (go_at_call 38; refine (growE (n1 + n2) w (by omega)).mono ?_; rintro e w1 ⟨A3, n3, c3, hn3, rfl, hown, hb⟩; refine Hid.out ?_)
      refine Lib.hid ?_
      have HO : Hid (PtE w w1 (.slice A3 0 c3) []) := Lib.hid ⟨by rw [show n3 = 0 from hn3] at hown; exact hown, hb⟩
      clear hn3 hown hb
      go_wp2_with fail
      go_loopw [6, 27] (fun z i wr => ∃ (A4 : Option Addr) (n4 c4 : Nat), z = .slice A4 n4 c4 ∧ ((i = .int .i64 0 ∧ n4 = 0 ∧ Hid (PtE w wr (.slice A4 n4 c4) [])) ∨ (i = .int .i64 1 ∧ n4 = n1 ∧ Hid (PtE w wr (.slice A4 n4 c4) a)) ∨ (i = .int .i64 2 ∧ n4 = n1 + n2 ∧ Hid (PtE w wr (.slice A4 n4 c4) (a ++ b))))) (fun _ i _ => 2 - (intOf i).toNat)
      case atStart => exact ⟨A3, 0, c3, rfl, Or.inl ⟨rfl, rfl, HO⟩⟩
      case round =>
        obtain ⟨A4, n4, c4, rfl, h4⟩ := hrel
        rcases h4 with ⟨rfl, rfl, HP⟩ | ⟨rfl, rfl, HP⟩ | ⟨rfl, rfl, HP⟩
        · obtain ⟨_, y0, y1⟩ := HT.out.below HP.out.bel
          go_wp2_with (at_builtin; refine wp_appEs rfl _ _ rfl w.heap.size _ [] rfl HP.out.own g1 0 n1 c1 a HN1.out rfl (HE1.out _ HP.out.bel) (by simp; omega) HP.out.bel.size ?_; intro a5 c5 w5 hown5 hg5 _; have HQ := Lib.hid (HP.out.app hown5 hg5); clear hown5 hg5; refine Hid.out ?_)
          refine Lib.hid ?_
          rw [List.length_nil, Nat.zero_add] at *
          go_wp2_with fail
          go_roundw
          case rel => exact ⟨a5, n1, c5, rfl, Or.inr (Or.inl ⟨rfl, rfl, HQ⟩)⟩
          case measure => simp [intOf]
        · obtain ⟨_, y0, y1⟩ := HT.out.below HP.out.bel
          have HL : Hid (a.length + n2 = n4 + n2) := Lib.hid (by have := HN1.out; omega)
          go_wp2_with (at_builtin; refine wp_appEs rfl _ _ rfl w.heap.size _ a rfl HP.out.own g2 0 n2 c2 b HN2.out rfl (HE2.out _ HP.out.bel) (by rw [HL.out]; omega) HP.out.bel.size ?_; rw [HL.out]; intro a5 c5 w5 hown5 hg5 _; have HQ := Lib.hid (HP.out.app hown5 hg5); clear hown5 hg5; refine Hid.out ?_)
          refine Lib.hid ?_
          go_wp2_with fail
          go_roundw
          case rel => exact ⟨a5, n4 + n2, c5, rfl, Or.inr (Or.inr ⟨rfl, rfl, HQ⟩)⟩
          case measure => simp [intOf]
        · have HF : Hid (OwnAnsE (a ++ b) w (.returned (.slice A4 (n1 + n2) c4)) wr) := Lib.hid ⟨A4, n1 + n2, c4, by rw [List.length_append, ← HN1.out, ← HN2.out], rfl, by have h := HP.out.own; exact h, HP.out.bel⟩
          go_wp2_with fail
          go_ret
          exact HF.out

end Go.Proofs.Ytomloodakabcbaa.Et

namespace Go.Proofs.Ytomloodakabcbaa.Et
open Go.RowKit Go.Proofs.Ytomloodakabcbaa.Cond Go.Proofs.Ytomloodakabcbaa.Gx
set_option linter.unusedVariables false
set_option linter.unusedSimpArgs false

def mgOk (a b : List E) (p : Int) : Prop := goodE a p ∧ goodE b p ∧ a.length + b.length ≤ 40
theorem mg_val {a b : List E} {p : Int} (h1 : goodE a p) (h2 : goodE b p) : valE (a ++ b) p = true ↔ a.length + b.length ≤ 40 := by
  have e1 := h1.2
  have e2 := h2.2
  simp only [valE, Bool.and_eq_true, decide_eq_true_eq] at e1 e2 ⊢
  rw [List.length_append, List.all_append, e1.2.2, e2.2.2]
  exact ⟨fun h => h.2.1, fun h => ⟨e1.1, h, rfl⟩⟩
theorem RE.low {w : World} {S S' g n c : Nat} {D : List E} (h : RE w S g n c D) (hS : S' ≤ S) : RE w S' g n c D := ⟨h.wr, Nat.le_trans hS h.ge, h.lt⟩
theorem EAns.low {S S' : Nat} {D : List E} {ok : Bool} {w0 w w' : World} {e : Ending} (h : EAns S D ok w e w') (hS : S' ≤ S) (hb : Below w0.heap.size w0 w) : EAns S' D ok w0 e w' := by
  obtain ⟨g, n, c, hn, he, hr, hb2⟩ := h
  exact ⟨g, n, c, hn, he, hr.low hS, hb.trans (hb2.mono hb.size)⟩
theorem own_lieE {w : World} {S n c : Nat} {A : Option Addr} {rs : List E} (h : OwnE w S (.slice A n c) rs) (hn : n = rs.length) (ha : ∀ m ∈ rs, m.act.size ≤ maxLen) : LiE w w.heap.size A n c rs := by
  have hc : n ≤ c ∧ c ≤ maxLen := by
    rcases h.2 with ⟨hv, h0⟩ | ⟨g', c', cur, hv, _, _, hle, hm, _⟩
    · injection hv with h1 h2 h3
      unfold maxLen; omega
    · injection hv with h1 h2 h3
      omega
  exact ⟨AtR.of_own E.len h, ha, hn, hc.1, hc.2⟩
theorem two_newE (w : World) (A1 A2 : Option Addr) (n1 c1 n2 c2 : Nat) (T : TypeId) : TwoE (w.alloc (.cells #[.slice A1 n1 c1, .slice A2 n2 c2] T)) w.heap.size A1 n1 c1 A2 n2 c2 := by
  have h := Bk.new w #[.slice A1 n1 c1, .slice A2 n2 c2] T
  exact ⟨h.lt, by simp, by simp⟩

set_option maxRecDepth 100000 in
set_option maxHeartbeats 8000000 in
theorem implME (g1 g2 n1 n2 : Nat) (a b : List E) (p : Int) (t : Bool) (ht : t = true ↔ mgOk a b p) (w : World) (h1 : LiE w w.heap.size (some ⟨g1, 0, none⟩) n1 n1 a) (h2 : LiE w w.heap.size (some ⟨g2, 0, none⟩) n2 n2 b) :
    Calls Try.prog 13 #[.slice (some ⟨g1, 0, none⟩) n1 n1, .slice (some ⟨g2, 0, none⟩) n2 n2, .int .i64 p] w (EAns w.heap.size (if t then insS (a ++ b) else []) t w) := by
  obtain ⟨t1, ht1⟩ := t_iff (goodE a p)
  obtain ⟨t2, ht2⟩ := t_iff (goodE b p)
  have HV1 := Lib.hid (implValidEv (some ⟨g1, 0, none⟩) n1 n1 a p t1 ht1 w h1)
  have HV2 : Hid (∀ v, Below w.heap.size w v → Calls Try.prog 25 #[.slice (some ⟨g2, 0, none⟩) n2 n2, .int .i64 p] v fun e w' => e = .returned (.bool t2) ∧ Below v.heap.size v w') := Lib.hid fun v hv => implValidEv (some ⟨g2, 0, none⟩) n2 n2 b p t2 ht2 v (h2.on hv)
  have HT := Lib.hid (And.intro ht (And.intro ht1 ht2))
  have H1 := Lib.hid h1
  have H2 := Lib.hid h2
  obtain ⟨D, hD⟩ : ∃ D, D = if t then insS (a ++ b) else [] := ⟨_, rfl⟩
  have HD := Lib.hid hD
  rw [← hD]
  have HNO : Hid (t = false → ∀ v, Below w.heap.size w v → EAns w.heap.size D t w (.returned (.tuple #[.slice (some ⟨v.heap.size, 0, none⟩) 0 0, .bool false])) (v.alloc (.cells #[] 38))) := Lib.hid fun e v hv => by
    subst e
    rw [HD.out]
    exact ⟨_, 0, 0, rfl, rfl, (OwnE.new hv.size).re rfl (fun m hm => by simp at hm), hv.alloc hv.size _⟩
  clear ht ht1 ht2 h1 h2 hD
  go_enter Try.func13, Try.ntmps13
  cases t1
  · have HF : Hid (t = false) := Lib.hid (by rw [Bool.eq_false_iff]; intro e; have := HT.out.2.1.2 (HT.out.1.1 e).1; cases this)
    go_wp2_with (go_at_call 25; refine HV1.out.mono ?_; rintro e w2 ⟨rfl, hb⟩; refine Hid.out ?_)
    refine Lib.hid ?_
    have HB := Lib.hid hb
    clear hb
    go_wp2_with fail
    go_ret2
    exact HNO.out HF.out _ HB.out
  have HG1 : Hid (goodE a p) := Lib.hid (HT.out.2.1.1 rfl)
  go_wp2_with (go_at_call 25; refine HV1.out.mono ?_; rintro e w2 ⟨rfl, hb⟩; refine Hid.out ?_)
  refine Lib.hid ?_
  have HB := Lib.hid hb
  have HV2' := Lib.hid (HV2.out w2 hb)
  clear hb
  cases t2
  · have HF : Hid (t = false) := Lib.hid (by rw [Bool.eq_false_iff]; intro e; have := HT.out.2.2.2 (HT.out.1.1 e).2.1; cases this)
    go_wp2_with (go_at_call 25; refine HV2'.out.mono ?_; rintro e w3 ⟨rfl, hb⟩; refine Hid.out ?_)
    refine Lib.hid ?_
    have HB3 := Lib.hid (HB.out.trans (hb.mono HB.out.size))
    clear hb
    go_wp2_with fail
    go_ret2
    exact HNO.out HF.out _ HB3.out
  have HG2 : Hid (goodE b p) := Lib.hid (HT.out.2.2.1 rfl)
  have HTV : Hid (t = valE (a ++ b) p) := Lib.hid (by
    rw [Bool.eq_iff_iff, HT.out.1, mg_val HG1.out HG2.out]
    exact ⟨fun h => h.2.2, fun h => ⟨HG1.out, HG2.out, h⟩⟩)
  have hm1 : n1 ≤ 1000 := by have := good_len HG1.out; have := H1.out.len; omega
  have hm2 : n2 ≤ 1000 := by have := good_len HG2.out; have := H2.out.len; omega
  have HASZ : Hid (∀ m ∈ a ++ b, m.act.size ≤ maxLen) := Lib.hid fun m hm => by
    rcases List.mem_append.1 hm with h | h
    · exact H1.out.asz m h
    · exact H2.out.asz m h
  go_wp2_with (go_at_call 25; refine HV2'.out.mono ?_; rintro e w3 ⟨rfl, hb⟩; refine Hid.out ?_)
  refine Lib.hid ?_
  have HB3 := Lib.hid (HB.out.trans (hb.mono HB.out.size))
  clear hb
  have BA : Hid (Below w3.heap.size w3 (w3.alloc (.cells #[.slice (some ⟨g1, 0, none⟩) n1 n1, .slice (some ⟨g2, 0, none⟩) n2 n2] 24))) := Lib.hid (below1 _ _)
  have HCC := Lib.hid (concatE w3.heap.size g1 g2 n1 n1 n2 n2 a b _ (two_newE w3 (some ⟨g1, 0, none⟩) (some ⟨g2, 0, none⟩) n1 n1 n2 n2 24) hm1 hm2 ((H1.out.on HB3.out).on BA.out) ((H2.out.on HB3.out).on BA.out))
  go_wp2_with (go_at_call 26; refine HCC.out.mono ?_; rintro e w4 ⟨A3, n3, c3, hn3, rfl, hown, hb⟩; have HN3 := Lib.hid hn3; have HOWN := Lib.hid hown; have HBB := Lib.hid hb; clear hn3 hown hb; refine Hid.out ?_)
  refine Lib.hid ?_
  have hn3 := HN3.out
  have hown := HOWN.out
  have hb := HBB.out
  have HB4 := Lib.hid (HB3.out.trans ((BA.out.trans (hb.mono BA.out.size)).mono HB3.out.size))
  have HL4 := Lib.hid (own_lieE hown hn3 HASZ.out)
  have hse := implSE A3 n3 c3 (a ++ b) p t HTV.out w4 HL4.out
  have hone : (srtE (a ++ b).toArray n3).toList = insS (a ++ b) := by rw [hn3]; exact one_sort _
  rw [hone, ← HD.out] at hse
  have HSE := Lib.hid hse
  clear hb hown hn3 hse hone
  go_wp2_with (go_at_call 8; refine HSE.out.mono ?_; intro e w5 ha; have HE := Lib.hid (EAns.low ha HB4.out.size HB4.out); obtain ⟨g5, n5, c5, hn5, rfl, hr5, hb5⟩ := ha; clear hn5 hr5 hb5; refine Hid.out ?_)
  refine Lib.hid ?_
  go_wp2_with fail
  go_ret2
  exact HE.out

end Go.Proofs.Ytomloodakabcbaa.Et

namespace Go.Proofs.Ytomloodakabcbaa.Et
open Go.RowKit Go.Proofs.Ytomloodakabcbaa.Cond Go.Proofs.Ytomloodakabcbaa.Gx
set_option linter.unusedVariables false
set_option linter.unusedSimpArgs false

set_option maxRecDepth 100000 in
set_option maxHeartbeats 8000000 in
theorem specME (g1 g2 n1 n2 : Nat) (a b : List E) (p : Int) (hp : -9223372036854775808 ≤ p) (hp2 : p ≤ 9223372036854775807) (t : Bool) (ht : t = true ↔ mgOk a b p) (w : World) (h1 : LiE w w.heap.size (some ⟨g1, 0, none⟩) n1 n1 a) (h2 : LiE w w.heap.size (some ⟨g2, 0, none⟩) n2 n2 b) :
    Calls Try.prog 12 #[.slice (some ⟨g1, 0, none⟩) n1 n1, .slice (some ⟨g2, 0, none⟩) n2 n2, .int .i64 p] w (EAns w.heap.size (if t then insS (a ++ b) else []) t w) := by
  obtain ⟨t1, ht1⟩ := t_iff (goodE a p)
  obtain ⟨t2, ht2⟩ := t_iff (goodE b p)
  have HV1 := Lib.hid (l8Good (some ⟨g1, 0, none⟩) n1 n1 a p hp hp2 t1 ht1 w h1)
  have HV2 : Hid (∀ v, Below w.heap.size w v → Calls Try.prog 24 #[.slice (some ⟨g2, 0, none⟩) n2 n2, .int .i64 p] v fun e w' => e = .returned (.bool t2) ∧ Below v.heap.size v w') := Lib.hid fun v hv => l8Good (some ⟨g2, 0, none⟩) n2 n2 b p hp hp2 t2 ht2 v (h2.on hv)
  have HT := Lib.hid (And.intro ht (And.intro ht1 ht2))
  have H1 := Lib.hid h1
  have H2 := Lib.hid h2
  obtain ⟨D, hD⟩ : ∃ D, D = if t then insS (a ++ b) else [] := ⟨_, rfl⟩
  have HD := Lib.hid hD
  rw [← hD]
  have HNO : Hid (t = false → ∀ v, Below w.heap.size w v → EAns w.heap.size D t w (.returned (.tuple #[.slice (some ⟨v.heap.size, 0, none⟩) 0 0, .bool false])) (v.alloc (.cells #[] 38))) := Lib.hid fun e v hv => by
    subst e
    rw [HD.out]
    exact ⟨_, 0, 0, rfl, rfl, (OwnE.new hv.size).re rfl (fun m hm => by simp at hm), hv.alloc hv.size _⟩
  clear ht ht1 ht2 h1 h2 hD
  go_enter Try.func12, Try.ntmps12
  cases t1
  · have HF : Hid (t = false) := Lib.hid (by rw [Bool.eq_false_iff]; intro e; have := HT.out.2.1.2 (HT.out.1.1 e).1; cases this)
    go_wp2_with (go_at_call 24; refine HV1.out.mono ?_; rintro e w2 ⟨rfl, hb⟩; refine Hid.out ?_)
    refine Lib.hid ?_
    have HB := Lib.hid hb
    clear hb
    go_wp2_with fail
    go_ret2
    exact HNO.out HF.out _ HB.out
  have HG1 : Hid (goodE a p) := Lib.hid (HT.out.2.1.1 rfl)
  go_wp2_with (go_at_call 24; refine HV1.out.mono ?_; rintro e w2 ⟨rfl, hb⟩; refine Hid.out ?_)
  refine Lib.hid ?_
  have HB := Lib.hid hb
  have HV2' := Lib.hid (HV2.out w2 hb)
  clear hb
  cases t2
  · have HF : Hid (t = false) := Lib.hid (by rw [Bool.eq_false_iff]; intro e; have := HT.out.2.2.2 (HT.out.1.1 e).2.1; cases this)
    go_wp2_with (go_at_call 24; refine HV2'.out.mono ?_; rintro e w3 ⟨rfl, hb⟩; refine Hid.out ?_)
    refine Lib.hid ?_
    have HB3 := Lib.hid (HB.out.trans (hb.mono HB.out.size))
    clear hb
    go_wp2_with fail
    go_ret2
    exact HNO.out HF.out _ HB3.out
  have HG2 : Hid (goodE b p) := Lib.hid (HT.out.2.2.1 rfl)
  have hm1 : n1 ≤ 40 := by have := good_len HG1.out; have := H1.out.len; omega
  have hm2 : n2 ≤ 40 := by have := good_len HG2.out; have := H2.out.len; omega
  have hw1 : IntKind.i64.wrap ((n1 : Int) + (n2 : Int)) = (n1 : Int) + (n2 : Int) := by rw [IntKind.wrap_i64]; omega
  by_cases h40 : 40 < n1 + n2
  · have HF : Hid (t = false) := Lib.hid (by rw [Bool.eq_false_iff]; intro e; have h := (HT.out.1.1 e).2.2; have := H1.out.len; have := H2.out.len; omega)
    have g40 : (40 : Int) < (n1 : Int) + (n2 : Int) := by omega
    go_wp2_with (go_at_call 24; refine HV2'.out.mono ?_; rintro e w3 ⟨rfl, hb⟩; refine Hid.out ?_)
    refine Lib.hid ?_
    have HB3 := Lib.hid (HB.out.trans (hb.mono HB.out.size))
    clear hb
    go_wp2_with fail
    go_ret2
    exact HNO.out HF.out _ HB3.out
  have HTT : Hid (t = true) := Lib.hid (HT.out.1.2 ⟨HG1.out, HG2.out, by have := H1.out.len; have := H2.out.len; omega⟩)
  have g40 : ¬ (40 : Int) < (n1 : Int) + (n2 : Int) := by omega
  go_wp2_with (go_at_call 24; refine HV2'.out.mono ?_; rintro e w3 ⟨rfl, hb⟩; refine Hid.out ?_)
  refine Lib.hid ?_
  have HB3 := Lib.hid (HB.out.trans (hb.mono HB.out.size))
  clear hb
  have HE : ∀ (g n : Nat) (xs : List E), LiE w w.heap.size (some ⟨g, 0, none⟩) n n xs → ∀ v, Below w.heap.size w v → ∀ i, ∀ h : i < xs.length, El v g (0 + i * 4) xs[i].cells := fun g n xs h v hv i hi => by
    obtain ⟨b9, o9, h9, e9, _, hc9⟩ := h.get (k := i) (by have := h.len; omega)
    injection e9 with e9
    injection e9 with e10 e11 _
    subst e10 e11
    exact hc9 v hv
  have HE1 := Lib.hid (HE g1 n1 a H1.out)
  have HE2 := Lib.hid (HE g2 n2 b H2.out)
  have HN1 : Hid (n1 = a.length) := Lib.hid H1.out.len
  have HN2 : Hid (n2 = b.length) := Lib.hid H2.out.len
  have P0 : Hid (PtE w3 (w3.alloc (.cells #[] 38)) (.slice (some ⟨w3.heap.size, 0, none⟩) 0 0) []) := Lib.hid (PtE.new (Below.refl _ _))
  have HASZ : Hid (∀ m ∈ a ++ b, m.act.size ≤ maxLen) := Lib.hid fun m hm => by
    rcases List.mem_append.1 hm with h | h
    · exact H1.out.asz m h
    · exact H2.out.asz m h
  clear HE
  go_wp2_with (at_builtin; refine wp_appEs rfl _ _ rfl w3.heap.size _ [] rfl P0.out.own g1 0 n1 n1 a HN1.out rfl (HE1.out _ (HB3.out.trans (P0.out.bel.mono HB3.out.size))) (by simp; omega) P0.out.bel.size ?_; intro a5 c5 w5 hown5 hg5 _; have P1 := Lib.hid (P0.out.app hown5 hg5); clear hown5 hg5; refine Hid.out ?_)
  refine Lib.hid ?_
  rw [List.length_nil, Nat.zero_add] at *
  have PO1 : Hid (OwnE w5 w3.heap.size (.slice a5 n1 c5) a) := Lib.hid (by have h := P1.out.own; simpa using h)
  have PP1 : Hid (PtE w3 w5 (.slice a5 n1 c5) a) := Lib.hid ⟨PO1.out, P1.out.bel⟩
  have HL : Hid (a.length + n2 = n1 + n2) := Lib.hid (by have := HN1.out; omega)
  go_wp2_with (at_builtin; refine wp_appEs rfl _ _ rfl w3.heap.size _ a rfl PO1.out g2 0 n2 n2 b HN2.out rfl (HE2.out _ (HB3.out.trans (P1.out.bel.mono HB3.out.size))) (by rw [HL.out]; omega) P1.out.bel.size ?_; rw [HL.out]; intro a6 c6 w6 hown6 hg6 _; have P2 := Lib.hid (PP1.out.app hown6 hg6); clear hown6 hg6; refine Hid.out ?_)
  refine Lib.hid ?_
  have HB6 := Lib.hid (HB3.out.trans (P2.out.bel.mono HB3.out.size))
  have HNL : Hid (n1 + n2 = (a ++ b).length) := Lib.hid (by rw [List.length_append, ← HN1.out, ← HN2.out])
  have HOW : Hid (OwnE w6 w3.heap.size (.slice a6 (n1 + n2) c6) (a ++ b)) := Lib.hid (by have h := P2.out.own; simpa using h)
  have HL6 := Lib.hid (own_lieE HOW.out HNL.out HASZ.out)
  have HS := Lib.hid (l8Sort a6 (n1 + n2) c6 (a ++ b) w6 HL6.out (by omega))
  go_wp2_with (go_at_call 16; refine HS.out.mono ?_; rintro e w7 ⟨g, c, rfl, ho, hb⟩; refine Hid.out ?_)
  refine Lib.hid ?_
  have HO := Lib.hid ho
  have HB7 := Lib.hid hb
  clear ho hb
  go_wp2_with fail
  go_ret2
  have hn : n1 + n2 = (insS (a ++ b)).length := by rw [insS_len]; exact HNL.out
  rw [HD.out, HTT.out]
  refine ⟨g, n1 + n2, c, hn, rfl, (own_lowE HO.out HB6.out.size).re hn (fun m hm => HASZ.out m ((insS_perm (a ++ b)).mem_iff.1 hm)), HB6.out.trans (HB7.out.mono HB6.out.size)⟩

end Go.Proofs.Ytomloodakabcbaa.Et

namespace Go.Proofs.Ytomloodakabcbaa.Et
open Go.RowKit Go.Proofs.Ytomloodakabcbaa.Cond Go.Proofs.Ytomloodakabcbaa.Gx
set_option linter.unusedVariables false
set_option linter.unusedSimpArgs false

set_option maxRecDepth 100000 in
set_option maxHeartbeats 8000000 in
theorem walkMergeEvents (A0 A1 : Option Addr) (n0 c0 n1 c1 : Nat) (ms0 ms1 : List E) (p : Int) (w : World) (hx0 : LiE w w.heap.size A0 n0 c0 ms0) (hx1 : LiE w w.heap.size A1 n1 c1 ms1) (hl : -9223372036854775808 ≤ p) (hu : p ≤ 9223372036854775807) :
    Calls Try.prog 4 #[.slice A0 n0 c0, .slice A1 n1 c1, .int .i64 p] w fun e w' => e = .returned (.bool true) ∧ Below w.heap.size w w' := by
  have HI0 := Lib.hid hx0
  have HI1 := Lib.hid hx1
  clear hx0 hx1
  obtain ⟨t, ht⟩ := t_iff (mgOk ms0 ms1 p)
  have HV := Lib.hid ht
  have hlen3 : (if t then insS (ms0 ++ ms1) else []).length ≤ 3000 := by
    cases t
    · simp
    · have h2 := (ht.1 rfl).2.2
      simp only [if_true]; rw [insS_len, List.length_append]; omega
  clear ht
  obtain ⟨D, hD⟩ : ∃ D : List E, D = if t then insS (ms0 ++ ms1) else [] := ⟨_, rfl⟩
  obtain ⟨N, hN⟩ : ∃ N, N = D.length := ⟨_, rfl⟩
  have hN3 : N ≤ 3000 := by rw [hN, hD]; exact hlen3
  have HVD := Lib.hid hD
  have HVN := Lib.hid hN
  clear hD hN
  have HSPA : Hid (∀ (W : World) (G0 G1 : Nat), LiE W W.heap.size (some ⟨G0, 0, none⟩) n0 n0 ms0 → LiE W W.heap.size (some ⟨G1, 0, none⟩) n1 n1 ms1 → Calls Try.prog 12 #[.slice (some ⟨G0, 0, none⟩) n0 n0, .slice (some ⟨G1, 0, none⟩) n1 n1, .int .i64 p] W (EAns W.heap.size D t W)) := Lib.hid fun W G0 G1 h0 h1 => by
    have := specME G0 G1 n0 n1 ms0 ms1 p hl hu t HV.out W h0 h1
    rw [← HVD.out] at this
    exact this
  have HIMA : Hid (∀ (W : World) (G0 G1 : Nat), LiE W W.heap.size (some ⟨G0, 0, none⟩) n0 n0 ms0 → LiE W W.heap.size (some ⟨G1, 0, none⟩) n1 n1 ms1 → Calls Try.prog 13 #[.slice (some ⟨G0, 0, none⟩) n0 n0, .slice (some ⟨G1, 0, none⟩) n1 n1, .int .i64 p] W (EAns W.heap.size D t W)) := Lib.hid fun W G0 G1 h0 h1 => by
    have := implME G0 G1 n0 n1 ms0 ms1 p t HV.out W h0 h1
    rw [← HVD.out] at this
    exact this
  go_enter Try.func4, Try.ntmps4
  by_cases hz : 1048576 < n0 + wtE ms0
  · have HZ := szES A0 n0 c0 ms0 1048576 (Nat.le_refl _) w HI0.out
    rw [szRes_no hz] at HZ
    have HZH := Lib.hid HZ
    clear HZ hz
    go_wp2_with (go_at_call 5; refine HZH.out.mono ?_; rintro e wz ⟨rfl, hbz⟩)
    go_ret
    exact ⟨rfl, hbz⟩
  have HZ := szES A0 n0 c0 ms0 1048576 (Nat.le_refl _) w HI0.out
  rw [szRes_yes hz] at HZ
  have hn0 : n0 ≤ 1048576 := by omega
  obtain ⟨m1, hm1⟩ : ∃ m, m = 1048576 - (n0 + wtE ms0) := ⟨_, rfl⟩
  rw [← hm1] at HZ
  have HZH := Lib.hid HZ
  have hm0 : (0 : Int) ≤ (m1 : Int) := by omega
  have hmm : m1 ≤ 1048576 := by omega
  have HLN0 := Lib.hid HI0.out.len
  have HLN1 := Lib.hid HI1.out.len
  clear HZ hm1 hz
  go_wp2_with (go_at_call 5; refine HZH.out.mono ?_; rintro e w1 ⟨rfl, hb⟩; refine Hid.out ?_)
  refine Lib.hid ?_
  have B1 := Lib.hid hb
  clear hb HZH
  by_cases hz : m1 < n1 + wtE ms1
  · have HZ := szES A1 n1 c1 ms1 m1 hmm w1 (HI1.out.on B1.out)
    rw [szRes_no hz] at HZ
    have HZH := Lib.hid HZ
    clear HZ hz
    go_wp2_with (go_at_call 5; refine HZH.out.mono ?_; rintro e wz ⟨rfl, hbz⟩)
    go_ret
    exact ⟨rfl, B1.out.trans (hbz.mono B1.out.size)⟩
  have HZ := szES A1 n1 c1 ms1 m1 hmm w1 (HI1.out.on B1.out)
  rw [szRes_yes hz] at HZ
  have hn1 : n1 ≤ 1048576 := by omega
  obtain ⟨m2, hm2⟩ : ∃ m, m = m1 - (n1 + wtE ms1) := ⟨_, rfl⟩
  rw [← hm2] at HZ
  have HZH := Lib.hid HZ
  have hm20 : (0 : Int) ≤ (m2 : Int) := by omega
  clear HZ hm2 hz
  go_wp2_with (go_at_call 5; refine HZH.out.mono ?_; rintro e wa ⟨rfl, hb⟩; refine Hid.out ?_)
  refine Lib.hid ?_
  have Ba := Lib.hid (B1.out.trans (hb.mono B1.out.size))
  clear hb HZH
  have HT := Lib.hid (toES A0 n0 c0 ms0 wa (HI0.out.on Ba.out) hn0)
  go_wp2_with (go_at_call 7; refine HT.out.mono ?_; rintro e w2a ⟨rfl, hq, hb⟩; refine Hid.out ?_)
  refine Lib.hid ?_
  clear HT
  have B2a := Lib.hid (Ba.out.trans (hb.mono Ba.out.size))
  have L2a := Lib.hid (hq.lie HLN0.out.symm (by unfold maxLen; omega))
  generalize wa.heap.size = g1a at *
  clear hb hq
  have HT := Lib.hid (toES A1 n1 c1 ms1 w2a (HI1.out.on B2a.out) hn1)
  go_wp2_with (go_at_call 7; refine HT.out.mono ?_; rintro e w2 ⟨rfl, hq, hb⟩; refine Hid.out ?_)
  refine Lib.hid ?_
  clear HT
  have B2 := Lib.hid (B2a.out.trans (hb.mono B2a.out.size))
  have L2b := Lib.hid (hq.lie HLN1.out.symm (by unfold maxLen; omega))
  have L2 := Lib.hid (L2a.out.on hb)
  generalize w2a.heap.size = g1b at *
  clear hb hq L2a
  have HCH := Lib.hid (HSPA.out w2 g1a g1b L2.out L2b.out)
  go_wp2_with (go_at_call 12; refine HCH.out.mono ?_; intro e w3 ha; obtain ⟨gS, cS, rfl, hoS, hb⟩ := EAns.fix HVN.out ha; refine Hid.out ?_)
  refine Lib.hid ?_
  clear HCH ha
  have B3 := Lib.hid (B2.out.trans (hb.mono B2.out.size))
  have S3 : Hid (LiE w3 w3.heap.size (some ⟨gS, 0, none⟩) N cS D) := Lib.hid hoS.wr.has
  clear hb hoS L2 L2b
  have HT := Lib.hid (toES A0 n0 c0 ms0 w3 (HI0.out.on B3.out) hn0)
  go_wp2_with (go_at_call 7; refine HT.out.mono ?_; rintro e w4a ⟨rfl, hq, hb⟩; refine Hid.out ?_)
  refine Lib.hid ?_
  clear HT
  have K4a : Hid (Below w3.heap.size w3 w4a) := Lib.hid hb
  have Y4a := Lib.hid hq
  have HGa : Hid (w3.heap.size < w4a.heap.size) := Lib.hid hq.blk.lt
  obtain ⟨ga, hga⟩ : ∃ g, g = w3.heap.size := ⟨_, rfl⟩
  rw [← hga] at Y4a HGa
  rw [← hga]
  have HG3a := Lib.hid hga
  have B4a := Lib.hid (B3.out.trans (hb.mono B3.out.size))
  clear hb hq hga
  have HT := Lib.hid (toES A1 n1 c1 ms1 w4a (HI1.out.on B4a.out) hn1)
  go_wp2_with (go_at_call 7; refine HT.out.mono ?_; rintro e w4 ⟨rfl, hq, hb⟩; refine Hid.out ?_)
  refine Lib.hid ?_
  clear HT
  have K4 : Hid (Below w3.heap.size w3 w4) := Lib.hid (K4a.out.trans (hb.mono K4a.out.size))
  have YA4 := Lib.hid (Y4a.out.on hb)
  have YB4 := Lib.hid hq
  have HGb : Hid (w4a.heap.size < w4.heap.size) := Lib.hid hq.blk.lt
  obtain ⟨gb, hgb⟩ : ∃ g, g = w4a.heap.size := ⟨_, rfl⟩
  rw [← hgb] at YB4 HGb HGa
  rw [← hgb]
  have HG3b : Hid (w3.heap.size ≤ gb) := Lib.hid (by have h1 := HGa.out; have h2 := HG3a.out; omega)
  clear hb hq hgb K4a Y4a
  have HCH := Lib.hid (HIMA.out w4 ga gb (YA4.out.lie HLN0.out.symm (by unfold maxLen; omega)) (YB4.out.lie HLN1.out.symm (by unfold maxLen; omega)))
  go_wp2_with (go_at_call 13; refine HCH.out.mono ?_; intro e w5 ha; obtain ⟨gI, cI, rfl, hoI, hb⟩ := EAns.fix HVN.out ha; refine Hid.out ?_)
  refine Lib.hid ?_
  clear HCH ha
  have K5 := Lib.hid (K4.out.trans (hb.mono K4.out.size))
  have YA5 := Lib.hid (YA4.out.on hb)
  have YB5 := Lib.hid (YB4.out.on hb)
  have I5 := Lib.hid hoI
  have HGI : Hid (w4.heap.size ≤ gI) := Lib.hid hoI.ge
  clear hb hoI K4 YA4 YB4
  cases t
  all_goals
    have HEQ := Lib.hid (eqES (some ⟨gI, 0, none⟩) (some ⟨gS, 0, none⟩) N cI cS D w5 (by omega) I5.out.wr.has ((S3.out.below K5.out).more K5.out.size))
    go_wp2_with (go_at_call 9; refine HEQ.out.mono ?_; rintro e w6 ⟨rfl, hbq⟩; refine Hid.out ?_)
    refine Lib.hid ?_
    clear HEQ
    have K6 := Lib.hid (K5.out.trans (hbq.mono K5.out.size))
    have YA6 := Lib.hid (YA5.out.on hbq)
    have YB6 := Lib.hid (YB5.out.on hbq)
    have I6 := Lib.hid (I5.out.on hbq)
    clear hbq K5 YA5 YB5 I5
    have B6 := Lib.hid (B3.out.trans (K6.out.mono B3.out.size))
    have HTX := Lib.hid fun v (hv : Below w6.heap.size w6 v) => toES A0 n0 c0 ms0 v (HI0.out.on (B6.out.trans (hv.mono B6.out.size))) hn0
    have HEQ : Hid (∀ v wa g, Below w6.heap.size w6 wa → RwE wa g n0 ms0 → Below wa.heap.size wa v → Calls Try.prog 9 #[.slice (some ⟨ga, 0, none⟩) n0 n0, .slice (some ⟨g, 0, none⟩) n0 n0] v fun e w' => e = .returned (.bool true) ∧ Below v.heap.size v w') :=
      Lib.hid fun v wa g hx hz hv => eqES _ _ n0 n0 n0 ms0 v hn0 ((((YA6.out.on hx).lie HLN0.out.symm (by unfold maxLen; omega))).on hv) ((hz.lie HLN0.out.symm (by unfold maxLen; omega)).on hv)
    go_wp2_with (first
      | (go_at_call 7; refine (HTX.out _ (by (repeat (first | exact Below.refl _ _ | apply Below.drew)))).mono ?_; rintro e wa ⟨rfl, hq, hb⟩; have b1 : Below w6.heap.size w6 wa := Below.trans (by (repeat (first | exact Below.refl _ _ | apply Below.drew))) (hb.mono (by first | omega | (simp; done) | (simp; omega))); have NA := Lib.hid hq; clear hb hq)
      | (go_at_call 9; refine (HEQ.out _ _ _ b1 NA.out (by (repeat (first | exact Below.refl _ _ | apply Below.drew)))).mono ?_; rintro e w7a ⟨rfl, hb⟩; have b2 : Below w6.heap.size w6 w7a := b1.trans ((Below.trans (by (repeat (first | exact Below.refl _ _ | apply Below.drew))) hb).mono (by first | exact b1.size | (have := b1.size; simp; omega))); clear hb; refine Hid.out ?_))
    refine Lib.hid ?_
    have K7a := Lib.hid (K6.out.trans (b2.mono K6.out.size))
    have YA7a := Lib.hid (YA6.out.on b2)
    have YB7a := Lib.hid (YB6.out.on b2)
    have I7a := Lib.hid (I6.out.on b2)
    clear b1 b2 NA K6 YA6 YB6 I6 B6 HTX HEQ
    have B7a := Lib.hid (B3.out.trans (K7a.out.mono B3.out.size))
    have HTX := Lib.hid fun v (hv : Below w7a.heap.size w7a v) => toES A1 n1 c1 ms1 v (HI1.out.on (B7a.out.trans (hv.mono B7a.out.size))) hn1
    have HEQ : Hid (∀ v wa g, Below w7a.heap.size w7a wa → RwE wa g n1 ms1 → Below wa.heap.size wa v → Calls Try.prog 9 #[.slice (some ⟨gb, 0, none⟩) n1 n1, .slice (some ⟨g, 0, none⟩) n1 n1] v fun e w' => e = .returned (.bool true) ∧ Below v.heap.size v w') :=
      Lib.hid fun v wa g hx hz hv => eqES _ _ n1 n1 n1 ms1 v hn1 ((((YB7a.out.on hx).lie HLN1.out.symm (by unfold maxLen; omega))).on hv) ((hz.lie HLN1.out.symm (by unfold maxLen; omega)).on hv)
    go_wp2_with (first
      | (go_at_call 7; refine (HTX.out _ (by (repeat (first | exact Below.refl _ _ | apply Below.drew)))).mono ?_; rintro e wa ⟨rfl, hq, hb⟩; have b1 : Below w7a.heap.size w7a wa := Below.trans (by (repeat (first | exact Below.refl _ _ | apply Below.drew))) (hb.mono (by first | omega | (simp; done) | (simp; omega))); have NA := Lib.hid hq; clear hb hq)
      | (go_at_call 9; refine (HEQ.out _ _ _ b1 NA.out (by (repeat (first | exact Below.refl _ _ | apply Below.drew)))).mono ?_; rintro e w7b ⟨rfl, hb⟩; have b2 : Below w7a.heap.size w7a w7b := b1.trans ((Below.trans (by (repeat (first | exact Below.refl _ _ | apply Below.drew))) hb).mono (by first | exact b1.size | (have := b1.size; simp; omega))); clear hb; refine Hid.out ?_))
    refine Lib.hid ?_
    have K7b := Lib.hid (K7a.out.trans (b2.mono K7a.out.size))
    have YA7b := Lib.hid (YA7a.out.on b2)
    have YB7b := Lib.hid (YB7a.out.on b2)
    have I7b := Lib.hid (I7a.out.on b2)
    clear b1 b2 NA K7a YA7a YB7a I7a B7a HTX HEQ
    have hmk1 := markES (some ⟨ga, 0, none⟩) n0 n0 ms0 1 w7b (Nat.le_refl _) (by omega) (YA7b.out.wre HLN0.out.symm (by unfold maxLen; omega))
    obtain ⟨mq, hmq⟩ : ∃ m, m = 1 + 4 * n0 := ⟨_, rfl⟩
    rw [← hmq] at hmk1
    have hmq0 : (0 : Int) ≤ (mq : Int) := by omega
    have HMQ : Hid (1 ≤ mq ∧ mq ≤ 5000000) := Lib.hid (by omega)
    have HMK := Lib.hid hmk1
    clear hmk1 hmq
    go_wp2_with (go_at_call 10; refine HMK.out.mono ?_; rintro e w8a ⟨rfl, hlm, hmv⟩; refine Hid.out ?_)
    refine Lib.hid ?_
    have K8a : Hid (Below w3.heap.size w3 w8a) := Lib.hid (K7b.out.trans (Mv.belowF hmv (Nat.le_of_eq HG3a.out.symm) K7b.out.size))
    have I8a := Lib.hid (I7b.out.mv hmv (fun h => by have := front_one h; have := HGI.out; have := HGa.out; have := HGb.out; omega))
    have YB8a := Lib.hid (YB7b.out.alike (hmv.block gb YB7b.out.blk.lt (fun h => by have := front_one h; have := HGa.out; omega)))
    clear hlm hmv HMK K7b YA7b YB7b I7b
    have hmk1 := markES (some ⟨gb, 0, none⟩) n1 n1 ms1 mq w8a HMQ.out.1 (by have := HMQ.out; omega) (YB8a.out.wre HLN1.out.symm (by unfold maxLen; omega))
    obtain ⟨mr, hmr⟩ : ∃ m, m = mq + 4 * n1 := ⟨_, rfl⟩
    rw [← hmr] at hmk1
    have hmr0 : (0 : Int) ≤ (mr : Int) := by omega
    have HMK := Lib.hid hmk1
    clear hmk1 hmr
    go_wp2_with (go_at_call 10; refine HMK.out.mono ?_; rintro e w8 ⟨rfl, hlm, hmv⟩; refine Hid.out ?_)
    refine Lib.hid ?_
    have K8 : Hid (Below w3.heap.size w3 w8) := Lib.hid (K8a.out.trans (Mv.belowF hmv HG3b.out K8a.out.size))
    have I8 := Lib.hid (I8a.out.mv hmv (fun h => by have := front_one h; have := HGI.out; have := HGb.out; omega))
    clear hlm hmv HMK K8a YB8a I8a
    have HEQ := Lib.hid (eqES (some ⟨gI, 0, none⟩) (some ⟨gS, 0, none⟩) N cI cS D w8 (by omega) I8.out.wr.has ((S3.out.below K8.out).more K8.out.size))
    go_wp2_with (go_at_call 9; refine HEQ.out.mono ?_; rintro e w9 ⟨rfl, hbq⟩; refine Hid.out ?_)
    refine Lib.hid ?_
    clear HEQ
    have K9 := Lib.hid (K8.out.trans (hbq.mono K8.out.size))
    have I9 := Lib.hid (I8.out.on hbq)
    clear hbq K8 I8
    have HG3I : Hid (w3.heap.size ≤ gI) := Lib.hid (by have := HGI.out; have := HGb.out; have := HG3b.out; omega)
    have hmi := markES (some ⟨gI, 0, none⟩) N cI D 1 w9 (Nat.le_refl _) (by omega) I9.out.wr
    obtain ⟨mp, hmp⟩ : ∃ m, m = 1 + 4 * N := ⟨_, rfl⟩
    have HMP : Hid (∀ v, LiE v v.heap.size (some ⟨gI, 0, none⟩) N cI (mkR 1 N) → Calls Try.prog 11 #[.slice (some ⟨gI, 0, none⟩) N cI, .int .i64 ((1 : Nat) : Int)] v fun e w' => e = .returned (.int .i64 (mp : Int)) ∧ Below v.heap.size v w') := Lib.hid fun v hv => by
      rw [hmp]; exact heldES (some ⟨gI, 0, none⟩) N cI 1 v (Nat.le_refl _) (by omega) hv
    rw [← hmp] at hmi
    have hmp0 : (0 : Int) ≤ (mp : Int) := by omega
    have HMI := Lib.hid hmi
    clear hmi hmp
    go_wp2_with (go_at_call 10; refine HMI.out.mono ?_; rintro e w10 ⟨rfl, hlm, hmv⟩; refine Hid.out ?_)
    refine Lib.hid ?_
    have K10 := Lib.hid (K9.out.trans (Mv.belowF hmv HG3I.out K9.out.size))
    have I10 := Lib.hid hlm
    clear hlm hmv HMI K9 I9
    have HHI := Lib.hid (HMP.out w10 I10.out)
    go_wp2_with (go_at_call 11; refine HHI.out.mono ?_; rintro e w11 ⟨rfl, hbq⟩; refine Hid.out ?_)
    refine Lib.hid ?_
    clear HHI
    have I11 := Lib.hid (I10.out.on hbq)
    have K11 := Lib.hid (K10.out.trans (hbq.mono K10.out.size))
    clear hbq K10 I10
    have B11 := Lib.hid (B3.out.trans (K11.out.mono B3.out.size))
    have HT := Lib.hid (toES A0 n0 c0 ms0 w11 (HI0.out.on B11.out) hn0)
    go_wp2_with (go_at_call 7; refine HT.out.mono ?_; rintro e w12a ⟨rfl, hq, hb⟩; refine Hid.out ?_)
    refine Lib.hid ?_
    clear HT
    have K12a := Lib.hid (K11.out.trans (hb.mono K11.out.size))
    have I12a := Lib.hid (I11.out.on hb)
    have L12a := Lib.hid (hq.lie HLN0.out.symm (by unfold maxLen; omega))
    have B12a := Lib.hid (B11.out.trans (hb.mono B11.out.size))
    generalize w11.heap.size = g11a at *
    clear hb hq K11 I11
    have HT := Lib.hid (toES A1 n1 c1 ms1 w12a (HI1.out.on B12a.out) hn1)
    go_wp2_with (go_at_call 7; refine HT.out.mono ?_; rintro e w12 ⟨rfl, hq, hb⟩; refine Hid.out ?_)
    refine Lib.hid ?_
    clear HT
    have K12 := Lib.hid (K12a.out.trans (hb.mono K12a.out.size))
    have I12 := Lib.hid (I12a.out.on hb)
    have L12b := Lib.hid (hq.lie HLN1.out.symm (by unfold maxLen; omega))
    have L12 := Lib.hid (L12a.out.on hb)
    generalize w12a.heap.size = g11b at *
    clear hb hq K12a I12a L12a
    have HCH := Lib.hid (HIMA.out w12 g11a g11b L12.out L12b.out)
    go_wp2_with (go_at_call 13; refine HCH.out.mono ?_; intro e w13 ha; obtain ⟨gH, cH, rfl, hoH, hb⟩ := EAns.fix HVN.out ha; refine Hid.out ?_)
    refine Lib.hid ?_
    clear HCH ha
    have K13 := Lib.hid (K12.out.trans (hb.mono K12.out.size))
    have I13 := Lib.hid (I12.out.on hb)
    have H13 := Lib.hid hoH
    clear hb hoH K12 I12 L12 L12b
    have HEQ := Lib.hid (eqES (some ⟨gH, 0, none⟩) (some ⟨gS, 0, none⟩) N cH cS D w13 (by omega) H13.out.wr.has ((S3.out.below K13.out).more K13.out.size))
    go_wp2_with (go_at_call 9; refine HEQ.out.mono ?_; rintro e w14 ⟨rfl, hbq⟩; refine Hid.out ?_)
    refine Lib.hid ?_
    clear HEQ
    have K14 := Lib.hid (K13.out.trans (hbq.mono K13.out.size))
    have I14 := Lib.hid (I13.out.on hbq)
    clear hbq K13 I13 H13
    have HHI := Lib.hid (HMP.out w14 I14.out)
    go_wp2_with (go_at_call 11; refine HHI.out.mono ?_; rintro e w15 ⟨rfl, hbq⟩)
    go_ret
    exact ⟨rfl, (B3.out.trans (K14.out.mono B3.out.size)).trans (hbq.mono (B3.out.trans (K14.out.mono B3.out.size)).size)⟩

end Go.Proofs.Ytomloodakabcbaa.Et

namespace Go.Proofs.Ytomloodakabcbaa.fnExactMergeEvents
open Go.ChangeShapes Go.WideShapes Go.ChangeAt Go.RowKit Go.Joins
open Go.ChangeMaps (open_string shut_string)
set_option linter.unusedVariables false

theorem own : ownKnob Try.prog.godebug = none := by kernel_rfl
theorem laidOut : laidOutB Try.prog = true := by kernel_rfl

set_option maxRecDepth 100000 in
theorem lifted (os : Os) (started : os.Started) (H : Type) (enc : TypeId × Value → H) :
    ReturnsInHanded {} Try.checked os 4 .any (Rows.fnExactMergeEventsSpec.pre6 enc Try.prog Try.f4 Rows.fnExactMergeEventsRow.domain false) (Rows.fnExactMergeEventsSpec.post enc Try.prog Try.f4 false true false false) := by
  refine returnsInHanded_of_change (C := Try.checked) own started (by kernel_rfl) Try.func4
    (ChangeSpec.witness6 (enc := enc) (C := Try.checked) false ⟨#[], #[.slice none 0 0, .slice none 0 0, .int .i64 0], []⟩ 8 (by kernel_rfl) (by kernel_rfl) (by kernel_rfl) (by kernel_rfl)) ?_
  intro W base args ds gs before hval0 hW hcnd _
  have hval : ∀ (j : Nat) t v, Try.f4.params[j]? = some t → args[j]? = some v → Value.okWide Try.prog W .any base t v := hval0
  have hW' := hW
  obtain ⟨p, q, hA0, hV, rfl, hfz, hnd⟩ := hW
  have hA : DataW.TrodAll enc Try.prog W 0 (fun _ => true) true Try.f4.params.toList args.toList ds p := hA0
  rw [Try.params4] at hA hval
  obtain ⟨v0, vs0, d0, ds0, p0, q0, hargs, rfl, rfl, h0, r0⟩ := trodAll_cons hA
  obtain ⟨v1, vs1, d1, ds1, p1, q1, rfl, rfl, rfl, h1, r1⟩ := trodAll_cons r0
  obtain ⟨v2, vs2, d2, ds2, p2, q2, rfl, rfl, rfl, h2, r2⟩ := trodAll_cons r1
  obtain ⟨rfl, rfl, rfl⟩ := trodAll_nil r2
  obtain rfl : args = #[v0, v1, v2] := by cases args; simp_all
  obtain ⟨rfl, rfl⟩ := trodVars_none hV
  have kk0 := h0
  have lt0 : ∀ x ∈ p0, x.block < W.heap.size := by obtain ⟨m, hm⟩ := kk0; exact DataW.trod_lt m _ _ _ hm
  obtain ⟨a0, len0, cap0, xs0, rfl, hx0⟩ := Et.openEvs (hval 0 22 v0 rfl rfl) h0
  clear h0
  have kk1 := h1
  have lt1 : ∀ x ∈ p1, x.block < W.heap.size := by obtain ⟨m, hm⟩ := kk1; exact DataW.trod_lt m _ _ _ hm
  obtain ⟨a1, len1, cap1, xs1, rfl, hx1⟩ := Et.openEvs (hval 1 22 v1 rfl rfl) h1
  clear h1
  obtain ⟨a2, rfl, rfl, rfl, w2⟩ := open_int Try.underlying3 (hval 2 3 v2 rfl rfl) h2
  clear hA0
  refine (Et.walkMergeEvents a0 a1 len0 cap0 len1 cap1 xs0 xs1 a2 W hx0 hx1 (Et.wfI w2).1 (Et.wfI w2).2).mono fun e W' ⟨he, bel⟩ => ?_
  subst he
  exact ⟨_, rfl, _, _, _, [], _, [], hW', trodAll_mk1 (shut_bool Try.underlying4 _), (trodAll_cons_mk (Below.trod laidOut (by kernel_rfl) (of_decide_eq_true (by kernel_rfl)) kk0 bel lt0) (trodAll_cons_mk (Below.trod laidOut (by kernel_rfl) (of_decide_eq_true (by kernel_rfl)) kk1 bel lt1) (trodAll_cons_mk (shut_int Try.underlying3 w2) trodAll_mk0))), rfl, bel.frame _, fun h => by cases h⟩

theorem proved : Rows.FnExactMergeEventsSaid :=
  OpenClaim.holds_of_wide 4 Try.f4 rfl rfl rfl rfl rfl rfl rfl ⟨rfl, rfl, rfl, rfl, rfl⟩ rfl rfl rfl rfl rfl (by kernel_rfl) Try.func4 (by kernel_rfl)
    (of_decide_eq_true (by kernel_rfl)) (by unfold Func.isWrapper; first | (rw [if_pos (by decide +kernel)]; kernel_rfl) | (rw [if_neg (by decide +kernel)]; exact ⟨rfl, rfl⟩))
    (fun os started H enc _ => lifted os started H enc)
end Go.Proofs.Ytomloodakabcbaa.fnExactMergeEvents
