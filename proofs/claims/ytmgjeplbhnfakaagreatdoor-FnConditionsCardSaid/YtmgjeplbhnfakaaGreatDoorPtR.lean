/-
  Rows of pairs of conditions that a call makes by append and cuts at the end.
-/
import Derived.Test.YtmgjeplbhnfakaaGreatDoorCRow
import Derived.Test.YtmgjeplbhnfakaaGreatDoorGx
import Derived.Test.YtmgjeplbhnfakaaGreatDoorPtK
import Derived.Test.YtmgjeplbhnfakaaGreatDoorSmQ
import Derived.Test.YtmgjeplbhnfakaaGreatDoorCoMk
namespace Go.Proofs.YtmgjeplbhnfakaaGreatDoor.PtR
open Go.RowKit Go.Proofs.YtmgjeplbhnfakaaGreatDoor.Cond
set_option linter.unusedVariables false
set_option linter.unusedSimpArgs false

def pc (p : K × K) : List Value := p.1.cells ++ p.2.cells
theorem pc_len (p : K × K) : (pc p).length = 8 := by simp [pc, K.cells]
theorem one_pc (p : K × K) : ∀ u ∈ pc p, u.oneCell' = true := fun u hu => by
  rcases List.mem_append.1 hu with h | h
  · exact one_cells _ u h
  · exact one_cells _ u h
abbrev OwnP (w : World) (S : Nat) (v : Value) (ps : List (K × K)) : Prop := w.ownsRow S 82 8 v ps.length (Gx.flat pc ps)
theorem infoP : (Tryz.prog.info? 82).map (fun i => (i.zero, i.size, i.bytes)) = some (some (.agg #[.int .i64 0, .string ByteArray.empty, .int .i64 0, .slice none 0 0, .int .i64 0, .string ByteArray.empty, .int .i64 0, .slice none 0 0]), 8, 112) := by kernel_rfl
theorem ownP_form {S : Nat} {w : World} {v : Value} {n : Nat} {xs : List Value} (h : w.ownsRow S 82 8 v n xs) : ∃ a c, v = .slice a n c := by
  rcases h.2 with ⟨hv, h0⟩ | ⟨g', c, cur, hv, _⟩
  · exact ⟨none, 0, by rw [hv, h0]⟩
  · exact ⟨_, c, hv⟩
theorem run_appP (u : World) (S : Nat) (ty : TypeId) (v : Value) (ps : List (K × K)) (h : OwnP u S v ps) (g c : Nat) (p : K × K) (he : Gx.El u g 0 (pc p)) (hl : ps.length + 1 ≤ 3000000) (hS : S ≤ u.heap.size) :
    ∃ a3 c3 w1, (Builtin.append_ #[83, 83] ty #[v, .slice (some ⟨g, 0, none⟩) 1 c]).run Tryz.prog u = .ok (.slice a3 (ps.length + 1) c3) w1 ∧ OwnP w1 S (.slice a3 (ps.length + 1) c3) (ps ++ [p]) ∧ u.grownBy w1 v.ownBlock ∧
      ((Value.slice a3 (ps.length + 1) c3).ownBlock = v.ownBlock ∨ (Value.slice a3 (ps.length + 1) c3).ownBlock = some u.heap.size) := by
  obtain ⟨i0, hi, hz0, hz1, hz2⟩ := info_parts infoP
  obtain ⟨v', w', hr, h2, h3, _, h5⟩ := run_append_own_at (P := Tryz.prog) u S 83 ty 82 i0 _ 8 112 Tryz.underlying83 hi hz0 hz1 hz2 rfl (by decide) v ps.length (Gx.flat pc ps) h ⟨g, 0, none⟩ 1 c (pc p) (by rw [pc_len])
    (fun j u' hu => by
      have hj : j < (pc p).length := by
        rcases Nat.lt_or_ge j (pc p).length with h | h
        · exact h
        · rw [List.getElem?_eq_none h] at hu; cases hu
      have h1 := he j hj
      rw [List.getElem?_eq_getElem hj] at hu
      have hu2 := Option.some.inj hu
      rw [← hu2]
      rw [Nat.zero_add] at h1
      have h2 : (⟨g, 0, none⟩ : Addr).add j = ⟨g, j, none⟩ := by
        unfold Addr.add
        split
        · rename_i e; subst e; rfl
        · simp
      rw [h2]
      exact h1) (one_pc p) (by unfold maxLen; omega) (by omega) hS
  obtain ⟨a3, c3, rfl⟩ := ownP_form h2
  exact ⟨a3, c3, w', hr, by unfold OwnP; rw [Gx.flat_app, Gx.flat_one, List.length_append]; exact h2, h3, h5⟩
theorem step_appP {u : World} {ops : Array Oper} {o : Oper} {a : Act} {K : Act → World → Prop} {Q : Exit → Act → World → Prop} {E : Prop} (hgd : o.guard = none) (s x : Operand)
    (ho : o.op = .call { callee := .builtin .append, args := #[s, x], argTypes := #[83, 83] }) (S : Nat) (v : Value) (ps : List (Cond.K × Cond.K)) (hs : a.eval s = v) (h : OwnP u S v ps) (g c : Nat) (p : Cond.K × Cond.K) (hx : a.eval x = .slice (some ⟨g, 0, none⟩) 1 c) (he : Gx.El u g 0 (pc p)) (hl : ps.length + 1 ≤ 3000000) (hS : S ≤ u.heap.size)
    (hK : ∀ a3 c3 w1, OwnP w1 S (.slice a3 (ps.length + 1) c3) (ps ++ [p]) → u.grownBy w1 v.ownBlock → ((Value.slice a3 (ps.length + 1) c3).ownBlock = v.ownBlock ∨ (Value.slice a3 (ps.length + 1) c3).ownBlock = some u.heap.size) → K (a.put o.dst (.slice a3 (ps.length + 1) c3)) w1) :
    if Region.wanted o (yielded ops a.tmps) = true then Oper.wp Tryz.prog o a u K Q else E := by
  have hw : Region.wanted o (yielded ops a.tmps) = true := by simp [Region.wanted, hgd]
  rw [if_pos hw]
  obtain ⟨a3, c3, w1, hr, h2, h3, h5⟩ := run_appP u S o.type v ps h g c p he hl hS
  unfold Oper.wp execOp
  simp only [ho, resolve, invoke, builtin, Sem.run_bind, Sem.run_pure, Result.andThen_ok, List.map_toArray, List.map_cons, List.map_nil, hs, hx, hr]
  exact hK a3 c3 w1 h2 h3 h5
theorem takeP {w : World} {S c : Nat} {a : Option Addr} {n : Nat} {ps : List (K × K)} {p : K × K} (hn : n = ps.length + 1) (h : w.ownsRow S 82 8 (.slice a n c) n (Gx.flat pc (ps ++ [p]))) : OwnP w S (.slice a ps.length c) ps := by
  subst hn
  have hfl : (Gx.flat pc ps).length = ps.length * 8 := Gx.flat_len pc_len ps
  refine ⟨hfl, ?_⟩
  rcases h.2 with ⟨_, h0⟩ | ⟨g, cap, cur, hv, hS, hh, hnc, hcm, hcs, htk⟩
  · omega
  · injection hv with h1 h2 h3
    subst h1; subst h3
    refine .inr ⟨g, c, cur, rfl, hS, hh, by omega, hcm, hcs, ?_⟩
    have h4 := congrArg (List.take (ps.length * 8)) htk
    rw [List.take_take, Nat.min_eq_left (by omega), Gx.flat_app, List.take_left' hfl] at h4
    exact h4

/-- The blocks of the first conditions of the pairs that wait. -/
def FB (ps : List (K × K)) : List Nat := ps.flatMap fun p => p.1.blocks
def SZ (ps : List (K × K)) : Nat := (ps.map fun p => p.1.cond.size).sum
theorem FB_app (ps qs : List (K × K)) : FB (ps ++ qs) = FB ps ++ FB qs := by simp [FB]
theorem SZ_app (ps qs : List (K × K)) : SZ (ps ++ qs) = SZ ps + SZ qs := by simp [SZ]
theorem SZ_len (ps : List (K × K)) : ps.length ≤ SZ ps := by
  induction ps with
  | nil => simp
  | cons p ps ih =>
    have := C.size_pos p.1.cond
    simp only [SZ, List.map_cons, List.sum_cons, List.length_cons] at ih ⊢
    omega
theorem FB_zip : ∀ (xs ys : List K), xs.length = ys.length → FB (xs.zip ys) = blocks xs
  | [], ys, h => by simp [FB, blocks]
  | x :: xs, [], h => by simp at h
  | x :: xs, y :: ys, h => by
    have := FB_zip xs ys (by simpa using h)
    simp only [FB, List.zip_cons_cons, List.flatMap_cons, blocks] at this ⊢
    rw [this]
theorem SZ_zip : ∀ (xs ys : List K), xs.length = ys.length → SZ (xs.zip ys) = sizes (conds xs)
  | [], ys, h => by simp [SZ, sizes, conds]
  | x :: xs, [], h => by simp at h
  | x :: xs, y :: ys, h => by
    have := SZ_zip xs ys (by simpa using h)
    simp only [SZ, List.zip_cons_cons, List.map_cons, List.sum_cons, sizes, conds] at this ⊢
    rw [this]
theorem same_zip : ∀ (xs ys : List K), xs.length = ys.length → sameL (conds xs) (conds ys) = (xs.zip ys).all fun p => sameC p.1.cond p.2.cond
  | [], [], h => by simp [sameL, conds]
  | [], y :: ys, h => by simp at h
  | x :: xs, [], h => by simp at h
  | x :: xs, y :: ys, h => by
    have := same_zip xs ys (by simpa using h)
    simp only [conds, sameL, List.zip_cons_cons, List.all_cons]
    rw [this]
theorem same_len : ∀ (xs ys : List K), xs.length ≠ ys.length → sameL (conds xs) (conds ys) = false
  | [], [], h => absurd rfl h
  | [], y :: ys, h => by simp [sameL, conds]
  | x :: xs, [], h => by simp [sameL, conds]
  | x :: xs, y :: ys, h => by
    have := same_len xs ys (fun e => h (by simp [e]))
    simp only [conds, sameL]
    rw [this, Bool.and_false]
theorem In_cells {w : World} {k : K} (h : k.In w) : ∀ b ∈ k.blocks, ∃ arr T fz, w.heap[b]? = some (.cells arr T fz) := by
  induction k using K.ind with
  | h op nm day A cap ps ih =>
    intro b hb
    obtain ⟨h1, _, h2⟩ := h
    simp only [K.blocks, List.mem_append] at hb
    rcases hb with hb | hb
    · cases ps with
      | nil => cases A <;> simp at hb
      | cons p ps =>
        obtain ⟨b', o, rfl, he⟩ := h1 (by simp)
        simp only [List.mem_singleton] at hb
        subst hb
        have hc := (he 0 (by simp)).c0
        unfold World.cell? at hc
        split at hc
        · rename_i arr T fz e
          exact ⟨arr, T, fz, e⟩
        · cases hc
    · obtain ⟨p, hp, hb'⟩ := blocks_mem.1 hb
      exact ih p hp (ins_mem.1 h2 p hp) b hb'
theorem wr_cb {w : World} {k : K} (h : Wr w k) : ∀ b ∈ k.blocks, PtK.Fre w b := fun b hb => ⟨In_cells h.has b hb, fun o => h.fz b hb o⟩

end Go.Proofs.YtmgjeplbhnfakaaGreatDoor.PtR
