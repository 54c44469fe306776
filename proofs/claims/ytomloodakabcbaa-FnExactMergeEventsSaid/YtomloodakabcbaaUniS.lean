/-
  The union of two ascending lists, as the model makes it: l1Own, l1Put, l4Union.
-/
import Derived.Test.YtomloodakabcbaaUniMath
import Derived.Test.YtomloodakabcbaaIRow
import Derived.Maps.AppendAt
import Derived.Laws.OwnMore
import Derived.Deep.RegionLaw
namespace Go.Proofs.Ytomloodakabcbaa.UniS
open Go.RowKit Go.Proofs.Ytomloodakabcbaa.IRow Go.Proofs.Ytomloodakabcbaa.Biz Go.Proofs.Ytomloodakabcbaa.UniMath
set_option linter.unusedVariables false
set_option linter.unusedSimpArgs false

abbrev Own (w : World) (S : Nat) (v : Value) (D : List Int) : Prop := w.ownsRow S 3 1 v D.length (D.map (Value.int .i64))

theorem one_ints (zs : List Int) : ∀ u ∈ zs.map (Value.int .i64), u.oneCell' = true := fun u hu => by
  obtain ⟨q, _, rfl⟩ := List.mem_map.1 hu
  rfl

theorem own_form {S : Nat} {w : World} {v : Value} {n : Nat} {xs : List Value} (h : w.ownsRow S 3 1 v n xs) : ∃ a c, v = .slice a n c := by
  rcases h.2 with ⟨hv, h0⟩ | ⟨g', c, cur, hv, _⟩
  · exact ⟨none, 0, by rw [hv, h0]⟩
  · exact ⟨_, c, hv⟩

/-- A row of ints that the call owns, and a slice of ints behind it. -/
theorem app_run (u : World) (S : Nat) (ty : TypeId) (v : Value) (D : List Int) (h : Own u S v D) (A : Option Addr) (m c B : Nat) (zs : List Int) (hm : m = zs.length) (hI : Is u B A zs) (hc : A = none → c = 0) (hl : D.length + m ≤ 1000000) (hS : S ≤ u.heap.size) :
    ∃ a3 c3 w1, (Builtin.append_ #[109, 109] ty #[v, .slice A m c]).run Try.prog u = .ok (.slice a3 (D.length + m) c3) w1 ∧ Own w1 S (.slice a3 (D.length + m) c3) (D ++ zs) ∧ u.grownBy w1 v.ownBlock ∧
      ((Value.slice a3 (D.length + m) c3).ownBlock = v.ownBlock ∨ (Value.slice a3 (D.length + m) c3).ownBlock = some u.heap.size) := by
  subst hm
  obtain ⟨i0, hi, hz0, hz1, hz2⟩ := info_parts infoInt
  cases A with
  | none =>
    have hz : zs = [] := Classical.byContradiction fun e => by
      obtain ⟨ad, e', _⟩ := hI (List.length_pos_iff.2 e)
      cases e'
    subst hz
    rw [hc rfl]
    obtain ⟨a3, c3, e⟩ := own_form h
    refine ⟨a3, c3, u, ?_, ?_, ⟨rfl, rfl, rfl, Nat.le_refl _, fun _ _ _ => rfl⟩, Or.inl ?_⟩
    · have := run_append_owned_none (P := Try.prog) (w := u) S 109 ty 3 i0 1 Try.underlying109 hi v _ _ h
      rw [List.length_nil, this, e, Nat.add_zero]
    · rw [e] at h; unfold Own; simpa using h
    · rw [e]; simp
  | some ad =>
    obtain ⟨v', w', hr, h2, h3, _, h5⟩ := run_append_own_at (P := Try.prog) u S 109 ty 3 i0 (.int .i64 0) 1 8 Try.underlying109 hi hz0 hz1 hz2 rfl (by decide) v D.length (D.map (Value.int .i64)) h ad zs.length c (zs.map (Value.int .i64)) (by simp)
      (fun j u' hu => by
        have hj : j < zs.length := by
          rcases Nat.lt_or_ge j zs.length with h | h
          · exact h
          · rw [List.getElem?_eq_none (by simpa using h)] at hu; cases hu
        obtain ⟨ad', e', _, hcell⟩ := hI (by omega)
        cases e'
        rw [hcell j hj]
        simpa [hj] using hu) (one_ints zs) (by unfold maxLen; omega) (by omega) hS
    obtain ⟨a3, c3, rfl⟩ := own_form h2
    exact ⟨a3, c3, w', hr, by unfold Own; simpa using h2, h3, h5⟩

theorem step_app {u : World} {ops : Array Oper} {o : Oper} {a : Act} {K : Act → World → Prop} {Q : Exit → Act → World → Prop} {E : Prop} (hgd : o.guard = none) (s x : Operand)
    (ho : o.op = .call { callee := .builtin .append, args := #[s, x], argTypes := #[109, 109] }) (S : Nat) (v : Value) (D : List Int) (hs : a.eval s = v) (h : Own u S v D) (A : Option Addr) (m c B : Nat) (zs : List Int) (hx : a.eval x = .slice A m c) (hm : m = zs.length) (hI : Is u B A zs) (hc : A = none → c = 0) (hl : D.length + m ≤ 1000000) (hS : S ≤ u.heap.size)
    (hK : ∀ a3 c3 w1, Own w1 S (.slice a3 (D.length + m) c3) (D ++ zs) → u.grownBy w1 v.ownBlock → ((Value.slice a3 (D.length + m) c3).ownBlock = v.ownBlock ∨ (Value.slice a3 (D.length + m) c3).ownBlock = some u.heap.size) → K (a.put o.dst (.slice a3 (D.length + m) c3)) w1) :
    if Region.wanted o (yielded ops a.tmps) = true then Oper.wp Try.prog o a u K Q else E := by
  have hw : Region.wanted o (yielded ops a.tmps) = true := by simp [Region.wanted, hgd]
  rw [if_pos hw]
  obtain ⟨a3, c3, w1, hr, h2, h3, h5⟩ := app_run u S o.type v D h A m c B zs hm hI hc hl hS
  unfold Oper.wp execOp
  simp only [ho, resolve, invoke, builtin, Sem.run_bind, Sem.run_pure, Result.andThen_ok, List.map_toArray, List.map_cons, List.map_nil, hs, hx, hr]
  exact hK a3 c3 w1 h2 h3 h5

theorem wp_app {u : World} {ops : Array Oper} {rest : List Oper} {o : Oper} {a : Act} {Q : Exit → Act → World → Prop} (hgd : o.guard = none) (s x : Operand)
    (ho : o.op = .call { callee := .builtin .append, args := #[s, x], argTypes := #[109, 109] }) (S : Nat) (v : Value) (D : List Int) (hs : a.eval s = v) (h : Own u S v D) (A : Option Addr) (m c B : Nat) (zs : List Int) (hx : a.eval x = .slice A m c) (hm : m = zs.length) (hI : Is u B A zs) (hc : A = none → c = 0) (hl : D.length + m ≤ 1000000) (hS : S ≤ u.heap.size)
    (hK : ∀ a3 c3 w1, Own w1 S (.slice a3 (D.length + m) c3) (D ++ zs) → u.grownBy w1 v.ownBlock → ((Value.slice a3 (D.length + m) c3).ownBlock = v.ownBlock ∨ (Value.slice a3 (D.length + m) c3).ownBlock = some u.heap.size) → wpList Try.prog ops Q rest (a.put o.dst (.slice a3 (D.length + m) c3)) w1) :
    wpList Try.prog ops Q (o :: rest) a u := by
  refine wpList_plain hgd fun K hK' => ?_
  obtain ⟨a3, c3, w1, hr, h2, h3, h5⟩ := app_run u S o.type v D h A m c B zs hm hI hc hl hS
  unfold Oper.wp execOp
  simp only [ho, resolve, invoke, builtin, Sem.run_bind, Sem.run_pure, Result.andThen_ok, List.map_toArray, List.map_cons, List.map_nil, hs, hx, hr]
  exact hK' _ _ (hK a3 c3 w1 h2 h3 h5)

theorem own_new (w : World) : Own (w.alloc (.cells #[] 3)) w.heap.size (.slice (some ⟨w.heap.size, 0, none⟩) 0 0) [] := by
  have := World.ownsRow_lit (base := w.heap.size) (e := 3) (size := 1) w #[] 0 (Nat.le_refl _) (by decide) (by simp)
  simpa [Own] using this

def PutAns (S : Nat) (zs : List Int) (w : World) (e : Ending) (w' : World) : Prop :=
  ∃ g3 n3 c3, n3 = zs.length ∧ e = .returned (.slice (some ⟨g3, 0, none⟩) n3 c3) ∧ Own w' S (.slice (some ⟨g3, 0, none⟩) n3 c3) zs ∧ Below w.heap.size w w'

/-- The first place whose number is not less. -/
def lo (zs : List Int) (n : Int) (k : Nat) : Prop := ∀ j, j < k → zs.getD j 0 < n

theorem is_take {w : World} {B : Nat} {ad : Addr} {zs : List Int} (h : Is w B (some ad) zs) (k : Nat) : Is w B (some ad) (zs.take k) := fun hp => by
  have h1 : 0 < zs.length := by
    have := List.length_take (i := k) (l := zs); omega
  obtain ⟨ad', e, hB, hc⟩ := h h1
  cases e
  refine ⟨ad, rfl, hB, fun j hj => ?_⟩
  have : j < zs.length := by have := List.length_take (i := k) (l := zs); omega
  rw [List.getElem_take]; exact hc j this

theorem is_drop {w : World} {B g : Nat} {zs : List Int} (h : Is w B (some ⟨g, 0, none⟩) zs) (k : Nat) : Is w B (some ⟨g, k, none⟩) (zs.drop k) := fun hp => by
  have h1 : k < zs.length := by
    have := List.length_drop (i := k) (l := zs); omega
  obtain ⟨ad', e, hB, hc⟩ := h (by omega)
  cases e
  refine ⟨_, rfl, hB, fun j hj => ?_⟩
  have : k + j < zs.length := by have := List.length_drop (i := k) (l := zs); omega
  rw [List.getElem_drop]
  have := hc (k + j) this
  unfold Addr.add at this ⊢
  by_cases hk : k = 0 <;> by_cases hj0 : j = 0 <;> simp_all

/-- A row of the call's own, in a world that has grown. -/
structure Pt (w : World) (u : World) (v : Value) (D : List Int) : Prop where
  own : Own u w.heap.size v D
  bel : Below w.heap.size w u

theorem Pt.new {w u : World} (h : Below w.heap.size w u) : Pt w (u.alloc (.cells #[] 3)) (.slice (some ⟨u.heap.size, 0, none⟩) 0 0) [] := by
  have := World.ownsRow_lit (base := w.heap.size) (e := 3) (size := 1) u #[] 0 h.size (by decide) (by simp)
  exact ⟨by simpa [Own] using this, h.alloc h.size _⟩
theorem Pt.drew {w u : World} {v : Value} {D : List Int} (h : Pt w u v D) : Pt w u.drew v D := ⟨h.own, h.bel.drew⟩
theorem Pt.alloc {w u : World} {v : Value} {D : List Int} (h : Pt w u v D) (o : Obj) : Pt w (u.alloc o) v D := ⟨h.own.alloc _, h.bel.alloc h.bel.size _⟩

theorem own_block {S : Nat} {w : World} {v : Value} {n : Nat} {xs : List Value} (h : w.ownsRow S 3 1 v n xs) : ∀ k, v.ownBlock = some k → S ≤ k := fun k hk => by
  rcases h.2 with ⟨hv, h0⟩ | ⟨g', c, cur, hv, hS, _⟩
  · subst hv; cases hk
  · subst hv; cases hk; exact hS

theorem Pt.app {w u w1 : World} {v v' : Value} {D D' : List Int} (h : Pt w u v D) (hown : Own w1 w.heap.size v' D') (hg : u.grownBy w1 v.ownBlock) : Pt w w1 v' D' :=
  ⟨hown, h.bel.grown hg h.bel.size (own_block h.own)⟩

/-- One int in a block of its own. -/
def Lq (u : World) (b : Nat) (q : Int) : Prop := u.cell? ⟨b, 0, none⟩ = some (.int .i64 q) ∧ b < u.heap.size
theorem Lq.new (u : World) (q : Int) : Lq (u.alloc (.cells #[.int .i64 q] 3)) u.heap.size q := ⟨by simp [go_sem], by simp [go_sem]⟩
theorem Lq.drew {u : World} {b : Nat} {q : Int} (h : Lq u b q) : Lq u.drew b q := h
theorem Lq.alloc {u : World} {b : Nat} {q : Int} (h : Lq u b q) (o : Obj) : Lq (u.alloc o) b q :=
  ⟨(((Below.refl u.heap.size u).alloc (Nat.le_refl _) o).cell (p := ⟨b, 0, none⟩) h.2).trans h.1, by simp [go_sem]; have := h.2; omega⟩
theorem Lq.grown {u w1 : World} {b : Nat} {q : Int} (h : Lq u b q) {row : Option Nat} (hg : u.grownBy w1 row) (hne : some b ≠ row) : Lq w1 b q :=
  ⟨(World.cell?_of_block (w := u) (hg.block b h.2 hne)).trans h.1, Nat.lt_of_lt_of_le h.2 hg.size⟩
theorem Lq.is {u : World} {b : Nat} {q : Int} (h : Lq u b q) : Is u u.heap.size (some ⟨b, 0, none⟩) [q] := fun _ => ⟨_, rfl, h.2, fun j hj => by
  have : j = 0 := by simpa using hj
  subst this
  exact h.1⟩

theorem size_alloc (w : World) (o : Obj) : (w.alloc o).heap.size = w.heap.size + 1 := by simp [go_sem]
theorem ptBA (w : World) (o : Obj) : Pt w ((w.alloc o).alloc (.cells #[] 3)).drew (.slice (some ⟨w.heap.size + 1, 0, none⟩) 0 0) [] := by
  rw [← size_alloc w o]; exact (Pt.new ((Below.refl _ _).alloc (Nat.le_refl _) _)).drew
theorem lqAB (w : World) (o : Obj) (q : Int) : Lq ((w.alloc o).alloc (.cells #[.int .i64 q] 3)).drew (w.heap.size + 1) q := by
  rw [← size_alloc w o]; exact (Lq.new _ _).drew
theorem lqBA (w : World) (o : Obj) (q : Int) : Lq ((w.alloc (.cells #[.int .i64 q] 3)).alloc o).drew w.heap.size q := ((Lq.new w q).alloc o).drew

theorem step_old {w u : World} {ops : Array Oper} {o : Oper} {a : Act} {K : Act → World → Prop} {Q : Exit → Act → World → Prop} {E : Prop} (hgd : o.guard = none) (s x : Operand)
    (ho : o.op = .call { callee := .builtin .append, args := #[s, x], argTypes := #[109, 109] }) (v : Value) (D : List Int) (hs : a.eval s = v) (h : Pt w u v D) (A : Option Addr) (m c : Nat) (zs : List Int) (hx : a.eval x = .slice A m c) (hm : m = zs.length) (hI : Is w w.heap.size A zs) (hc : A = none → c = 0) (hl : D.length + m ≤ 1000000)
    (N : Nat) (DD : List Int) (hN : N = D.length + m) (hD : DD = D ++ zs)
    (hK : ∀ a3 c3 w1, Pt w w1 (.slice a3 N c3) DD → u.grownBy w1 v.ownBlock → ((Value.slice a3 N c3).ownBlock = v.ownBlock ∨ (Value.slice a3 N c3).ownBlock = some u.heap.size) → K (a.put o.dst (.slice a3 N c3)) w1) :
    if Region.wanted o (yielded ops a.tmps) = true then Oper.wp Try.prog o a u K Q else E := by
  subst hN hD
  exact step_app hgd s x ho w.heap.size v D hs h.own A m c w.heap.size zs hx hm (hI.below h.bel) hc hl h.bel.size (fun a3 c3 w1 h1 h2 h3 => hK a3 c3 w1 (h.app h1 h2) h2 h3)

theorem step_one {w u : World} {ops : Array Oper} {o : Oper} {a : Act} {K : Act → World → Prop} {Q : Exit → Act → World → Prop} {E : Prop} (hgd : o.guard = none) (s x : Operand)
    (ho : o.op = .call { callee := .builtin .append, args := #[s, x], argTypes := #[109, 109] }) (v : Value) (D : List Int) (hs : a.eval s = v) (h : Pt w u v D) (b c : Nat) (q : Int) (hx : a.eval x = .slice (some ⟨b, 0, none⟩) 1 c) (hI : Lq u b q) (hl : D.length + 1 ≤ 1000000)
    (N : Nat) (DD : List Int) (hN : N = D.length + 1) (hD : DD = D ++ [q])
    (hK : ∀ a3 c3 w1, Pt w w1 (.slice a3 N c3) DD → u.grownBy w1 v.ownBlock → ((Value.slice a3 N c3).ownBlock = v.ownBlock ∨ (Value.slice a3 N c3).ownBlock = some u.heap.size) → K (a.put o.dst (.slice a3 N c3)) w1) :
    if Region.wanted o (yielded ops a.tmps) = true then Oper.wp Try.prog o a u K Q else E := by
  subst hN hD
  exact step_app hgd s x ho w.heap.size v D hs h.own (some ⟨b, 0, none⟩) 1 c u.heap.size [q] hx rfl hI.is (fun e => by cases e) hl h.bel.size (fun a3 c3 w1 h1 h2 h3 => hK a3 c3 w1 (h.app h1 h2) h2 h3)

theorem pt_end {w u : World} {a3 : Option Addr} {N c3 : Nat} {zs : List Int} {q : Int} {k S : Nat} (h : Pt w u (.slice a3 N c3) ((zs.take k ++ [q]) ++ zs.drop k)) (hS : S ≤ w.heap.size) (hN : N = ((zs.take k ++ [q]) ++ zs.drop k).length) (e : putL zs q = (zs.take k ++ [q]) ++ zs.drop k) :
    PutAns S (putL zs q) w (.returned (.slice a3 N c3)) u := by
  rw [e]
  have h1 := h.own
  rcases h1.2 with ⟨_, h0⟩ | ⟨g', c, cur, hv, hle, r⟩
  · simp at h0
  · injection hv with e1 e2 e3
    subst e1; subst e3
    exact ⟨g', N, c3, hN, rfl, ⟨h1.1, .inr ⟨g', c3, cur, by rw [hN], by omega, r⟩⟩, h.bel⟩

end Go.Proofs.Ytomloodakabcbaa.UniS
