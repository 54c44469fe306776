/-
  Rows of strings that a call owns: appending; l5Put of the model.
-/
import Derived.Test.YtomloodakabcbabGreatUniTM
import Derived.Test.YtomloodakabcbabGreatRow
import Derived.Test.YtomloodakabcbabGreatFc
import Derived.Sort.Walk0
import Derived.Maps.AppendAt
import Derived.Laws.OwnMore
import Derived.Deep.RegionLaw
namespace Go.Proofs.YtomloodakabcbabGreat.UniT
open Go.RowKit Go.Sort Go.Proofs.YtomloodakabcbabGreat.UniTM
set_option linter.unusedVariables false
set_option linter.unusedSimpArgs false

/-- The slice that begins at A holds the strings, below block B. -/
def Is (w : World) (B : Nat) (A : Option Addr) (zs : List (List UInt8)) : Prop :=
  0 < zs.length → ∃ ad, A = some ad ∧ ad.block < B ∧ ∀ j, ∀ h : j < zs.length, w.cell? (ad.add j) = some (encStr zs[j])
theorem Is.below {w w' : World} {B : Nat} {A : Option Addr} {ss : List (List UInt8)} (h : Is w B A ss) (hb : Below B w w') : Is w' B A ss := fun hp => by
  obtain ⟨ad, e, hB, hc⟩ := h hp
  exact ⟨ad, e, hB, fun j hj => (hb.cell (by rw [Row.block_add]; exact hB)).trans (hc j hj)⟩
theorem Is.more {w : World} {B B' : Nat} {A : Option Addr} {ss : List (List UInt8)} (h : Is w B A ss) (hB : B ≤ B') : Is w B' A ss := fun hp => by
  obtain ⟨ad, e, hB', hc⟩ := h hp
  exact ⟨ad, e, by omega, hc⟩
theorem Is.of_own {w : World} {base n cap : Nat} {A : Option Addr} {ss : List (List UInt8)} (h : w.ownsRow base 9 1 (.slice A n cap) n (ss.map encStr)) (hn : n = ss.length) : Is w w.heap.size A ss := fun hp => by
  subst hn
  rcases h.2 with ⟨hv, h0⟩ | ⟨g, c, cur, hv, _, hh, _⟩
  · omega
  · injection hv with h1 h2 h3
    subst h1; subst h3
    refine ⟨_, rfl, (Array.getElem?_eq_some_iff.1 hh).1, fun j hj => ?_⟩
    have := h.cells (g := g) rfl j (encStr ss[j]) (by simp [hj])
    exact this
/-- The strings of a row. -/
abbrev strs (D : List (List UInt8)) : List ByteArray := D.map fun l => ⟨l.toArray⟩
theorem map_strs (D : List (List UInt8)) : D.map encStr = (strs D).map Value.string := by simp [strs, encStr]
theorem getD_get (zs : List (List UInt8)) {k : Nat} (h : k < zs.length) : zs.getD k [] = zs[k] := by simp [List.getD, h]

abbrev Own (w : World) (S : Nat) (v : Value) (D : List (List UInt8)) : Prop := w.ownsRow S 9 1 v D.length (D.map encStr)

theorem one_ints (zs : List (List UInt8)) : ∀ u ∈ zs.map encStr, u.oneCell' = true := fun u hu => by
  obtain ⟨q, _, rfl⟩ := List.mem_map.1 hu
  rfl

theorem own_form {S : Nat} {w : World} {v : Value} {n : Nat} {xs : List Value} (h : w.ownsRow S 9 1 v n xs) : ∃ a c, v = .slice a n c := by
  rcases h.2 with ⟨hv, h0⟩ | ⟨g', c, cur, hv, _⟩
  · exact ⟨none, 0, by rw [hv, h0]⟩
  · exact ⟨_, c, hv⟩

/-- A row of ints that the call owns, and a slice of ints behind it. -/
theorem app_run (u : World) (S : Nat) (ty : TypeId) (v : Value) (D : List (List UInt8)) (h : Own u S v D) (A : Option Addr) (m c B : Nat) (zs : List (List UInt8)) (hm : m = zs.length) (hI : Is u B A zs) (hc : A = none → c = 0) (hl : D.length + m ≤ 1000000) (hS : S ≤ u.heap.size) :
    ∃ a3 c3 w1, (Builtin.append_ #[22, 22] ty #[v, .slice A m c]).run Tryz.prog u = .ok (.slice a3 (D.length + m) c3) w1 ∧ Own w1 S (.slice a3 (D.length + m) c3) (D ++ zs) ∧ u.grownBy w1 v.ownBlock ∧
      ((Value.slice a3 (D.length + m) c3).ownBlock = v.ownBlock ∨ (Value.slice a3 (D.length + m) c3).ownBlock = some u.heap.size) := by
  subst hm
  obtain ⟨i0, hi, hz0, hz1, hz2⟩ := info_parts Row.infoStr
  cases A with
  | none =>
    have hz : zs = [] := Classical.byContradiction fun e => by
      obtain ⟨ad, e', _⟩ := hI (List.length_pos_iff.2 e)
      cases e'
    subst hz
    rw [hc rfl]
    obtain ⟨a3, c3, e⟩ := own_form h
    refine ⟨a3, c3, u, ?_, ?_, ⟨rfl, rfl, rfl, Nat.le_refl _, fun _ _ _ => rfl⟩, Or.inl ?_⟩
    · have := run_append_owned_none (P := Tryz.prog) (w := u) S 22 ty 9 i0 1 Tryz.underlying22 hi v _ _ h
      rw [List.length_nil, this, e, Nat.add_zero]
    · rw [e] at h; unfold Own; simpa using h
    · rw [e]; simp
  | some ad =>
    obtain ⟨v', w', hr, h2, h3, _, h5⟩ := run_append_own_at (P := Tryz.prog) u S 22 ty 9 i0 (.string ByteArray.empty) 1 16 Tryz.underlying22 hi hz0 hz1 hz2 rfl (by decide) v D.length (D.map encStr) h ad zs.length c (zs.map encStr) (by simp)
      (fun j u' hu => by
        have hj : j < zs.length := by
          rcases Nat.lt_or_ge j zs.length with h | h
          · exact h
          · rw [List.getElem?_eq_none (by simpa using h)] at hu; cases hu
        obtain ⟨ad', e', _, hcell⟩ := hI (by omega)
        cases e'
        rw [hcell j hj]
        simpa [hj] using hu) (one_ints zs) (by unfold maxLen; omega) (by omega) hS
    obtain ⟨a3, c3, rfl⟩ := own_form h2
    exact ⟨a3, c3, w', hr, by unfold Own; simpa using h2, h3, h5⟩

theorem step_app {u : World} {ops : Array Oper} {o : Oper} {a : Act} {K : Act → World → Prop} {Q : Exit → Act → World → Prop} {E : Prop} (hgd : o.guard = none) (s x : Operand)
    (ho : o.op = .call { callee := .builtin .append, args := #[s, x], argTypes := #[22, 22] }) (S : Nat) (v : Value) (D : List (List UInt8)) (hs : a.eval s = v) (h : Own u S v D) (A : Option Addr) (m c B : Nat) (zs : List (List UInt8)) (hx : a.eval x = .slice A m c) (hm : m = zs.length) (hI : Is u B A zs) (hc : A = none → c = 0) (hl : D.length + m ≤ 1000000) (hS : S ≤ u.heap.size)
    (hK : ∀ a3 c3 w1, Own w1 S (.slice a3 (D.length + m) c3) (D ++ zs) → u.grownBy w1 v.ownBlock → ((Value.slice a3 (D.length + m) c3).ownBlock = v.ownBlock ∨ (Value.slice a3 (D.length + m) c3).ownBlock = some u.heap.size) → K (a.put o.dst (.slice a3 (D.length + m) c3)) w1) :
    if Region.wanted o (yielded ops a.tmps) = true then Oper.wp Tryz.prog o a u K Q else E := by
  have hw : Region.wanted o (yielded ops a.tmps) = true := by simp [Region.wanted, hgd]
  rw [if_pos hw]
  obtain ⟨a3, c3, w1, hr, h2, h3, h5⟩ := app_run u S o.type v D h A m c B zs hm hI hc hl hS
  unfold Oper.wp execOp
  simp only [ho, resolve, invoke, builtin, Sem.run_bind, Sem.run_pure, Result.andThen_ok, List.map_toArray, List.map_cons, List.map_nil, hs, hx, hr]
  exact hK a3 c3 w1 h2 h3 h5

theorem wp_app {u : World} {ops : Array Oper} {rest : List Oper} {o : Oper} {a : Act} {Q : Exit → Act → World → Prop} (hgd : o.guard = none) (s x : Operand)
    (ho : o.op = .call { callee := .builtin .append, args := #[s, x], argTypes := #[22, 22] }) (S : Nat) (v : Value) (D : List (List UInt8)) (hs : a.eval s = v) (h : Own u S v D) (A : Option Addr) (m c B : Nat) (zs : List (List UInt8)) (hx : a.eval x = .slice A m c) (hm : m = zs.length) (hI : Is u B A zs) (hc : A = none → c = 0) (hl : D.length + m ≤ 1000000) (hS : S ≤ u.heap.size)
    (hK : ∀ a3 c3 w1, Own w1 S (.slice a3 (D.length + m) c3) (D ++ zs) → u.grownBy w1 v.ownBlock → ((Value.slice a3 (D.length + m) c3).ownBlock = v.ownBlock ∨ (Value.slice a3 (D.length + m) c3).ownBlock = some u.heap.size) → wpList Tryz.prog ops Q rest (a.put o.dst (.slice a3 (D.length + m) c3)) w1) :
    wpList Tryz.prog ops Q (o :: rest) a u := by
  refine wpList_plain hgd fun K hK' => ?_
  obtain ⟨a3, c3, w1, hr, h2, h3, h5⟩ := app_run u S o.type v D h A m c B zs hm hI hc hl hS
  unfold Oper.wp execOp
  simp only [ho, resolve, invoke, builtin, Sem.run_bind, Sem.run_pure, Result.andThen_ok, List.map_toArray, List.map_cons, List.map_nil, hs, hx, hr]
  exact hK' _ _ (hK a3 c3 w1 h2 h3 h5)

theorem own_new (w : World) : Own (w.alloc (.cells #[] 9)) w.heap.size (.slice (some ⟨w.heap.size, 0, none⟩) 0 0) [] := by
  have := World.ownsRow_lit (base := w.heap.size) (e := 9) (size := 1) w #[] 0 (Nat.le_refl _) (by decide) (by simp)
  simpa [Own] using this

def PutAns (S : Nat) (zs : List (List UInt8)) (w : World) (e : Ending) (w' : World) : Prop :=
  ∃ g3 n3 c3, n3 = zs.length ∧ e = .returned (.slice (some ⟨g3, 0, none⟩) n3 c3) ∧ Own w' S (.slice (some ⟨g3, 0, none⟩) n3 c3) zs ∧ Below w.heap.size w w'

/-- The first place whose number is not less. -/
def lo (zs : List (List UInt8)) (n : List UInt8) (k : Nat) : Prop := ∀ j, j < k → zs.getD j [] < n

theorem is_take {w : World} {B : Nat} {ad : Addr} {zs : List (List UInt8)} (h : Is w B (some ad) zs) (k : Nat) : Is w B (some ad) (zs.take k) := fun hp => by
  have h1 : 0 < zs.length := by
    have := List.length_take (i := k) (l := zs); omega
  obtain ⟨ad', e, hB, hc⟩ := h h1
  cases e
  refine ⟨ad, rfl, hB, fun j hj => ?_⟩
  have : j < zs.length := by have := List.length_take (i := k) (l := zs); omega
  rw [List.getElem_take]; exact hc j this

theorem is_drop {w : World} {B g : Nat} {zs : List (List UInt8)} (h : Is w B (some ⟨g, 0, none⟩) zs) (k : Nat) : Is w B (some ⟨g, k, none⟩) (zs.drop k) := fun hp => by
  have h1 : k < zs.length := by
    have := List.length_drop (i := k) (l := zs); omega
  obtain ⟨ad', e, hB, hc⟩ := h (by omega)
  cases e
  refine ⟨_, rfl, hB, fun j hj => ?_⟩
  have : k + j < zs.length := by have := List.length_drop (i := k) (l := zs); omega
  rw [List.getElem_drop]
  have := hc (k + j) this
  unfold Addr.add at this ⊢
  by_cases hk : k = 0 <;> by_cases hj0 : j = 0 <;> simp_all

/-- A row of the call's own, in a world that has grown. -/
structure Pt (w : World) (u : World) (v : Value) (D : List (List UInt8)) : Prop where
  own : Own u w.heap.size v D
  bel : Below w.heap.size w u

theorem Pt.new {w u : World} (h : Below w.heap.size w u) : Pt w (u.alloc (.cells #[] 9)) (.slice (some ⟨u.heap.size, 0, none⟩) 0 0) [] := by
  have := World.ownsRow_lit (base := w.heap.size) (e := 9) (size := 1) u #[] 0 h.size (by decide) (by simp)
  exact ⟨by simpa [Own] using this, h.alloc h.size _⟩
theorem Pt.drew {w u : World} {v : Value} {D : List (List UInt8)} (h : Pt w u v D) : Pt w u.drew v D := ⟨h.own, h.bel.drew⟩
theorem Pt.alloc {w u : World} {v : Value} {D : List (List UInt8)} (h : Pt w u v D) (o : Obj) : Pt w (u.alloc o) v D := ⟨h.own.alloc _, h.bel.alloc h.bel.size _⟩

theorem own_block {S : Nat} {w : World} {v : Value} {n : Nat} {xs : List Value} (h : w.ownsRow S 9 1 v n xs) : ∀ k, v.ownBlock = some k → S ≤ k := fun k hk => by
  rcases h.2 with ⟨hv, h0⟩ | ⟨g', c, cur, hv, hS, _⟩
  · subst hv; cases hk
  · subst hv; cases hk; exact hS

theorem Pt.app {w u w1 : World} {v v' : Value} {D D' : List (List UInt8)} (h : Pt w u v D) (hown : Own w1 w.heap.size v' D') (hg : u.grownBy w1 v.ownBlock) : Pt w w1 v' D' :=
  ⟨hown, h.bel.grown hg h.bel.size (own_block h.own)⟩

/-- One int in a block of its own. -/
def Lq (u : World) (b : Nat) (q : List UInt8) : Prop := u.cell? ⟨b, 0, none⟩ = some (encStr q) ∧ b < u.heap.size
theorem Lq.new (u : World) (q : List UInt8) : Lq (u.alloc (.cells #[encStr q] 9)) u.heap.size q := ⟨by simp [go_sem], by simp [go_sem]⟩
theorem Lq.drew {u : World} {b : Nat} {q : List UInt8} (h : Lq u b q) : Lq u.drew b q := h
theorem Lq.alloc {u : World} {b : Nat} {q : List UInt8} (h : Lq u b q) (o : Obj) : Lq (u.alloc o) b q :=
  ⟨(((Below.refl u.heap.size u).alloc (Nat.le_refl _) o).cell (p := ⟨b, 0, none⟩) h.2).trans h.1, by simp [go_sem]; have := h.2; omega⟩
theorem Lq.grown {u w1 : World} {b : Nat} {q : List UInt8} (h : Lq u b q) {row : Option Nat} (hg : u.grownBy w1 row) (hne : some b ≠ row) : Lq w1 b q :=
  ⟨(World.cell?_of_block (w := u) (hg.block b h.2 hne)).trans h.1, Nat.lt_of_lt_of_le h.2 hg.size⟩
theorem Lq.is {u : World} {b : Nat} {q : List UInt8} (h : Lq u b q) : Is u u.heap.size (some ⟨b, 0, none⟩) [q] := fun _ => ⟨_, rfl, h.2, fun j hj => by
  have : j = 0 := by simpa using hj
  subst this
  exact h.1⟩

theorem size_alloc (w : World) (o : Obj) : (w.alloc o).heap.size = w.heap.size + 1 := by simp [go_sem]
theorem ptBA (w : World) (o : Obj) : Pt w ((w.alloc o).alloc (.cells #[] 9)).drew (.slice (some ⟨w.heap.size + 1, 0, none⟩) 0 0) [] := by
  rw [← size_alloc w o]; exact (Pt.new ((Below.refl _ _).alloc (Nat.le_refl _) _)).drew
theorem lqAB (w : World) (o : Obj) (q : List UInt8) : Lq ((w.alloc o).alloc (.cells #[encStr q] 9)).drew (w.heap.size + 1) q := by
  rw [← size_alloc w o]; exact (Lq.new _ _).drew
theorem lqBA (w : World) (o : Obj) (q : List UInt8) : Lq ((w.alloc (.cells #[encStr q] 9)).alloc o).drew w.heap.size q := ((Lq.new w q).alloc o).drew

theorem step_old {w u : World} {ops : Array Oper} {o : Oper} {a : Act} {K : Act → World → Prop} {Q : Exit → Act → World → Prop} {E : Prop} (hgd : o.guard = none) (s x : Operand)
    (ho : o.op = .call { callee := .builtin .append, args := #[s, x], argTypes := #[22, 22] }) (v : Value) (D : List (List UInt8)) (hs : a.eval s = v) (h : Pt w u v D) (A : Option Addr) (m c : Nat) (zs : List (List UInt8)) (hx : a.eval x = .slice A m c) (hm : m = zs.length) (hI : Is w w.heap.size A zs) (hc : A = none → c = 0) (hl : D.length + m ≤ 1000000)
    (N : Nat) (DD : List (List UInt8)) (hN : N = D.length + m) (hD : DD = D ++ zs)
    (hK : ∀ a3 c3 w1, Pt w w1 (.slice a3 N c3) DD → u.grownBy w1 v.ownBlock → ((Value.slice a3 N c3).ownBlock = v.ownBlock ∨ (Value.slice a3 N c3).ownBlock = some u.heap.size) → K (a.put o.dst (.slice a3 N c3)) w1) :
    if Region.wanted o (yielded ops a.tmps) = true then Oper.wp Tryz.prog o a u K Q else E := by
  subst hN hD
  exact step_app hgd s x ho w.heap.size v D hs h.own A m c w.heap.size zs hx hm (hI.below h.bel) hc hl h.bel.size (fun a3 c3 w1 h1 h2 h3 => hK a3 c3 w1 (h.app h1 h2) h2 h3)

theorem step_one {w u : World} {ops : Array Oper} {o : Oper} {a : Act} {K : Act → World → Prop} {Q : Exit → Act → World → Prop} {E : Prop} (hgd : o.guard = none) (s x : Operand)
    (ho : o.op = .call { callee := .builtin .append, args := #[s, x], argTypes := #[22, 22] }) (v : Value) (D : List (List UInt8)) (hs : a.eval s = v) (h : Pt w u v D) (b c : Nat) (q : List UInt8) (hx : a.eval x = .slice (some ⟨b, 0, none⟩) 1 c) (hI : Lq u b q) (hl : D.length + 1 ≤ 1000000)
    (N : Nat) (DD : List (List UInt8)) (hN : N = D.length + 1) (hD : DD = D ++ [q])
    (hK : ∀ a3 c3 w1, Pt w w1 (.slice a3 N c3) DD → u.grownBy w1 v.ownBlock → ((Value.slice a3 N c3).ownBlock = v.ownBlock ∨ (Value.slice a3 N c3).ownBlock = some u.heap.size) → K (a.put o.dst (.slice a3 N c3)) w1) :
    if Region.wanted o (yielded ops a.tmps) = true then Oper.wp Tryz.prog o a u K Q else E := by
  subst hN hD
  exact step_app hgd s x ho w.heap.size v D hs h.own (some ⟨b, 0, none⟩) 1 c u.heap.size [q] hx rfl hI.is (fun e => by cases e) hl h.bel.size (fun a3 c3 w1 h1 h2 h3 => hK a3 c3 w1 (h.app h1 h2) h2 h3)

theorem pt_end {w u : World} {a3 : Option Addr} {N c3 : Nat} {zs : List (List UInt8)} {q : List UInt8} {k S : Nat} (h : Pt w u (.slice a3 N c3) ((zs.take k ++ [q]) ++ zs.drop k)) (hS : S ≤ w.heap.size) (hN : N = ((zs.take k ++ [q]) ++ zs.drop k).length) (e : putL zs q = (zs.take k ++ [q]) ++ zs.drop k) :
    PutAns S (putL zs q) w (.returned (.slice a3 N c3)) u := by
  rw [e]
  have h1 := h.own
  rcases h1.2 with ⟨_, h0⟩ | ⟨g', c, cur, hv, hle, r⟩
  · simp at h0
  · injection hv with e1 e2 e3
    subst e1; subst e3
    exact ⟨g', N, c3, hN, rfl, ⟨h1.1, .inr ⟨g', c3, cur, by rw [hN], by omega, r⟩⟩, h.bel⟩

set_option maxRecDepth 100000 in
set_option maxHeartbeats 4000000 in
theorem l5Put (g n c : Nat) (zs : List (List UInt8)) (q : List UInt8) (w : World) (S : Nat) (hn : n = zs.length) (hm : n ≤ 100000) (hS : S ≤ w.heap.size) (h : Own w S (.slice (some ⟨g, 0, none⟩) n c) zs) :
    Calls Tryz.prog 48 #[.slice (some ⟨g, 0, none⟩) n c, .string ⟨q.toArray⟩] w (PutAns S (putL zs q) w) := by
  have HI := Lib.hid (Is.of_own (by unfold Own at h; rw [← hn] at h; exact h) hn)
  have HN := Lib.hid hn
  have HO := Lib.hid h
  have hnc : n ≤ c := by
    rcases h.2 with ⟨hv, _⟩ | ⟨g', c', cur, hv, _, _, hle, _⟩
    · cases hv
    · cases hv; rw [← hn] at hle; exact hle
  have hcm : c ≤ maxLen := by
    rcases h.2 with ⟨hv, _⟩ | ⟨g', c', cur, hv, _, _, _, hle, _⟩
    · cases hv
    · cases hv; exact hle
  unfold maxLen at hcm
  clear h hn
  go_enter Tryz.func48, Tryz.ntmps48
  go_wp2
  go_loop [5] (fun i => ∃ k : Nat, k ≤ n ∧ i = .int .i64 k ∧ Hid (lo zs q k)) (fun i => n - (intOf i).toNat)
  case atStart => exact ⟨0, Nat.zero_le _, rfl, Lib.hid (fun j hj => absurd hj (by omega))⟩
  case round =>
    obtain ⟨k, hk, rfl, HK⟩ := hrel
    have h0 : (0 : Int) ≤ (k : Int) := by omega
    have hkc : k ≤ c := by omega
    by_cases hlt : k < n
    · have hk' : k < zs.length := by have := HN.out; omega
      obtain ⟨p, hp⟩ : ∃ p, p = zs.getD k [] := ⟨_, rfl⟩
      have hcell : w.cell? ⟨g, k, none⟩ = some (encStr p) := by
        have h := HO.out
        unfold Own at h
        rw [← HN.out] at h
        rw [h.cellAt k (by omega), hp, getD_get zs hk']; simp [hk']
      have HP := Lib.hid hp
      clear hp
      have h1 : (k : Int) < (n : Int) := by omega
      have hbl : Op.bytesLess p q = decide (p < q) := bytesLess_eq p q
      by_cases hpq : p < q
      · rw [decide_eq_true hpq] at hbl
        go_wp2
        go_round
        case rel => exact ⟨k + 1, by omega, by go_num, Lib.hid (fun j hj => by
          by_cases e : j = k
          · subst e; rw [← HP.out]; exact hpq
          · exact HK.out j (by omega))⟩
        case measure => simp [intOf]; omega
      · rw [decide_eq_false hpq] at hbl
        have hle : q ≤ p := List.not_lt.1 hpq
        have heq : (p == q) = decide (p = q) := by rw [Bool.eq_iff_iff]; simp
        by_cases he : p = q
        · have HR : Hid (putL zs q = zs) := Lib.hid (by
            rw [putL_at zs q k (by omega) HK.out (fun _ => by rw [← HP.out]; exact hle), if_pos ⟨hk', by rw [← HP.out]; exact he⟩])
          rw [decide_eq_true he] at heq
          clear he
          go_wp2
          go_ret
          rw [HR.out]
          exact ⟨g, n, c, HN.out, rfl, HO.out, Below.refl _ _⟩
        · have HR : Hid (putL zs q = (zs.take k ++ [q]) ++ zs.drop k) := Lib.hid (by
            rw [putL_at zs q k (by omega) HK.out (fun _ => by rw [← HP.out]; exact hle), if_neg (fun ⟨_, e⟩ => he (by rw [HP.out]; exact e))])
          rw [decide_eq_false he] at heq
          have hck : ¬ c = k := by omega
          have HD : Hid (Is w w.heap.size (some ⟨g, k, none⟩) (zs.drop k)) := Lib.hid (is_drop HI.out k)
          have HT : Hid (Is w w.heap.size (some ⟨g, 0, none⟩) (zs.take k)) := Lib.hid (is_take HI.out k)
          have HLT : Hid (k = (zs.take k).length) := Lib.hid (by have := HN.out; simp; omega)
          have HLD : Hid (n - k = (zs.drop k).length) := Lib.hid (by have := HN.out; simp; omega)
          have HN1 : Hid (n + 1 = (zs.take k ++ [q]).length + (n - k)) := Lib.hid (by have := HLT.out; rw [List.length_append, ← this]; simp; omega)
          have HNF : Hid (n + 1 = ((zs.take k ++ [q]) ++ zs.drop k).length) := Lib.hid (by rw [List.length_append, ← HLD.out]; exact HN1.out)
          have HK1 : Hid (k + 1 = (zs.take k).length + 1) := Lib.hid (by rw [← HLT.out])
          go_wp2_with fail
          go_region_law (first
            | (refine step_old rfl _ _ rfl (w := w) _ (zs.take k ++ [q]) rfl ?_ _ _ _ (zs.drop k) rfl HLD.out HD.out (fun e => by cases e) (by simp; omega) (n + 1) ((zs.take k ++ [q]) ++ zs.drop k) HN1.out rfl ?_
               · exact P2
               intro a5 c5 w5 P5 hg5 hat5)
            | (refine step_one rfl _ _ rfl (w := w) _ (zs.take k) rfl ?_ _ _ q rfl ?_ (by simp; omega) (k + 1) (zs.take k ++ [q]) HK1.out rfl ?_
               · first | exact P1 | exact P1.alloc _ | exact (P1.alloc _).drew
               · first | exact Lq.new _ _ | exact Lq.grown (lqAB w _ q) hg1 (show some (w.heap.size + 1) ≠ some w.heap.size by simp) | exact Lq.grown (lqBA w _ q) hg1 (show some w.heap.size ≠ some (w.heap.size + 1) by simp)
               intro a4 c4 w4 P2 hg2 hat2)
            | (refine step_old rfl _ _ rfl (w := w) _ [] rfl ?_ _ _ _ (zs.take k) rfl HLT.out HT.out (fun e => by cases e) (by simp; omega) k (zs.take k) (by simp) rfl ?_
               · first | exact (Pt.new (Below.refl _ _)).drew | exact ((Pt.new (Below.refl _ _)).alloc _).drew | exact ptBA w _
               intro a3 c3 w1 P1 hg1 hat1)
            | fail)
          all_goals
            have HF := Lib.hid (pt_end P5 hS HNF.out HR.out)
            clear P5 P2 P1 hg5 hg2 hg1 hat5 hat2 hat1
            go_wp2_with fail
            all_goals (go_ret; exact HF.out)
    · have HR : Hid (putL zs q = (zs.take k ++ [q]) ++ zs.drop k) := Lib.hid (by
        have := HN.out
        rw [putL_at zs q k (by omega) HK.out (fun _ => absurd ‹k < zs.length› (by omega)), if_neg (fun ⟨e, _⟩ => by omega)])
      have HD : ∀ X, Hid (Is w w.heap.size X (zs.drop k)) := fun X => Lib.hid (fun hp => by have := HN.out; simp at hp; omega)
      have HC : ∀ p : Prop, ∀ [Decidable p], ((if p then some (⟨g, 0, none⟩ : Addr) else some ⟨g, k, none⟩) = none → c - k = 0) := fun p _ e => by split at e <;> cases e
      have HT : Hid (Is w w.heap.size (some ⟨g, 0, none⟩) (zs.take k)) := Lib.hid (is_take HI.out k)
      have HLT : Hid (k = (zs.take k).length) := Lib.hid (by have := HN.out; simp; omega)
      have HLD : Hid (n - k = (zs.drop k).length) := Lib.hid (by have := HN.out; simp; omega)
      have HN1 : Hid (n + 1 = (zs.take k ++ [q]).length + (n - k)) := Lib.hid (by have := HLT.out; rw [List.length_append, ← this]; simp; omega)
      have HNF : Hid (n + 1 = ((zs.take k ++ [q]) ++ zs.drop k).length) := Lib.hid (by rw [List.length_append, ← HLD.out]; exact HN1.out)
      have HK1 : Hid (k + 1 = (zs.take k).length + 1) := Lib.hid (by rw [← HLT.out])
      go_wp2_with fail
      go_region_law (first
        | (refine step_old rfl _ _ rfl (w := w) _ (zs.take k ++ [q]) rfl ?_ _ _ _ (zs.drop k) rfl HLD.out (HD _).out (HC _) (by simp; omega) (n + 1) ((zs.take k ++ [q]) ++ zs.drop k) HN1.out rfl ?_
           · exact P2
           intro a5 c5 w5 P5 hg5 hat5)
        | (refine step_one rfl _ _ rfl (w := w) _ (zs.take k) rfl ?_ _ _ q rfl ?_ (by simp; omega) (k + 1) (zs.take k ++ [q]) HK1.out rfl ?_
           · first | exact P1 | exact P1.alloc _ | exact (P1.alloc _).drew
           · first | exact Lq.new _ _ | exact Lq.grown (lqAB w _ q) hg1 (show some (w.heap.size + 1) ≠ some w.heap.size by simp) | exact Lq.grown (lqBA w _ q) hg1 (show some w.heap.size ≠ some (w.heap.size + 1) by simp)
           intro a4 c4 w4 P2 hg2 hat2)
        | (refine step_old rfl _ _ rfl (w := w) _ [] rfl ?_ _ _ _ (zs.take k) rfl HLT.out HT.out (fun e => by cases e) (by simp; omega) k (zs.take k) (by simp) rfl ?_
           · first | exact (Pt.new (Below.refl _ _)).drew | exact ((Pt.new (Below.refl _ _)).alloc _).drew | exact ptBA w _
           intro a3 c3 w1 P1 hg1 hat1)
        | fail)
      all_goals
        have HF := Lib.hid (pt_end P5 hS HNF.out HR.out)
        clear P5 P2 P1 hg5 hg2 hg1 hat5 hat2 hat1
        go_wp2_with fail
        all_goals (go_ret; exact HF.out)

end Go.Proofs.YtomloodakabcbabGreat.UniT
