/-
  The union of two ascending lists, as the model makes it: l1Own, l1Put, l4Union.
-/
import Derived.Test.YtencedbohnbogaaUniMath
import Derived.Test.YtencedbohnbogaaIRow
import Derived.Maps.AppendAt
import Derived.Laws.OwnMore
import Derived.Deep.RegionLaw
namespace Go.Proofs.Ytencedbohnbogaa.UniS
open Go.RowKit Go.Proofs.Ytencedbohnbogaa.IRow Go.Proofs.Ytencedbohnbogaa.Biz Go.Proofs.Ytencedbohnbogaa.UniMath
set_option linter.unusedVariables false
set_option linter.unusedSimpArgs false

abbrev Own (w : World) (S : Nat) (v : Value) (D : List Int) : Prop := w.ownsRow S 3 1 v D.length (D.map (Value.int .i64))

theorem one_ints (zs : List Int) : ∀ u ∈ zs.map (Value.int .i64), u.oneCell' = true := fun u hu => by
  obtain ⟨q, _, rfl⟩ := List.mem_map.1 hu
  rfl

theorem own_form {S : Nat} {w : World} {v : Value} {n : Nat} {xs : List Value} (h : w.ownsRow S 3 1 v n xs) : ∃ a c, v = .slice a n c := by
  rcases h.2 with ⟨hv, h0⟩ | ⟨g', c, cur, hv, _⟩
  · exact ⟨none, 0, by rw [hv, h0]⟩
  · exact ⟨_, c, hv⟩

theorem own_new (w : World) : Own (w.alloc (.cells #[] 3)) w.heap.size (.slice (some ⟨w.heap.size, 0, none⟩) 0 0) [] := by
  have := World.ownsRow_lit (base := w.heap.size) (e := 3) (size := 1) w #[] 0 (Nat.le_refl _) (by decide) (by simp)
  simpa [Own] using this

def PutAns (S : Nat) (zs : List Int) (w : World) (e : Ending) (w' : World) : Prop :=
  ∃ g3 n3 c3, n3 = zs.length ∧ e = .returned (.slice (some ⟨g3, 0, none⟩) n3 c3) ∧ Own w' S (.slice (some ⟨g3, 0, none⟩) n3 c3) zs ∧ Below w.heap.size w w'

/-- The first place whose number is not less. -/
def lo (zs : List Int) (n : Int) (k : Nat) : Prop := ∀ j, j < k → zs.getD j 0 < n

theorem is_take {w : World} {B : Nat} {ad : Addr} {zs : List Int} (h : Is w B (some ad) zs) (k : Nat) : Is w B (some ad) (zs.take k) := fun hp => by
  have h1 : 0 < zs.length := by
    have := List.length_take (i := k) (l := zs); omega
  obtain ⟨ad', e, hB, hc⟩ := h h1
  cases e
  refine ⟨ad, rfl, hB, fun j hj => ?_⟩
  have : j < zs.length := by have := List.length_take (i := k) (l := zs); omega
  rw [List.getElem_take]; exact hc j this

theorem is_drop {w : World} {B g : Nat} {zs : List Int} (h : Is w B (some ⟨g, 0, none⟩) zs) (k : Nat) : Is w B (some ⟨g, k, none⟩) (zs.drop k) := fun hp => by
  have h1 : k < zs.length := by
    have := List.length_drop (i := k) (l := zs); omega
  obtain ⟨ad', e, hB, hc⟩ := h (by omega)
  cases e
  refine ⟨_, rfl, hB, fun j hj => ?_⟩
  have : k + j < zs.length := by have := List.length_drop (i := k) (l := zs); omega
  rw [List.getElem_drop]
  have := hc (k + j) this
  unfold Addr.add at this ⊢
  by_cases hk : k = 0 <;> by_cases hj0 : j = 0 <;> simp_all

/-- A row of the call's own, in a world that has grown. -/
structure Pt (w : World) (u : World) (v : Value) (D : List Int) : Prop where
  own : Own u w.heap.size v D
  bel : Below w.heap.size w u

theorem Pt.new {w u : World} (h : Below w.heap.size w u) : Pt w (u.alloc (.cells #[] 3)) (.slice (some ⟨u.heap.size, 0, none⟩) 0 0) [] := by
  have := World.ownsRow_lit (base := w.heap.size) (e := 3) (size := 1) u #[] 0 h.size (by decide) (by simp)
  exact ⟨by simpa [Own] using this, h.alloc h.size _⟩
theorem Pt.drew {w u : World} {v : Value} {D : List Int} (h : Pt w u v D) : Pt w u.drew v D := ⟨h.own, h.bel.drew⟩
theorem Pt.alloc {w u : World} {v : Value} {D : List Int} (h : Pt w u v D) (o : Obj) : Pt w (u.alloc o) v D := ⟨h.own.alloc _, h.bel.alloc h.bel.size _⟩

theorem own_block {S : Nat} {w : World} {v : Value} {n : Nat} {xs : List Value} (h : w.ownsRow S 3 1 v n xs) : ∀ k, v.ownBlock = some k → S ≤ k := fun k hk => by
  rcases h.2 with ⟨hv, h0⟩ | ⟨g', c, cur, hv, hS, _⟩
  · subst hv; cases hk
  · subst hv; cases hk; exact hS

theorem Pt.app {w u w1 : World} {v v' : Value} {D D' : List Int} (h : Pt w u v D) (hown : Own w1 w.heap.size v' D') (hg : u.grownBy w1 v.ownBlock) : Pt w w1 v' D' :=
  ⟨hown, h.bel.grown hg h.bel.size (own_block h.own)⟩

/-- One int in a block of its own. -/
def Lq (u : World) (b : Nat) (q : Int) : Prop := u.cell? ⟨b, 0, none⟩ = some (.int .i64 q) ∧ b < u.heap.size
theorem Lq.new (u : World) (q : Int) : Lq (u.alloc (.cells #[.int .i64 q] 3)) u.heap.size q := ⟨by simp [go_sem], by simp [go_sem]⟩
theorem Lq.drew {u : World} {b : Nat} {q : Int} (h : Lq u b q) : Lq u.drew b q := h
theorem Lq.alloc {u : World} {b : Nat} {q : Int} (h : Lq u b q) (o : Obj) : Lq (u.alloc o) b q :=
  ⟨(((Below.refl u.heap.size u).alloc (Nat.le_refl _) o).cell (p := ⟨b, 0, none⟩) h.2).trans h.1, by simp [go_sem]; have := h.2; omega⟩
theorem Lq.grown {u w1 : World} {b : Nat} {q : Int} (h : Lq u b q) {row : Option Nat} (hg : u.grownBy w1 row) (hne : some b ≠ row) : Lq w1 b q :=
  ⟨(World.cell?_of_block (w := u) (hg.block b h.2 hne)).trans h.1, Nat.lt_of_lt_of_le h.2 hg.size⟩
theorem Lq.is {u : World} {b : Nat} {q : Int} (h : Lq u b q) : Is u u.heap.size (some ⟨b, 0, none⟩) [q] := fun _ => ⟨_, rfl, h.2, fun j hj => by
  have : j = 0 := by simpa using hj
  subst this
  exact h.1⟩

theorem size_alloc (w : World) (o : Obj) : (w.alloc o).heap.size = w.heap.size + 1 := by simp [go_sem]
theorem ptBA (w : World) (o : Obj) : Pt w ((w.alloc o).alloc (.cells #[] 3)).drew (.slice (some ⟨w.heap.size + 1, 0, none⟩) 0 0) [] := by
  rw [← size_alloc w o]; exact (Pt.new ((Below.refl _ _).alloc (Nat.le_refl _) _)).drew
theorem lqAB (w : World) (o : Obj) (q : Int) : Lq ((w.alloc o).alloc (.cells #[.int .i64 q] 3)).drew (w.heap.size + 1) q := by
  rw [← size_alloc w o]; exact (Lq.new _ _).drew
theorem lqBA (w : World) (o : Obj) (q : Int) : Lq ((w.alloc (.cells #[.int .i64 q] 3)).alloc o).drew w.heap.size q := ((Lq.new w q).alloc o).drew

theorem pt_end {w u : World} {a3 : Option Addr} {N c3 : Nat} {zs : List Int} {q : Int} {k S : Nat} (h : Pt w u (.slice a3 N c3) ((zs.take k ++ [q]) ++ zs.drop k)) (hS : S ≤ w.heap.size) (hN : N = ((zs.take k ++ [q]) ++ zs.drop k).length) (e : putL zs q = (zs.take k ++ [q]) ++ zs.drop k) :
    PutAns S (putL zs q) w (.returned (.slice a3 N c3)) u := by
  rw [e]
  have h1 := h.own
  rcases h1.2 with ⟨_, h0⟩ | ⟨g', c, cur, hv, hle, r⟩
  · simp at h0
  · injection hv with e1 e2 e3
    subst e1; subst e3
    exact ⟨g', N, c3, hN, rfl, ⟨h1.1, .inr ⟨g', c3, cur, by rw [hN], by omega, r⟩⟩, h.bel⟩

end Go.Proofs.Ytencedbohnbogaa.UniS
