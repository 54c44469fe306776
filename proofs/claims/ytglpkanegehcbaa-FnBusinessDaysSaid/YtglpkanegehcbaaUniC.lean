/-
  slices.Grow of a nil slice and slices.Concat of two slices of ints.
-/
import Derived.Test.YtglpkanegehcbaaUniS
import Derived.Lib.AppendZerosOnto
namespace Go.Proofs.Ytglpkanegehcbaa.UniC
open Go.RowKit Go.Proofs.Ytglpkanegehcbaa.IRow Go.Proofs.Ytglpkanegehcbaa.Biz Go.Proofs.Ytglpkanegehcbaa.UniMath Go.Proofs.Ytglpkanegehcbaa.UniS
set_option linter.unusedVariables false
set_option linter.unusedSimpArgs false

def OwnAns (D : List Int) (w : World) (e : Ending) (w' : World) : Prop :=
  ∃ A3 n3 c3, n3 = D.length ∧ e = .returned (.slice A3 n3 c3) ∧ Own w' w.heap.size (.slice A3 n3 c3) D ∧ Below w.heap.size w w'

set_option maxRecDepth 100000 in
set_option maxHeartbeats 4000000 in
theorem grow (n : Nat) (w : World) (hm : n ≤ 2000) :
    Calls Try.prog 74 #[.slice none 0 0, .int .i64 n] w (OwnAns [] w) := by
  obtain ⟨i0, hi, hz0, hz1, hz2⟩ := info_parts infoInt
  have HZ := Lib.hid hz2
  clear hz2
  have h0 : ¬ ((n : Int) < 0) := by omega
  by_cases hp : 0 < n
  · have h1 : (0 : Int) < (n : Int) := by omega
    have hrz : ∀ ty, (Builtin.append_ #[24, 3] ty #[.slice none 0 0, .int .i64 n]).run Try.prog w =
        .ok (.slice (some ⟨w.heap.size, 0, none⟩) n (grownCap w n 0 3)) (w.drew.alloc (.cells ((#[] : Array Value) ++ Builtin.zeroCells (Value.int .i64 0).cells n ++ Builtin.zeroCells (Value.int .i64 0).cells (grownCap w n 0 3 - n)) 3)) := fun ty => by
      have h := Lib.run_append_grow_zeros w 24 3 ty 3 i0 (.int .i64 0) .i64 .i64 Try.underlying24 Try.underlying3 hi hz0 none 0 0 [] (by rw [hz1]; exact run_firstCells_none w.drew 1 0 0 0) n (by omega) (by omega) (by omega) (by omega) (by rw [HZ.out]; omega) (by rw [HZ.out]; exact growslice_fits (by omega) (by omega))
      rw [Nat.zero_add] at h
      exact h
    have hGn : n ≤ grownCap w n 0 3 := grownCap_ge w _ _ _
    have hG63 : grownCap w n 0 3 ≤ 9223372036854775807 := by
      have := grownCap_le_maxLen w n 0 3 (by unfold maxLen; omega)
      unfold maxLen at this
      omega
    have HF : Hid (OwnAns [] w (.returned (.slice (some ⟨w.heap.size, 0, none⟩) 0 (grownCap w n 0 3))) (w.drew.alloc (.cells ((#[] : Array Value) ++ Builtin.zeroCells (Value.int .i64 0).cells n ++ Builtin.zeroCells (Value.int .i64 0).cells (grownCap w n 0 3 - n)) 3))) := Lib.hid (by
      refine ⟨_, 0, _, rfl, rfl, ⟨by simp, .inr ⟨w.heap.size, _, _, rfl, Nat.le_refl _, heap_alloc_new w.drew _, Nat.zero_le _, by unfold maxLen; omega, ?_, by simp⟩⟩, ((Below.refl _ _).drew).alloc (Nat.le_refl _) _⟩
      simp [size_zeroCells, Value.cells]
      omega)
    generalize grownCap w n 0 3 = G at *
    generalize ((#[] : Array Value) ++ Builtin.zeroCells (Value.int .i64 0).cells n ++ Builtin.zeroCells (Value.int .i64 0).cells (G - n)) = cs at *
    go_enter Try.func74, Try.ntmps74
    go_wp2_with (at_builtin; refine Lib.wpList_append_run _ rfl _ _ _ _ rfl _ _ rfl rfl _ _ (hrz _) ?_)
    all_goals (go_ret; exact HF.out)
  · have : n = 0 := by omega
    subst this
    go_enter Try.func74, Try.ntmps74
    go_wp2
    go_ret
    exact ⟨none, 0, 0, rfl, rfl, World.ownsRow_nil _ _ _ _, Below.refl _ _⟩

/-- Two slices of ints in a slice of slices. -/
structure Two (w : World) (L : Nat) (A1 : Option Addr) (n1 c1 : Nat) (A2 : Option Addr) (n2 c2 : Nat) : Prop where
  lt : L < w.heap.size
  x0 : w.cell? ⟨L, 0, none⟩ = some (.slice A1 n1 c1)
  x1 : w.cell? ⟨L, 1, none⟩ = some (.slice A2 n2 c2)

theorem Two.below {w w' : World} {L : Nat} {A1 A2 : Option Addr} {n1 c1 n2 c2 : Nat} (h : Two w L A1 n1 c1 A2 n2 c2) (hb : Below w.heap.size w w') : Two w' L A1 n1 c1 A2 n2 c2 :=
  ⟨Nat.lt_of_lt_of_le h.lt hb.size, (hb.cell (p := ⟨L, 0, none⟩) h.lt).trans h.x0, (hb.cell (p := ⟨L, 1, none⟩) h.lt).trans h.x1⟩

set_option maxRecDepth 100000 in
set_option maxHeartbeats 4000000 in
theorem concat (L : Nat) (A1 A2 : Option Addr) (n1 c1 n2 c2 : Nat) (a b : List Int) (w : World) (h2 : Two w L A1 n1 c1 A2 n2 c2) (h1 : n1 = a.length) (h3 : n2 = b.length) (hm1 : n1 ≤ 1000) (hm2 : n2 ≤ 1000) (hA1 : Is w w.heap.size A1 a) (hA2 : Is w w.heap.size A2 b) (hc1 : A1 = none → c1 = 0) (hc2 : A2 = none → c2 = 0) :
    Calls Try.prog 64 #[.slice (some ⟨L, 0, none⟩) 2 2] w (OwnAns (a ++ b) w) := by
  have HA1 := Lib.hid hA1
  have HA2 := Lib.hid hA2
  have HN1 := Lib.hid h1
  have HN2 := Lib.hid h3
  have HC1 := Lib.hid hc1
  have HC2 := Lib.hid hc2
  have HT := Lib.hid h2
  obtain ⟨hlt, x0, x1⟩ := h2
  clear hA1 hA2 h1 h3 hc1 hc2
  go_enter Try.func64, Try.ntmps64
  go_wp2_with fail
  go_loop [3, 11] (fun z i => (i = .int .i64 0 ∧ z = .int .i64 0) ∨ (i = .int .i64 1 ∧ z = .int .i64 n1) ∨ (i = .int .i64 2 ∧ z = .int .i64 ((n1 + n2 : Nat) : Int))) (fun _ i => 2 - (intOf i).toNat)
  case atStart => exact Or.inl ⟨rfl, rfl⟩
  case round =>
    have p1 : ¬ ((n1 : Int) < 0) := by omega
    have p2 : ¬ (((n1 + n2 : Nat) : Int) < 0) := by omega
    have p3 : wrap64 ((n1 : Int) + (n2 : Int)) = ((n1 + n2 : Nat) : Int) := by unfold wrap64; omega
    have p4 : wrap64 (n1 : Int) = (n1 : Int) := by unfold wrap64; omega
    rcases hrel with ⟨rfl, rfl⟩ | ⟨rfl, rfl⟩ | ⟨rfl, rfl⟩
    · go_wp2
      go_round
      case rel => exact Or.inr (Or.inl ⟨rfl, by first | rfl | simp⟩)
      case measure => simp [intOf]
    · go_wp2
      go_round
      case rel => exact Or.inr (Or.inr ⟨rfl, by first | rfl | simp⟩)
      case measure => simp [intOf]
    · go_wp2_with (go_at_call 74; refine (grow (n1 + n2) w (by omega)).mono ?_; rintro e w1 ⟨A3, n3, c3, hn3, rfl, hown, hb⟩; refine Hid.out ?_)
      refine Lib.hid ?_
      have HO : Hid (Pt w w1 (.slice A3 0 c3) []) := Lib.hid ⟨by rw [show n3 = 0 from hn3] at hown; exact hown, hb⟩
      clear hn3 hown hb
      go_wp2_with fail
      go_loopw [6, 27] (fun z i wr => ∃ (A4 : Option Addr) (n4 c4 : Nat), z = .slice A4 n4 c4 ∧ ((i = .int .i64 0 ∧ n4 = 0 ∧ Hid (Pt w wr (.slice A4 n4 c4) [])) ∨ (i = .int .i64 1 ∧ n4 = n1 ∧ Hid (Pt w wr (.slice A4 n4 c4) a)) ∨ (i = .int .i64 2 ∧ n4 = n1 + n2 ∧ Hid (Pt w wr (.slice A4 n4 c4) (a ++ b))))) (fun _ i _ => 2 - (intOf i).toNat)
      case atStart => exact ⟨A3, 0, c3, rfl, Or.inl ⟨rfl, rfl, HO⟩⟩
      case round =>
        obtain ⟨A4, n4, c4, rfl, h4⟩ := hrel
        rcases h4 with ⟨rfl, rfl, HP⟩ | ⟨rfl, rfl, HP⟩ | ⟨rfl, rfl, HP⟩
        · obtain ⟨_, y0, y1⟩ := HT.out.below HP.out.bel
          go_wp2_with (at_builtin; refine wp_app rfl _ _ rfl w.heap.size _ [] rfl HP.out.own A1 n1 c1 w.heap.size a rfl HN1.out (HA1.out.below HP.out.bel) HC1.out (by simp; omega) HP.out.bel.size ?_; intro a5 c5 w5 hown5 hg5 _; have HQ := Lib.hid (HP.out.app hown5 hg5); clear hown5 hg5; refine Hid.out ?_)
          refine Lib.hid ?_
          rw [List.length_nil, Nat.zero_add] at *
          go_wp2_with fail
          go_roundw
          case rel => exact ⟨a5, n1, c5, rfl, Or.inr (Or.inl ⟨rfl, rfl, HQ⟩)⟩
          case measure => simp [intOf]
        · obtain ⟨_, y0, y1⟩ := HT.out.below HP.out.bel
          have HL : Hid (a.length + n2 = n4 + n2) := Lib.hid (by have := HN1.out; omega)
          have HP' : Hid (Own wr w.heap.size (.slice A4 n4 c4) a) := Lib.hid HP.out.own
          go_wp2_with (at_builtin; refine wp_app rfl _ _ rfl w.heap.size _ a rfl HP.out.own A2 n2 c2 w.heap.size b rfl HN2.out (HA2.out.below HP.out.bel) HC2.out (by rw [HL.out]; omega) HP.out.bel.size ?_; rw [HL.out]; intro a5 c5 w5 hown5 hg5 _; have HQ := Lib.hid (HP.out.app hown5 hg5); clear hown5 hg5; refine Hid.out ?_)
          refine Lib.hid ?_
          go_wp2_with fail
          go_roundw
          case rel => exact ⟨a5, n4 + n2, c5, rfl, Or.inr (Or.inr ⟨rfl, rfl, HQ⟩)⟩
          case measure => simp [intOf]
        · have HF : Hid (OwnAns (a ++ b) w (.returned (.slice A4 (n1 + n2) c4)) wr) := Lib.hid ⟨A4, n1 + n2, c4, by rw [List.length_append, ← HN1.out, ← HN2.out], rfl, HP.out.own, HP.out.bel⟩
          go_wp2_with fail
          go_ret
          exact HF.out

end Go.Proofs.Ytglpkanegehcbaa.UniC
