/-
  Whether a fraction is valid, asked of the program; boxes in memory behind calls.
-/
import Derived.Test.YtlpblipgehlniaaDoorMakeLaw
namespace Go.Proofs.YtlpblipgehlniaaDoor.IsFrac
open Go.RowKit Go.Proofs.YtlpblipgehlniaaDoor.Gcd Go.Proofs.YtlpblipgehlniaaDoor.Tz Go.Proofs.YtlpblipgehlniaaDoor.Common Go.Proofs.YtlpblipgehlniaaDoor.Red Go.Proofs.YtlpblipgehlniaaDoor.Amount Go.Proofs.YtlpblipgehlniaaDoor.Frac Go.Proofs.YtlpblipgehlniaaDoor.Make Go.Proofs.YtlpblipgehlniaaDoor.MakeLaw

/-- Block k holds two cells that may be written. -/
structure One (k : Nat) (w : World) (a b : Value) : Prop where
  lt : k < w.heap.size
  c0 : w.cell? ⟨k, 0, none⟩ = some a
  c1 : w.cell? ⟨k, 1, none⟩ = some b
  f0 : w.frozen? ⟨k, 0, none⟩ = false
  f1 : w.frozen? ⟨k, 1, none⟩ = false

theorem One.below {k : Nat} {w w' : World} {a b : Value} (h : One k w a b) (hb : Below w.heap.size w w') : One k w' a b :=
  ⟨Nat.lt_of_lt_of_le h.lt hb.size, (hb.cell (p := ⟨k, 0, none⟩) h.lt).trans h.c0, (hb.cell (p := ⟨k, 1, none⟩) h.lt).trans h.c1,
    (hb.frozen (p := ⟨k, 0, none⟩) h.lt).trans h.f0, (hb.frozen (p := ⟨k, 1, none⟩) h.lt).trans h.f1⟩

theorem One.new (w : World) (a b : Value) (T : TypeId) : One w.heap.size (w.alloc (.cells #[a, b] T)) a b :=
  ⟨by simp, by simp, by simp, by simp, by simp⟩

theorem One.alloc {k : Nat} {w : World} {a b : Value} (h : One k w a b) (o : Obj) : One k (w.alloc o) a b :=
  h.below ((Below.refl _ _).alloc (Nat.le_refl _) _)

theorem valid_takes {n d : Int} (h : Valid n d) : Takes n d := by
  obtain ⟨⟨h1, h2⟩, ⟨h3, h4⟩, _⟩ := h
  exact ⟨by omega, ⟨by omega, by omega⟩, by omega, by omega⟩

theorem valid_mk {n d : Int} (h : Valid n d) : mkN n d = n ∧ mkD n d = d ∧ mkB n d = true := by
  have ht := valid_takes h
  obtain ⟨e1, e2, e3⟩ := mk_yes ht
  obtain ⟨ho, v1, v2⟩ := (valid_iff n d ht.1).1 h
  obtain ⟨r1, r2, r3⟩ := res_yes ho
  exact ⟨by rw [e1, r1, v1], by rw [e2, r2, v2], by rw [e3, r3]⟩

theorem invalid_mk {n d : Int} (h : ¬ Valid n d) (hB : mkB n d = true) : mkN n d ≠ n ∨ mkD n d ≠ d := by
  by_cases ht : Takes n d
  · obtain ⟨e1, e2, e3⟩ := mk_yes ht
    have hb : resB n d = true := by rw [← e3]; exact hB
    have ho : Ok n d := by unfold resB at hb; exact of_decide_eq_true hb
    obtain ⟨r1, r2, _⟩ := res_yes ho
    apply Classical.byContradiction
    intro hc
    have hc1 : mkN n d = n := Classical.byContradiction fun x => hc (.inl x)
    have hc2 : mkD n d = d := Classical.byContradiction fun x => hc (.inr x)
    exact h ((valid_iff n d ht.1).2 ⟨ho, by rw [← r1, ← e1]; exact hc1, by rw [← r2, ← e2]; exact hc2⟩)
  · rw [(mk_no ht).2.2] at hB; cases hB

theorem fracYesB (n d : Int) (h : Valid n d) (w : World) :
    Calls Tryd.prog 46 #[.agg #[.int .i64 n, .int .i64 d]] w fun e w' => e = .returned (.bool true) ∧ Below w.heap.size w w' :=
  (fracYes n d h w).mono fun _ _ ⟨he, m, hw⟩ => ⟨he, by rw [hw]; exact below_drewN ((Below.refl _ _).alloc (Nat.le_refl _) _) m⟩

theorem fracNoB (n d : Int) (h : ¬ Valid n d) (w : World) :
    Calls Tryd.prog 46 #[.agg #[.int .i64 n, .int .i64 d]] w fun e w' => e = .returned (.bool false) ∧ Below w.heap.size w w' :=
  (fracNo n d h w).mono fun _ _ ⟨he, m, hw⟩ => ⟨he, by rw [hw]; exact below_drewN ((Below.refl _ _).alloc (Nat.le_refl _) _) m⟩

theorem mul_bd (a b : Int) (ha0 : -1000000000 ≤ a) (ha1 : a ≤ 1000000000) (hb0 : -1000000000 ≤ b) (hb1 : b ≤ 1000000000) : -1000000000000000000 ≤ a * b ∧ a * b ≤ 1000000000000000000 := by
  have h1 : (a * b).natAbs ≤ 1000000000 * 1000000000 := by
    rw [Int.natAbs_mul]
    exact Nat.mul_le_mul (by omega) (by omega)
  omega

theorem mul_pos (a b : Int) (ha : 1 ≤ a) (hb : 1 ≤ b) : 1 ≤ a * b := Int.mul_pos (by omega) (by omega)

end Go.Proofs.YtlpblipgehlniaaDoor.IsFrac
