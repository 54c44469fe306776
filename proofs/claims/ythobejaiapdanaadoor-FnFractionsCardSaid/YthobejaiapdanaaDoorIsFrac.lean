/-
  Whether a fraction is valid, asked of the program; boxes in memory behind calls.
-/
import Derived.Test.YthobejaiapdanaaDoorMakeLaw
namespace Go.Proofs.YthobejaiapdanaaDoor.IsFrac
open Go.RowKit Go.Proofs.YthobejaiapdanaaDoor.Gcd Go.Proofs.YthobejaiapdanaaDoor.Tz Go.Proofs.YthobejaiapdanaaDoor.Common Go.Proofs.YthobejaiapdanaaDoor.Red Go.Proofs.YthobejaiapdanaaDoor.Amount Go.Proofs.YthobejaiapdanaaDoor.Frac Go.Proofs.YthobejaiapdanaaDoor.Make Go.Proofs.YthobejaiapdanaaDoor.MakeLaw

/-- Block k holds two cells that may be written. -/
structure One (k : Nat) (w : World) (a b : Value) : Prop where
  lt : k < w.heap.size
  c0 : w.cell? ⟨k, 0, none⟩ = some a
  c1 : w.cell? ⟨k, 1, none⟩ = some b
  f0 : w.frozen? ⟨k, 0, none⟩ = false
  f1 : w.frozen? ⟨k, 1, none⟩ = false

theorem One.below {k : Nat} {w w' : World} {a b : Value} (h : One k w a b) (hb : Below w.heap.size w w') : One k w' a b :=
  ⟨Nat.lt_of_lt_of_le h.lt hb.size, (hb.cell (p := ⟨k, 0, none⟩) h.lt).trans h.c0, (hb.cell (p := ⟨k, 1, none⟩) h.lt).trans h.c1,
    (hb.frozen (p := ⟨k, 0, none⟩) h.lt).trans h.f0, (hb.frozen (p := ⟨k, 1, none⟩) h.lt).trans h.f1⟩

theorem One.new (w : World) (a b : Value) (T : TypeId) : One w.heap.size (w.alloc (.cells #[a, b] T)) a b :=
  ⟨by simp, by simp, by simp, by simp, by simp⟩

theorem One.alloc {k : Nat} {w : World} {a b : Value} (h : One k w a b) (o : Obj) : One k (w.alloc o) a b :=
  h.below ((Below.refl _ _).alloc (Nat.le_refl _) _)

theorem valid_takes {n d : Int} (h : Valid n d) : Takes n d := by
  obtain ⟨⟨h1, h2⟩, ⟨h3, h4⟩, _⟩ := h
  exact ⟨by omega, ⟨by omega, by omega⟩, by omega, by omega⟩

theorem valid_mk {n d : Int} (h : Valid n d) : mkN n d = n ∧ mkD n d = d ∧ mkB n d = true := by
  have ht := valid_takes h
  obtain ⟨e1, e2, e3⟩ := mk_yes ht
  obtain ⟨ho, v1, v2⟩ := (valid_iff n d ht.1).1 h
  obtain ⟨r1, r2, r3⟩ := res_yes ho
  exact ⟨by rw [e1, r1, v1], by rw [e2, r2, v2], by rw [e3, r3]⟩

theorem invalid_mk {n d : Int} (h : ¬ Valid n d) (hB : mkB n d = true) : mkN n d ≠ n ∨ mkD n d ≠ d := by
  by_cases ht : Takes n d
  · obtain ⟨e1, e2, e3⟩ := mk_yes ht
    have hb : resB n d = true := by rw [← e3]; exact hB
    have ho : Ok n d := by unfold resB at hb; exact of_decide_eq_true hb
    obtain ⟨r1, r2, _⟩ := res_yes ho
    apply Classical.byContradiction
    intro hc
    have hc1 : mkN n d = n := Classical.byContradiction fun x => hc (.inl x)
    have hc2 : mkD n d = d := Classical.byContradiction fun x => hc (.inr x)
    exact h ((valid_iff n d ht.1).2 ⟨ho, by rw [← r1, ← e1]; exact hc1, by rw [← r2, ← e2]; exact hc2⟩)
  · rw [(mk_no ht).2.2] at hB; cases hB

set_option maxHeartbeats 1000000 in
theorem isYes (n d : Int) (h : Valid n d) (w : World) (hT : Tab w) :
    Calls Tryd.prog 44 #[.agg #[.int .i64 n, .int .i64 d]] w fun e w' => e = .returned (.bool true) ∧ Below w.heap.size w w' := by
  obtain ⟨e1, e2, e3⟩ := valid_mk h
  have H1 := Lib.hid e1.symm
  have H2 := Lib.hid e2.symm
  have H3 := Lib.hid e3.symm
  have HT := Lib.hid hT
  clear e1 e2 e3 hT h
  go_enter Tryd.func44, Tryd.ntmps44
  go_wp2_with (go_at_call 30; refine (mkAt (Make.impl n d _ (Tab.alloc HT.out _)) H1.out H2.out H3.out).mono ?_; rintro e w1 ⟨rfl, hb⟩; refine Hid.out ?_)
  refine Lib.hid ?_
  obtain ⟨hlt, c0, c1, f0, f1⟩ := (One.new w (.int .i64 n) (.int .i64 d) 31).below hb
  go_wp2_with fail
  have b1 : Below w.heap.size w w1 := ((Below.refl _ _).alloc (Nat.le_refl _) _).trans (hb.mono (by simp))
  all_goals go_ret
  all_goals exact ⟨by simp, b1.alloc b1.size _⟩

set_option maxHeartbeats 1000000 in
theorem isNo (n d : Int) (h : ¬ Valid n d) (w : World) (hT : Tab w) :
    Calls Tryd.prog 44 #[.agg #[.int .i64 n, .int .i64 d]] w fun e w' => e = .returned (.bool false) ∧ Below w.heap.size w w' := by
  obtain ⟨rN, hrN⟩ : ∃ x, x = mkN n d := ⟨_, rfl⟩
  obtain ⟨rD, hrD⟩ : ∃ x, x = mkD n d := ⟨_, rfl⟩
  obtain ⟨rB, hrB⟩ : ∃ x, x = mkB n d := ⟨_, rfl⟩
  have H1 := Lib.hid hrN
  have H2 := Lib.hid hrD
  have H3 := Lib.hid hrB
  have HT := Lib.hid hT
  have HI := Lib.hid (invalid_mk h)
  rw [← hrN, ← hrD, ← hrB] at HI
  clear hrN hrD hrB hT h
  cases rB with
  | false =>
    clear HI
    go_enter Tryd.func44, Tryd.ntmps44
    go_wp2_with (go_at_call 30; refine (mkAt (Make.impl n d _ (Tab.alloc HT.out _)) H1.out H2.out H3.out).mono ?_; rintro e w1 ⟨rfl, hb⟩; refine Hid.out ?_)
    refine Lib.hid ?_
    obtain ⟨hlt, c0, c1, f0, f1⟩ := (One.new w (.int .i64 n) (.int .i64 d) 31).below hb
    go_wp2_with fail
    have b1 : Below w.heap.size w w1 := ((Below.refl _ _).alloc (Nat.le_refl _) _).trans (hb.mono (by simp))
    all_goals go_ret
    all_goals exact ⟨rfl, b1.alloc b1.size _⟩
  | true =>
    have HQ : Hid (rN ≠ n ∨ rD ≠ d) := Lib.hid (HI.out rfl)
    clear HI
    go_enter Tryd.func44, Tryd.ntmps44
    go_wp2_with (go_at_call 30; refine (mkAt (Make.impl n d _ (Tab.alloc HT.out _)) H1.out H2.out H3.out).mono ?_; rintro e w1 ⟨rfl, hb⟩; refine Hid.out ?_)
    refine Lib.hid ?_
    obtain ⟨hlt, c0, c1, f0, f1⟩ := (One.new w (.int .i64 n) (.int .i64 d) 31).below hb
    have b1 : Below w.heap.size w w1 := ((Below.refl _ _).alloc (Nat.le_refl _) _).trans (hb.mono (by simp))
    go_wp2_with fail
    all_goals go_ret
    all_goals (refine ⟨?_, b1.alloc b1.size _⟩)
    all_goals (first | rfl | (exfalso; have hq := HQ.out; simp_all))

theorem fracYesB (n d : Int) (h : Valid n d) (w : World) :
    Calls Tryd.prog 47 #[.agg #[.int .i64 n, .int .i64 d]] w fun e w' => e = .returned (.bool true) ∧ Below w.heap.size w w' :=
  (fracYes n d h w).mono fun _ _ ⟨he, m, hw⟩ => ⟨he, by rw [hw]; exact below_drewN ((Below.refl _ _).alloc (Nat.le_refl _) _) m⟩

theorem fracNoB (n d : Int) (h : ¬ Valid n d) (w : World) :
    Calls Tryd.prog 47 #[.agg #[.int .i64 n, .int .i64 d]] w fun e w' => e = .returned (.bool false) ∧ Below w.heap.size w w' :=
  (fracNo n d h w).mono fun _ _ ⟨he, m, hw⟩ => ⟨he, by rw [hw]; exact below_drewN ((Below.refl _ _).alloc (Nat.le_refl _) _) m⟩

theorem mul_bd (a b : Int) (ha0 : -1000000000 ≤ a) (ha1 : a ≤ 1000000000) (hb0 : -1000000000 ≤ b) (hb1 : b ≤ 1000000000) : -1000000000000000000 ≤ a * b ∧ a * b ≤ 1000000000000000000 := by
  have h1 : (a * b).natAbs ≤ 1000000000 * 1000000000 := by
    rw [Int.natAbs_mul]
    exact Nat.mul_le_mul (by omega) (by omega)
  omega

theorem mul_pos (a b : Int) (ha : 1 ≤ a) (hb : 1 ≤ b) : 1 ≤ a * b := Int.mul_pos (by omega) (by omega)

end Go.Proofs.YthobejaiapdanaaDoor.IsFrac
