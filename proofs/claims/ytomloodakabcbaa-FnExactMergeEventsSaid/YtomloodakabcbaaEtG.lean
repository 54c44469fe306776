/-
  A valid event: l8Event of the model, isValid of the program.
-/
import Derived.Test.YtomloodakabcbaaEtC
import Derived.Test.YtomloodakabcbaaNm
import Derived.Test.YtomloodakabcbaaNmI
import Derived.Test.YtomloodakabcbaaFm
import Derived.Deep.QuietTactic
import Derived.BigQuiet
namespace Go.Proofs.Ytomloodakabcbaa.Et
open Go.RowKit Go.Proofs.Ytomloodakabcbaa.Cond Go.Proofs.Ytomloodakabcbaa.Gx
set_option linter.unusedVariables false
set_option linter.unusedSimpArgs false

/-- A valid event, the last party being q. -/
def okE (m : E) (q : Int) : Bool := isDy m.day && ((decide (0 ≤ m.party) && decide (m.party ≤ q)) && (isNm m.act && (decide (0 ≤ m.amt) && decide (m.amt ≤ 1000000))))

set_option maxHeartbeats 4000000 in
theorem l8Event (m : E) (p q : Int) (hp : -9223372036854775808 ≤ p) (hp2 : p ≤ 9223372036854775807) (hq : (-9223372036854775808 < p ∧ q = p - 1) ∨ (p = -9223372036854775808 ∧ q = wrap64 (-9223372036854775809))) (w : World) :
    Calls Try.prog 27 #[m.val, .int .i64 p] w fun e w' => e = .returned (.bool (okE m q)) ∧ Below w.heap.size w w' := by
  obtain ⟨X, hX⟩ : ∃ X, X = w.alloc (.cells #[.int .i64 m.day, .int .i64 m.party, .string m.act, .int .i64 m.amt] 38) := ⟨_, rfl⟩
  have HB := Lib.hid (show Below w.heap.size w X by rw [hX]; exact below1 _ _)
  obtain ⟨c0, c1, c2, c3⟩ := b4 (m := m) (show Bk w.heap.size X m.cells by rw [hX]; exact Bk.new _ _ _)
  obtain ⟨t1, h1⟩ : ∃ t, t = isDy m.day := ⟨_, rfl⟩
  obtain ⟨t2, h2⟩ : ∃ t, t = (decide (0 ≤ m.party) && decide (m.party ≤ q)) := ⟨_, rfl⟩
  obtain ⟨t3, h3⟩ : ∃ t, t = isNm m.act := ⟨_, rfl⟩
  obtain ⟨t4, h4⟩ : ∃ t, t = (decide (0 ≤ m.amt) && decide (m.amt ≤ 1000000)) := ⟨_, rfl⟩
  have HT := Lib.hid (And.intro h1 (And.intro h2 (And.intro h3 h4)))
  have H1 : Hid (∀ v, Calls Try.prog 39 #[.int .i64 m.day] v fun e w' => e = .returned (.bool t1) ∧ w' = v) := Lib.hid fun v => by rw [h1]; exact (l3Good _ v).mono fun e w' ⟨he, hw⟩ => ⟨he, hw.symm⟩
  have H2 : Hid (∀ v, Calls Try.prog 28 #[.int .i64 m.party, .int .i64 0, .int .i64 q] v fun e w' => e = .returned (.bool t2) ∧ w' = v) := Lib.hid fun v => by rw [h2]; exact (l1In _ _ _ v).mono fun e w' ⟨he, hw⟩ => ⟨he, hw.symm⟩
  have H3 : Hid (∀ v, Calls Try.prog 40 #[.string m.act] v fun e w' => e = .returned (.bool t3) ∧ w' = v) := Lib.hid fun v => by rw [h3]; exact (l5Name _ v).mono fun e w' ⟨he, hw⟩ => ⟨he, hw.symm⟩
  have H4 : Hid (∀ v, Calls Try.prog 28 #[.int .i64 m.amt, .int .i64 0, .int .i64 1000000] v fun e w' => e = .returned (.bool t4) ∧ w' = v) := Lib.hid fun v => by rw [h4]; exact (l1In _ _ _ v).mono fun e w' ⟨he, hw⟩ => ⟨he, hw.symm⟩
  clear h1 h2 h3 h4
  go_enter Try.func27, Try.ntmps27
  go_wp2_with fail
  rw [← hX]
  clear hX
  rcases hq with ⟨hq1, rfl⟩ | ⟨rfl, rfl⟩
  · cases t1
    · have HR : Hid (okE m (p - 1) = false) := Lib.hid (by obtain ⟨h1, h2, h3, h4⟩ := HT.out; simp [okE, ← h1, ← h2, ← h3, ← h4])
      go_wp2_with (first | (go_at_call 39; with_reducible refine (H1.out _).mono ?_; rintro e w1 ⟨rfl, hw⟩; rw [hw]; clear hw))
      go_ret
      exact ⟨by rw [HR.out]; first | rfl | (show Ending.returned (.bool (decide (m.amt ≤ 1000000))) = _; rw [decide_eq_false (by omega)]), (by first | exact HB.out | exact below_drewN HB.out _ | exact Below.drew HB.out)⟩
    cases t2
    · have HR : Hid (okE m (p - 1) = false) := Lib.hid (by obtain ⟨h1, h2, h3, h4⟩ := HT.out; simp [okE, ← h1, ← h2, ← h3, ← h4])
      go_wp2_with (first | (go_at_call 39; with_reducible refine (H1.out _).mono ?_; rintro e w1 ⟨rfl, hw⟩; rw [hw]; clear hw) | (go_at_call 28; with_reducible refine (H2.out _).mono ?_; rintro e w1 ⟨rfl, hw⟩; rw [hw]; clear hw))
      go_ret
      exact ⟨by rw [HR.out]; first | rfl | (show Ending.returned (.bool (decide (m.amt ≤ 1000000))) = _; rw [decide_eq_false (by omega)]), (by first | exact HB.out | exact below_drewN HB.out _ | exact Below.drew HB.out)⟩
    cases t3
    · have HR : Hid (okE m (p - 1) = false) := Lib.hid (by obtain ⟨h1, h2, h3, h4⟩ := HT.out; simp [okE, ← h1, ← h2, ← h3, ← h4])
      go_wp2_with (first | (go_at_call 39; with_reducible refine (H1.out _).mono ?_; rintro e w1 ⟨rfl, hw⟩; rw [hw]; clear hw) | (go_at_call 28; with_reducible refine (H2.out _).mono ?_; rintro e w1 ⟨rfl, hw⟩; rw [hw]; clear hw) | (go_at_call 40; with_reducible refine (H3.out _).mono ?_; rintro e w1 ⟨rfl, hw⟩; rw [hw]; clear hw))
      go_ret
      exact ⟨by rw [HR.out]; first | rfl | (show Ending.returned (.bool (decide (m.amt ≤ 1000000))) = _; rw [decide_eq_false (by omega)]), (by first | exact HB.out | exact below_drewN HB.out _ | exact Below.drew HB.out)⟩
    cases t4
    · have HR : Hid (okE m (p - 1) = false) := Lib.hid (by obtain ⟨h1, h2, h3, h4⟩ := HT.out; simp [okE, ← h1, ← h2, ← h3, ← h4])
      go_wp2_with (first | (go_at_call 39; with_reducible refine (H1.out _).mono ?_; rintro e w1 ⟨rfl, hw⟩; rw [hw]; clear hw) | (go_at_call 28; with_reducible refine (H2.out _).mono ?_; rintro e w1 ⟨rfl, hw⟩; rw [hw]; clear hw) | (go_at_call 40; with_reducible refine (H3.out _).mono ?_; rintro e w1 ⟨rfl, hw⟩; rw [hw]; clear hw) | (go_at_call 28; with_reducible refine (H4.out _).mono ?_; rintro e w1 ⟨rfl, hw⟩; rw [hw]; clear hw))
      go_ret
      exact ⟨by rw [HR.out]; first | rfl | (show Ending.returned (.bool (decide (m.amt ≤ 1000000))) = _; rw [decide_eq_false (by omega)]), (by first | exact HB.out | exact below_drewN HB.out _ | exact Below.drew HB.out)⟩
    have HR : Hid (okE m (p - 1) = true) := Lib.hid (by obtain ⟨h1, h2, h3, h4⟩ := HT.out; simp [okE, ← h1, ← h2, ← h3, ← h4])
    go_wp2_with (first | (go_at_call 39; with_reducible refine (H1.out _).mono ?_; rintro e w1 ⟨rfl, hw⟩; rw [hw]; clear hw) | (go_at_call 28; with_reducible refine (H2.out _).mono ?_; rintro e w1 ⟨rfl, hw⟩; rw [hw]; clear hw) | (go_at_call 40; with_reducible refine (H3.out _).mono ?_; rintro e w1 ⟨rfl, hw⟩; rw [hw]; clear hw) | (go_at_call 28; with_reducible refine (H4.out _).mono ?_; rintro e w1 ⟨rfl, hw⟩; rw [hw]; clear hw))
    go_ret
    exact ⟨by rw [HR.out]; first | rfl | (show Ending.returned (.bool (decide (m.amt ≤ 1000000))) = _; rw [decide_eq_false (by omega)]), (by first | exact HB.out | exact below_drewN HB.out _ | exact Below.drew HB.out)⟩
  · cases t1
    · have HR : Hid (okE m (wrap64 (-9223372036854775809)) = false) := Lib.hid (by obtain ⟨h1, h2, h3, h4⟩ := HT.out; simp [okE, ← h1, ← h2, ← h3, ← h4])
      go_wp2_with (first | (go_at_call 39; with_reducible refine (H1.out _).mono ?_; rintro e w1 ⟨rfl, hw⟩; rw [hw]; clear hw))
      go_ret
      exact ⟨by rw [HR.out]; first | rfl | (show Ending.returned (.bool (decide (m.amt ≤ 1000000))) = _; rw [decide_eq_false (by omega)]), (by first | exact HB.out | exact below_drewN HB.out _ | exact Below.drew HB.out)⟩
    cases t2
    · have HR : Hid (okE m (wrap64 (-9223372036854775809)) = false) := Lib.hid (by obtain ⟨h1, h2, h3, h4⟩ := HT.out; simp [okE, ← h1, ← h2, ← h3, ← h4])
      go_wp2_with (first | (go_at_call 39; with_reducible refine (H1.out _).mono ?_; rintro e w1 ⟨rfl, hw⟩; rw [hw]; clear hw) | (go_at_call 28; with_reducible refine (H2.out _).mono ?_; rintro e w1 ⟨rfl, hw⟩; rw [hw]; clear hw))
      go_ret
      exact ⟨by rw [HR.out]; first | rfl | (show Ending.returned (.bool (decide (m.amt ≤ 1000000))) = _; rw [decide_eq_false (by omega)]), (by first | exact HB.out | exact below_drewN HB.out _ | exact Below.drew HB.out)⟩
    cases t3
    · have HR : Hid (okE m (wrap64 (-9223372036854775809)) = false) := Lib.hid (by obtain ⟨h1, h2, h3, h4⟩ := HT.out; simp [okE, ← h1, ← h2, ← h3, ← h4])
      go_wp2_with (first | (go_at_call 39; with_reducible refine (H1.out _).mono ?_; rintro e w1 ⟨rfl, hw⟩; rw [hw]; clear hw) | (go_at_call 28; with_reducible refine (H2.out _).mono ?_; rintro e w1 ⟨rfl, hw⟩; rw [hw]; clear hw) | (go_at_call 40; with_reducible refine (H3.out _).mono ?_; rintro e w1 ⟨rfl, hw⟩; rw [hw]; clear hw))
      go_ret
      exact ⟨by rw [HR.out]; first | rfl | (show Ending.returned (.bool (decide (m.amt ≤ 1000000))) = _; rw [decide_eq_false (by omega)]), (by first | exact HB.out | exact below_drewN HB.out _ | exact Below.drew HB.out)⟩
    cases t4
    · have HR : Hid (okE m (wrap64 (-9223372036854775809)) = false) := Lib.hid (by obtain ⟨h1, h2, h3, h4⟩ := HT.out; simp [okE, ← h1, ← h2, ← h3, ← h4])
      go_wp2_with (first | (go_at_call 39; with_reducible refine (H1.out _).mono ?_; rintro e w1 ⟨rfl, hw⟩; rw [hw]; clear hw) | (go_at_call 28; with_reducible refine (H2.out _).mono ?_; rintro e w1 ⟨rfl, hw⟩; rw [hw]; clear hw) | (go_at_call 40; with_reducible refine (H3.out _).mono ?_; rintro e w1 ⟨rfl, hw⟩; rw [hw]; clear hw) | (go_at_call 28; with_reducible refine (H4.out _).mono ?_; rintro e w1 ⟨rfl, hw⟩; rw [hw]; clear hw))
      go_ret
      exact ⟨by rw [HR.out]; first | rfl | (show Ending.returned (.bool (decide (m.amt ≤ 1000000))) = _; rw [decide_eq_false (by omega)]), (by first | exact HB.out | exact below_drewN HB.out _ | exact Below.drew HB.out)⟩
    have HR : Hid (okE m (wrap64 (-9223372036854775809)) = true) := Lib.hid (by obtain ⟨h1, h2, h3, h4⟩ := HT.out; simp [okE, ← h1, ← h2, ← h3, ← h4])
    go_wp2_with (first | (go_at_call 39; with_reducible refine (H1.out _).mono ?_; rintro e w1 ⟨rfl, hw⟩; rw [hw]; clear hw) | (go_at_call 28; with_reducible refine (H2.out _).mono ?_; rintro e w1 ⟨rfl, hw⟩; rw [hw]; clear hw) | (go_at_call 40; with_reducible refine (H3.out _).mono ?_; rintro e w1 ⟨rfl, hw⟩; rw [hw]; clear hw) | (go_at_call 28; with_reducible refine (H4.out _).mono ?_; rintro e w1 ⟨rfl, hw⟩; rw [hw]; clear hw))
    go_ret
    exact ⟨by rw [HR.out]; first | rfl | (show Ending.returned (.bool (decide (m.amt ≤ 1000000))) = _; rw [decide_eq_false (by omega)]), (by first | exact HB.out | exact below_drewN HB.out _ | exact Below.drew HB.out)⟩

theorem isIndexE (i : Int) (n : Nat) (w : World) : Calls Try.prog 43 #[.int .i64 i, .int .i64 (n : Int)] w fun e w' => e = .returned (.bool (decide (0 ≤ i) && decide (i ≤ (n : Int) - 1))) ∧ w = w' := by
  go_enter Try.func43, Try.ntmps43
  go_wp2
  all_goals go_ret
  all_goals refine ⟨?_, rfl⟩
  all_goals (first | (simp; done) | (simp; omega) | (simp; rw [Bool.eq_iff_iff]; simp; omega))

set_option maxHeartbeats 4000000 in
theorem isValidE (m : E) (n : Nat) (hn : n ≤ 4) (hm : m.act.size ≤ maxLen) (w : World) :
    Calls Try.prog 33 #[m.val, .int .i64 (n : Int)] w fun e w' => e = .returned (.bool (okE m ((n : Int) - 1))) ∧ Below w.heap.size w w' := by
  obtain ⟨X, hX⟩ : ∃ X, X = w.alloc (.cells #[.int .i64 m.day, .int .i64 m.party, .string m.act, .int .i64 m.amt] 38) := ⟨_, rfl⟩
  have HB := Lib.hid (show Below w.heap.size w X by rw [hX]; exact below1 _ _)
  obtain ⟨c0, c1, c2, c3⟩ := b4 (m := m) (show Bk w.heap.size X m.cells by rw [hX]; exact Bk.new _ _ _)
  obtain ⟨t1, h1⟩ : ∃ t, t = isDy m.day := ⟨_, rfl⟩
  obtain ⟨t2, h2⟩ : ∃ t, t = (decide (0 ≤ m.party) && decide (m.party ≤ (n : Int) - 1)) := ⟨_, rfl⟩
  obtain ⟨t3, h3⟩ : ∃ t, t = isNm m.act := ⟨_, rfl⟩
  have H1 : Hid (∀ v, Calls Try.prog 42 #[.int .i64 m.day] v fun e w' => e = .returned (.bool t1) ∧ w' = v) := Lib.hid fun v => by rw [h1]; exact (isDay _ v).mono fun e w' ⟨he, hw⟩ => ⟨he, hw.symm⟩
  have H2 : Hid (∀ v, Calls Try.prog 43 #[.int .i64 m.party, .int .i64 (n : Int)] v fun e w' => e = .returned (.bool t2) ∧ w' = v) := Lib.hid fun v => by rw [h2]; exact (isIndexE _ n v).mono fun e w' ⟨he, hw⟩ => ⟨he, hw.symm⟩
  have H3 : Hid (∀ v, Calls Try.prog 44 #[.string m.act] v fun e w' => e = .returned (.bool t3) ∧ w' = v) := Lib.hid fun v => by rw [h3]; exact (isValidName _ hm v).mono fun e w' ⟨he, hw⟩ => ⟨he, hw.symm⟩
  have HT := Lib.hid (And.intro h1 (And.intro h2 h3))
  clear h1 h2 h3
  go_enter Try.func33, Try.ntmps33
  go_wp2_with fail
  rw [← hX]
  clear hX
  cases t1
  · have HR : Hid (okE m ((n : Int) - 1) = false) := Lib.hid (by obtain ⟨h1, h2, h3⟩ := HT.out; simp [okE, ← h1, ← h2, ← h3])
    go_wp2_with (first | (go_at_call 42; with_reducible refine (H1.out _).mono ?_; rintro e w1 ⟨rfl, hw⟩; rw [hw]; clear hw))
    go_ret
    exact ⟨by rw [HR.out]; first | rfl | (show Ending.returned (.bool (decide (m.amt ≤ 1000000))) = _; rw [decide_eq_false (by omega)]), (by first | exact HB.out | exact below_drewN HB.out _ | exact Below.drew HB.out)⟩
  cases t2
  · have HR : Hid (okE m ((n : Int) - 1) = false) := Lib.hid (by obtain ⟨h1, h2, h3⟩ := HT.out; simp [okE, ← h1, ← h2, ← h3])
    go_wp2_with (first | (go_at_call 42; with_reducible refine (H1.out _).mono ?_; rintro e w1 ⟨rfl, hw⟩; rw [hw]; clear hw) | (go_at_call 43; with_reducible refine (H2.out _).mono ?_; rintro e w1 ⟨rfl, hw⟩; rw [hw]; clear hw))
    go_ret
    exact ⟨by rw [HR.out]; first | rfl | (show Ending.returned (.bool (decide (m.amt ≤ 1000000))) = _; rw [decide_eq_false (by omega)]), (by first | exact HB.out | exact below_drewN HB.out _ | exact Below.drew HB.out)⟩
  cases t3
  · have HR : Hid (okE m ((n : Int) - 1) = false) := Lib.hid (by obtain ⟨h1, h2, h3⟩ := HT.out; simp [okE, ← h1, ← h2, ← h3])
    go_wp2_with (first | (go_at_call 42; with_reducible refine (H1.out _).mono ?_; rintro e w1 ⟨rfl, hw⟩; rw [hw]; clear hw) | (go_at_call 43; with_reducible refine (H2.out _).mono ?_; rintro e w1 ⟨rfl, hw⟩; rw [hw]; clear hw) | (go_at_call 44; with_reducible refine (H3.out _).mono ?_; rintro e w1 ⟨rfl, hw⟩; rw [hw]; clear hw))
    go_ret
    exact ⟨by rw [HR.out]; first | rfl | (show Ending.returned (.bool (decide (m.amt ≤ 1000000))) = _; rw [decide_eq_false (by omega)]), (by first | exact HB.out | exact below_drewN HB.out _ | exact Below.drew HB.out)⟩
  by_cases h4 : 0 ≤ m.amt
  · by_cases h5 : m.amt ≤ 1000000
    · have HR : Hid (okE m ((n : Int) - 1) = true) := Lib.hid (by obtain ⟨h1, h2, h3⟩ := HT.out; simp [okE, ← h1, ← h2, ← h3, h4, h5])
      go_wp2_with (first | (go_at_call 42; with_reducible refine (H1.out _).mono ?_; rintro e w1 ⟨rfl, hw⟩; rw [hw]; clear hw) | (go_at_call 43; with_reducible refine (H2.out _).mono ?_; rintro e w1 ⟨rfl, hw⟩; rw [hw]; clear hw) | (go_at_call 44; with_reducible refine (H3.out _).mono ?_; rintro e w1 ⟨rfl, hw⟩; rw [hw]; clear hw))
      go_ret
      exact ⟨by rw [HR.out]; first | rfl | (show Ending.returned (.bool (decide (m.amt ≤ 1000000))) = _; rw [decide_eq_false (by omega)]), (by first | exact HB.out | exact below_drewN HB.out _ | exact Below.drew HB.out)⟩
    · have HR : Hid (okE m ((n : Int) - 1) = false) := Lib.hid (by obtain ⟨h1, h2, h3⟩ := HT.out; simp [okE, h4, h5])
      go_wp2_with (first | (go_at_call 42; with_reducible refine (H1.out _).mono ?_; rintro e w1 ⟨rfl, hw⟩; rw [hw]; clear hw) | (go_at_call 43; with_reducible refine (H2.out _).mono ?_; rintro e w1 ⟨rfl, hw⟩; rw [hw]; clear hw) | (go_at_call 44; with_reducible refine (H3.out _).mono ?_; rintro e w1 ⟨rfl, hw⟩; rw [hw]; clear hw))
      go_ret
      exact ⟨by rw [HR.out]; first | rfl | (show Ending.returned (.bool (decide (m.amt ≤ 1000000))) = _; rw [decide_eq_false (by omega)]), (by first | exact HB.out | exact below_drewN HB.out _ | exact Below.drew HB.out)⟩
  · have HR : Hid (okE m ((n : Int) - 1) = false) := Lib.hid (by obtain ⟨h1, h2, h3⟩ := HT.out; simp [okE, h4])
    go_wp2_with (first | (go_at_call 42; with_reducible refine (H1.out _).mono ?_; rintro e w1 ⟨rfl, hw⟩; rw [hw]; clear hw) | (go_at_call 43; with_reducible refine (H2.out _).mono ?_; rintro e w1 ⟨rfl, hw⟩; rw [hw]; clear hw) | (go_at_call 44; with_reducible refine (H3.out _).mono ?_; rintro e w1 ⟨rfl, hw⟩; rw [hw]; clear hw))
    go_ret
    exact ⟨by rw [HR.out]; first | rfl | (show Ending.returned (.bool (decide (m.amt ≤ 1000000))) = _; rw [decide_eq_false (by omega)]), (by first | exact HB.out | exact below_drewN HB.out _ | exact Below.drew HB.out)⟩

end Go.Proofs.Ytomloodakabcbaa.Et
