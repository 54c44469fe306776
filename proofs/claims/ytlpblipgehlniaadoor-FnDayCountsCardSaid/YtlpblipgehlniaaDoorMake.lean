/-
  What MakeFraction and the tests of fractions return, of the model and of the program.
-/
import Derived.Test.YtlpblipgehlniaaDoorReduce
import Derived.Test.YtlpblipgehlniaaDoorReduceSpec
namespace Go.Proofs.YtlpblipgehlniaaDoor.Make
open Go.RowKit Go.Proofs.YtlpblipgehlniaaDoor.Gcd Go.Proofs.YtlpblipgehlniaaDoor.Tz Go.Proofs.YtlpblipgehlniaaDoor.Common Go.Proofs.YtlpblipgehlniaaDoor.Red Go.Proofs.YtlpblipgehlniaaDoor.Amount Go.Proofs.YtlpblipgehlniaaDoor.Frac

/-- MakeFraction takes n and d. -/
def Takes (n d : Int) : Prop := d ≠ 0 ∧ (-1000000000000000000 ≤ n ∧ n ≤ 1000000000000000000) ∧ (-1000000000000000000 ≤ d ∧ d ≤ 1000000000000000000)
instance (n d : Int) : Decidable (Takes n d) := inferInstanceAs (Decidable (_ ∧ _))
def mkN (n d : Int) : Int := if Takes n d then resN n d else 0
def mkD (n d : Int) : Int := if Takes n d then resD n d else 0
def mkB (n d : Int) : Bool := decide (Takes n d) && resB n d
def mkAns (n d : Int) (w : World) (e : Ending) (w' : World) : Prop := e = fracRet (mkN n d) (mkD n d) (mkB n d) ∧ Below w.heap.size w w'

theorem mk_yes {n d : Int} (h : Takes n d) : mkN n d = resN n d ∧ mkD n d = resD n d ∧ mkB n d = resB n d := by
  unfold mkN mkD mkB; simp [h]
theorem mk_no {n d : Int} (h : ¬ Takes n d) : mkN n d = 0 ∧ mkD n d = 0 ∧ mkB n d = false := by
  unfold mkN mkD mkB; simp [h]

/-- A new block of two cells, read behind a call that lets it alone. -/
theorem box2 {w w1 : World} {T : TypeId} {a b : Value} (hb : Below (w.alloc (.cells #[a, b] T)).heap.size (w.alloc (.cells #[a, b] T)) w1) :
    w1.cell? ⟨w.heap.size, 0, none⟩ = some a ∧ w1.cell? ⟨w.heap.size, 1, none⟩ = some b ∧ w1.frozen? ⟨w.heap.size, 0, none⟩ = false ∧ w1.frozen? ⟨w.heap.size, 1, none⟩ = false := by
  refine ⟨?_, ?_, ?_, ?_⟩
  · rw [hb.cell (p := ⟨w.heap.size, 0, none⟩) (by simp)]; simp
  · rw [hb.cell (p := ⟨w.heap.size, 1, none⟩) (by simp)]; simp
  · rw [hb.frozen (p := ⟨w.heap.size, 0, none⟩) (by simp)]; simp
  · rw [hb.frozen (p := ⟨w.heap.size, 1, none⟩) (by simp)]; simp

/-- The answer with its parts under names. -/
theorem redAt {P : Program} {f : FuncId} {args : Array Value} {n d : Int} {w : World} (h : Calls P f args w (redAns n d w)) {rN rD : Int} {rB : Bool} (e1 : rN = resN n d) (e2 : rD = resD n d) (e3 : rB = resB n d) :
    Calls P f args w fun e w' => e = .returned (.tuple #[.agg #[.int .i64 rN, .int .i64 rD], .bool rB]) ∧ Below w.heap.size w w' := by
  subst e1 e2 e3; exact h

theorem partYes (x : Int) (h0 : -1000000000000000000 ≤ x) (h1 : x ≤ 1000000000000000000) (w : World) :
    Calls Tryd.prog 67 #[.int .i64 x] w fun e w' => e = .returned (.bool true) ∧ w = w' := by
  go_enter Tryd.func67, Tryd.ntmps67
  go_wp2
  go_ret
  exact ⟨by simp, rfl⟩

theorem partNo (x : Int) (h : x < -1000000000000000000 ∨ 1000000000000000000 < x) (w : World) :
    Calls Tryd.prog 67 #[.int .i64 x] w fun e w' => e = .returned (.bool false) ∧ w = w' := by
  by_cases ha : x < -1000000000000000000
  · clear h
    go_enter Tryd.func67, Tryd.ntmps67
    go_wp2
    go_ret
    exact ⟨rfl, rfl⟩
  · have hb : 1000000000000000000 < x := by omega
    have ha' : -1000000000000000000 ≤ x := by omega
    clear ha h
    go_enter Tryd.func67, Tryd.ntmps67
    go_wp2
    go_ret
    exact ⟨by simp [hb], rfl⟩

set_option maxHeartbeats 1000000 in
theorem implYes (n d : Int) (h : Takes n d) (w : World) (hT : Tab w) :
    Calls Tryd.prog 42 #[.int .i64 n, .int .i64 d] w (redAns n d w) := by
  obtain ⟨hd0, ⟨hn0, hn9⟩, hd8, hd9⟩ := h
  have HT := Lib.hid hT
  clear hT
  have HD := Lib.hid hd0
  have hd1 : (d == 0) = false := by simpa using hd0
  clear hd0
  obtain ⟨rN, hrN⟩ : ∃ x, x = resN n d := ⟨_, rfl⟩
  obtain ⟨rD, hrD⟩ : ∃ x, x = resD n d := ⟨_, rfl⟩
  obtain ⟨rB, hrB⟩ : ∃ x, x = resB n d := ⟨_, rfl⟩
  have HN := Lib.hid hrN
  have HDn := Lib.hid hrD
  have HB := Lib.hid hrB
  have HP : redAns n d w = fun e w' => e = fracRet rN rD rB ∧ Below w.heap.size w w' := by unfold redAns; rw [← hrN, ← hrD, ← hrB]
  rw [HP]
  clear hrN hrD hrB HP
  go_enter Tryd.func42, Tryd.ntmps42
  go_wp2_with (first
    | (go_at_call 67; refine (partYes _ (by omega) (by omega) _).mono ?_; rintro e w' ⟨rfl, rfl⟩)
    | (go_at_call 68; refine (redAt (Reduce.impl n d HD.out (by omega) (by omega) (by omega) (by omega) _ (Tab.alloc HT.out _)) HN.out HDn.out HB.out).mono ?_; rintro e w1 ⟨rfl, hb⟩; refine Hid.out ?_))
  refine Lib.hid ?_
  obtain ⟨c0, c1, f0, f1⟩ := box2 hb
  have hz := hb.size
  simp at hz
  go_wp2_with fail
  have hb' : Below w.heap.size w w1 := ((Below.refl _ _).alloc (Nat.le_refl _) _).trans (hb.mono (by simp))
  exact bodyPost_ret (v := .tuple #[.agg #[.int .i64 rN, .int .i64 rD], .bool rB]) (by simp [results, Tryd.results42, go_sem, c0, c1]) rfl ⟨rfl, (hb'.setCell (Nat.le_refl _) _).setCell (Nat.le_refl _) _⟩

set_option maxHeartbeats 1000000 in
theorem specYes (n d : Int) (h : Takes n d) (w : World) :
    Calls Tryd.prog 71 #[.int .i64 n, .int .i64 d] w (redAns n d w) := by
  obtain ⟨hd0, ⟨hn0, hn9⟩, hd8, hd9⟩ := h
  have HD := Lib.hid hd0
  have hd1 : (d == 0) = false := by simpa using hd0
  clear hd0
  obtain ⟨rN, hrN⟩ : ∃ x, x = resN n d := ⟨_, rfl⟩
  obtain ⟨rD, hrD⟩ : ∃ x, x = resD n d := ⟨_, rfl⟩
  obtain ⟨rB, hrB⟩ : ∃ x, x = resB n d := ⟨_, rfl⟩
  have HN := Lib.hid hrN
  have HDn := Lib.hid hrD
  have HB := Lib.hid hrB
  have HP : redAns n d w = fun e w' => e = fracRet rN rD rB ∧ Below w.heap.size w w' := by unfold redAns; rw [← hrN, ← hrD, ← hrB]
  rw [HP]
  clear hrN hrD hrB HP
  go_enter Tryd.func71, Tryd.ntmps71
  go_wp2_with (first
    | (go_at_call 36; refine (l1In_true _ _ _ (by omega) (by omega) _).mono ?_; rintro e w' ⟨rfl, rfl⟩)
    | (go_at_call 47; refine (redAt (ReduceSpec.spec n d HD.out (by omega) (by omega) (by omega) (by omega) _) HN.out HDn.out HB.out).mono ?_; rintro e w1 ⟨rfl, hb⟩; refine Hid.out ?_))
  refine Lib.hid ?_
  obtain ⟨c0, c1, f0, f1⟩ := box2 hb
  have hz := hb.size
  simp at hz
  go_wp2_with fail
  have hb' : Below w.heap.size w w1 := ((Below.refl _ _).alloc (Nat.le_refl _) _).trans (hb.mono (by simp))
  exact bodyPost_ret (v := .tuple #[.agg #[.int .i64 rN, .int .i64 rD], .bool rB]) (by simp [results, Tryd.results71, go_sem, c0, c1]) rfl ⟨rfl, (hb'.setCell (Nat.le_refl _) _).setCell (Nat.le_refl _) _⟩

set_option maxHeartbeats 1000000 in
theorem implNo (n d : Int) (h : ¬ Takes n d) (w : World) :
    Calls Tryd.prog 42 #[.int .i64 n, .int .i64 d] w fun e w' => e = fracRet 0 0 false ∧ Below w.heap.size w w' := by
  by_cases hd : d = 0
  · subst hd
    clear h
    go_enter Tryd.func42, Tryd.ntmps42
    go_wp2
    exact bodyPost_ret (v := .tuple #[.agg #[.int .i64 0, .int .i64 0], .bool false]) (by simp [results, Tryd.results42, go_sem]) rfl ⟨rfl, (Below.refl _ _).alloc (Nat.le_refl _) _⟩
  · have hd1 : (d == 0) = false := by simpa using hd
    by_cases hn : n < -1000000000000000000 ∨ 1000000000000000000 < n
    · clear h hd
      go_enter Tryd.func42, Tryd.ntmps42
      go_wp2_with (go_at_call 67; refine (partNo _ hn _).mono ?_; rintro e w' ⟨rfl, rfl⟩)
      exact bodyPost_ret (v := .tuple #[.agg #[.int .i64 0, .int .i64 0], .bool false]) (by simp [results, Tryd.results42, go_sem]) rfl ⟨rfl, (Below.refl _ _).alloc (Nat.le_refl _) _⟩
    · have hd2 : d < -1000000000000000000 ∨ 1000000000000000000 < d := by unfold Takes at h; omega
      have hn1 : -1000000000000000000 ≤ n := by omega
      have hn2 : n ≤ 1000000000000000000 := by omega
      clear h hd hn
      go_enter Tryd.func42, Tryd.ntmps42
      go_wp2_with (first
        | (go_at_call 67; (with_reducible refine (partYes n hn1 hn2 _).mono ?_); rintro e w' ⟨rfl, rfl⟩)
        | (go_at_call 67; refine (partNo _ hd2 _).mono ?_; rintro e w' ⟨rfl, rfl⟩))
      exact bodyPost_ret (v := .tuple #[.agg #[.int .i64 0, .int .i64 0], .bool false]) (by simp [results, Tryd.results42, go_sem]) rfl ⟨rfl, (Below.refl _ _).alloc (Nat.le_refl _) _⟩

set_option maxHeartbeats 1000000 in
theorem specNo (n d : Int) (h : ¬ Takes n d) (w : World) :
    Calls Tryd.prog 71 #[.int .i64 n, .int .i64 d] w fun e w' => e = fracRet 0 0 false ∧ Below w.heap.size w w' := by
  by_cases hd : d = 0
  · subst hd
    clear h
    go_enter Tryd.func71, Tryd.ntmps71
    go_wp2
    exact bodyPost_ret (v := .tuple #[.agg #[.int .i64 0, .int .i64 0], .bool false]) (by simp [results, Tryd.results71, go_sem]) rfl ⟨rfl, (Below.refl _ _).alloc (Nat.le_refl _) _⟩
  · have hd1 : (d == 0) = false := by simpa using hd
    by_cases hn : n < -1000000000000000000 ∨ 1000000000000000000 < n
    · clear h hd
      go_enter Tryd.func71, Tryd.ntmps71
      go_wp2_with (go_at_call 36; refine (l1In_false _ _ _ hn _).mono ?_; rintro e w' ⟨rfl, rfl⟩)
      exact bodyPost_ret (v := .tuple #[.agg #[.int .i64 0, .int .i64 0], .bool false]) (by simp [results, Tryd.results71, go_sem]) rfl ⟨rfl, (Below.refl _ _).alloc (Nat.le_refl _) _⟩
    · have hd2 : d < -1000000000000000000 ∨ 1000000000000000000 < d := by unfold Takes at h; omega
      have hn1 : -1000000000000000000 ≤ n := by omega
      have hn2 : n ≤ 1000000000000000000 := by omega
      clear h hd hn
      go_enter Tryd.func71, Tryd.ntmps71
      go_wp2_with (first
        | (go_at_call 36; (with_reducible refine (l1In_true n _ _ hn1 hn2 _).mono ?_); rintro e w' ⟨rfl, rfl⟩)
        | (go_at_call 36; refine (l1In_false _ _ _ hd2 _).mono ?_; rintro e w' ⟨rfl, rfl⟩))
      exact bodyPost_ret (v := .tuple #[.agg #[.int .i64 0, .int .i64 0], .bool false]) (by simp [results, Tryd.results71, go_sem]) rfl ⟨rfl, (Below.refl _ _).alloc (Nat.le_refl _) _⟩

theorem impl (n d : Int) (w : World) (hT : Tab w) : Calls Tryd.prog 42 #[.int .i64 n, .int .i64 d] w (mkAns n d w) := by
  by_cases h : Takes n d
  · obtain ⟨e1, e2, e3⟩ := mk_yes h
    refine (implYes n d h w hT).mono fun e w' hh => ?_
    unfold mkAns; rw [e1, e2, e3]; exact hh
  · obtain ⟨e1, e2, e3⟩ := mk_no h
    refine (implNo n d h w).mono fun e w' hh => ?_
    unfold mkAns; rw [e1, e2, e3]; exact hh

theorem spec (n d : Int) (w : World) : Calls Tryd.prog 71 #[.int .i64 n, .int .i64 d] w (mkAns n d w) := by
  by_cases h : Takes n d
  · obtain ⟨e1, e2, e3⟩ := mk_yes h
    refine (specYes n d h w).mono fun e w' hh => ?_
    unfold mkAns; rw [e1, e2, e3]; exact hh
  · obtain ⟨e1, e2, e3⟩ := mk_no h
    refine (specNo n d h w).mono fun e w' hh => ?_
    unfold mkAns; rw [e1, e2, e3]; exact hh

end Go.Proofs.YtlpblipgehlniaaDoor.Make
