/-
  l4SameMonth, l4Roll, RollDay and LastBusinessDay of the model.
-/
import Derived.Test.YtlpblipgehlniaaDoorRollI
import Derived.Deep.RegionHeld3
namespace Go.Proofs.YtlpblipgehlniaaDoor.RollS
open Go.RowKit Go.Proofs.YtlpblipgehlniaaDoor.IRow Go.Proofs.YtlpblipgehlniaaDoor.Cal Go.Proofs.YtlpblipgehlniaaDoor.Biz Go.Proofs.YtlpblipgehlniaaDoor.Wd Go.Proofs.YtlpblipgehlniaaDoor.Asc Go.Proofs.YtlpblipgehlniaaDoor.CalLaw Go.Proofs.YtlpblipgehlniaaDoor.Opn Go.Proofs.YtlpblipgehlniaaDoor.IsBiz Go.Proofs.YtlpblipgehlniaaDoor.SeekS Go.Proofs.YtlpblipgehlniaaDoor.Tab Go.Proofs.YtlpblipgehlniaaDoor.Len Go.Proofs.YtlpblipgehlniaaDoor.RollI

set_option maxHeartbeats 1000000 in
theorem sameAux (a b Y1 M1 D1 Y2 M2 D2 : Int) (w : World) (r : Bool)
    (HA : Hid (∀ w, Calls Tryd.prog 48 #[.int .i64 a] w fun e w' => e = .returned (.agg #[.int .i64 Y1, .int .i64 M1, .int .i64 D1]) ∧ Below w.heap.size w w'))
    (HB : Hid (∀ w, Calls Tryd.prog 48 #[.int .i64 b] w fun e w' => e = .returned (.agg #[.int .i64 Y2, .int .i64 M2, .int .i64 D2]) ∧ Below w.heap.size w w'))
    (hc : Hid (r = true → Y1 = Y2 ∧ M1 = M2)) (hd : Hid (r = false → ¬ (Y1 = Y2 ∧ M1 = M2))) :
    Calls Tryd.prog 52 #[.int .i64 a, .int .i64 b] w fun e w' => e = .returned (.bool r) ∧ Below w.heap.size w w' := by
  have key : ∀ (q1 : Y1 = Y2 ∨ Y1 ≠ Y2) (q2 : M1 = M2 ∨ M1 ≠ M2), Calls Tryd.prog 52 #[.int .i64 a, .int .i64 b] w fun e w' => e = .returned (.bool (decide (Y1 = Y2 ∧ M1 = M2))) ∧ Below w.heap.size w w' := by
    intro q1 q2
    clear hc hd
    rcases q1 with rfl | q1
    · rcases q2 with rfl | q2
      · rw [decide_eq_true ⟨rfl, rfl⟩]
        go_enter Tryd.func52, Tryd.ntmps52
        go_wp2_with (go_at_call 48; refine (HA.out _).mono ?_; rintro e w1 ⟨rfl, hb1⟩; refine Hid.out ?_)
        refine Lib.hid ?_
        go_wp2_with (go_at_call 48; refine (HB.out _).mono ?_; rintro e w2 ⟨rfl, hb2⟩; refine Hid.out ?_)
        refine Lib.hid ?_
        have BW : Hid (Below w.heap.size w w2) := Lib.hid (hb1.trans (hb2.mono hb1.size))
        have hz := BW.out.size
        clear hb1 hb2
        go_wp2_with fail
        go_ret
        refine ⟨rfl, ?_⟩
        repeat (first | exact BW.out | refine Below.setCell ?_ (by first | omega | (simp; done) | (simp; omega)) _ | refine Below.alloc ?_ (by first | omega | (simp; done) | (simp; omega)) _)
      · rw [decide_eq_false fun h => q2 h.2]
        have q3 : (M1 == M2) = false := beqFalse q2
        clear q2
        go_enter Tryd.func52, Tryd.ntmps52
        go_wp2_with (go_at_call 48; refine (HA.out _).mono ?_; rintro e w1 ⟨rfl, hb1⟩; refine Hid.out ?_)
        refine Lib.hid ?_
        go_wp2_with (go_at_call 48; refine (HB.out _).mono ?_; rintro e w2 ⟨rfl, hb2⟩; refine Hid.out ?_)
        refine Lib.hid ?_
        have BW : Hid (Below w.heap.size w w2) := Lib.hid (hb1.trans (hb2.mono hb1.size))
        have hz := BW.out.size
        clear hb1 hb2
        go_wp2_with fail
        go_ret
        refine ⟨rfl, ?_⟩
        repeat (first | exact BW.out | refine Below.setCell ?_ (by first | omega | (simp; done) | (simp; omega)) _ | refine Below.alloc ?_ (by first | omega | (simp; done) | (simp; omega)) _)
    · rw [decide_eq_false fun h => q1 h.1]
      have q3 : (Y1 == Y2) = false := beqFalse q1
      clear q1 q2
      go_enter Tryd.func52, Tryd.ntmps52
      go_wp2_with (go_at_call 48; refine (HA.out _).mono ?_; rintro e w1 ⟨rfl, hb1⟩; refine Hid.out ?_)
      refine Lib.hid ?_
      go_wp2_with (go_at_call 48; refine (HB.out _).mono ?_; rintro e w2 ⟨rfl, hb2⟩; refine Hid.out ?_)
      refine Lib.hid ?_
      have BW : Hid (Below w.heap.size w w2) := Lib.hid (hb1.trans (hb2.mono hb1.size))
      have hz := BW.out.size
      clear hb1 hb2
      go_wp2_with fail
      go_ret
      refine ⟨rfl, ?_⟩
      repeat (first | exact BW.out | refine Below.setCell ?_ (by first | omega | (simp; done) | (simp; omega)) _ | refine Below.alloc ?_ (by first | omega | (simp; done) | (simp; omega)) _)
  have e : decide (Y1 = Y2 ∧ M1 = M2) = r := by
    cases r
    · exact decide_eq_false (hd.out rfl)
    · exact decide_eq_true (hc.out rfl)
  have := key (Decidable.em _) (Decidable.em _)
  rw [e] at this; exact this

theorem same (a b : Int) (ha : Day a) (hb : Day b) (r : Bool) (hr : r = decide (yr a = yr b ∧ mo a = mo b)) (w : World) :
    Calls Tryd.prog 52 #[.int .i64 a, .int .i64 b] w fun e w' => e = .returned (.bool r) ∧ Below w.heap.size w w' :=
  sameAux a b _ _ _ _ _ _ w r (Lib.hid fun w => DateOf.l3Date a ha w) (Lib.hid fun w => DateOf.l3Date b hb w) (Lib.hid fun h => of_decide_eq_true (by rw [← hr, h])) (Lib.hid fun h => of_decide_eq_false (by rw [← hr, h]))

theorem first_below {X a b v : World} (h1 : Below X.heap.size X a) (h2 : Below X.heap.size X b) (h : Below a.heap.size a v ∨ Below b.heap.size b v) : Below X.heap.size X v := by
  rcases h with h | h
  · exact h1.trans (h.mono h1.size)
  · exact h2.trans (h.mono h2.size)

set_option maxHeartbeats 4000000 in
theorem roll1 (A1 A2 : Option Addr) (n1 c1 n2 c2 : Nat) (d : Int) (o : Option Int) (z : Int) (w : World)
    (HU : Hid (∀ v, Below (w.alloc (.cells #[.slice A1 n1 c1, .slice A2 n2 c2] 26)).heap.size (w.alloc (.cells #[.slice A1 n1 c1, .slice A2 n2 c2] 26)) v → Calls Tryd.prog 50 #[.agg #[.slice A1 n1 c1, .slice A2 n2 c2], .int .i64 d, .int .i64 1] v fun e w' => e = .returned (.int .i64 (o.getD (-1))) ∧ Below v.heap.size v w'))
    (HN : Hid (∀ v, Below (w.alloc (.cells #[.slice A1 n1 c1, .slice A2 n2 c2] 26)).heap.size (w.alloc (.cells #[.slice A1 n1 c1, .slice A2 n2 c2] 26)) v → Calls Tryd.prog 50 #[.agg #[.slice A1 n1 c1, .slice A2 n2 c2], .int .i64 d, .int .i64 (-1)] v fun e w' => e = .returned (.int .i64 z) ∧ Below v.heap.size v w')) :
    Calls Tryd.prog 37 #[.agg #[.slice A1 n1 c1, .slice A2 n2 c2], .int .i64 d, .int .i64 1] w fun e w' => e = .returned (.int .i64 (o.getD (-1))) ∧ Below w.heap.size w w' := by
  have B0 := Lib.hid (below1 w (.cells #[.slice A1 n1 c1, .slice A2 n2 c2] 26))
  have X0 := Lib.hid (Bx.new w (.slice A1 n1 c1) (.slice A2 n2 c2) 26)
  go_enter Tryd.func37, Tryd.ntmps37
  go_wp2_with fail
  have KX : Hid (∀ v, Below (w.alloc (.cells #[.slice A1 n1 c1, .slice A2 n2 c2] 26)).heap.size (w.alloc (.cells #[.slice A1 n1 c1, .slice A2 n2 c2] 26)) v → v.cell? ⟨w.heap.size, 0, none⟩ = some (.slice A1 n1 c1) ∧ v.cell? ⟨w.heap.size, 1, none⟩ = some (.slice A2 n2 c2)) := Lib.hid fun v hv => ⟨(X0.out.on hv).c0, (X0.out.on hv).c1⟩
  clear X0
  generalize w.alloc (.cells #[.slice A1 n1 c1, .slice A2 n2 c2] 26) = X at *
  go_region_held3 (fun v => v.cell? ⟨w.heap.size, 0, none⟩ = some (.slice A1 n1 c1) ∧ v.cell? ⟨w.heap.size, 1, none⟩ = some (.slice A2 n2 c2)) (first | (refine KX.out _ ?_; (repeat (first | exact Below.refl _ _ | exact b2 | exact b1 | apply Below.drew)); done))
    (first
      | (go_at_call 50; (with_reducible refine (HU.out _ (by (repeat (first | exact Below.refl _ _ | exact b2 | exact b1 | apply Below.drew)))).mono ?_); rintro e wa ⟨rfl, hb⟩; have b1 : Below X.heap.size X wa := (Below.trans (by (repeat (first | exact Below.refl _ _ | exact b2 | exact b1 | apply Below.drew))) (hb.mono (by first | omega | (simp; done) | (simp; omega) | exact b1.size | exact b2.size | (have := b1.size; simp; omega) | (have := b2.size; simp; omega)))); clear hb)
      | (go_at_call 50; (with_reducible refine (HN.out _ (by (repeat (first | exact Below.refl _ _ | exact b2 | exact b1 | apply Below.drew)))).mono ?_); rintro e wb ⟨rfl, hb⟩; have b2 : Below X.heap.size X wb := (Below.trans (by (repeat (first | exact Below.refl _ _ | exact b2 | exact b1 | apply Below.drew))) (hb.mono (by first | omega | (simp; done) | (simp; omega) | exact b1.size | exact b2.size | (have := b1.size; simp; omega) | (have := b2.size; simp; omega)))); clear hb))
  all_goals
    go_wp2_with fail
    go_ret
    refine ⟨rfl, B0.out.trans (Below.mono ?_ B0.out.size)⟩
    first | exact b1 | exact b2

set_option maxHeartbeats 4000000 in
theorem roll3 (A1 A2 : Option Addr) (n1 c1 n2 c2 : Nat) (d : Int) (o : Option Int) (z : Int) (w : World)
    (HU : Hid (∀ v, Below (w.alloc (.cells #[.slice A1 n1 c1, .slice A2 n2 c2] 26)).heap.size (w.alloc (.cells #[.slice A1 n1 c1, .slice A2 n2 c2] 26)) v → Calls Tryd.prog 50 #[.agg #[.slice A1 n1 c1, .slice A2 n2 c2], .int .i64 d, .int .i64 1] v fun e w' => e = .returned (.int .i64 z) ∧ Below v.heap.size v w'))
    (HN : Hid (∀ v, Below (w.alloc (.cells #[.slice A1 n1 c1, .slice A2 n2 c2] 26)).heap.size (w.alloc (.cells #[.slice A1 n1 c1, .slice A2 n2 c2] 26)) v → Calls Tryd.prog 50 #[.agg #[.slice A1 n1 c1, .slice A2 n2 c2], .int .i64 d, .int .i64 (-1)] v fun e w' => e = .returned (.int .i64 (o.getD (-1))) ∧ Below v.heap.size v w')) :
    Calls Tryd.prog 37 #[.agg #[.slice A1 n1 c1, .slice A2 n2 c2], .int .i64 d, .int .i64 3] w fun e w' => e = .returned (.int .i64 (o.getD (-1))) ∧ Below w.heap.size w w' := by
  have B0 := Lib.hid (below1 w (.cells #[.slice A1 n1 c1, .slice A2 n2 c2] 26))
  have X0 := Lib.hid (Bx.new w (.slice A1 n1 c1) (.slice A2 n2 c2) 26)
  go_enter Tryd.func37, Tryd.ntmps37
  go_wp2_with fail
  have KX : Hid (∀ v, Below (w.alloc (.cells #[.slice A1 n1 c1, .slice A2 n2 c2] 26)).heap.size (w.alloc (.cells #[.slice A1 n1 c1, .slice A2 n2 c2] 26)) v → v.cell? ⟨w.heap.size, 0, none⟩ = some (.slice A1 n1 c1) ∧ v.cell? ⟨w.heap.size, 1, none⟩ = some (.slice A2 n2 c2)) := Lib.hid fun v hv => ⟨(X0.out.on hv).c0, (X0.out.on hv).c1⟩
  clear X0
  generalize w.alloc (.cells #[.slice A1 n1 c1, .slice A2 n2 c2] 26) = X at *
  go_region_held3 (fun v => v.cell? ⟨w.heap.size, 0, none⟩ = some (.slice A1 n1 c1) ∧ v.cell? ⟨w.heap.size, 1, none⟩ = some (.slice A2 n2 c2)) (first | (refine KX.out _ ?_; (repeat (first | exact Below.refl _ _ | exact b2 | exact b1 | apply Below.drew)); done))
    (first
      | (go_at_call 50; (with_reducible refine (HU.out _ (by (repeat (first | exact Below.refl _ _ | exact b2 | exact b1 | apply Below.drew)))).mono ?_); rintro e wa ⟨rfl, hb⟩; have b1 : Below X.heap.size X wa := (Below.trans (by (repeat (first | exact Below.refl _ _ | exact b2 | exact b1 | apply Below.drew))) (hb.mono (by first | omega | (simp; done) | (simp; omega) | exact b1.size | exact b2.size | (have := b1.size; simp; omega) | (have := b2.size; simp; omega)))); clear hb)
      | (go_at_call 50; (with_reducible refine (HN.out _ (by (repeat (first | exact Below.refl _ _ | exact b2 | exact b1 | apply Below.drew)))).mono ?_); rintro e wb ⟨rfl, hb⟩; have b2 : Below X.heap.size X wb := (Below.trans (by (repeat (first | exact Below.refl _ _ | exact b2 | exact b1 | apply Below.drew))) (hb.mono (by first | omega | (simp; done) | (simp; omega) | exact b1.size | exact b2.size | (have := b1.size; simp; omega) | (have := b2.size; simp; omega)))); clear hb))
  all_goals
    go_wp2_with fail
    go_ret
    refine ⟨rfl, B0.out.trans (Below.mono ?_ B0.out.size)⟩
    first | exact b1 | exact b2

set_option maxHeartbeats 4000000 in
theorem roll2none (A1 A2 : Option Addr) (n1 c1 n2 c2 : Nat) (d : Int) (z : Int) (w : World)
    (HU : Hid (∀ v, Below (w.alloc (.cells #[.slice A1 n1 c1, .slice A2 n2 c2] 26)).heap.size (w.alloc (.cells #[.slice A1 n1 c1, .slice A2 n2 c2] 26)) v → Calls Tryd.prog 50 #[.agg #[.slice A1 n1 c1, .slice A2 n2 c2], .int .i64 d, .int .i64 1] v fun e w' => e = .returned (.int .i64 (-1)) ∧ Below v.heap.size v w'))
    (HN : Hid (∀ v, Below (w.alloc (.cells #[.slice A1 n1 c1, .slice A2 n2 c2] 26)).heap.size (w.alloc (.cells #[.slice A1 n1 c1, .slice A2 n2 c2] 26)) v → Calls Tryd.prog 50 #[.agg #[.slice A1 n1 c1, .slice A2 n2 c2], .int .i64 d, .int .i64 (-1)] v fun e w' => e = .returned (.int .i64 z) ∧ Below v.heap.size v w')) :
    Calls Tryd.prog 37 #[.agg #[.slice A1 n1 c1, .slice A2 n2 c2], .int .i64 d, .int .i64 2] w fun e w' => e = .returned (.int .i64 z) ∧ Below w.heap.size w w' := by
  have B0 := Lib.hid (below1 w (.cells #[.slice A1 n1 c1, .slice A2 n2 c2] 26))
  have X0 := Lib.hid (Bx.new w (.slice A1 n1 c1) (.slice A2 n2 c2) 26)
  go_enter Tryd.func37, Tryd.ntmps37
  go_wp2_with fail
  have KX : Hid (∀ v, Below (w.alloc (.cells #[.slice A1 n1 c1, .slice A2 n2 c2] 26)).heap.size (w.alloc (.cells #[.slice A1 n1 c1, .slice A2 n2 c2] 26)) v → v.cell? ⟨w.heap.size, 0, none⟩ = some (.slice A1 n1 c1) ∧ v.cell? ⟨w.heap.size, 1, none⟩ = some (.slice A2 n2 c2)) := Lib.hid fun v hv => ⟨(X0.out.on hv).c0, (X0.out.on hv).c1⟩
  clear X0
  generalize w.alloc (.cells #[.slice A1 n1 c1, .slice A2 n2 c2] 26) = X at *
  go_region_held3 (fun v => v.cell? ⟨w.heap.size, 0, none⟩ = some (.slice A1 n1 c1) ∧ v.cell? ⟨w.heap.size, 1, none⟩ = some (.slice A2 n2 c2)) (first | (refine KX.out _ ?_; (repeat (first | exact Below.refl _ _ | exact b2 | exact b1 | apply Below.drew)); done))
    (first
      | (go_at_call 50; (with_reducible refine (HU.out _ (by (repeat (first | exact Below.refl _ _ | exact b2 | exact b1 | apply Below.drew)))).mono ?_); rintro e wa ⟨rfl, hb⟩; have b1 : Below X.heap.size X wa := (Below.trans (by (repeat (first | exact Below.refl _ _ | exact b2 | exact b1 | apply Below.drew))) (hb.mono (by first | omega | (simp; done) | (simp; omega) | exact b1.size | exact b2.size | (have := b1.size; simp; omega) | (have := b2.size; simp; omega)))); clear hb)
      | (go_at_call 50; (with_reducible refine (HN.out _ (by (repeat (first | exact Below.refl _ _ | exact b2 | exact b1 | apply Below.drew)))).mono ?_); rintro e wb ⟨rfl, hb⟩; have b2 : Below X.heap.size X wb := (Below.trans (by (repeat (first | exact Below.refl _ _ | exact b2 | exact b1 | apply Below.drew))) (hb.mono (by first | omega | (simp; done) | (simp; omega) | exact b1.size | exact b2.size | (have := b1.size; simp; omega) | (have := b2.size; simp; omega)))); clear hb))
  all_goals
    go_wp2_with fail
    go_ret
    refine ⟨rfl, B0.out.trans (Below.mono ?_ B0.out.size)⟩
    first | exact b1 | exact b2

set_option maxHeartbeats 4000000 in
theorem roll2yes (A1 A2 : Option Addr) (n1 c1 n2 c2 : Nat) (d : Int) (x : Int) (z : Int) (hx : 0 ≤ x) (w : World)
    (HU : Hid (∀ v, Below (w.alloc (.cells #[.slice A1 n1 c1, .slice A2 n2 c2] 26)).heap.size (w.alloc (.cells #[.slice A1 n1 c1, .slice A2 n2 c2] 26)) v → Calls Tryd.prog 50 #[.agg #[.slice A1 n1 c1, .slice A2 n2 c2], .int .i64 d, .int .i64 1] v fun e w' => e = .returned (.int .i64 x) ∧ Below v.heap.size v w'))
    (HN : Hid (∀ v, Below (w.alloc (.cells #[.slice A1 n1 c1, .slice A2 n2 c2] 26)).heap.size (w.alloc (.cells #[.slice A1 n1 c1, .slice A2 n2 c2] 26)) v → Calls Tryd.prog 50 #[.agg #[.slice A1 n1 c1, .slice A2 n2 c2], .int .i64 d, .int .i64 (-1)] v fun e w' => e = .returned (.int .i64 z) ∧ Below v.heap.size v w'))
    (HS : Hid (∀ w, Calls Tryd.prog 52 #[.int .i64 d, .int .i64 x] w fun e w' => e = .returned (.bool true) ∧ Below w.heap.size w w')) :
    Calls Tryd.prog 37 #[.agg #[.slice A1 n1 c1, .slice A2 n2 c2], .int .i64 d, .int .i64 2] w fun e w' => e = .returned (.int .i64 x) ∧ Below w.heap.size w w' := by
  have B0 := Lib.hid (below1 w (.cells #[.slice A1 n1 c1, .slice A2 n2 c2] 26))
  have X0 := Lib.hid (Bx.new w (.slice A1 n1 c1) (.slice A2 n2 c2) 26)
  go_enter Tryd.func37, Tryd.ntmps37
  go_wp2_with fail
  have KX : Hid (∀ v, Below (w.alloc (.cells #[.slice A1 n1 c1, .slice A2 n2 c2] 26)).heap.size (w.alloc (.cells #[.slice A1 n1 c1, .slice A2 n2 c2] 26)) v → v.cell? ⟨w.heap.size, 0, none⟩ = some (.slice A1 n1 c1) ∧ v.cell? ⟨w.heap.size, 1, none⟩ = some (.slice A2 n2 c2)) := Lib.hid fun v hv => ⟨(X0.out.on hv).c0, (X0.out.on hv).c1⟩
  clear X0
  generalize w.alloc (.cells #[.slice A1 n1 c1, .slice A2 n2 c2] 26) = X at *
  go_region_held3 (fun v => v.cell? ⟨w.heap.size, 0, none⟩ = some (.slice A1 n1 c1) ∧ v.cell? ⟨w.heap.size, 1, none⟩ = some (.slice A2 n2 c2)) (first | (refine KX.out _ ?_; (repeat (first | exact Below.refl _ _ | exact b2 | exact b1 | apply Below.drew)); done))
    (first
      | (go_at_call 50; (with_reducible refine (HU.out _ (by (repeat (first | exact Below.refl _ _ | exact b2 | exact b1 | apply Below.drew)))).mono ?_); rintro e wa ⟨rfl, hb⟩; have b1 : Below X.heap.size X wa := (Below.trans (by (repeat (first | exact Below.refl _ _ | exact b2 | exact b1 | apply Below.drew))) (hb.mono (by first | omega | (simp; done) | (simp; omega) | exact b1.size | exact b2.size | (have := b1.size; simp; omega) | (have := b2.size; simp; omega)))); clear hb)
      | (go_at_call 50; (with_reducible refine (HN.out _ (by (repeat (first | exact Below.refl _ _ | exact b2 | exact b1 | apply Below.drew)))).mono ?_); rintro e wb ⟨rfl, hb⟩; have b2 : Below X.heap.size X wb := (Below.trans (by (repeat (first | exact Below.refl _ _ | exact b2 | exact b1 | apply Below.drew))) (hb.mono (by first | omega | (simp; done) | (simp; omega) | exact b1.size | exact b2.size | (have := b1.size; simp; omega) | (have := b2.size; simp; omega)))); clear hb))
  all_goals
    go_wp2_with (go_at_call 52; refine (HS.out _).mono ?_; rintro e w9 ⟨rfl, hb9⟩; refine Hid.out ?_)
    refine Lib.hid ?_
    have hz : Hid (Below w.heap.size w w9) := Lib.hid (B0.out.trans (Below.mono (first_below b1 b2 (by first | exact .inl hb9 | exact .inr hb9)) B0.out.size))
    clear hb9
    go_wp2_with fail
    go_ret
    exact ⟨rfl, hz.out⟩

set_option maxHeartbeats 4000000 in
theorem roll2no (A1 A2 : Option Addr) (n1 c1 n2 c2 : Nat) (d : Int) (x : Int) (z : Int) (hx : 0 ≤ x) (w : World)
    (HU : Hid (∀ v, Below (w.alloc (.cells #[.slice A1 n1 c1, .slice A2 n2 c2] 26)).heap.size (w.alloc (.cells #[.slice A1 n1 c1, .slice A2 n2 c2] 26)) v → Calls Tryd.prog 50 #[.agg #[.slice A1 n1 c1, .slice A2 n2 c2], .int .i64 d, .int .i64 1] v fun e w' => e = .returned (.int .i64 x) ∧ Below v.heap.size v w'))
    (HN : Hid (∀ v, Below (w.alloc (.cells #[.slice A1 n1 c1, .slice A2 n2 c2] 26)).heap.size (w.alloc (.cells #[.slice A1 n1 c1, .slice A2 n2 c2] 26)) v → Calls Tryd.prog 50 #[.agg #[.slice A1 n1 c1, .slice A2 n2 c2], .int .i64 d, .int .i64 (-1)] v fun e w' => e = .returned (.int .i64 z) ∧ Below v.heap.size v w'))
    (HS : Hid (∀ w, Calls Tryd.prog 52 #[.int .i64 d, .int .i64 x] w fun e w' => e = .returned (.bool false) ∧ Below w.heap.size w w')) :
    Calls Tryd.prog 37 #[.agg #[.slice A1 n1 c1, .slice A2 n2 c2], .int .i64 d, .int .i64 2] w fun e w' => e = .returned (.int .i64 z) ∧ Below w.heap.size w w' := by
  have B0 := Lib.hid (below1 w (.cells #[.slice A1 n1 c1, .slice A2 n2 c2] 26))
  have X0 := Lib.hid (Bx.new w (.slice A1 n1 c1) (.slice A2 n2 c2) 26)
  go_enter Tryd.func37, Tryd.ntmps37
  go_wp2_with fail
  have KX : Hid (∀ v, Below (w.alloc (.cells #[.slice A1 n1 c1, .slice A2 n2 c2] 26)).heap.size (w.alloc (.cells #[.slice A1 n1 c1, .slice A2 n2 c2] 26)) v → v.cell? ⟨w.heap.size, 0, none⟩ = some (.slice A1 n1 c1) ∧ v.cell? ⟨w.heap.size, 1, none⟩ = some (.slice A2 n2 c2)) := Lib.hid fun v hv => ⟨(X0.out.on hv).c0, (X0.out.on hv).c1⟩
  clear X0
  generalize w.alloc (.cells #[.slice A1 n1 c1, .slice A2 n2 c2] 26) = X at *
  go_region_held3 (fun v => v.cell? ⟨w.heap.size, 0, none⟩ = some (.slice A1 n1 c1) ∧ v.cell? ⟨w.heap.size, 1, none⟩ = some (.slice A2 n2 c2)) (first | (refine KX.out _ ?_; (repeat (first | exact Below.refl _ _ | exact b2 | exact b1 | apply Below.drew)); done))
    (first
      | (go_at_call 50; (with_reducible refine (HU.out _ (by (repeat (first | exact Below.refl _ _ | exact b2 | exact b1 | apply Below.drew)))).mono ?_); rintro e wa ⟨rfl, hb⟩; have b1 : Below X.heap.size X wa := (Below.trans (by (repeat (first | exact Below.refl _ _ | exact b2 | exact b1 | apply Below.drew))) (hb.mono (by first | omega | (simp; done) | (simp; omega) | exact b1.size | exact b2.size | (have := b1.size; simp; omega) | (have := b2.size; simp; omega)))); clear hb)
      | (go_at_call 50; (with_reducible refine (HN.out _ (by (repeat (first | exact Below.refl _ _ | exact b2 | exact b1 | apply Below.drew)))).mono ?_); rintro e wb ⟨rfl, hb⟩; have b2 : Below X.heap.size X wb := (Below.trans (by (repeat (first | exact Below.refl _ _ | exact b2 | exact b1 | apply Below.drew))) (hb.mono (by first | omega | (simp; done) | (simp; omega) | exact b1.size | exact b2.size | (have := b1.size; simp; omega) | (have := b2.size; simp; omega)))); clear hb))
  all_goals
    go_wp2_with (go_at_call 52; refine (HS.out _).mono ?_; rintro e w9 ⟨rfl, hb9⟩; refine Hid.out ?_)
    refine Lib.hid ?_
    have hz : Hid (Below w.heap.size w w9) := Lib.hid (B0.out.trans (Below.mono (first_below b1 b2 (by first | exact .inl hb9 | exact .inr hb9)) B0.out.size))
    clear hb9
    go_wp2_with fail
    go_ret
    exact ⟨rfl, hz.out⟩

set_option maxHeartbeats 4000000 in
theorem roll4none (A1 A2 : Option Addr) (n1 c1 n2 c2 : Nat) (d : Int) (z : Int) (w : World)
    (HU : Hid (∀ v, Below (w.alloc (.cells #[.slice A1 n1 c1, .slice A2 n2 c2] 26)).heap.size (w.alloc (.cells #[.slice A1 n1 c1, .slice A2 n2 c2] 26)) v → Calls Tryd.prog 50 #[.agg #[.slice A1 n1 c1, .slice A2 n2 c2], .int .i64 d, .int .i64 1] v fun e w' => e = .returned (.int .i64 z) ∧ Below v.heap.size v w'))
    (HN : Hid (∀ v, Below (w.alloc (.cells #[.slice A1 n1 c1, .slice A2 n2 c2] 26)).heap.size (w.alloc (.cells #[.slice A1 n1 c1, .slice A2 n2 c2] 26)) v → Calls Tryd.prog 50 #[.agg #[.slice A1 n1 c1, .slice A2 n2 c2], .int .i64 d, .int .i64 (-1)] v fun e w' => e = .returned (.int .i64 (-1)) ∧ Below v.heap.size v w')) :
    Calls Tryd.prog 37 #[.agg #[.slice A1 n1 c1, .slice A2 n2 c2], .int .i64 d, .int .i64 4] w fun e w' => e = .returned (.int .i64 z) ∧ Below w.heap.size w w' := by
  have B0 := Lib.hid (below1 w (.cells #[.slice A1 n1 c1, .slice A2 n2 c2] 26))
  have X0 := Lib.hid (Bx.new w (.slice A1 n1 c1) (.slice A2 n2 c2) 26)
  go_enter Tryd.func37, Tryd.ntmps37
  go_wp2_with fail
  have KX : Hid (∀ v, Below (w.alloc (.cells #[.slice A1 n1 c1, .slice A2 n2 c2] 26)).heap.size (w.alloc (.cells #[.slice A1 n1 c1, .slice A2 n2 c2] 26)) v → v.cell? ⟨w.heap.size, 0, none⟩ = some (.slice A1 n1 c1) ∧ v.cell? ⟨w.heap.size, 1, none⟩ = some (.slice A2 n2 c2)) := Lib.hid fun v hv => ⟨(X0.out.on hv).c0, (X0.out.on hv).c1⟩
  clear X0
  generalize w.alloc (.cells #[.slice A1 n1 c1, .slice A2 n2 c2] 26) = X at *
  go_region_held3 (fun v => v.cell? ⟨w.heap.size, 0, none⟩ = some (.slice A1 n1 c1) ∧ v.cell? ⟨w.heap.size, 1, none⟩ = some (.slice A2 n2 c2)) (first | (refine KX.out _ ?_; (repeat (first | exact Below.refl _ _ | exact b2 | exact b1 | apply Below.drew)); done))
    (first
      | (go_at_call 50; (with_reducible refine (HU.out _ (by (repeat (first | exact Below.refl _ _ | exact b2 | exact b1 | apply Below.drew)))).mono ?_); rintro e wa ⟨rfl, hb⟩; have b1 : Below X.heap.size X wa := (Below.trans (by (repeat (first | exact Below.refl _ _ | exact b2 | exact b1 | apply Below.drew))) (hb.mono (by first | omega | (simp; done) | (simp; omega) | exact b1.size | exact b2.size | (have := b1.size; simp; omega) | (have := b2.size; simp; omega)))); clear hb)
      | (go_at_call 50; (with_reducible refine (HN.out _ (by (repeat (first | exact Below.refl _ _ | exact b2 | exact b1 | apply Below.drew)))).mono ?_); rintro e wb ⟨rfl, hb⟩; have b2 : Below X.heap.size X wb := (Below.trans (by (repeat (first | exact Below.refl _ _ | exact b2 | exact b1 | apply Below.drew))) (hb.mono (by first | omega | (simp; done) | (simp; omega) | exact b1.size | exact b2.size | (have := b1.size; simp; omega) | (have := b2.size; simp; omega)))); clear hb))
  all_goals
    go_wp2_with fail
    go_ret
    refine ⟨rfl, B0.out.trans (Below.mono ?_ B0.out.size)⟩
    first | exact b1 | exact b2

set_option maxHeartbeats 4000000 in
theorem roll4yes (A1 A2 : Option Addr) (n1 c1 n2 c2 : Nat) (d : Int) (x : Int) (z : Int) (hx : 0 ≤ x) (w : World)
    (HU : Hid (∀ v, Below (w.alloc (.cells #[.slice A1 n1 c1, .slice A2 n2 c2] 26)).heap.size (w.alloc (.cells #[.slice A1 n1 c1, .slice A2 n2 c2] 26)) v → Calls Tryd.prog 50 #[.agg #[.slice A1 n1 c1, .slice A2 n2 c2], .int .i64 d, .int .i64 1] v fun e w' => e = .returned (.int .i64 z) ∧ Below v.heap.size v w'))
    (HN : Hid (∀ v, Below (w.alloc (.cells #[.slice A1 n1 c1, .slice A2 n2 c2] 26)).heap.size (w.alloc (.cells #[.slice A1 n1 c1, .slice A2 n2 c2] 26)) v → Calls Tryd.prog 50 #[.agg #[.slice A1 n1 c1, .slice A2 n2 c2], .int .i64 d, .int .i64 (-1)] v fun e w' => e = .returned (.int .i64 x) ∧ Below v.heap.size v w'))
    (HS : Hid (∀ w, Calls Tryd.prog 52 #[.int .i64 d, .int .i64 x] w fun e w' => e = .returned (.bool true) ∧ Below w.heap.size w w')) :
    Calls Tryd.prog 37 #[.agg #[.slice A1 n1 c1, .slice A2 n2 c2], .int .i64 d, .int .i64 4] w fun e w' => e = .returned (.int .i64 x) ∧ Below w.heap.size w w' := by
  have B0 := Lib.hid (below1 w (.cells #[.slice A1 n1 c1, .slice A2 n2 c2] 26))
  have X0 := Lib.hid (Bx.new w (.slice A1 n1 c1) (.slice A2 n2 c2) 26)
  go_enter Tryd.func37, Tryd.ntmps37
  go_wp2_with fail
  have KX : Hid (∀ v, Below (w.alloc (.cells #[.slice A1 n1 c1, .slice A2 n2 c2] 26)).heap.size (w.alloc (.cells #[.slice A1 n1 c1, .slice A2 n2 c2] 26)) v → v.cell? ⟨w.heap.size, 0, none⟩ = some (.slice A1 n1 c1) ∧ v.cell? ⟨w.heap.size, 1, none⟩ = some (.slice A2 n2 c2)) := Lib.hid fun v hv => ⟨(X0.out.on hv).c0, (X0.out.on hv).c1⟩
  clear X0
  generalize w.alloc (.cells #[.slice A1 n1 c1, .slice A2 n2 c2] 26) = X at *
  go_region_held3 (fun v => v.cell? ⟨w.heap.size, 0, none⟩ = some (.slice A1 n1 c1) ∧ v.cell? ⟨w.heap.size, 1, none⟩ = some (.slice A2 n2 c2)) (first | (refine KX.out _ ?_; (repeat (first | exact Below.refl _ _ | exact b2 | exact b1 | apply Below.drew)); done))
    (first
      | (go_at_call 50; (with_reducible refine (HU.out _ (by (repeat (first | exact Below.refl _ _ | exact b2 | exact b1 | apply Below.drew)))).mono ?_); rintro e wa ⟨rfl, hb⟩; have b1 : Below X.heap.size X wa := (Below.trans (by (repeat (first | exact Below.refl _ _ | exact b2 | exact b1 | apply Below.drew))) (hb.mono (by first | omega | (simp; done) | (simp; omega) | exact b1.size | exact b2.size | (have := b1.size; simp; omega) | (have := b2.size; simp; omega)))); clear hb)
      | (go_at_call 50; (with_reducible refine (HN.out _ (by (repeat (first | exact Below.refl _ _ | exact b2 | exact b1 | apply Below.drew)))).mono ?_); rintro e wb ⟨rfl, hb⟩; have b2 : Below X.heap.size X wb := (Below.trans (by (repeat (first | exact Below.refl _ _ | exact b2 | exact b1 | apply Below.drew))) (hb.mono (by first | omega | (simp; done) | (simp; omega) | exact b1.size | exact b2.size | (have := b1.size; simp; omega) | (have := b2.size; simp; omega)))); clear hb))
  all_goals
    go_wp2_with (go_at_call 52; refine (HS.out _).mono ?_; rintro e w9 ⟨rfl, hb9⟩; refine Hid.out ?_)
    refine Lib.hid ?_
    have hz : Hid (Below w.heap.size w w9) := Lib.hid (B0.out.trans (Below.mono (first_below b1 b2 (by first | exact .inl hb9 | exact .inr hb9)) B0.out.size))
    clear hb9
    go_wp2_with fail
    go_ret
    exact ⟨rfl, hz.out⟩

set_option maxHeartbeats 4000000 in
theorem roll4no (A1 A2 : Option Addr) (n1 c1 n2 c2 : Nat) (d : Int) (x : Int) (z : Int) (hx : 0 ≤ x) (w : World)
    (HU : Hid (∀ v, Below (w.alloc (.cells #[.slice A1 n1 c1, .slice A2 n2 c2] 26)).heap.size (w.alloc (.cells #[.slice A1 n1 c1, .slice A2 n2 c2] 26)) v → Calls Tryd.prog 50 #[.agg #[.slice A1 n1 c1, .slice A2 n2 c2], .int .i64 d, .int .i64 1] v fun e w' => e = .returned (.int .i64 z) ∧ Below v.heap.size v w'))
    (HN : Hid (∀ v, Below (w.alloc (.cells #[.slice A1 n1 c1, .slice A2 n2 c2] 26)).heap.size (w.alloc (.cells #[.slice A1 n1 c1, .slice A2 n2 c2] 26)) v → Calls Tryd.prog 50 #[.agg #[.slice A1 n1 c1, .slice A2 n2 c2], .int .i64 d, .int .i64 (-1)] v fun e w' => e = .returned (.int .i64 x) ∧ Below v.heap.size v w'))
    (HS : Hid (∀ w, Calls Tryd.prog 52 #[.int .i64 d, .int .i64 x] w fun e w' => e = .returned (.bool false) ∧ Below w.heap.size w w')) :
    Calls Tryd.prog 37 #[.agg #[.slice A1 n1 c1, .slice A2 n2 c2], .int .i64 d, .int .i64 4] w fun e w' => e = .returned (.int .i64 z) ∧ Below w.heap.size w w' := by
  have B0 := Lib.hid (below1 w (.cells #[.slice A1 n1 c1, .slice A2 n2 c2] 26))
  have X0 := Lib.hid (Bx.new w (.slice A1 n1 c1) (.slice A2 n2 c2) 26)
  go_enter Tryd.func37, Tryd.ntmps37
  go_wp2_with fail
  have KX : Hid (∀ v, Below (w.alloc (.cells #[.slice A1 n1 c1, .slice A2 n2 c2] 26)).heap.size (w.alloc (.cells #[.slice A1 n1 c1, .slice A2 n2 c2] 26)) v → v.cell? ⟨w.heap.size, 0, none⟩ = some (.slice A1 n1 c1) ∧ v.cell? ⟨w.heap.size, 1, none⟩ = some (.slice A2 n2 c2)) := Lib.hid fun v hv => ⟨(X0.out.on hv).c0, (X0.out.on hv).c1⟩
  clear X0
  generalize w.alloc (.cells #[.slice A1 n1 c1, .slice A2 n2 c2] 26) = X at *
  go_region_held3 (fun v => v.cell? ⟨w.heap.size, 0, none⟩ = some (.slice A1 n1 c1) ∧ v.cell? ⟨w.heap.size, 1, none⟩ = some (.slice A2 n2 c2)) (first | (refine KX.out _ ?_; (repeat (first | exact Below.refl _ _ | exact b2 | exact b1 | apply Below.drew)); done))
    (first
      | (go_at_call 50; (with_reducible refine (HU.out _ (by (repeat (first | exact Below.refl _ _ | exact b2 | exact b1 | apply Below.drew)))).mono ?_); rintro e wa ⟨rfl, hb⟩; have b1 : Below X.heap.size X wa := (Below.trans (by (repeat (first | exact Below.refl _ _ | exact b2 | exact b1 | apply Below.drew))) (hb.mono (by first | omega | (simp; done) | (simp; omega) | exact b1.size | exact b2.size | (have := b1.size; simp; omega) | (have := b2.size; simp; omega)))); clear hb)
      | (go_at_call 50; (with_reducible refine (HN.out _ (by (repeat (first | exact Below.refl _ _ | exact b2 | exact b1 | apply Below.drew)))).mono ?_); rintro e wb ⟨rfl, hb⟩; have b2 : Below X.heap.size X wb := (Below.trans (by (repeat (first | exact Below.refl _ _ | exact b2 | exact b1 | apply Below.drew))) (hb.mono (by first | omega | (simp; done) | (simp; omega) | exact b1.size | exact b2.size | (have := b1.size; simp; omega) | (have := b2.size; simp; omega)))); clear hb))
  all_goals
    go_wp2_with (go_at_call 52; refine (HS.out _).mono ?_; rintro e w9 ⟨rfl, hb9⟩; refine Hid.out ?_)
    refine Lib.hid ?_
    have hz : Hid (Below w.heap.size w w9) := Lib.hid (B0.out.trans (Below.mono (first_below b1 b2 (by first | exact .inl hb9 | exact .inr hb9)) B0.out.size))
    clear hb9
    go_wp2_with fail
    go_ret
    exact ⟨rfl, hz.out⟩

/-- l4Roll, whatever the convention. -/
theorem l4Roll (A1 A2 : Option Addr) (n1 c1 n2 c2 : Nat) (we ho : List Int) (d c : Int) (w : World) (h : Cl w w.heap.size A1 n1 A2 n2 we ho) (hd : Day d) (hc0 : 1 ≤ c) (hc1 : c ≤ 4) :
    Calls Tryd.prog 37 #[.agg #[.slice A1 n1 c1, .slice A2 n2 c2], .int .i64 d, .int .i64 c] w fun e w' => e = .returned (.int .i64 ((rollT (opn we ho) d c).getD (-1))) ∧ Below w.heap.size w w' := by
  have hC := h.on (below1 w (.cells #[.slice A1 n1 c1, .slice A2 n2 c2] 26))
  have d0 := hd.1
  have d1 := hd.2
  have HU : Hid (∀ v, Below (w.alloc (.cells #[.slice A1 n1 c1, .slice A2 n2 c2] 26)).heap.size (w.alloc (.cells #[.slice A1 n1 c1, .slice A2 n2 c2] 26)) v → Calls Tryd.prog 50 #[.agg #[.slice A1 n1 c1, .slice A2 n2 c2], .int .i64 d, .int .i64 1] v fun e w' => e = .returned (.int .i64 ((nxt (opn we ho) d).getD (-1))) ∧ Below v.heap.size v w') := Lib.hid fun v hv => seek_up A1 A2 n1 c1 n2 c2 we ho d v (hC.on hv) (by omega) (by omega)
  have HN : Hid (∀ v, Below (w.alloc (.cells #[.slice A1 n1 c1, .slice A2 n2 c2] 26)).heap.size (w.alloc (.cells #[.slice A1 n1 c1, .slice A2 n2 c2] 26)) v → Calls Tryd.prog 50 #[.agg #[.slice A1 n1 c1, .slice A2 n2 c2], .int .i64 d, .int .i64 (-1)] v fun e w' => e = .returned (.int .i64 ((lst (opn we ho) d).getD (-1))) ∧ Below v.heap.size v w') := Lib.hid fun v hv => seek_dn A1 A2 n1 c1 n2 c2 we ho d v (hC.on hv) (by omega) (by omega)
  have HC : c = 1 ∨ c = 2 ∨ c = 3 ∨ c = 4 := by omega
  rcases HC with rfl | rfl | rfl | rfl
  · exact roll1 A1 A2 n1 c1 n2 c2 d _ _ w HU HN
  · have e : rollT (opn we ho) d 2 = orr (seek (opn we ho) 1 (lastD d - d + 1).toNat d) (lst (opn we ho) d) := rfl
    rw [e]
    have hr := roll_mod (p := opn we ho) hd
    cases hk : nxt (opn we ho) d with
    | none =>
      rw [hr.2 (fun x hx => by rw [hk] at hx; cases hx)]
      rw [hk] at HU
      exact roll2none A1 A2 n1 c1 n2 c2 d _ w HU HN
    | some x =>
      have hx := nxt_ge hd hk
      rw [hk] at HU
      by_cases hm : yr d = yr x ∧ mo d = mo x
      · rw [hr.1 x hk hm]
        exact roll2yes A1 A2 n1 c1 n2 c2 d x _ hx.2.1.1 w HU HN (Lib.hid fun w => same d x hd hx.2.1 true (decide_eq_true hm).symm w)
      · rw [hr.2 (fun y hy => by rw [hk] at hy; injection hy with hy; subst hy; exact hm)]
        exact roll2no A1 A2 n1 c1 n2 c2 d x _ hx.2.1.1 w HU HN (Lib.hid fun w => same d x hd hx.2.1 false (decide_eq_false hm).symm w)
  · exact roll3 A1 A2 n1 c1 n2 c2 d _ _ w HU HN
  · have e : rollT (opn we ho) d 4 = orr (seek (opn we ho) (-1) (d - fst d + 1).toNat d) (nxt (opn we ho) d) := rfl
    rw [e]
    have hr := roll_modp (p := opn we ho) hd
    cases hk : lst (opn we ho) d with
    | none =>
      rw [hr.2 (fun x hx => by rw [hk] at hx; cases hx)]
      rw [hk] at HN
      exact roll4none A1 A2 n1 c1 n2 c2 d _ w HU HN
    | some x =>
      have hx := lst_le hd hk
      rw [hk] at HN
      by_cases hm : yr d = yr x ∧ mo d = mo x
      · rw [hr.1 x hk hm]
        exact roll4yes A1 A2 n1 c1 n2 c2 d x _ hx.2.1.1 w HU HN (Lib.hid fun w => same d x hd hx.2.1 true (decide_eq_true hm).symm w)
      · rw [hr.2 (fun y hy => by rw [hk] at hy; injection hy with hy; subst hy; exact hm)]
        exact roll4no A1 A2 n1 c1 n2 c2 d x _ hx.2.1.1 w HU HN (Lib.hid fun w => same d x hd hx.2.1 false (decide_eq_false hm).symm w)

theorem roll_day {p : Int → Bool} {d c x : Int} (hd : Day d) (hc0 : 1 ≤ c) (hc1 : c ≤ 4) (h : rollT p d c = some x) : Day x := by
  have HC : c = 1 ∨ c = 2 ∨ c = 3 ∨ c = 4 := by omega
  rcases HC with rfl | rfl | rfl | rfl
  · exact (nxt_ge hd h).2.1
  · have h' : orr (seek p 1 (lastD d - d + 1).toNat d) (lst p d) = some x := h
    have hr := roll_mod (p := p) hd
    by_cases hq : ∃ y, nxt p d = some y ∧ (yr d = yr y ∧ mo d = mo y)
    · obtain ⟨y, hy, hm⟩ := hq
      rw [hr.1 y hy hm] at h'; injection h' with h'; subst h'; exact (nxt_ge hd hy).2.1
    · rw [hr.2 (fun y hy hm => hq ⟨y, hy, hm⟩)] at h'; exact (lst_le hd h').2.1
  · exact (lst_le hd h).2.1
  · have h' : orr (seek p (-1) (d - fst d + 1).toNat d) (nxt p d) = some x := h
    have hr := roll_modp (p := p) hd
    by_cases hq : ∃ y, lst p d = some y ∧ (yr d = yr y ∧ mo d = mo y)
    · obtain ⟨y, hy, hm⟩ := hq
      rw [hr.1 y hy hm] at h'; injection h' with h'; subst h'; exact (lst_le hd hy).2.1
    · rw [hr.2 (fun y hy hm => hq ⟨y, hy, hm⟩)] at h'; exact (nxt_ge hd h').2.1

set_option maxHeartbeats 2000000 in
theorem rollYes (A1 A2 : Option Addr) (n1 c1 n2 c2 : Nat) (we ho : List Int) (d c : Int) (w : World) (h : Cl w w.heap.size A1 n1 A2 n2 we ho) (hg : GoodC we ho) (hd : Day d) (hc0 : 1 ≤ c) (hc1 : c ≤ 4) :
    Calls Tryd.prog 11 #[.agg #[.slice A1 n1 c1, .slice A2 n2 c2], .int .i64 d, .int .i64 c] w fun e w' => e = .returned (.tuple #[.int .i64 ((rollT (opn we ho) d c).getD 0), .bool (rollT (opn we ho) d c).isSome]) ∧ Below w.heap.size w w' := by
  have H0 := Lib.hid (h.on (below1 w (.cells #[.slice A1 n1 c1, .slice A2 n2 c2] 26)))
  have X0 := Lib.hid (Bx.new w (.slice A1 n1 c1) (.slice A2 n2 c2) 26)
  have B0 := Lib.hid (below1 w (.cells #[.slice A1 n1 c1, .slice A2 n2 c2] 26))
  have HV := Lib.hid (validS A1 A2 n1 c1 n2 c2 we ho (w.alloc (.cells #[.slice A1 n1 c1, .slice A2 n2 c2] 26)) H0.out true (decide_eq_true hg))
  have HR := Lib.hid fun w h => l4Roll A1 A2 n1 c1 n2 c2 we ho d c w h hd hc0 hc1
  have HX : Hid (∀ x, rollT (opn we ho) d c = some x → 0 ≤ x) := Lib.hid fun x hx => (roll_day hd hc0 hc1 hx).1
  have HD := Lib.hid hd
  clear h hg hd
  generalize rollT (opn we ho) d c = o at *
  cases o with
  | none =>
    go_enter Tryd.func11, Tryd.ntmps11
    go_wp2_with (go_at_call 34; refine HV.out.mono ?_; rintro e w1 ⟨rfl, hb1⟩; refine Hid.out ?_)
    refine Lib.hid ?_
    have H1 := Lib.hid (H0.out.on hb1)
    have X1 := Lib.hid (X0.out.on hb1)
    have B1 := Lib.hid (B0.out.trans (hb1.mono B0.out.size))
    clear hb1 B0 X0 H0 HV
    obtain ⟨_, x0, x1, _, _⟩ := X1.out
    go_wp2_with (first
      | (go_at_call 35; refine (Wd.goodYes d HD.out _).mono ?_; rintro e w' ⟨rfl, rfl⟩)
      | (go_at_call 36; refine (l1In_true c 1 4 hc0 hc1 _).mono ?_; rintro e w' ⟨rfl, rfl⟩)
      | (go_at_call 37; refine (HR.out _ H1.out).mono ?_; rintro e w2 ⟨rfl, hb2⟩; refine Hid.out ?_))
    refine Lib.hid ?_
    have B2 := Lib.hid (B1.out.trans (hb2.mono B1.out.size))
    clear hb2
    go_wp2_with fail
    go_ret2
    exact ⟨rfl, B2.out⟩
  | some x =>
    have hx := HX.out x rfl
    go_enter Tryd.func11, Tryd.ntmps11
    go_wp2_with (go_at_call 34; refine HV.out.mono ?_; rintro e w1 ⟨rfl, hb1⟩; refine Hid.out ?_)
    refine Lib.hid ?_
    have H1 := Lib.hid (H0.out.on hb1)
    have X1 := Lib.hid (X0.out.on hb1)
    have B1 := Lib.hid (B0.out.trans (hb1.mono B0.out.size))
    clear hb1 B0 X0 H0 HV
    obtain ⟨_, x0, x1, _, _⟩ := X1.out
    go_wp2_with (first
      | (go_at_call 35; refine (Wd.goodYes d HD.out _).mono ?_; rintro e w' ⟨rfl, rfl⟩)
      | (go_at_call 36; refine (l1In_true c 1 4 hc0 hc1 _).mono ?_; rintro e w' ⟨rfl, rfl⟩)
      | (go_at_call 37; refine (HR.out _ H1.out).mono ?_; rintro e w2 ⟨rfl, hb2⟩; refine Hid.out ?_))
    refine Lib.hid ?_
    have B2 := Lib.hid (B1.out.trans (hb2.mono B1.out.size))
    clear hb2
    go_wp2_with fail
    go_ret2
    exact ⟨rfl, B2.out⟩

set_option maxHeartbeats 2000000 in
theorem rollNo (A1 A2 : Option Addr) (n1 c1 n2 c2 : Nat) (we ho : List Int) (d c : Int) (w : World) (h : Cl w w.heap.size A1 n1 A2 n2 we ho) (hn : ¬ RollOk we ho d c) :
    Calls Tryd.prog 11 #[.agg #[.slice A1 n1 c1, .slice A2 n2 c2], .int .i64 d, .int .i64 c] w fun e w' => e = .returned (.tuple #[.int .i64 0, .bool false]) ∧ Below w.heap.size w w' := by
  have H0 := Lib.hid (h.on (below1 w (.cells #[.slice A1 n1 c1, .slice A2 n2 c2] 26)))
  have B0 := Lib.hid (below1 w (.cells #[.slice A1 n1 c1, .slice A2 n2 c2] 26))
  clear h
  by_cases hg : GoodC we ho
  · have HV := Lib.hid (validS A1 A2 n1 c1 n2 c2 we ho (w.alloc (.cells #[.slice A1 n1 c1, .slice A2 n2 c2] 26)) H0.out true (decide_eq_true hg))
    by_cases hd : Day d
    · have HD := Lib.hid hd
      have h3 : c < 1 ∨ 4 < c := by
        by_cases hh : 1 ≤ c ∧ c ≤ 4
        · exact absurd ⟨hg, hd, hh⟩ hn
        · omega
      clear hg hn hd
      go_enter Tryd.func11, Tryd.ntmps11
      go_wp2_with (go_at_call 34; refine HV.out.mono ?_; rintro e w1 ⟨rfl, hb1⟩; refine Hid.out ?_)
      refine Lib.hid ?_
      have B1 := Lib.hid (B0.out.trans (hb1.mono B0.out.size))
      clear hb1
      go_wp2_with (first
        | (go_at_call 35; refine (Wd.goodYes d HD.out _).mono ?_; rintro e w' ⟨rfl, rfl⟩)
        | (go_at_call 36; refine (l1In_false c 1 4 h3 _).mono ?_; rintro e w' ⟨rfl, rfl⟩))
      go_ret2
      exact ⟨rfl, B1.out⟩
    · have HD := Lib.hid hd
      clear hg hn hd
      go_enter Tryd.func11, Tryd.ntmps11
      go_wp2_with (go_at_call 34; refine HV.out.mono ?_; rintro e w1 ⟨rfl, hb1⟩; refine Hid.out ?_)
      refine Lib.hid ?_
      have B1 := Lib.hid (B0.out.trans (hb1.mono B0.out.size))
      clear hb1
      go_wp2_with (go_at_call 35; refine (Wd.goodNo d HD.out _).mono ?_; rintro e w' ⟨rfl, rfl⟩)
      go_ret2
      exact ⟨rfl, B1.out⟩
  · have HV := Lib.hid (validS A1 A2 n1 c1 n2 c2 we ho (w.alloc (.cells #[.slice A1 n1 c1, .slice A2 n2 c2] 26)) H0.out false (decide_eq_false hg))
    clear hg hn
    go_enter Tryd.func11, Tryd.ntmps11
    go_wp2_with (go_at_call 34; refine HV.out.mono ?_; rintro e w1 ⟨rfl, hb1⟩; refine Hid.out ?_)
    refine Lib.hid ?_
    have B1 := Lib.hid (B0.out.trans (hb1.mono B0.out.size))
    clear hb1
    go_wp2_with fail
    go_ret2
    exact ⟨rfl, B1.out⟩

theorem rollS (A1 A2 : Option Addr) (n1 c1 n2 c2 : Nat) (we ho : List Int) (d c : Int) (w : World) (h : Cl w w.heap.size A1 n1 A2 n2 we ho) :
    Calls Tryd.prog 11 #[.agg #[.slice A1 n1 c1, .slice A2 n2 c2], .int .i64 d, .int .i64 c] w fun e w' => e = .returned (.tuple #[.int .i64 (rollV we ho d c), .bool (rollF we ho d c)]) ∧ Below w.heap.size w w' := by
  unfold rollV rollF rollO
  by_cases hn : RollOk we ho d c
  · rw [if_pos hn]
    exact rollYes A1 A2 n1 c1 n2 c2 we ho d c w h hn.1 hn.2.1 hn.2.2.1 hn.2.2.2
  · rw [if_neg hn]
    exact rollNo A1 A2 n1 c1 n2 c2 we ho d c w h hn

end Go.Proofs.YtlpblipgehlniaaDoor.RollS
