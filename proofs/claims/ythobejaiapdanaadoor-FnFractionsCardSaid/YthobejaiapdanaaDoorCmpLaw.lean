/-
  The walk of the law FnExactCompareFractions.
-/
import Derived.Test.YthobejaiapdanaaDoorCompare
namespace Go.Proofs.YthobejaiapdanaaDoor.CmpLaw
open Go.RowKit Go.Proofs.YthobejaiapdanaaDoor.Gcd Go.Proofs.YthobejaiapdanaaDoor.Tz Go.Proofs.YthobejaiapdanaaDoor.Common Go.Proofs.YthobejaiapdanaaDoor.Red Go.Proofs.YthobejaiapdanaaDoor.Frac Go.Proofs.YthobejaiapdanaaDoor.Make Go.Proofs.YthobejaiapdanaaDoor.MakeLaw Go.Proofs.YthobejaiapdanaaDoor.IsFrac Go.Proofs.YthobejaiapdanaaDoor.Compare

theorem cmpAt {P : Program} {f : FuncId} {args : Array Value} {an ad bn bd : Int} {w : World} (h : Calls P f args w (cmpAns an ad bn bd w)) {r : Int} {rB : Bool} (e1 : r = cmpN an ad bn bd) (e2 : rB = cmpB an ad bn bd) :
    Calls P f args w fun e w' => e = .returned (.tuple #[.int .i64 r, .bool rB]) ∧ Below w.heap.size w w' := by
  subst e1 e2; exact h

set_option linter.unusedSimpArgs false in
set_option maxHeartbeats 4000000 in
theorem walk (an ad bn bd : Int) (w : World) (hT : Tab w) :
    Calls Tryd.prog 11 #[.agg #[.int .i64 an, .int .i64 ad], .agg #[.int .i64 bn, .int .i64 bd]] w fun e w' => e = .returned (.bool true) ∧ Below w.heap.size w w' := by
  have HT := Lib.hid hT
  clear hT
  obtain ⟨r, hr⟩ : ∃ x, x = cmpN an ad bn bd := ⟨_, rfl⟩
  obtain ⟨rB, hrB⟩ : ∃ x, x = cmpB an ad bn bd := ⟨_, rfl⟩
  have HN := Lib.hid hr
  have HB := Lib.hid hrB
  clear hr hrB
  have Kw : Hid (∀ wz, Below ((w.alloc (.cells #[.int .i64 an, .int .i64 ad] 41)).alloc (.cells #[.int .i64 bn, .int .i64 bd] 41)).heap.size ((w.alloc (.cells #[.int .i64 an, .int .i64 ad] 41)).alloc (.cells #[.int .i64 bn, .int .i64 bd] 41)) wz → wz.cell? ⟨w.heap.size, 0, none⟩ = some (.int .i64 an) ∧ wz.cell? ⟨w.heap.size, 1, none⟩ = some (.int .i64 ad) ∧ wz.cell? ⟨w.heap.size + 1, 0, none⟩ = some (.int .i64 bn) ∧ wz.cell? ⟨w.heap.size + 1, 1, none⟩ = some (.int .i64 bd)) := Lib.hid (fun wz h =>
    ⟨(h.cell (by first | omega | (simp; done) | (simp; omega))).trans (by simp [go_sem]), (h.cell (by first | omega | (simp; done) | (simp; omega))).trans (by simp [go_sem]), (h.cell (by first | omega | (simp; done) | (simp; omega))).trans (by simp [go_sem]), (h.cell (by first | omega | (simp; done) | (simp; omega))).trans (by simp [go_sem])⟩)
  go_enter Tryd.func11, Tryd.ntmps11
  go_wp2_with fail
  go_region_held3 (fun w' => w'.cell? ⟨w.heap.size, 0, none⟩ = some (.int .i64 an) ∧ w'.cell? ⟨w.heap.size, 1, none⟩ = some (.int .i64 ad) ∧ w'.cell? ⟨w.heap.size + 1, 0, none⟩ = some (.int .i64 bn) ∧ w'.cell? ⟨w.heap.size + 1, 1, none⟩ = some (.int .i64 bd)) (first | (refine Kw.out _ ?_; (repeat (first | exact Below.refl _ _ | exact bx | apply Below.drew | refine Below.alloc ?_ (by first | omega | (simp; done) | (simp; omega)) _)); done) | exact Kw.out _ bxcw)
    (first
      | (go_at_call 26; (with_reducible refine (toFx an ad _).mono ?_); rintro e wa ⟨rfl, rfl⟩)
      | (go_at_call 26; (with_reducible refine (toFx bn bd _).mono ?_); rintro e wb ⟨rfl, rfl⟩)
      | (go_at_call 33; (with_reducible refine (cmpAt (Compare.spec an ad bn bd _) HN.out HB.out).mono ?_); rintro e wcw ⟨rfl, hbc⟩; have bxcw : Below ((w.alloc (.cells #[.int .i64 an, .int .i64 ad] 41)).alloc (.cells #[.int .i64 bn, .int .i64 bd] 41)).heap.size ((w.alloc (.cells #[.int .i64 an, .int .i64 ad] 41)).alloc (.cells #[.int .i64 bn, .int .i64 bd] 41)) wcw := (by refine Below.trans ?_ (hbc.mono (by first | omega | (simp; done) | (simp; omega))); (repeat (first | exact Below.refl _ _ | exact bx | apply Below.drew | refine Below.alloc ?_ (by first | omega | (simp; done) | (simp; omega)) _)))))

  have bx : Below w.heap.size w wcw := Below.trans (((Below.refl _ _).alloc (Nat.le_refl _) _).alloc (by simp) _) (bxcw.mono (by simp; omega))
  have hxs := bx.size
  obtain ⟨c1, c2, c3, c4⟩ := Kw.out _ bxcw
  have hx1 := World.block_lt_of_cell? wcw _ c1
  have hx3 := World.block_lt_of_cell? wcw _ c3
  simp only at hx1 hx3
  have Kwcw : Hid (∀ wz, Below wcw.heap.size wcw wz → wz.cell? ⟨w.heap.size, 0, none⟩ = some (.int .i64 an) ∧ wz.cell? ⟨w.heap.size, 1, none⟩ = some (.int .i64 ad) ∧ wz.cell? ⟨w.heap.size + 1, 0, none⟩ = some (.int .i64 bn) ∧ wz.cell? ⟨w.heap.size + 1, 1, none⟩ = some (.int .i64 bd)) := Lib.hid (fun wz h =>
      ⟨(h.cell hx1).trans c1, (h.cell hx1).trans c2, (h.cell hx3).trans c3, (h.cell hx3).trans c4⟩)
  have HTx := Lib.hid (Tz.Tab.below HT.out bx)
  clear bxcw
  go_wp2_with fail
  go_region_held3 (fun w' => w'.cell? ⟨w.heap.size, 0, none⟩ = some (.int .i64 an) ∧ w'.cell? ⟨w.heap.size, 1, none⟩ = some (.int .i64 ad) ∧ w'.cell? ⟨w.heap.size + 1, 0, none⟩ = some (.int .i64 bn) ∧ w'.cell? ⟨w.heap.size + 1, 1, none⟩ = some (.int .i64 bd)) (first | (refine Kwcw.out _ ?_; (repeat (first | exact Below.refl _ _ | exact bx | apply Below.drew | refine Below.alloc ?_ (by first | omega | (simp; done) | (simp; omega)) _)); done) | exact Kwcw.out _ bxcwcw)
    (first
      | (go_at_call 26; (with_reducible refine (toFx an ad _).mono ?_); rintro e wa ⟨rfl, rfl⟩)
      | (go_at_call 26; (with_reducible refine (toFx bn bd _).mono ?_); rintro e wb ⟨rfl, rfl⟩)
      | (go_at_call 25; (with_reducible refine (cmpAt (Compare.impl an ad bn bd _ (Tz.Tab.below HTx.out (by (repeat (first | exact Below.refl _ _ | apply Below.drew | refine Below.alloc ?_ (by first | omega | (simp; done) | (simp; omega)) _))))) HN.out HB.out).mono ?_); rintro e wcwcw ⟨rfl, hbc⟩; have bxcwcw : Below wcw.heap.size wcw wcwcw := (by refine Below.trans ?_ (hbc.mono (by first | omega | (simp; done) | (simp; omega))); (repeat (first | exact Below.refl _ _ | exact bx | apply Below.drew | refine Below.alloc ?_ (by first | omega | (simp; done) | (simp; omega)) _)))))

  have by' : Below w.heap.size w wcwcw := bx.trans (bxcwcw.mono hxs)
  clear bxcwcw
  go_wp2_with fail
  all_goals go_ret
  all_goals exact ⟨rfl, by'⟩

end Go.Proofs.YthobejaiapdanaaDoor.CmpLaw
