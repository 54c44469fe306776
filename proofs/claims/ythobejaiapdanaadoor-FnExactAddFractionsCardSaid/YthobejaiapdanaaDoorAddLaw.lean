/-
  The walk of the law FnExactAddFractions.
-/
import Derived.Test.YthobejaiapdanaaDoorAddMul
import Derived.Deep.RegionHeld3
import Derived.Deep.DeepCutAuto
namespace Go.Proofs.YthobejaiapdanaaDoor.AddLaw
open Go.RowKit Go.Proofs.YthobejaiapdanaaDoor.Gcd Go.Proofs.YthobejaiapdanaaDoor.Tz Go.Proofs.YthobejaiapdanaaDoor.Common Go.Proofs.YthobejaiapdanaaDoor.Red Go.Proofs.YthobejaiapdanaaDoor.Frac Go.Proofs.YthobejaiapdanaaDoor.Make Go.Proofs.YthobejaiapdanaaDoor.MakeLaw Go.Proofs.YthobejaiapdanaaDoor.IsFrac Go.Proofs.YthobejaiapdanaaDoor.AddMul

theorem opAt {P : Program} {f : FuncId} {args : Array Value} {V : Prop} [Decidable V] {X Y : Int} {w : World} (h : Calls P f args w (opAns V X Y w)) {rN rD : Int} {rB : Bool} (e1 : rN = opN V X Y) (e2 : rD = opD V X Y) (e3 : rB = opB V X Y) :
    Calls P f args w fun e w' => e = .returned (.tuple #[.agg #[.int .i64 rN, .int .i64 rD], .bool rB]) ∧ Below w.heap.size w w' := by
  subst e1 e2 e3; exact h

/-- What the statement leaves: a block with the answer's fraction, the flag, the arguments' boxes as they were. -/
def Left (w wx : World) (an ad bn bd rN rD : Int) (rB : Bool) (s t : Value) : Prop :=
  ∃ k, s = .pointer (some ⟨k, 0, none⟩) ∧ t = .bool rB ∧ wx.cell? ⟨k, 0, none⟩ = some (.int .i64 rN) ∧ wx.cell? ⟨k, 1, none⟩ = some (.int .i64 rD) ∧
    (wx.cell? ⟨w.heap.size, 0, none⟩ = some (.int .i64 an) ∧ wx.cell? ⟨w.heap.size, 1, none⟩ = some (.int .i64 ad) ∧ wx.cell? ⟨w.heap.size + 1, 0, none⟩ = some (.int .i64 bn) ∧ wx.cell? ⟨w.heap.size + 1, 1, none⟩ = some (.int .i64 bd)) ∧ Below w.heap.size w wx

set_option linter.unusedSimpArgs false in
set_option maxHeartbeats 4000000 in
theorem walk (an ad bn bd : Int) (w : World) (hT : Tab w) :
    Calls Tryd.prog 9 #[.agg #[.int .i64 an, .int .i64 ad], .agg #[.int .i64 bn, .int .i64 bd]] w fun e w' => e = .returned (.bool true) ∧ Below w.heap.size w w' := by
  have HT := Lib.hid hT
  clear hT
  obtain ⟨rN, hrN⟩ : ∃ x, x = opN (Both an ad bn bd) (an * bd + bn * ad) (ad * bd) := ⟨_, rfl⟩
  obtain ⟨rD, hrD⟩ : ∃ x, x = opD (Both an ad bn bd) (an * bd + bn * ad) (ad * bd) := ⟨_, rfl⟩
  obtain ⟨rB, hrB⟩ : ∃ x, x = opB (Both an ad bn bd) (an * bd + bn * ad) (ad * bd) := ⟨_, rfl⟩
  have HN := Lib.hid hrN
  have HD := Lib.hid hrD
  have HB := Lib.hid hrB
  clear hrN hrD hrB
  go_enter Tryd.func9, Tryd.ntmps9
  go_upto_region 1 with fail
  have Kw : Hid (∀ wz, Below ((w.alloc (.cells #[.int .i64 an, .int .i64 ad] 41)).alloc (.cells #[.int .i64 bn, .int .i64 bd] 41)).heap.size ((w.alloc (.cells #[.int .i64 an, .int .i64 ad] 41)).alloc (.cells #[.int .i64 bn, .int .i64 bd] 41)) wz → wz.cell? ⟨w.heap.size, 0, none⟩ = some (.int .i64 an) ∧ wz.cell? ⟨w.heap.size, 1, none⟩ = some (.int .i64 ad) ∧ wz.cell? ⟨w.heap.size + 1, 0, none⟩ = some (.int .i64 bn) ∧ wz.cell? ⟨w.heap.size + 1, 1, none⟩ = some (.int .i64 bd)) := Lib.hid (fun wz h =>
    ⟨(h.cell (by first | omega | (simp; done) | (simp; omega))).trans (by simp [go_sem]), (h.cell (by first | omega | (simp; done) | (simp; omega))).trans (by simp [go_sem]), (h.cell (by first | omega | (simp; done) | (simp; omega))).trans (by simp [go_sem]), (h.cell (by first | omega | (simp; done) | (simp; omega))).trans (by simp [go_sem])⟩)
  go_cut [5, 6] (fun s t wx => Left w wx an ad bn bd rN rD rB s t)
  case first =>
    go_region_held3 (fun w' => w'.cell? ⟨w.heap.size, 0, none⟩ = some (.int .i64 an) ∧ w'.cell? ⟨w.heap.size, 1, none⟩ = some (.int .i64 ad) ∧ w'.cell? ⟨w.heap.size + 1, 0, none⟩ = some (.int .i64 bn) ∧ w'.cell? ⟨w.heap.size + 1, 1, none⟩ = some (.int .i64 bd)) (first | (refine Kw.out _ ?_; (repeat (first | exact Below.refl _ _ | exact bx | apply Below.drew | refine Below.alloc ?_ (by first | omega | (simp; done) | (simp; omega)) _)); done) | exact Kw.out _ bxc | (refine Kw.out _ (bxc.alloc ?_ _); first | omega | (simp; omega)) | (refine Kw.out _ ((bxc.setCell ?_ _).setCell ?_ _); all_goals (first | omega | (simp; done) | (simp; omega))))
      (first
        | (go_at_call 26; (with_reducible refine (toFx an ad _).mono ?_); rintro e wa ⟨rfl, rfl⟩)
        | (go_at_call 26; (with_reducible refine (toFx bn bd _).mono ?_); rintro e wb ⟨rfl, rfl⟩)
        | (go_at_call 23; (with_reducible refine (opAt (specAdd an ad bn bd _) HN.out HD.out HB.out).mono ?_); rintro e wc ⟨rfl, hbc⟩; obtain ⟨hcc, hfc⟩ := bcell hbc; have hzc := hbc.size; have bw : Below w.heap.size w wc := (by refine Below.trans ?_ (hbc.mono (by first | omega | (simp; done) | (simp; omega))); (repeat (first | exact Below.refl _ _ | exact bx | apply Below.drew | refine Below.alloc ?_ (by first | omega | (simp; done) | (simp; omega)) _))); have bxc : Below ((w.alloc (.cells #[.int .i64 an, .int .i64 ad] 41)).alloc (.cells #[.int .i64 bn, .int .i64 bd] 41)).heap.size ((w.alloc (.cells #[.int .i64 an, .int .i64 ad] 41)).alloc (.cells #[.int .i64 bn, .int .i64 bd] 41)) wc := (by refine Below.trans ?_ (hbc.mono (by first | omega | (simp; done) | (simp; omega))); (repeat (first | exact Below.refl _ _ | exact bx | apply Below.drew | refine Below.alloc ?_ (by first | omega | (simp; done) | (simp; omega)) _))); simp at hzc; have hz1 : w.heap.size < wc.heap.size := (by omega); have hz2 : w.heap.size + 1 < wc.heap.size := (by omega); (try have hy0 : w.heap.size + 1 + 1 < wc.heap.size := (by omega)); (try have hy1 : w.heap.size + 1 + 1 + 1 + 1 + 1 < wc.heap.size := (by omega)); (try have hy2 : w.heap.size + 1 + 1 + 1 + 1 + 1 + 1 + 1 + 1 < wc.heap.size := (by omega))))

    all_goals (go_wp2_with fail; go_meet)
    all_goals (refine ⟨_, rfl, rfl, ?_, ?_, ⟨?_, ?_, ?_, ?_⟩, ?_⟩)
    all_goals (first
      | (simp [go_sem]; done)
      | (simp [go_sem, hcc, hz1, hz2, hy0, hy1, hy2]; done)
      | (simp [go_sem, hcc, hz1, hz2, hy0, hy1]; done)
      | (simp [go_sem, hcc, hz1, hz2]; done)
      | exact bw.alloc bw.size _
      | exact (bw.setCell (by first | omega | (simp; done) | (simp; omega)) _).setCell (by first | omega | (simp; done) | (simp; omega)) _)
  case rest =>
    obtain ⟨k, rfl, rfl, k0, k1, ⟨c1, c2, c3, c4⟩, bx⟩ := hcut
    have HTx := Lib.hid (Tz.Tab.below HT.out bx)
    have hx1 := World.block_lt_of_cell? wc _ c1
    have hx3 := World.block_lt_of_cell? wc _ c3
    have hk := World.block_lt_of_cell? wc _ k0
    simp only at hx1 hx3 hk
    have hxs := bx.size
    generalize wc = wx at *
    go_upto_region 2 with fail
    have Kwx : Hid (∀ wz, Below wx.heap.size wx wz → wz.cell? ⟨w.heap.size, 0, none⟩ = some (.int .i64 an) ∧ wz.cell? ⟨w.heap.size, 1, none⟩ = some (.int .i64 ad) ∧ wz.cell? ⟨w.heap.size + 1, 0, none⟩ = some (.int .i64 bn) ∧ wz.cell? ⟨w.heap.size + 1, 1, none⟩ = some (.int .i64 bd)) := Lib.hid (fun wz h =>
      ⟨(h.cell hx1).trans c1, (h.cell hx1).trans c2, (h.cell hx3).trans c3, (h.cell hx3).trans c4⟩)
    have HF : Hid (∀ wf k', Below wx.heap.size wx wf → wf.cell? ⟨k', 0, none⟩ = some (.int .i64 rN) → wf.cell? ⟨k', 1, none⟩ = some (.int .i64 rD) →
        (Left w wf an ad bn bd rN rD rB (.pointer (some ⟨k', 0, none⟩)) (.bool rB) ∧ wf.cell? ⟨k, 0, none⟩ = some (.int .i64 rN) ∧ wf.cell? ⟨k, 1, none⟩ = some (.int .i64 rD))) := Lib.hid (fun wf k' b n0 n1 =>
      ⟨⟨k', rfl, rfl, n0, n1, Kwx.out wf b, bx.trans (b.mono hxs)⟩, (b.cell (p := ⟨k, 0, none⟩) hk).trans k0, (b.cell (p := ⟨k, 1, none⟩) hk).trans k1⟩)
    go_cut [7, 8] (fun s t wy => Left w wy an ad bn bd rN rD rB s t ∧ wy.cell? ⟨k, 0, none⟩ = some (.int .i64 rN) ∧ wy.cell? ⟨k, 1, none⟩ = some (.int .i64 rD))
    case first =>
      go_region_held3 (fun w' => w'.cell? ⟨w.heap.size, 0, none⟩ = some (.int .i64 an) ∧ w'.cell? ⟨w.heap.size, 1, none⟩ = some (.int .i64 ad) ∧ w'.cell? ⟨w.heap.size + 1, 0, none⟩ = some (.int .i64 bn) ∧ w'.cell? ⟨w.heap.size + 1, 1, none⟩ = some (.int .i64 bd)) (first | (refine Kwx.out _ ?_; (repeat (first | exact Below.refl _ _ | exact bx | apply Below.drew | refine Below.alloc ?_ (by first | omega | (simp; done) | (simp; omega)) _)); done) | exact Kwx.out _ bxc | (refine Kwx.out _ (bxc.alloc ?_ _); first | omega | (simp; omega)) | (refine Kwx.out _ ((bxc.setCell ?_ _).setCell ?_ _); all_goals (first | omega | (simp; done) | (simp; omega))))
        (first
          | (go_at_call 26; (with_reducible refine (toFx an ad _).mono ?_); rintro e wa ⟨rfl, rfl⟩)
          | (go_at_call 26; (with_reducible refine (toFx bn bd _).mono ?_); rintro e wb ⟨rfl, rfl⟩)
          | (go_at_call 22; (with_reducible refine (opAt (implAdd an ad bn bd _ (Tz.Tab.below HTx.out (by (repeat (first | exact Below.refl _ _ | exact bx | apply Below.drew | refine Below.alloc ?_ (by first | omega | (simp; done) | (simp; omega)) _))))) HN.out HD.out HB.out).mono ?_); rintro e wc ⟨rfl, hbc⟩; obtain ⟨hcc, hfc⟩ := bcell hbc; have hzc := hbc.size; have bw : Below w.heap.size w wc := (by refine Below.trans ?_ (hbc.mono (by first | omega | (simp; done) | (simp; omega))); (repeat (first | exact Below.refl _ _ | exact bx | apply Below.drew | refine Below.alloc ?_ (by first | omega | (simp; done) | (simp; omega)) _))); have bxc : Below wx.heap.size wx wc := (by refine Below.trans ?_ (hbc.mono (by first | omega | (simp; done) | (simp; omega))); (repeat (first | exact Below.refl _ _ | exact bx | apply Below.drew | refine Below.alloc ?_ (by first | omega | (simp; done) | (simp; omega)) _))); simp at hzc; have hz1 : w.heap.size < wc.heap.size := (by omega); have hz2 : w.heap.size + 1 < wc.heap.size := (by omega); (try have hy0 : wx.heap.size < wc.heap.size := (by omega)); (try have hy1 : wx.heap.size + 1 + 1 + 1 < wc.heap.size := (by omega)); (try have hy2 : wx.heap.size + 1 + 1 + 1 + 1 + 1 + 1 < wc.heap.size := (by omega))))

      all_goals (go_wp2_with fail; go_meet)
      all_goals (refine HF.out _ _ ?_ ?_ ?_)
      all_goals (first
        | exact bxc.alloc bxc.size _
        | (refine (bxc.setCell ?_ _).setCell ?_ _; all_goals (first | omega | (simp; done) | (simp; omega)))
        | (simp [go_sem]; done)
        | (simp [go_sem, hcc, hy0, hy1, hy2]; done)
        | (simp [go_sem, hcc, hy0, hy1]; done)
        | (rw [World.cell?_setCell_other (h := by simp)]; refine World.cell?_setCell_same _ _ _ (u := .int .i64 0) ?_; rw [hcc _ _ (by first | omega | (simp; done) | (simp; omega))]; simp [go_sem]; done)
        | (refine World.cell?_setCell_same _ _ _ (u := .int .i64 0) ?_; rw [World.cell?_setCell_other (h := by simp)]; rw [hcc _ _ (by first | omega | (simp; done) | (simp; omega))]; simp [go_sem]; done))
    case rest =>
      obtain ⟨⟨k', rfl, rfl, j0, j1, _, by'⟩, i0, i1⟩ := hcut
      go_wp2_with (go_at_call 31; refine (eqF rN rD _).mono ?_; rintro e w3 ⟨rfl, rfl⟩)
      go_ret
      have hzy := by'.size
      exact ⟨rfl, (by'.alloc (by omega) _).alloc (by simp; omega) _⟩

end Go.Proofs.YthobejaiapdanaaDoor.AddLaw
