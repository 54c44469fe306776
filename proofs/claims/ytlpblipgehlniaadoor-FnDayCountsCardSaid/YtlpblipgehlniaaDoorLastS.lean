/-
  LastBusinessDay of the model.
-/
import Derived.Test.YtlpblipgehlniaaDoorRollS
namespace Go.Proofs.YtlpblipgehlniaaDoor.LastS
open Go.RowKit Go.Proofs.YtlpblipgehlniaaDoor.IRow Go.Proofs.YtlpblipgehlniaaDoor.Cal Go.Proofs.YtlpblipgehlniaaDoor.Biz Go.Proofs.YtlpblipgehlniaaDoor.Wd Go.Proofs.YtlpblipgehlniaaDoor.Asc Go.Proofs.YtlpblipgehlniaaDoor.CalLaw Go.Proofs.YtlpblipgehlniaaDoor.Opn Go.Proofs.YtlpblipgehlniaaDoor.IsBiz Go.Proofs.YtlpblipgehlniaaDoor.SeekS Go.Proofs.YtlpblipgehlniaaDoor.Tab Go.Proofs.YtlpblipgehlniaaDoor.Len Go.Proofs.YtlpblipgehlniaaDoor.RollI Go.Proofs.YtlpblipgehlniaaDoor.RollS

theorem num_last (d : Int) : num (yr d) (mo d) (lenM (yr d) (mo d)) = lastD d := by unfold num lastD Biz.fst; omega

set_option maxHeartbeats 4000000 in
theorem aux (A1 A2 : Option Addr) (n1 c1 n2 c2 : Nat) (we ho : List Int) (d Y M D L N : Int) (w : World) (h : Cl w w.heap.size A1 n1 A2 n2 we ho) (HD : Hid (Day d))
    (HV : Hid (∀ w, Cl w w.heap.size A1 n1 A2 n2 we ho → Calls Tryd.prog 34 #[.agg #[.slice A1 n1 c1, .slice A2 n2 c2]] w fun e w' => e = .returned (.bool true) ∧ Below w.heap.size w w'))
    (HL : Hid (∀ w, Calls Tryd.prog 48 #[.int .i64 d] w fun e w' => e = .returned (.agg #[.int .i64 Y, .int .i64 M, .int .i64 D]) ∧ Below w.heap.size w w'))
    (HG : Hid (∀ w, Calls Tryd.prog 49 #[.int .i64 Y, .int .i64 M] w fun e w' => e = .returned (.int .i64 L) ∧ w = w'))
    (HN : Hid (∀ w, Calls Tryd.prog 51 #[.agg #[.int .i64 Y, .int .i64 M, .int .i64 L]] w fun e w' => e = .returned (.int .i64 N) ∧ Below w.heap.size w w'))
    (o : Option Int) (HS : Hid (∀ w, Cl w w.heap.size A1 n1 A2 n2 we ho → Calls Tryd.prog 50 #[.agg #[.slice A1 n1 c1, .slice A2 n2 c2], .int .i64 N, .int .i64 (-1)] w fun e w' => e = .returned (.int .i64 (o.getD (-1))) ∧ Below w.heap.size w w'))
    (q : Option Int) (H0 : Hid (o = none → q = none)) (H1 : Hid (∀ x, o = some x → 0 ≤ x ∧ ∃ r, (∀ w, Calls Tryd.prog 52 #[.int .i64 x, .int .i64 d] w fun e w' => e = .returned (.bool r) ∧ Below w.heap.size w w') ∧ q = if r then some x else none)) :
    Calls Tryd.prog 20 #[.agg #[.slice A1 n1 c1, .slice A2 n2 c2], .int .i64 d] w fun e w' => e = .returned (.tuple #[.int .i64 (q.getD 0), .bool q.isSome]) ∧ Below w.heap.size w w' := by
  have C0 := Lib.hid (h.on (below1 w (.cells #[.slice A1 n1 c1, .slice A2 n2 c2] 26)))
  have X0 := Lib.hid (Bx.new w (.slice A1 n1 c1) (.slice A2 n2 c2) 26)
  have B0 := Lib.hid (below1 w (.cells #[.slice A1 n1 c1, .slice A2 n2 c2] 26))
  clear h
  go_enter Tryd.func20, Tryd.ntmps20
  go_wp2_with (go_at_call 34; refine (HV.out _ C0.out).mono ?_; rintro e w1 ⟨rfl, hb1⟩; refine Hid.out ?_)
  refine Lib.hid ?_
  have C1 := Lib.hid (C0.out.on hb1)
  have X1 := Lib.hid (X0.out.on hb1)
  have B1 := Lib.hid (B0.out.trans (hb1.mono B0.out.size))
  clear hb1 B0 X0 C0 HV
  go_wp2_with (first
    | (go_at_call 35; refine (Wd.goodYes d HD.out _).mono ?_; rintro e w' ⟨rfl, rfl⟩)
    | (go_at_call 48; refine (HL.out _).mono ?_; rintro e w2 ⟨rfl, hb2⟩; refine Hid.out ?_))
  refine Lib.hid ?_
  have hb3 : Below w1.heap.size w1 (w2.alloc (.cells #[.int .i64 Y, .int .i64 M, .int .i64 L] 44)) := hb2.alloc hb2.size _
  have C3 := Lib.hid (C1.out.on hb3)
  have X3 := Lib.hid (X1.out.on hb3)
  have B3 := Lib.hid (B1.out.trans (hb3.mono B1.out.size))
  have Y3 := Lib.hid (DayOf.Box.new w2 Y M L 44)
  clear hb2 hb3 B1 X1 C1 HL
  go_wp2_with (go_at_call 49; refine (HG.out _).mono ?_; rintro e w' ⟨rfl, rfl⟩)
  have KX : Hid (∀ v, Below (w2.alloc (.cells #[.int .i64 Y, .int .i64 M, .int .i64 L] 44)).heap.size (w2.alloc (.cells #[.int .i64 Y, .int .i64 M, .int .i64 L] 44)) v → v.cell? ⟨w.heap.size, 0, none⟩ = some (.slice A1 n1 c1) ∧ v.cell? ⟨w.heap.size, 1, none⟩ = some (.slice A2 n2 c2) ∧ v.cell? ⟨w2.heap.size, 0, none⟩ = some (.int .i64 Y) ∧ v.cell? ⟨w2.heap.size, 1, none⟩ = some (.int .i64 M) ∧ v.cell? ⟨w2.heap.size, 2, none⟩ = some (.int .i64 L)) := Lib.hid fun v hv => by
    have a := X3.out.on hv
    have b := DayOf.Box.below Y3.out hv
    exact ⟨a.c0, a.c1, b.c0, b.c1, b.c2⟩
  have KC : Hid (∀ v, Below (w2.alloc (.cells #[.int .i64 Y, .int .i64 M, .int .i64 L] 44)).heap.size (w2.alloc (.cells #[.int .i64 Y, .int .i64 M, .int .i64 L] 44)) v → Cl v v.heap.size A1 n1 A2 n2 we ho) := Lib.hid fun v hv => C3.out.on hv
  clear X3 Y3 C3
  generalize w2.alloc (.cells #[.int .i64 Y, .int .i64 M, .int .i64 L] 44) = X at *
  generalize w2.heap.size = k at *
  go_region_held3 (fun v => v.cell? ⟨w.heap.size, 0, none⟩ = some (.slice A1 n1 c1) ∧ v.cell? ⟨w.heap.size, 1, none⟩ = some (.slice A2 n2 c2) ∧ v.cell? ⟨k, 0, none⟩ = some (.int .i64 Y) ∧ v.cell? ⟨k, 1, none⟩ = some (.int .i64 M) ∧ v.cell? ⟨k, 2, none⟩ = some (.int .i64 L)) (first | (refine KX.out _ ?_; (repeat (first | exact Below.refl _ _ | exact b2 | exact b1 | apply Below.drew)); done))
    (first
      | (go_at_call 51; (with_reducible refine (HN.out _).mono ?_); rintro e wa ⟨rfl, hb⟩; have b1 : Below X.heap.size X wa := (Below.trans (by (repeat (first | exact Below.refl _ _ | exact b2 | exact b1 | apply Below.drew))) (hb.mono (by first | omega | (simp; done) | (simp; omega) | exact b1.size | (have := b1.size; simp; omega)))); clear hb)
      | (go_at_call 50; (with_reducible refine (HS.out _ (KC.out _ (by (repeat (first | exact Below.refl _ _ | exact b2 | exact b1 | apply Below.drew))))).mono ?_); rintro e wb ⟨rfl, hb⟩; have b2 : Below X.heap.size X wb := (Below.trans (by (repeat (first | exact Below.refl _ _ | exact b2 | exact b1 | apply Below.drew))) (hb.mono (by first | omega | (simp; done) | (simp; omega) | exact b1.size | (have := b1.size; simp; omega)))); clear hb))
  all_goals
    have BE := Lib.hid (B3.out.trans (b2.mono B3.out.size))
    clear b1 b2 KX KC HS HN
    cases o with
    | none =>
      have HQ := Lib.hid (H0.out rfl)
      go_wp2_with fail
      go_ret2
      exact ⟨ret_opt (by rw [HQ.out]; exact ⟨rfl, rfl⟩), BE.out⟩
    | some x =>
      obtain ⟨hx, r, hr, hq⟩ := H1.out x rfl
      have HR := Lib.hid hr
      have HQ := Lib.hid hq
      clear hr hq
      cases r
      · go_wp2_with (go_at_call 52; refine (HR.out _).mono ?_; rintro e w9 ⟨rfl, hb9⟩; refine Hid.out ?_)
        refine Lib.hid ?_
        have hz := Lib.hid (BE.out.trans (hb9.mono BE.out.size))
        clear hb9
        go_wp2_with fail
        go_ret2
        exact ⟨ret_opt (by rw [HQ.out]; exact ⟨rfl, rfl⟩), hz.out⟩
      · go_wp2_with (go_at_call 52; refine (HR.out _).mono ?_; rintro e w9 ⟨rfl, hb9⟩; refine Hid.out ?_)
        refine Lib.hid ?_
        have hz := Lib.hid (BE.out.trans (hb9.mono BE.out.size))
        clear hb9
        go_wp2_with fail
        go_ret2
        exact ⟨ret_opt (by rw [HQ.out]; exact ⟨rfl, rfl⟩), hz.out⟩

set_option maxHeartbeats 2000000 in
theorem lastNo (A1 A2 : Option Addr) (n1 c1 n2 c2 : Nat) (we ho : List Int) (d : Int) (w : World) (h : Cl w w.heap.size A1 n1 A2 n2 we ho) (hn : ¬ (GoodC we ho ∧ Day d)) :
    Calls Tryd.prog 20 #[.agg #[.slice A1 n1 c1, .slice A2 n2 c2], .int .i64 d] w fun e w' => e = .returned (.tuple #[.int .i64 0, .bool false]) ∧ Below w.heap.size w w' := by
  have H0 := Lib.hid (h.on (below1 w (.cells #[.slice A1 n1 c1, .slice A2 n2 c2] 26)))
  have B0 := Lib.hid (below1 w (.cells #[.slice A1 n1 c1, .slice A2 n2 c2] 26))
  clear h
  by_cases hg : GoodC we ho
  · have HV := Lib.hid (validS A1 A2 n1 c1 n2 c2 we ho (w.alloc (.cells #[.slice A1 n1 c1, .slice A2 n2 c2] 26)) H0.out true (decide_eq_true hg))
    have HD : Hid (¬ Day d) := Lib.hid fun hd => hn ⟨hg, hd⟩
    clear hg hn
    go_enter Tryd.func20, Tryd.ntmps20
    go_wp2_with (go_at_call 34; refine HV.out.mono ?_; rintro e w1 ⟨rfl, hb1⟩; refine Hid.out ?_)
    refine Lib.hid ?_
    have B1 := Lib.hid (B0.out.trans (hb1.mono B0.out.size))
    clear hb1
    go_wp2_with (go_at_call 35; refine (Wd.goodNo d HD.out _).mono ?_; rintro e w' ⟨rfl, rfl⟩)
    go_ret2
    exact ⟨rfl, B1.out⟩
  · have HV := Lib.hid (validS A1 A2 n1 c1 n2 c2 we ho (w.alloc (.cells #[.slice A1 n1 c1, .slice A2 n2 c2] 26)) H0.out false (decide_eq_false hg))
    clear hg hn
    go_enter Tryd.func20, Tryd.ntmps20
    go_wp2_with (go_at_call 34; refine HV.out.mono ?_; rintro e w1 ⟨rfl, hb1⟩; refine Hid.out ?_)
    refine Lib.hid ?_
    have B1 := Lib.hid (B0.out.trans (hb1.mono B0.out.size))
    clear hb1
    go_wp2_with fail
    go_ret2
    exact ⟨rfl, B1.out⟩

theorem lastS (A1 A2 : Option Addr) (n1 c1 n2 c2 : Nat) (we ho : List Int) (d : Int) (w : World) (h : Cl w w.heap.size A1 n1 A2 n2 we ho) :
    Calls Tryd.prog 20 #[.agg #[.slice A1 n1 c1, .slice A2 n2 c2], .int .i64 d] w fun e w' => e = .returned (.tuple #[.int .i64 (lastV we ho d), .bool (lastF we ho d)]) ∧ Below w.heap.size w w' := by
  unfold lastV lastF lastO
  by_cases hn : GoodC we ho ∧ Day d
  · rw [if_pos hn]
    obtain ⟨hg, hd⟩ := hn
    obtain ⟨⟨hy, hm, d1, d2⟩, _⟩ := date_is hd
    have hl := len_bd (yr d) (mo d)
    have hb := fst_bd hd
    have hL : Day (lastD d) := ⟨by omega, by omega⟩
    have hk := last_day (p := opn we ho) hd
    refine aux A1 A2 n1 c1 n2 c2 we ho d (yr d) (mo d) (da d) (lenM (yr d) (mo d)) (lastD d) w h (Lib.hid hd) (Lib.hid fun w h => validS A1 A2 n1 c1 n2 c2 we ho w h true (decide_eq_true hg))
      (Lib.hid fun w => DateOf.l3Date d hd w) (Lib.hid fun w => l3Length _ _ (by have := hy.1; omega) w) (Lib.hid fun w => ?_) (lst (opn we ho) (lastD d)) (Lib.hid fun w h => seek_dn A1 A2 n1 c1 n2 c2 we ho (lastD d) w h (by omega) (by omega)) _ (Lib.hid fun hz => ?_) (Lib.hid fun x hx => ?_)
    · have := Valid.l3Day (yr d) (mo d) (lenM (yr d) (mo d)) hy hm (by omega) (by omega) w
      rw [num_last] at this
      exact this.mono fun _ _ ⟨a, b⟩ => ⟨a, by rw [← b]; exact below1 _ _⟩
    · exact hk.2 fun x hx => by rw [hz] at hx; cases hx
    · have hxd := lst_le hL hx
      refine ⟨hxd.2.1.1, decide (yr x = yr d ∧ mo x = mo d), fun w => same x d hxd.2.1 hd _ rfl w, ?_⟩
      by_cases hmm : yr x = yr d ∧ mo x = mo d
      · rw [decide_eq_true hmm, if_pos rfl]; exact hk.1 x hx hmm
      · rw [decide_eq_false hmm]
        exact hk.2 fun y hy => by rw [hx] at hy; injection hy with hy; subst hy; exact hmm
  · rw [if_neg hn]
    exact lastNo A1 A2 n1 c1 n2 c2 we ho d w h hn

end Go.Proofs.YtlpblipgehlniaaDoor.LastS
