/-
  The walk of the law FnExactLastBusinessDay.
-/
import Derived.Test.YtlpblipgehlniaaDoorCalLaw
import Derived.Test.YtlpblipgehlniaaDoorTab
namespace Go.Proofs.YtlpblipgehlniaaDoor.LastBusinessDayW
open Go.RowKit Go.Proofs.YtlpblipgehlniaaDoor.IRow Go.Proofs.YtlpblipgehlniaaDoor.Cal Go.Proofs.YtlpblipgehlniaaDoor.Biz Go.Proofs.YtlpblipgehlniaaDoor.Asc Go.Proofs.YtlpblipgehlniaaDoor.CalLaw

set_option maxHeartbeats 4000000 in
theorem walkAux (A1 A2 : Option Addr) (n1 c1 n2 c2 : Nat) (x0 : Int) (we ho : List Int) (r : Int) (f : Bool) (w : World) (hT : Tab.Tab w) (h1 : n1 = we.length) (h2 : n2 = ho.length) (hm : n1 + n2 ≤ 1048576) (r1 : Is w w.heap.size A1 we) (r2 : Is w w.heap.size A2 ho)
    (HS : Hid (∀ (B1 B2 : Option Addr) (w : World), Cl w w.heap.size B1 n1 B2 n2 we ho → Calls Tryd.prog 20 #[.agg #[.slice B1 n1 n1, .slice B2 n2 n2], .int .i64 x0] w fun e w' => e = .returned (.tuple #[.int .i64 r, .bool f]) ∧ Below w.heap.size w w'))
    (HI : Hid (∀ (B1 B2 : Option Addr) (w : World), Tab.Tab w → Cl w w.heap.size B1 n1 B2 n2 we ho → Calls Tryd.prog 19 #[.agg #[.slice B1 n1 n1, .slice B2 n2 n2], .int .i64 x0] w fun e w' => e = .returned (.tuple #[.int .i64 r, .bool f]) ∧ Below w.heap.size w w')) :
    Calls Tryd.prog 6 #[.agg #[.slice A1 n1 c1, .slice A2 n2 c2], .int .i64 x0] w fun e w' => e = .returned (.bool true) ∧ Below w.heap.size w w' := by
  have HTO : Hid (∀ v, Below w.heap.size w v → Calls Tryd.prog 24 #[.agg #[.slice A1 n1 c1, .slice A2 n2 c2]] v fun e w' => ∃ b1 b2, e = .returned (.agg #[.slice (some ⟨b1, 0, none⟩) n1 n1, .slice (some ⟨b2, 0, none⟩) n2 n2]) ∧ New v.heap.size w' b1 n1 b2 n2 we ho ∧ Below v.heap.size v w') :=
    Lib.hid fun v hv => toC A1 A2 n1 c1 n2 c2 we ho v h1 h2 (by omega) (by omega) ((r1.below hv).more hv.size) ((r2.below hv).more hv.size)
  have HSZ := Lib.hid fun w => szYes A1 A2 n1 c1 n2 c2 1048576 (Nat.le_refl _) hm w
  have HT := Lib.hid hT
  clear r1 r2 h1 h2 hT
  have B2 : Hid (Below w.heap.size w ((w.alloc (.cells #[.slice A1 n1 c1, .slice A2 n2 c2] 47)).alloc (.cells #[.slice A1 n1 c1, .slice A2 n2 c2] 47))) := Lib.hid ((below1 _ _).alloc (by simp) _)
  have X0 : Hid (Bx w.heap.size ((w.alloc (.cells #[.slice A1 n1 c1, .slice A2 n2 c2] 47)).alloc (.cells #[.slice A1 n1 c1, .slice A2 n2 c2] 47)) (.slice A1 n1 c1) (.slice A2 n2 c2)) := Lib.hid ((Bx.new w _ _ _).alloc _)
  go_enter Tryd.func6, Tryd.ntmps6
  go_wp2_with (first
    | (go_at_call 23; refine (HSZ.out _).mono ?_; rintro e w' ⟨rfl, rfl⟩)
    | (go_at_call 24; refine (HTO.out _ B2.out).mono ?_; rintro e w1 ⟨p1, p2, rfl, hn1, hb1⟩; refine Hid.out ?_))
  refine Lib.hid ?_
  have N1 := Lib.hid hn1.cl
  have BW1 : Hid (Below w.heap.size w w1) := Lib.hid (B2.out.trans (hb1.mono B2.out.size))
  have X1 := Lib.hid (X0.out.on hb1)
  clear hn1 hb1 B2 X0 HSZ
  go_wp2_with (go_at_call 20; refine (HS.out _ _ _ N1.out).mono ?_; rintro e w2 ⟨rfl, hb2⟩; refine Hid.out ?_)
  refine Lib.hid ?_
  have BW2 : Hid (Below w.heap.size w w2) := Lib.hid (BW1.out.trans (hb2.mono BW1.out.size))
  have X2 := Lib.hid (X1.out.on hb2)
  clear hb2 BW1 X1 N1
  obtain ⟨_, x0, x1, _, _⟩ := X2.out
  go_wp2_with (go_at_call 24; refine (HTO.out _ BW2.out).mono ?_; rintro e w3 ⟨q1, q2, rfl, hn3, hb3⟩; refine Hid.out ?_)
  refine Lib.hid ?_
  have BW4 : Hid (Below w.heap.size w (w3.alloc (.cells #[.slice (some ⟨q1, 0, none⟩) n1 n1, .slice (some ⟨q2, 0, none⟩) n2 n2] 26))) := Lib.hid ((BW2.out.trans (hb3.mono BW2.out.size)).alloc (BW2.out.trans (hb3.mono BW2.out.size)).size _)
  have X4 := Lib.hid ((X2.out.on hb3).alloc (.cells #[.slice (some ⟨q1, 0, none⟩) n1 n1, .slice (some ⟨q2, 0, none⟩) n2 n2] 26))
  have Y4 := Lib.hid (Bx.new w3 (.slice (some ⟨q1, 0, none⟩) n1 n1) (.slice (some ⟨q2, 0, none⟩) n2 n2) 26)
  have N4 := Lib.hid (hn3.on (below1 w3 (.cells #[.slice (some ⟨q1, 0, none⟩) n1 n1, .slice (some ⟨q2, 0, none⟩) n2 n2] 26))).cl
  clear hn3 hb3 BW2 X2 x0 x1
  go_wp2_with (go_at_call 19; refine (HI.out _ _ _ (HT.out.below BW4.out) N4.out).mono ?_; rintro e X ⟨rfl, hb5⟩; refine Hid.out ?_)
  refine Lib.hid ?_
  have BW5 : Hid (Below w.heap.size w X) := Lib.hid (BW4.out.trans (hb5.mono BW4.out.size))
  have KX : Hid (∀ v, Below X.heap.size X v → v.cell? ⟨w.heap.size, 0, none⟩ = some (.slice A1 n1 c1) ∧ v.cell? ⟨w.heap.size, 1, none⟩ = some (.slice A2 n2 c2) ∧ v.cell? ⟨w3.heap.size, 0, none⟩ = some (.slice (some ⟨q1, 0, none⟩) n1 n1) ∧ v.cell? ⟨w3.heap.size, 1, none⟩ = some (.slice (some ⟨q2, 0, none⟩) n2 n2)) := Lib.hid fun v hv => by
    have a := (X4.out.on hb5).on hv
    have b := (Y4.out.on hb5).on hv
    exact ⟨a.c0, a.c1, b.c0, b.c1⟩
  have HTX := Lib.hid fun v (hv : Below X.heap.size X v) => HTO.out v (BW5.out.trans (hv.mono BW5.out.size))
  have HEQ : Hid (∀ v wa a1 a2 B, Below X.heap.size X wa → New B wa a1 n1 a2 n2 we ho → Below wa.heap.size wa v → Calls Tryd.prog 25 #[.agg #[.slice (some ⟨q1, 0, none⟩) n1 n1, .slice (some ⟨q2, 0, none⟩) n2 n2], .agg #[.slice (some ⟨a1, 0, none⟩) n1 n1, .slice (some ⟨a2, 0, none⟩) n2 n2]] v fun e w' => e = .returned (.bool true) ∧ Below v.heap.size v w') :=
    Lib.hid fun v wa a1 a2 B hx hn hv => eqC _ _ _ _ n1 n1 n2 n2 n1 n2 we ho v (((N4.out.on hb5).on hx).on hv) (hn.cl.on hv)
  clear hb5 N4 Y4 X4 BW4 HTO
  generalize w3.heap.size = kx at *
  have hcells := KX.out X (Below.refl _ _)
  obtain ⟨k0, k1, k2, k3⟩ := hcells
  cases f
  all_goals
    go_wp2_with fail
    go_region_held3 (fun v => v.cell? ⟨w.heap.size, 0, none⟩ = some (.slice A1 n1 c1) ∧ v.cell? ⟨w.heap.size, 1, none⟩ = some (.slice A2 n2 c2) ∧ v.cell? ⟨kx, 0, none⟩ = some (.slice (some ⟨q1, 0, none⟩) n1 n1) ∧ v.cell? ⟨kx, 1, none⟩ = some (.slice (some ⟨q2, 0, none⟩) n2 n2)) (first | (refine KX.out _ ?_; (repeat (first | exact Below.refl _ _ | exact b2 | exact b1 | apply Below.drew)); done))
      (first
        | (go_at_call 24; (with_reducible refine (HTX.out _ (by (repeat (first | exact Below.refl _ _ | exact b2 | exact b1 | apply Below.drew)))).mono ?_); rintro e wa ⟨a1, a2, rfl, hna, hb⟩; have b1 : Below X.heap.size X wa := (Below.trans (by (repeat (first | exact Below.refl _ _ | exact b2 | exact b1 | apply Below.drew))) (hb.mono (by first | omega | (simp; done) | (simp; omega) | exact b1.size | (have := b1.size; simp; omega)))); have NA := Lib.hid hna; clear hb hna)
        | (go_at_call 25; (with_reducible refine (HEQ.out _ _ a1 a2 _ b1 NA.out (by (repeat (first | exact Below.refl _ _ | apply Below.drew)))).mono ?_); rintro e wb ⟨rfl, hb⟩; have b2 : Below X.heap.size X wb := (Below.trans (by (repeat (first | exact Below.refl _ _ | exact b2 | exact b1 | apply Below.drew))) (hb.mono (by first | omega | (simp; done) | (simp; omega) | exact b1.size | (have := b1.size; simp; omega)))); clear hb))
    all_goals
      go_wp2_with fail
      go_ret
      exact ⟨rfl, BW5.out.trans (b2.mono BW5.out.size)⟩

theorem over (A1 A2 : Option Addr) (n1 c1 n2 c2 : Nat) (x0 : Int) (q1 : n1 ≤ maxLen) (q2 : n2 ≤ maxLen) (hm : 1048576 < n1 + n2) (w : World) :
    Calls Tryd.prog 6 #[.agg #[.slice A1 n1 c1, .slice A2 n2 c2], .int .i64 x0] w fun e w' => e = .returned (.bool true) ∧ Below w.heap.size w w' := by
  have HSZ := Lib.hid fun w => szNo A1 A2 n1 c1 n2 c2 1048576 (Nat.le_refl _) q1 q2 hm w
  go_enter Tryd.func6, Tryd.ntmps6
  go_wp2_with (go_at_call 23; refine (HSZ.out _).mono ?_; rintro e w' ⟨rfl, rfl⟩)
  go_ret
  exact ⟨rfl, (below1 _ _).alloc (by simp) _⟩

end Go.Proofs.YtlpblipgehlniaaDoor.LastBusinessDayW

