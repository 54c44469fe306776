/-
  What DrawDayCount returns, whatever the code, and the walk of the law FnDayCounts.
-/
import Derived.Test.YtlpblipgehlniaaDoorDcAlg
import Derived.Test.YtlpblipgehlniaaDoorDcS
import Derived.Test.YtlpblipgehlniaaDoorLastS
import Derived.Test.YtlpblipgehlniaaDoorAddI
import Derived.Test.YtlpblipgehlniaaDoorDraw4D
namespace Go.Proofs.YtlpblipgehlniaaDoor.DcLaw
open Go.RowKit Go.Proofs.YtlpblipgehlniaaDoor.Cal Go.Proofs.YtlpblipgehlniaaDoor.Biz Go.Proofs.YtlpblipgehlniaaDoor.CalLaw Go.Proofs.YtlpblipgehlniaaDoor.CurDay Go.Proofs.YtlpblipgehlniaaDoor.Cur Go.Proofs.YtlpblipgehlniaaDoor.Draw4 Go.Proofs.YtlpblipgehlniaaDoor.Draw4D
set_option linter.unusedVariables false
set_option linter.unusedSimpArgs false

def Add (z : Int) : Prop := -1 ≤ z ∧ z ≤ 900
instance (z : Int) : Decidable (Add z) := inferInstanceAs (Decidable (_ ∧ _))
def Conv (z : Int) : Prop := 0 ≤ z ∧ z ≤ 5
instance (z : Int) : Decidable (Conv z) := inferInstanceAs (Decidable (_ ∧ _))

theorem below1 (w : World) (o : Obj) : Below w.heap.size w (w.alloc o) := (Below.refl _ _).alloc (Nat.le_refl _) _
theorem beqNe {a b : Int} (h : a ≠ b) : (a == b) = false := by simp [h]

/-- Two days and a convention are drawn. -/
def dcAns (w : World) (e : Ending) (w' : World) : Prop :=
  ∃ a b c : Int, e = .returned (.tuple #[.int .i64 a, .int .i64 b, .int .i64 c]) ∧ Day a ∧ AnyDay b ∧ Conv c ∧ Below w.heap.size w w'

set_option maxRecDepth 100000 in
set_option maxHeartbeats 4000000 in
theorem draw (A : Option Addr) (n cap : Nat) (w : World) (hn : n ≤ 1000000) (hA : Bytes w w.heap.size A n) :
    Calls Tryd.prog 14 #[.slice A n cap] w (dcAns w) := by
  have HO := Lib.hid (Ok.new w A n cap hn hA)
  clear hA
  go_enter Tryd.func14, Tryd.ntmps14
  go_wp2_with (go_at_call 39; refine (near4 w.heap.size A n cap 0 w.heap.size _ HO.out (by omega)).mono ?_; rintro e w1 ⟨d, k1, rfl, hd, hk1, hok1, hg1⟩; refine Hid.out ?_)
  refine Lib.hid ?_
  have H1 := Lib.hid (And.intro hok1 hg1)
  have HD := Lib.hid hd
  obtain ⟨d0, d1⟩ := hd
  clear hok1 hg1 HO
  go_wp2_with (go_at_call 28; refine (amongP Add w1.heap.size _ 12 rfl (by omega) (by omega) w.heap.size A n cap k1 w.heap.size _ (H1.out.1.alloc _) (by omega) (heap_alloc_new w1 _) (by have := H1.out.1.lt; omega) (by intro v hv; simp at hv; rcases hv with h | h | h | h | h | h | h | h | h | h | h | h <;> exact ⟨_, h, by decide⟩)).mono ?_; rintro e w2 ⟨z2, k2, rfl, hz2, hk2, hok2, hg2⟩; refine Hid.out ?_)
  refine Lib.hid ?_
  have H2 := Lib.hid (And.intro hok2 (grow2 H1.out.2 (grow2 (World.grownBy_alloc w1 _ _) hg2)))
  obtain ⟨z0, z1⟩ := hz2
  clear hok2 hg2 H1
  go_wp2_with (go_at_call 40; refine (one 4 (by omega) (by omega) w.heap.size A n cap k2 w.heap.size _ H2.out.1 (by omega)).mono ?_; rintro e w3 ⟨f3, k3, rfl, hk3, hok3, hg3⟩; refine Hid.out ?_)
  refine Lib.hid ?_
  have H3 := Lib.hid (And.intro hok3 (grow2 H2.out.2 hg3))
  clear hok3 hg3 H2
  cases f3
  · go_wp2_with (go_at_call 40; refine (one 30 (by omega) (by omega) w.heap.size A n cap k3 w.heap.size _ H3.out.1 (by omega)).mono ?_; rintro e w5 ⟨f5, k5, rfl, hk5, hok5, hg5⟩; refine Hid.out ?_)
    refine Lib.hid ?_
    have H5 := Lib.hid (And.intro hok5 (grow2 H3.out.2 hg5))
    clear hok5 hg5 H3
    cases f5
    · go_wp2_with (go_at_call 28; refine (amongP Conv w5.heap.size _ 10 rfl (by omega) (by omega) w.heap.size A n cap k5 w.heap.size _ (H5.out.1.alloc _) (by omega) (heap_alloc_new w5 _) (by have := H5.out.1.lt; omega) (by intro v hv; simp at hv; rcases hv with h | h | h | h | h | h | h | h | h | h <;> exact ⟨_, h, by decide⟩)).mono ?_; rintro e w9 ⟨z9, k9, rfl, hz9, hk9, hok9, hg9⟩)
      go_ret3
      exact ⟨d, d + z2, z9, rfl, HD.out, ⟨by omega, by omega⟩, hz9, below_cur (grow2 H5.out.2 (grow2 (World.grownBy_alloc w5 _ _) hg9))⟩
    · go_wp2_with (go_at_call 41; refine (anyDay w.heap.size A n cap k5 w.heap.size _ H5.out.1 (by omega)).mono ?_; rintro e w6 ⟨z6, k6, rfl, hz6, hk6, hok6, hg6⟩; refine Hid.out ?_)
      refine Lib.hid ?_
      have H6 := Lib.hid (And.intro hok6 (grow2 H5.out.2 hg6))
      have Z6 := Lib.hid hz6
      clear hok6 hg6 hz6 H5
      go_wp2_with (go_at_call 28; refine (amongP Conv w6.heap.size _ 10 rfl (by omega) (by omega) w.heap.size A n cap k6 w.heap.size _ (H6.out.1.alloc _) (by omega) (heap_alloc_new w6 _) (by have := H6.out.1.lt; omega) (by intro v hv; simp at hv; rcases hv with h | h | h | h | h | h | h | h | h | h <;> exact ⟨_, h, by decide⟩)).mono ?_; rintro e w9 ⟨z9, k9, rfl, hz9, hk9, hok9, hg9⟩)
      go_ret3
      exact ⟨d, z6, z9, rfl, HD.out, Z6.out, hz9, below_cur (grow2 H6.out.2 (grow2 (World.grownBy_alloc w6 _ _) hg9))⟩
  · go_wp2_with (go_at_call 39; refine (near4 w.heap.size A n cap k3 w.heap.size _ H3.out.1 (by omega)).mono ?_; rintro e w4 ⟨z4, k4, rfl, hz4, hk4, hok4, hg4⟩; refine Hid.out ?_)
    refine Lib.hid ?_
    have H4 := Lib.hid (And.intro hok4 (grow2 H3.out.2 hg4))
    have Z4 : Hid (AnyDay z4) := Lib.hid ⟨by have := hz4.1; omega, by have := hz4.2; omega⟩
    clear hok4 hg4 hz4 H3
    go_wp2_with (go_at_call 40; refine (one 30 (by omega) (by omega) w.heap.size A n cap k4 w.heap.size _ H4.out.1 (by omega)).mono ?_; rintro e w5 ⟨f5, k5, rfl, hk5, hok5, hg5⟩; refine Hid.out ?_)
    refine Lib.hid ?_
    have H5 := Lib.hid (And.intro hok5 (grow2 H4.out.2 hg5))
    clear hok5 hg5 H4
    cases f5
    · go_wp2_with (go_at_call 28; refine (amongP Conv w5.heap.size _ 10 rfl (by omega) (by omega) w.heap.size A n cap k5 w.heap.size _ (H5.out.1.alloc _) (by omega) (heap_alloc_new w5 _) (by have := H5.out.1.lt; omega) (by intro v hv; simp at hv; rcases hv with h | h | h | h | h | h | h | h | h | h <;> exact ⟨_, h, by decide⟩)).mono ?_; rintro e w9 ⟨z9, k9, rfl, hz9, hk9, hok9, hg9⟩)
      go_ret3
      exact ⟨d, z4, z9, rfl, HD.out, Z4.out, hz9, below_cur (grow2 H5.out.2 (grow2 (World.grownBy_alloc w5 _ _) hg9))⟩
    · go_wp2_with (go_at_call 41; refine (anyDay w.heap.size A n cap k5 w.heap.size _ H5.out.1 (by omega)).mono ?_; rintro e w6 ⟨z6, k6, rfl, hz6, hk6, hok6, hg6⟩; refine Hid.out ?_)
      refine Lib.hid ?_
      have H6 := Lib.hid (And.intro hok6 (grow2 H5.out.2 hg6))
      have Z6 := Lib.hid hz6
      clear hok6 hg6 hz6 H5
      go_wp2_with (go_at_call 28; refine (amongP Conv w6.heap.size _ 10 rfl (by omega) (by omega) w.heap.size A n cap k6 w.heap.size _ (H6.out.1.alloc _) (by omega) (heap_alloc_new w6 _) (by have := H6.out.1.lt; omega) (by intro v hv; simp at hv; rcases hv with h | h | h | h | h | h | h | h | h | h <;> exact ⟨_, h, by decide⟩)).mono ?_; rintro e w9 ⟨z9, k9, rfl, hz9, hk9, hok9, hg9⟩)
      go_ret3
      exact ⟨d, z6, z9, rfl, HD.out, Z6.out, hz9, below_cur (grow2 H6.out.2 (grow2 (World.grownBy_alloc w6 _ _) hg9))⟩

set_option maxRecDepth 100000 in
set_option maxHeartbeats 16000000 in
theorem walkNo (A : Option Addr) (n cap : Nat) (w : World) (hT : Tab.Tab w) (hZ : Tz.Tab w) (hn : n ≤ 65536) (hA : Cur.Bytes w w.heap.size A n) :
    Calls Tryd.prog 4 #[.slice A n cap] w fun e w' => e = .returned (.bool true) ∧ Below w.heap.size w w' := by
  have HT := Lib.hid hT
  have HTZ := Lib.hid hZ
  have HD := Lib.hid (draw A n cap w (by omega) hA)
  have HL : Hid (∀ v, Below w.heap.size w v → Calls Tryd.prog 18 #[.slice A n cap] v (dayAns v)) := Lib.hid fun v hv => drawLast A n cap v (by omega) (fun hp => by
    obtain ⟨ad, e, hb, hc⟩ := hA hp
    refine ⟨ad, e, Nat.lt_of_lt_of_le hb hv.size, fun j hj => ?_⟩
    obtain ⟨z, hz, h0, h1⟩ := hc j hj
    exact ⟨z, (hv.cell (by rw [Cur.block_add]; exact hb)).trans hz, h0, h1⟩)
  clear hT hA hZ
  go_enter Tryd.func4, Tryd.ntmps4
  go_wp2_with (first
    | (go_at_call 8; refine (vBigNo A n cap _ hn).mono ?_; rintro e w' ⟨rfl, rfl⟩)
    | (go_at_call 14; refine HD.out.mono ?_; rintro e w1 ⟨a, b, c, rfl, ha, hb, hc, hbe⟩; refine Hid.out ?_))
  refine Lib.hid ?_
  obtain ⟨a0, a1⟩ := ha
  obtain ⟨b0, b1⟩ := hb
  obtain ⟨c0, c1⟩ := hc
  have B1 := Lib.hid hbe
  clear hbe HD
  have HI := Lib.hid fun w hT hZ => DcI.dcI a b c w hT hZ
  have HS := Lib.hid fun w => DcS.dcS a b c w
  have HK : Hid (∀ a m b, DcI.ansB a b c = true → c ≠ 3 → a ≤ m → m ≤ b → _) := Lib.hid fun a m b h h3 h0 h1 => DcAlg.halves (a := a) (b := b) (c := c) (m := m) h h3 h0 h1
  have HAB : Hid (DcI.ansB a b c = true → a ≤ b) := Lib.hid fun h => by
    by_cases hh : Yrs.DcOk a b c
    · exact hh.2.2.1
    · unfold DcI.ansB at h; rw [if_neg hh] at h; cases h
  have HK1 := Lib.hid fun m => HK.out a m b
  clear HK
  generalize DcI.ansN a b c = N at *
  generalize DcI.ansD a b c = D at *
  generalize DcI.ansB a b c = R at *
  go_wp2_with (go_at_call 15; refine (HI.out _ (HT.out.below B1.out) (DcI.tzOn HTZ.out B1.out)).mono ?_; rintro e w2 ⟨rfl, hb2⟩; refine Hid.out ?_)
  refine Lib.hid ?_
  have B2 : Hid (Below w.heap.size w (w2.alloc (.cells #[.int .i64 N, .int .i64 D] 36))) := Lib.hid ((B1.out.trans (hb2.mono B1.out.size)).alloc (B1.out.trans (hb2.mono B1.out.size)).size _)
  have X2 := Lib.hid (Bx.new w2 (.int .i64 N) (.int .i64 D) 36)
  clear hb2 B1 HI
  go_wp2_with (go_at_call 16; refine (HS.out _).mono ?_; rintro e w3 ⟨rfl, hb3⟩; refine Hid.out ?_)
  refine Lib.hid ?_
  have B3 : Hid (Below w.heap.size w (w3.alloc (.cells #[.int .i64 N, .int .i64 D] 36))) := Lib.hid ((B2.out.trans (hb3.mono B2.out.size)).alloc (B2.out.trans (hb3.mono B2.out.size)).size _)
  have X3 := Lib.hid ((X2.out.on hb3).alloc (.cells #[.int .i64 N, .int .i64 D] 36))
  clear hb3 B2 HS X2
  obtain ⟨_, f0, f1, _, _⟩ := X3.out
  cases R
  · clear HK1 HAB
    go_wp2_with (go_at_call 18; refine (HL.out _ B3.out).mono ?_; rintro e w1 ⟨A1, _, c1, A2, _, c2, D1, D2, x, rfl, rfl, rfl, l1, l2, hx, hr, hb⟩; refine Hid.out ?_)
    refine Lib.hid ?_
    obtain ⟨xx0, xx1⟩ := hx
    have C0 : Hid (Asc.Cl (w1.alloc (.cells #[.slice A1 D1.length c1, .slice A2 D2.length c2] 26)) (w1.alloc (.cells #[.slice A1 D1.length c1, .slice A2 D2.length c2] 26)).heap.size A1 D1.length A2 D2.length D1 D2) := Lib.hid ((R2.cl hr rfl rfl l1 l2).on (below1 _ _))
    have BB : Hid (Below w.heap.size w w1) := Lib.hid (B3.out.trans (hb.mono B3.out.size))
    have B0 : Hid (Below w.heap.size w (w1.alloc (.cells #[.slice A1 D1.length c1, .slice A2 D2.length c2] 26))) := Lib.hid (BB.out.alloc BB.out.size _)
    have X0 := Lib.hid (Bx.new w1 (.slice A1 D1.length c1) (.slice A2 D2.length c2) 26)
    clear hr hb l1 l2 BB
    have HI := Lib.hid fun w hT h => RollI.lastI A1 A2 D1.length c1 D2.length c2 D1 D2 x w hT h
    have HS := Lib.hid fun w h => LastS.lastS A1 A2 D1.length c1 D2.length c2 D1 D2 x w h
    have HR : Hid (RollI.lastF D1 D2 x = true → _) := Lib.hid (DcAlg.last_next (we := D1) (ho := D2) (d := x))
    generalize RollI.lastV D1 D2 x = v at *
    generalize RollI.lastF D1 D2 x = f at *
    go_wp2_with (go_at_call 19; refine (HI.out _ (HT.out.below B0.out) C0.out).mono ?_; rintro e w2 ⟨rfl, hb2⟩; refine Hid.out ?_)
    refine Lib.hid ?_
    have C2 := Lib.hid (C0.out.on hb2)
    have B2 := Lib.hid (B0.out.trans (hb2.mono B0.out.size))
    have X2 := Lib.hid (X0.out.on hb2)
    clear hb2 C0 B0 X0 HI
    obtain ⟨_, x0, x1, _, _⟩ := X2.out
    go_wp2_with (go_at_call 20; refine (HS.out _ C2.out).mono ?_; rintro e w3 ⟨rfl, hb3⟩; refine Hid.out ?_)
    refine Lib.hid ?_
    have C3 := Lib.hid (C2.out.on hb3)
    have B3 := Lib.hid (B2.out.trans (hb3.mono B2.out.size))
    have X3 := Lib.hid (X2.out.on hb3)
    clear hb3 C2 B2 X2 HS x0 x1
    cases f
    · go_wp2_with fail
      go_ret
      exact ⟨rfl, B3.out⟩
    · obtain ⟨hv, hnx⟩ := HR.out rfl
      have HV := Lib.hid hv
      have v0 := hv.1
      have v1 := hv.2
      have HNX := Lib.hid hnx
      clear HR hv hnx
      have HA := Lib.hid fun w h => AddI.addI A1 A2 D1.length c1 D2.length c2 D1 D2 v 1 w h
      have HZ : Hid (SeekS.addF D1 D2 v 1 = false → SeekS.addV D1 D2 v 1 = 0) := Lib.hid fun h => by
        unfold SeekS.addF at h
        unfold SeekS.addV
        cases ho : SeekS.addO D1 D2 v 1 with
        | none => rfl
        | some y => rw [ho] at h; cases h
      generalize SeekS.addV D1 D2 v 1 = y at *
      generalize SeekS.addF D1 D2 v 1 = g at *
      have HY : Hid (Day y) := Lib.hid (by
        cases g
        · rw [HZ.out rfl]; exact ⟨by omega, by omega⟩
        · exact (HNX.out rfl).1)
      have E1 := Lib.hid fun w => DateLaw.specYes v HV.out w
      have E2 := Lib.hid fun w => DateLaw.specYes y HY.out w
      have HQ : Hid (g = true → ¬ (yr v = yr y ∧ mo v = mo y)) := Lib.hid fun h => (HNX.out h).2
      clear HNX HZ
      generalize yr v = Y1 at *
      generalize mo v = M1 at *
      generalize da v = DD1 at *
      generalize yr y = Y2 at *
      generalize mo y = M2 at *
      generalize da y = DD2 at *
      obtain ⟨_, x0, x1, _, _⟩ := X3.out
      go_wp2_with (go_at_call 21; refine (HA.out _ C3.out).mono ?_; rintro e w4 ⟨rfl, hb4⟩; refine Hid.out ?_)
      refine Lib.hid ?_
      have B4 := Lib.hid (B3.out.trans (hb4.mono B3.out.size))
      clear hb4 C3 B3 X3 HA x0 x1
      go_wp2_with (go_at_call 22; refine (E1.out _).mono ?_; rintro e w5 ⟨rfl, hb5⟩; refine Hid.out ?_)
      refine Lib.hid ?_
      have B5 : Hid (Below w.heap.size w (w5.alloc (.cells #[.int .i64 Y1, .int .i64 M1, .int .i64 DD1] 44))) := Lib.hid ((B4.out.trans (hb5.mono B4.out.size)).alloc (B4.out.trans (hb5.mono B4.out.size)).size _)
      have X5 := Lib.hid (DayOf.Box.new w5 Y1 M1 DD1 44)
      clear hb5 B4 E1
      go_wp2_with (go_at_call 22; refine (E2.out _).mono ?_; rintro e w6 ⟨rfl, hb6⟩; refine Hid.out ?_)
      refine Lib.hid ?_
      have B6 : Hid (Below w.heap.size w (w6.alloc (.cells #[.int .i64 Y2, .int .i64 M2, .int .i64 DD2] 44))) := Lib.hid ((B5.out.trans (hb6.mono B5.out.size)).alloc (B5.out.trans (hb6.mono B5.out.size)).size _)
      have X6 := Lib.hid ((DayOf.Box.below X5.out hb6).alloc (.cells #[.int .i64 Y2, .int .i64 M2, .int .i64 DD2] 44))
      clear hb6 B5 E2 X5
      obtain ⟨_, x0, x1, x2, _, _, _⟩ := X6.out
      cases g
      · go_wp2_with fail
        go_ret
        exact ⟨rfl, B6.out⟩
      · have hq := HQ.out rfl
        by_cases hm : M1 = M2
        · have hyn : ¬ Y1 = Y2 := fun e => hq ⟨e, hm⟩
          have hy : (Y1 == Y2) = false := beqNe hyn
          subst hm
          clear hq HQ
          go_wp2_with fail
          all_goals
            go_ret
            exact ⟨by first | rfl | (simp; done) | (simp; exact hyn), B6.out⟩
        · have hm2 : (M1 == M2) = false := beqNe hm
          clear hq HQ
          go_wp2_with fail
          all_goals
            go_ret
            exact ⟨by first | rfl | (simp; done) | (simp; exact hm) | (simp [hm]; done), B6.out⟩
  · have hab := HAB.out rfl
    clear HAB
    by_cases h3 : c = 3
    · subst h3
      clear HK1
      go_wp2_with (go_at_call 18; refine (HL.out _ B3.out).mono ?_; rintro e w1 ⟨A1, _, c1, A2, _, c2, D1, D2, x, rfl, rfl, rfl, l1, l2, hx, hr, hb⟩; refine Hid.out ?_)
      refine Lib.hid ?_
      obtain ⟨xx0, xx1⟩ := hx
      have C0 : Hid (Asc.Cl (w1.alloc (.cells #[.slice A1 D1.length c1, .slice A2 D2.length c2] 26)) (w1.alloc (.cells #[.slice A1 D1.length c1, .slice A2 D2.length c2] 26)).heap.size A1 D1.length A2 D2.length D1 D2) := Lib.hid ((R2.cl hr rfl rfl l1 l2).on (below1 _ _))
      have BB : Hid (Below w.heap.size w w1) := Lib.hid (B3.out.trans (hb.mono B3.out.size))
      have B0 : Hid (Below w.heap.size w (w1.alloc (.cells #[.slice A1 D1.length c1, .slice A2 D2.length c2] 26))) := Lib.hid (BB.out.alloc BB.out.size _)
      have X0 := Lib.hid (Bx.new w1 (.slice A1 D1.length c1) (.slice A2 D2.length c2) 26)
      clear hr hb l1 l2 BB
      have HI := Lib.hid fun w hT h => RollI.lastI A1 A2 D1.length c1 D2.length c2 D1 D2 x w hT h
      have HS := Lib.hid fun w h => LastS.lastS A1 A2 D1.length c1 D2.length c2 D1 D2 x w h
      have HR : Hid (RollI.lastF D1 D2 x = true → _) := Lib.hid (DcAlg.last_next (we := D1) (ho := D2) (d := x))
      generalize RollI.lastV D1 D2 x = v at *
      generalize RollI.lastF D1 D2 x = f at *
      go_wp2_with (go_at_call 19; refine (HI.out _ (HT.out.below B0.out) C0.out).mono ?_; rintro e w2 ⟨rfl, hb2⟩; refine Hid.out ?_)
      refine Lib.hid ?_
      have C2 := Lib.hid (C0.out.on hb2)
      have B2 := Lib.hid (B0.out.trans (hb2.mono B0.out.size))
      have X2 := Lib.hid (X0.out.on hb2)
      clear hb2 C0 B0 X0 HI
      obtain ⟨_, x0, x1, _, _⟩ := X2.out
      go_wp2_with (go_at_call 20; refine (HS.out _ C2.out).mono ?_; rintro e w3 ⟨rfl, hb3⟩; refine Hid.out ?_)
      refine Lib.hid ?_
      have C3 := Lib.hid (C2.out.on hb3)
      have B3 := Lib.hid (B2.out.trans (hb3.mono B2.out.size))
      have X3 := Lib.hid (X2.out.on hb3)
      clear hb3 C2 B2 X2 HS x0 x1
      cases f
      · go_wp2_with fail
        go_ret
        exact ⟨rfl, B3.out⟩
      · obtain ⟨hv, hnx⟩ := HR.out rfl
        have HV := Lib.hid hv
        have v0 := hv.1
        have v1 := hv.2
        have HNX := Lib.hid hnx
        clear HR hv hnx
        have HA := Lib.hid fun w h => AddI.addI A1 A2 D1.length c1 D2.length c2 D1 D2 v 1 w h
        have HZ : Hid (SeekS.addF D1 D2 v 1 = false → SeekS.addV D1 D2 v 1 = 0) := Lib.hid fun h => by
          unfold SeekS.addF at h
          unfold SeekS.addV
          cases ho : SeekS.addO D1 D2 v 1 with
          | none => rfl
          | some y => rw [ho] at h; cases h
        generalize SeekS.addV D1 D2 v 1 = y at *
        generalize SeekS.addF D1 D2 v 1 = g at *
        have HY : Hid (Day y) := Lib.hid (by
          cases g
          · rw [HZ.out rfl]; exact ⟨by omega, by omega⟩
          · exact (HNX.out rfl).1)
        have E1 := Lib.hid fun w => DateLaw.specYes v HV.out w
        have E2 := Lib.hid fun w => DateLaw.specYes y HY.out w
        have HQ : Hid (g = true → ¬ (yr v = yr y ∧ mo v = mo y)) := Lib.hid fun h => (HNX.out h).2
        clear HNX HZ
        generalize yr v = Y1 at *
        generalize mo v = M1 at *
        generalize da v = DD1 at *
        generalize yr y = Y2 at *
        generalize mo y = M2 at *
        generalize da y = DD2 at *
        obtain ⟨_, x0, x1, _, _⟩ := X3.out
        go_wp2_with (go_at_call 21; refine (HA.out _ C3.out).mono ?_; rintro e w4 ⟨rfl, hb4⟩; refine Hid.out ?_)
        refine Lib.hid ?_
        have B4 := Lib.hid (B3.out.trans (hb4.mono B3.out.size))
        clear hb4 C3 B3 X3 HA x0 x1
        go_wp2_with (go_at_call 22; refine (E1.out _).mono ?_; rintro e w5 ⟨rfl, hb5⟩; refine Hid.out ?_)
        refine Lib.hid ?_
        have B5 : Hid (Below w.heap.size w (w5.alloc (.cells #[.int .i64 Y1, .int .i64 M1, .int .i64 DD1] 44))) := Lib.hid ((B4.out.trans (hb5.mono B4.out.size)).alloc (B4.out.trans (hb5.mono B4.out.size)).size _)
        have X5 := Lib.hid (DayOf.Box.new w5 Y1 M1 DD1 44)
        clear hb5 B4 E1
        go_wp2_with (go_at_call 22; refine (E2.out _).mono ?_; rintro e w6 ⟨rfl, hb6⟩; refine Hid.out ?_)
        refine Lib.hid ?_
        have B6 : Hid (Below w.heap.size w (w6.alloc (.cells #[.int .i64 Y2, .int .i64 M2, .int .i64 DD2] 44))) := Lib.hid ((B5.out.trans (hb6.mono B5.out.size)).alloc (B5.out.trans (hb6.mono B5.out.size)).size _)
        have X6 := Lib.hid ((DayOf.Box.below X5.out hb6).alloc (.cells #[.int .i64 Y2, .int .i64 M2, .int .i64 DD2] 44))
        clear hb6 B5 E2 X5
        obtain ⟨_, x0, x1, x2, _, _, _⟩ := X6.out
        cases g
        · go_wp2_with fail
          go_ret
          exact ⟨rfl, B6.out⟩
        · have hq := HQ.out rfl
          by_cases hm : M1 = M2
          · have hyn : ¬ Y1 = Y2 := fun e => hq ⟨e, hm⟩
            have hy : (Y1 == Y2) = false := beqNe hyn
            subst hm
            clear hq HQ
            go_wp2_with fail
            all_goals
              go_ret
              exact ⟨by first | rfl | (simp; done) | (simp; exact hyn), B6.out⟩
          · have hm2 : (M1 == M2) = false := beqNe hm
            clear hq HQ
            go_wp2_with fail
            all_goals
              go_ret
              exact ⟨by first | rfl | (simp; done) | (simp; exact hm) | (simp [hm]; done), B6.out⟩
    · have q3 : (c == 3) = false := beqNe h3
      obtain ⟨m, hm⟩ : ∃ m, m = a + (b - a) / 2 := ⟨_, rfl⟩
      have m0 : a ≤ m := by omega
      have m1 : m ≤ b := by omega
      obtain ⟨kA, kB, kC⟩ := HK1.out m rfl h3 m0 m1
      have HM : Hid (a + (b - a) / 2 = m) := Lib.hid hm.symm
      clear HK1 hm h3
      have IA := Lib.hid fun w hT hZ => DcI.dcI a m c w hT hZ
      have IB := Lib.hid fun w hT hZ => DcI.dcI m b c w hT hZ
      rw [kA] at IA
      rw [kB] at IB
      have IC : Hid (∀ w, Calls Tryd.prog 17 #[.agg #[.int .i64 (DcI.ansN a m c), .int .i64 (DcI.ansD a m c)], .agg #[.int .i64 (DcI.ansN m b c), .int .i64 (DcI.ansD m b c)]] w fun e w' => ∃ G H F, e = .returned (.tuple #[.agg #[.int .i64 G, .int .i64 H], .bool F]) ∧ (F = true → G = N ∧ H = D) ∧ Below w.heap.size w w') := Lib.hid fun w => (AddMul.specAdd _ _ _ _ w).mono fun e w' ⟨he, hb⟩ => ⟨_, _, _, he, kC, hb⟩
      clear kA kB kC
      generalize DcI.ansN a m c = P1 at *
      generalize DcI.ansD a m c = Q1 at *
      generalize DcI.ansN m b c = P2 at *
      generalize DcI.ansD m b c = Q2 at *
      have hab2 : 0 ≤ b - a := by omega
      go_wp2_with (go_at_call 15; rw [HM.out]; refine (IA.out _ (HT.out.below B3.out) (DcI.tzOn HTZ.out B3.out)).mono ?_; rintro e w4 ⟨rfl, hb4⟩; refine Hid.out ?_)
      refine Lib.hid ?_
      have B4 : Hid (Below w.heap.size w (w4.alloc (.cells #[.int .i64 P1, .int .i64 Q1] 36))) := Lib.hid ((B3.out.trans (hb4.mono B3.out.size)).alloc (B3.out.trans (hb4.mono B3.out.size)).size _)
      have X4 := Lib.hid ((X3.out.on hb4).alloc (.cells #[.int .i64 P1, .int .i64 Q1] 36))
      have Y4 := Lib.hid (Bx.new w4 (.int .i64 P1) (.int .i64 Q1) 36)
      clear hb4 B3 X3 f0 f1 IA
      go_wp2_with (go_at_call 15; (try rw [HM.out]); refine (IB.out _ (HT.out.below B4.out) (DcI.tzOn HTZ.out B4.out)).mono ?_; rintro e w5 ⟨rfl, hb5⟩; refine Hid.out ?_)
      refine Lib.hid ?_
      have B5 : Hid (Below w.heap.size w (w5.alloc (.cells #[.int .i64 P2, .int .i64 Q2] 36))) := Lib.hid ((B4.out.trans (hb5.mono B4.out.size)).alloc (B4.out.trans (hb5.mono B4.out.size)).size _)
      have X5 := Lib.hid ((X4.out.on hb5).alloc (.cells #[.int .i64 P2, .int .i64 Q2] 36))
      have Y5 := Lib.hid ((Y4.out.on hb5).alloc (.cells #[.int .i64 P2, .int .i64 Q2] 36))
      clear hb5 B4 X4 Y4 IB
      obtain ⟨_, g0, g1, _, _⟩ := Y5.out
      go_wp2_with (go_at_call 17; refine (IC.out _).mono ?_; rintro e w6 ⟨G, H, F, rfl, hF, hb6⟩; refine Hid.out ?_)
      refine Lib.hid ?_
      have B6 : Hid (Below w.heap.size w (w6.alloc (.cells #[.int .i64 G, .int .i64 H] 36))) := Lib.hid ((B5.out.trans (hb6.mono B5.out.size)).alloc (B5.out.trans (hb6.mono B5.out.size)).size _)
      have X6 := Lib.hid ((X5.out.on hb6).alloc (.cells #[.int .i64 G, .int .i64 H] 36))
      clear hb6 B5 X5 Y5 IC g0 g1
      cases F
      · clear hF
        go_wp2_with (go_at_call 18; refine (HL.out _ B6.out).mono ?_; rintro e w1 ⟨A1, _, c1, A2, _, c2, D1, D2, x, rfl, rfl, rfl, l1, l2, hx, hr, hb⟩; refine Hid.out ?_)
        refine Lib.hid ?_
        obtain ⟨xx0, xx1⟩ := hx
        have C0 : Hid (Asc.Cl (w1.alloc (.cells #[.slice A1 D1.length c1, .slice A2 D2.length c2] 26)) (w1.alloc (.cells #[.slice A1 D1.length c1, .slice A2 D2.length c2] 26)).heap.size A1 D1.length A2 D2.length D1 D2) := Lib.hid ((R2.cl hr rfl rfl l1 l2).on (below1 _ _))
        have BB : Hid (Below w.heap.size w w1) := Lib.hid (B6.out.trans (hb.mono B6.out.size))
        have B0 : Hid (Below w.heap.size w (w1.alloc (.cells #[.slice A1 D1.length c1, .slice A2 D2.length c2] 26))) := Lib.hid (BB.out.alloc BB.out.size _)
        have X0 := Lib.hid (Bx.new w1 (.slice A1 D1.length c1) (.slice A2 D2.length c2) 26)
        clear hr hb l1 l2 BB
        have HI := Lib.hid fun w hT h => RollI.lastI A1 A2 D1.length c1 D2.length c2 D1 D2 x w hT h
        have HS := Lib.hid fun w h => LastS.lastS A1 A2 D1.length c1 D2.length c2 D1 D2 x w h
        have HR : Hid (RollI.lastF D1 D2 x = true → _) := Lib.hid (DcAlg.last_next (we := D1) (ho := D2) (d := x))
        generalize RollI.lastV D1 D2 x = v at *
        generalize RollI.lastF D1 D2 x = f at *
        go_wp2_with (go_at_call 19; refine (HI.out _ (HT.out.below B0.out) C0.out).mono ?_; rintro e w2 ⟨rfl, hb2⟩; refine Hid.out ?_)
        refine Lib.hid ?_
        have C2 := Lib.hid (C0.out.on hb2)
        have B2 := Lib.hid (B0.out.trans (hb2.mono B0.out.size))
        have X2 := Lib.hid (X0.out.on hb2)
        clear hb2 C0 B0 X0 HI
        obtain ⟨_, x0, x1, _, _⟩ := X2.out
        go_wp2_with (go_at_call 20; refine (HS.out _ C2.out).mono ?_; rintro e w3 ⟨rfl, hb3⟩; refine Hid.out ?_)
        refine Lib.hid ?_
        have C3 := Lib.hid (C2.out.on hb3)
        have B3 := Lib.hid (B2.out.trans (hb3.mono B2.out.size))
        have X3 := Lib.hid (X2.out.on hb3)
        clear hb3 C2 B2 X2 HS x0 x1
        cases f
        · go_wp2_with fail
          go_ret
          exact ⟨rfl, B3.out⟩
        · obtain ⟨hv, hnx⟩ := HR.out rfl
          have HV := Lib.hid hv
          have v0 := hv.1
          have v1 := hv.2
          have HNX := Lib.hid hnx
          clear HR hv hnx
          have HA := Lib.hid fun w h => AddI.addI A1 A2 D1.length c1 D2.length c2 D1 D2 v 1 w h
          have HZ : Hid (SeekS.addF D1 D2 v 1 = false → SeekS.addV D1 D2 v 1 = 0) := Lib.hid fun h => by
            unfold SeekS.addF at h
            unfold SeekS.addV
            cases ho : SeekS.addO D1 D2 v 1 with
            | none => rfl
            | some y => rw [ho] at h; cases h
          generalize SeekS.addV D1 D2 v 1 = y at *
          generalize SeekS.addF D1 D2 v 1 = g at *
          have HY : Hid (Day y) := Lib.hid (by
            cases g
            · rw [HZ.out rfl]; exact ⟨by omega, by omega⟩
            · exact (HNX.out rfl).1)
          have E1 := Lib.hid fun w => DateLaw.specYes v HV.out w
          have E2 := Lib.hid fun w => DateLaw.specYes y HY.out w
          have HQ : Hid (g = true → ¬ (yr v = yr y ∧ mo v = mo y)) := Lib.hid fun h => (HNX.out h).2
          clear HNX HZ
          generalize yr v = Y1 at *
          generalize mo v = M1 at *
          generalize da v = DD1 at *
          generalize yr y = Y2 at *
          generalize mo y = M2 at *
          generalize da y = DD2 at *
          obtain ⟨_, x0, x1, _, _⟩ := X3.out
          go_wp2_with (go_at_call 21; refine (HA.out _ C3.out).mono ?_; rintro e w4 ⟨rfl, hb4⟩; refine Hid.out ?_)
          refine Lib.hid ?_
          have B4 := Lib.hid (B3.out.trans (hb4.mono B3.out.size))
          clear hb4 C3 B3 X3 HA x0 x1
          go_wp2_with (go_at_call 22; refine (E1.out _).mono ?_; rintro e w5 ⟨rfl, hb5⟩; refine Hid.out ?_)
          refine Lib.hid ?_
          have B5 : Hid (Below w.heap.size w (w5.alloc (.cells #[.int .i64 Y1, .int .i64 M1, .int .i64 DD1] 44))) := Lib.hid ((B4.out.trans (hb5.mono B4.out.size)).alloc (B4.out.trans (hb5.mono B4.out.size)).size _)
          have X5 := Lib.hid (DayOf.Box.new w5 Y1 M1 DD1 44)
          clear hb5 B4 E1
          go_wp2_with (go_at_call 22; refine (E2.out _).mono ?_; rintro e w6 ⟨rfl, hb6⟩; refine Hid.out ?_)
          refine Lib.hid ?_
          have B6 : Hid (Below w.heap.size w (w6.alloc (.cells #[.int .i64 Y2, .int .i64 M2, .int .i64 DD2] 44))) := Lib.hid ((B5.out.trans (hb6.mono B5.out.size)).alloc (B5.out.trans (hb6.mono B5.out.size)).size _)
          have X6 := Lib.hid ((DayOf.Box.below X5.out hb6).alloc (.cells #[.int .i64 Y2, .int .i64 M2, .int .i64 DD2] 44))
          clear hb6 B5 E2 X5
          obtain ⟨_, x0, x1, x2, _, _, _⟩ := X6.out
          cases g
          · go_wp2_with fail
            go_ret
            exact ⟨rfl, B6.out⟩
          · have hq := HQ.out rfl
            by_cases hm : M1 = M2
            · have hyn : ¬ Y1 = Y2 := fun e => hq ⟨e, hm⟩
              have hy : (Y1 == Y2) = false := beqNe hyn
              subst hm
              clear hq HQ
              go_wp2_with fail
              all_goals
                go_ret
                exact ⟨by first | rfl | (simp; done) | (simp; exact hyn), B6.out⟩
            · have hm2 : (M1 == M2) = false := beqNe hm
              clear hq HQ
              go_wp2_with fail
              all_goals
                go_ret
                exact ⟨by first | rfl | (simp; done) | (simp; exact hm) | (simp [hm]; done), B6.out⟩
      · obtain ⟨rfl, rfl⟩ := hF rfl
        clear hF
        obtain ⟨_, g0, g1, _, _⟩ := X6.out
        go_wp2_with (go_at_call 18; refine (HL.out _ B6.out).mono ?_; rintro e w1 ⟨A1, _, c1, A2, _, c2, D1, D2, x, rfl, rfl, rfl, l1, l2, hx, hr, hb⟩; refine Hid.out ?_)
        refine Lib.hid ?_
        obtain ⟨xx0, xx1⟩ := hx
        have C0 : Hid (Asc.Cl (w1.alloc (.cells #[.slice A1 D1.length c1, .slice A2 D2.length c2] 26)) (w1.alloc (.cells #[.slice A1 D1.length c1, .slice A2 D2.length c2] 26)).heap.size A1 D1.length A2 D2.length D1 D2) := Lib.hid ((R2.cl hr rfl rfl l1 l2).on (below1 _ _))
        have BB : Hid (Below w.heap.size w w1) := Lib.hid (B6.out.trans (hb.mono B6.out.size))
        have B0 : Hid (Below w.heap.size w (w1.alloc (.cells #[.slice A1 D1.length c1, .slice A2 D2.length c2] 26))) := Lib.hid (BB.out.alloc BB.out.size _)
        have X0 := Lib.hid (Bx.new w1 (.slice A1 D1.length c1) (.slice A2 D2.length c2) 26)
        clear hr hb l1 l2 BB
        have HI := Lib.hid fun w hT h => RollI.lastI A1 A2 D1.length c1 D2.length c2 D1 D2 x w hT h
        have HS := Lib.hid fun w h => LastS.lastS A1 A2 D1.length c1 D2.length c2 D1 D2 x w h
        have HR : Hid (RollI.lastF D1 D2 x = true → _) := Lib.hid (DcAlg.last_next (we := D1) (ho := D2) (d := x))
        generalize RollI.lastV D1 D2 x = v at *
        generalize RollI.lastF D1 D2 x = f at *
        go_wp2_with (go_at_call 19; refine (HI.out _ (HT.out.below B0.out) C0.out).mono ?_; rintro e w2 ⟨rfl, hb2⟩; refine Hid.out ?_)
        refine Lib.hid ?_
        have C2 := Lib.hid (C0.out.on hb2)
        have B2 := Lib.hid (B0.out.trans (hb2.mono B0.out.size))
        have X2 := Lib.hid (X0.out.on hb2)
        clear hb2 C0 B0 X0 HI
        obtain ⟨_, x0, x1, _, _⟩ := X2.out
        go_wp2_with (go_at_call 20; refine (HS.out _ C2.out).mono ?_; rintro e w3 ⟨rfl, hb3⟩; refine Hid.out ?_)
        refine Lib.hid ?_
        have C3 := Lib.hid (C2.out.on hb3)
        have B3 := Lib.hid (B2.out.trans (hb3.mono B2.out.size))
        have X3 := Lib.hid (X2.out.on hb3)
        clear hb3 C2 B2 X2 HS x0 x1
        cases f
        · go_wp2_with fail
          go_ret
          exact ⟨rfl, B3.out⟩
        · obtain ⟨hv, hnx⟩ := HR.out rfl
          have HV := Lib.hid hv
          have v0 := hv.1
          have v1 := hv.2
          have HNX := Lib.hid hnx
          clear HR hv hnx
          have HA := Lib.hid fun w h => AddI.addI A1 A2 D1.length c1 D2.length c2 D1 D2 v 1 w h
          have HZ : Hid (SeekS.addF D1 D2 v 1 = false → SeekS.addV D1 D2 v 1 = 0) := Lib.hid fun h => by
            unfold SeekS.addF at h
            unfold SeekS.addV
            cases ho : SeekS.addO D1 D2 v 1 with
            | none => rfl
            | some y => rw [ho] at h; cases h
          generalize SeekS.addV D1 D2 v 1 = y at *
          generalize SeekS.addF D1 D2 v 1 = g at *
          have HY : Hid (Day y) := Lib.hid (by
            cases g
            · rw [HZ.out rfl]; exact ⟨by omega, by omega⟩
            · exact (HNX.out rfl).1)
          have E1 := Lib.hid fun w => DateLaw.specYes v HV.out w
          have E2 := Lib.hid fun w => DateLaw.specYes y HY.out w
          have HQ : Hid (g = true → ¬ (yr v = yr y ∧ mo v = mo y)) := Lib.hid fun h => (HNX.out h).2
          clear HNX HZ
          generalize yr v = Y1 at *
          generalize mo v = M1 at *
          generalize da v = DD1 at *
          generalize yr y = Y2 at *
          generalize mo y = M2 at *
          generalize da y = DD2 at *
          obtain ⟨_, x0, x1, _, _⟩ := X3.out
          go_wp2_with (go_at_call 21; refine (HA.out _ C3.out).mono ?_; rintro e w4 ⟨rfl, hb4⟩; refine Hid.out ?_)
          refine Lib.hid ?_
          have B4 := Lib.hid (B3.out.trans (hb4.mono B3.out.size))
          clear hb4 C3 B3 X3 HA x0 x1
          go_wp2_with (go_at_call 22; refine (E1.out _).mono ?_; rintro e w5 ⟨rfl, hb5⟩; refine Hid.out ?_)
          refine Lib.hid ?_
          have B5 : Hid (Below w.heap.size w (w5.alloc (.cells #[.int .i64 Y1, .int .i64 M1, .int .i64 DD1] 44))) := Lib.hid ((B4.out.trans (hb5.mono B4.out.size)).alloc (B4.out.trans (hb5.mono B4.out.size)).size _)
          have X5 := Lib.hid (DayOf.Box.new w5 Y1 M1 DD1 44)
          clear hb5 B4 E1
          go_wp2_with (go_at_call 22; refine (E2.out _).mono ?_; rintro e w6 ⟨rfl, hb6⟩; refine Hid.out ?_)
          refine Lib.hid ?_
          have B6 : Hid (Below w.heap.size w (w6.alloc (.cells #[.int .i64 Y2, .int .i64 M2, .int .i64 DD2] 44))) := Lib.hid ((B5.out.trans (hb6.mono B5.out.size)).alloc (B5.out.trans (hb6.mono B5.out.size)).size _)
          have X6 := Lib.hid ((DayOf.Box.below X5.out hb6).alloc (.cells #[.int .i64 Y2, .int .i64 M2, .int .i64 DD2] 44))
          clear hb6 B5 E2 X5
          obtain ⟨_, x0, x1, x2, _, _, _⟩ := X6.out
          cases g
          · go_wp2_with fail
            go_ret
            exact ⟨rfl, B6.out⟩
          · have hq := HQ.out rfl
            by_cases hm : M1 = M2
            · have hyn : ¬ Y1 = Y2 := fun e => hq ⟨e, hm⟩
              have hy : (Y1 == Y2) = false := beqNe hyn
              subst hm
              clear hq HQ
              go_wp2_with fail
              all_goals
                go_ret
                exact ⟨by first | rfl | (simp; done) | (simp; exact hyn), B6.out⟩
            · have hm2 : (M1 == M2) = false := beqNe hm
              clear hq HQ
              go_wp2_with fail
              all_goals
                go_ret
                exact ⟨by first | rfl | (simp; done) | (simp; exact hm) | (simp [hm]; done), B6.out⟩

set_option maxRecDepth 100000 in
theorem walk (A : Option Addr) (n cap : Nat) (w : World) (hT : Tab.Tab w) (hZ : Tz.Tab w) (hm : n ≤ maxLen) (hA : Cur.Bytes w w.heap.size A n) :
    Calls Tryd.prog 4 #[.slice A n cap] w fun e w' => e = .returned (.bool true) ∧ Below w.heap.size w w' := by
  by_cases hn : n ≤ 65536
  · exact walkNo A n cap w hT hZ hn hA
  · clear hA hT hZ
    go_enter Tryd.func4, Tryd.ntmps4
    go_wp2_with (go_at_call 8; refine (vBigYes A n cap _ (by omega) hm).mono ?_; rintro e w' ⟨rfl, rfl⟩)
    go_ret
    exact ⟨rfl, Below.refl _ _⟩

end Go.Proofs.YtlpblipgehlniaaDoor.DcLaw
