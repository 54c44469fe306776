/-
  The walk of the law FnBusinessDays.
-/
import Derived.Test.YtglpkanegehcbaaAddI
import Derived.Test.YtglpkanegehcbaaBizMath
import Derived.Test.YtglpkanegehcbaaJoinI
import Derived.Test.YtglpkanegehcbaaJoinS
import Derived.Test.YtglpkanegehcbaaDraw4B
import Derived.Test.YtglpkanegehcbaaDraw4J
namespace Go.Proofs.Ytglpkanegehcbaa.BizLaw
open Go.RowKit Go.Proofs.Ytglpkanegehcbaa.IRow Go.Proofs.Ytglpkanegehcbaa.Cal Go.Proofs.Ytglpkanegehcbaa.Biz Go.Proofs.Ytglpkanegehcbaa.Wd Go.Proofs.Ytglpkanegehcbaa.Asc Go.Proofs.Ytglpkanegehcbaa.CalLaw Go.Proofs.Ytglpkanegehcbaa.Opn Go.Proofs.Ytglpkanegehcbaa.IsBiz Go.Proofs.Ytglpkanegehcbaa.SeekS Go.Proofs.Ytglpkanegehcbaa.AddI Go.Proofs.Ytglpkanegehcbaa.UniMath Go.Proofs.Ytglpkanegehcbaa.JoinB Go.Proofs.Ytglpkanegehcbaa.BizMath Go.Proofs.Ytglpkanegehcbaa.CurDay
set_option linter.unusedVariables false
set_option linter.unusedSimpArgs false

/-- A row that was drawn: where there is none, there is no room. -/
theorem row_cap {w : World} {S : Nat} {X : Option Addr} {c : Nat} {D : List Int} (h : w.ownsRow S 3 1 (.slice X D.length c) D.length (D.map (Value.int .i64))) : X = none → c = 0 := fun e => by
  subst e
  rcases h.2 with ⟨hv, _⟩ | ⟨g, c', cur, hv, _⟩
  · injection hv
  · injection hv with h1 _ _; cases h1

/-- What both JoinCalendars answer. -/
theorem joins (A1 A2 B1 B2 : Option Addr) (c1 c2 e1 e2 : Nat) (we ho we' ho' : List Int) (hc1 : A1 = none → c1 = 0) (hc2 : A2 = none → c2 = 0) (hd1 : B1 = none → e1 = 0) (hd2 : B2 = none → e2 = 0) :
    ∃ (t : Bool) (W H : List Int), W.length ≤ 1000 ∧ H.length ≤ 1000 ∧
      (∀ w, Cl w w.heap.size A1 we.length A2 ho.length we ho → Cl w w.heap.size B1 we'.length B2 ho'.length we' ho' → Calls Try.prog 15 #[.agg #[.slice A1 we.length c1, .slice A2 ho.length c2], .agg #[.slice B1 we'.length e1, .slice B2 ho'.length e2]] w (JAns W H t w)) ∧
      (∀ w, Cl w w.heap.size A1 we.length A2 ho.length we ho → Cl w w.heap.size B1 we'.length B2 ho'.length we' ho' → Calls Try.prog 16 #[.agg #[.slice A1 we.length c1, .slice A2 ho.length c2], .agg #[.slice B1 we'.length e1, .slice B2 ho'.length e2]] w (JAns W H t w)) ∧
      (t = true → ∀ d, bizF we' ho' d = bizF we ho d ∧ bizF W H d = bizF we ho d ∧ bizB W H d = (bizB we ho d && bizB we' ho' d)) := by
  by_cases hg : GoodC we ho
  · by_cases hg' : GoodC we' ho'
    · by_cases hj : GoodC (uni we we') (uni ho ho')
      · exact ⟨true, _, _, by have := hj.1.1; omega, by have := hj.2.1; omega, fun w h h' => JoinI.joinYes A1 A2 B1 B2 _ c1 _ c2 _ e1 _ e2 we ho we' ho' w h h' hc1 hc2 hd1 hd2 hg hg' hj, fun w h h' => JoinS.joinYes A1 A2 B1 B2 _ c1 _ c2 _ e1 _ e2 we ho we' ho' w h h' hc1 hc2 hd1 hd2 hg hg' hj, fun _ d => joined hg hg' hj d⟩
      · exact ⟨false, _, _, Nat.zero_le _, Nat.zero_le _, fun w h h' => JoinI.joinNo A1 A2 B1 B2 _ c1 _ c2 _ e1 _ e2 we ho we' ho' w h h' hc1 hc2 hd1 hd2 hg hg' hj, fun w h h' => JoinS.joinNo A1 A2 B1 B2 _ c1 _ c2 _ e1 _ e2 we ho we' ho' w h h' hc1 hc2 hd1 hd2 hg hg' hj, fun e => by cases e⟩
    · exact ⟨false, _, _, Nat.zero_le _, Nat.zero_le _, fun w h h' => JoinI.joinBadB A1 A2 B1 B2 _ c1 _ c2 _ e1 _ e2 we ho we' ho' w h h' hg hg', fun w h h' => JoinS.joinBadB A1 A2 B1 B2 _ c1 _ c2 _ e1 _ e2 we ho we' ho' w h h' hg hg', fun e => by cases e⟩
  · exact ⟨false, _, _, Nat.zero_le _, Nat.zero_le _, fun w h h' => JoinI.joinBadA A1 A2 B1 B2 _ c1 _ c2 _ e1 _ e2 we ho we' ho' w h h' hg, fun w h h' => JoinS.joinBadA A1 A2 B1 B2 _ c1 _ c2 _ e1 _ e2 we ho we' ho' w h h' hg, fun e => by cases e⟩

/-- A variable that holds a calendar, and its rows. -/
structure Vr (u : World) (k : Nat) (A1 : Option Addr) (n1 c1 : Nat) (A2 : Option Addr) (n2 c2 : Nat) (we ho : List Int) : Prop where
  bx : Bx k u (.slice A1 n1 c1) (.slice A2 n2 c2)
  cl : Cl u u.heap.size A1 n1 A2 n2 we ho
theorem Vr.on {u v : World} {k : Nat} {A1 : Option Addr} {n1 c1 : Nat} {A2 : Option Addr} {n2 c2 : Nat} {we ho : List Int} (h : Vr u k A1 n1 c1 A2 n2 c2 we ho) (hb : Below u.heap.size u v) : Vr v k A1 n1 c1 A2 n2 c2 we ho := ⟨h.bx.on hb, h.cl.on hb⟩

set_option maxRecDepth 100000 in
set_option maxHeartbeats 8000000 in
theorem walkNo (A : Option Addr) (n cap : Nat) (w : World) (hn : n ≤ 65536) (hA : Cur.Bytes w w.heap.size A n) :
    Calls Try.prog 3 #[.slice A n cap] w fun e w' => e = .returned (.bool true) ∧ Below w.heap.size w w' := by
  have HD := Lib.hid (Draw4B.draw A n cap w (by omega) hA)
  have HE : Hid (∀ v, Below w.heap.size w v → Calls Try.prog 14 #[.slice A n cap] v (Draw4J.ans v)) := Lib.hid fun v hv => Draw4J.draw A n cap v (by omega) (fun hp => by
    obtain ⟨ad, e, hb, hc⟩ := hA hp
    refine ⟨ad, e, Nat.lt_of_lt_of_le hb hv.size, fun j hj => ?_⟩
    obtain ⟨z, hz, h0, h1⟩ := hc j hj
    exact ⟨z, (hv.cell (by rw [Cur.block_add]; exact hb)).trans hz, h0, h1⟩)
  clear hA
  go_enter Try.func3, Try.ntmps3
  go_wp2_with (first
    | (go_at_call 9; refine (vBigNo A n cap _ hn).mono ?_; rintro e w' ⟨rfl, rfl⟩)
    | (go_at_call 10; refine HD.out.mono ?_; rintro e w1 ⟨A1, _, c1, A2, _, c2, D1, D2, d, z, rfl, rfl, rfl, l1, l2, hd, hz, hr, hb⟩; refine Hid.out ?_))
  refine Lib.hid ?_
  obtain ⟨d0, d1⟩ := hd
  obtain ⟨z0, z1⟩ := hz
  have C0 : Hid (Cl (w1.alloc (.cells #[.slice A1 D1.length c1, .slice A2 D2.length c2] 26)) (w1.alloc (.cells #[.slice A1 D1.length c1, .slice A2 D2.length c2] 26)).heap.size A1 D1.length A2 D2.length D1 D2) := Lib.hid ((Draw4D.R2.cl hr rfl rfl l1 l2).on (below1 _ _))
  have B0 : Hid (Below w.heap.size w (w1.alloc (.cells #[.slice A1 D1.length c1, .slice A2 D2.length c2] 26))) := Lib.hid (hb.alloc hb.size _)
  have X0 := Lib.hid (Bx.new w1 (.slice A1 D1.length c1) (.slice A2 D2.length c2) 26)
  clear hr hb l1 l2 HD
  have HI := Lib.hid fun w h => addI A1 A2 D1.length c1 D2.length c2 D1 D2 d z w h
  have HS := Lib.hid fun w h => addS A1 A2 D1.length c1 D2.length c2 D1 D2 d z w h
  have HR : Hid (addF D1 D2 d z = true → 0 < z → addV D1 D2 d z < 36524 → 0 ≤ addV D1 D2 d z ∧ cntV D1 D2 (d + 1) (addV D1 D2 d z + 1) = z ∧ cntF D1 D2 (d + 1) (addV D1 D2 d z + 1) = true) := Lib.hid added
  generalize addV D1 D2 d z = v at *
  generalize addF D1 D2 d z = f at *
  go_wp2_with (go_at_call 11; refine (HI.out _ C0.out).mono ?_; rintro e w2 ⟨rfl, hb2⟩; refine Hid.out ?_)
  refine Lib.hid ?_
  have C2 := Lib.hid (C0.out.on hb2)
  have B2 := Lib.hid (B0.out.trans (hb2.mono B0.out.size))
  have X2 := Lib.hid (X0.out.on hb2)
  clear hb2 C0 B0 X0 HI
  obtain ⟨_, x0, x1, _, _⟩ := X2.out
  go_wp2_with (go_at_call 12; refine (HS.out _ C2.out).mono ?_; rintro e w3 ⟨rfl, hb3⟩; refine Hid.out ?_)
  refine Lib.hid ?_
  have C3 := Lib.hid (C2.out.on hb3)
  have BU := Lib.hid (B2.out.trans (hb3.mono B2.out.size))
  have X3 := Lib.hid (X2.out.on hb3)
  clear hb3 C2 B2 X2 HS x0 x1
  cases f
  case' true =>
    by_cases hz0 : 0 < z
    case' pos =>
      by_cases hv : v < 36524
      case' pos =>
        obtain ⟨v0, hcv, hcf⟩ := HR.out rfl hz0 hv
        have HC : Hid (∀ w, Cl w w.heap.size A1 D1.length A2 D2.length D1 D2 → Calls Try.prog 13 #[.agg #[.slice A1 D1.length c1, .slice A2 D2.length c2], .int .i64 (d + 1), .int .i64 (v + 1)] w fun e w' => e = .returned (.tuple #[.int .i64 z, .bool true]) ∧ Below w.heap.size w w') := Lib.hid fun w h => by
          have := cntI A1 A2 D1.length c1 D2.length c2 D1 D2 (d + 1) (v + 1) w h
          rwa [hcv, hcf] at this
        clear hcv hcf
        obtain ⟨_, x0, x1, _, _⟩ := X3.out
        go_wp2_with (go_at_call 13; refine (HC.out _ C3.out).mono ?_; rintro e w4 ⟨rfl, hb4⟩; refine Hid.out ?_)
        refine Lib.hid ?_
        replace BU := Lib.hid (BU.out.trans (hb4.mono BU.out.size))
        clear hb4 x0 x1 HC
  all_goals
    clear HR C3 X3
    go_wp2_with (go_at_call 14; (with_reducible refine (HE.out _ BU.out).mono ?_); rintro e u1 ⟨P1, g1, P2, g2, W1, H1, Q1, i1, Q2, i2, W2, H2, rfl, m1, m2, m3, m4, r1, r2, hb⟩; refine Hid.out ?_)
    refine Lib.hid ?_
    have hcap : Hid ((P1 = none → g1 = 0) ∧ (P2 = none → g2 = 0) ∧ (Q1 = none → i1 = 0) ∧ (Q2 = none → i2 = 0)) := Lib.hid ⟨row_cap r1.r1, row_cap r1.r2, row_cap r2.r1, row_cap r2.r2⟩
    have VA : Hid (Vr ((u1.alloc (.cells #[.slice P1 W1.length g1, .slice P2 H1.length g2] 26)).alloc (.cells #[.slice Q1 W2.length i1, .slice Q2 H2.length i2] 26)) u1.heap.size P1 W1.length g1 P2 H1.length g2 W1 H1) := Lib.hid ⟨(Bx.new u1 _ _ _).alloc _, ((Draw4D.R2.cl r1 rfl rfl m1 m2).on (below1 _ _)).on (below1 _ _)⟩
    have VB : Hid (Vr ((u1.alloc (.cells #[.slice P1 W1.length g1, .slice P2 H1.length g2] 26)).alloc (.cells #[.slice Q1 W2.length i1, .slice Q2 H2.length i2] 26)) (u1.heap.size + 1) Q1 W2.length i1 Q2 H2.length i2 W2 H2) := Lib.hid ⟨by have := Bx.new (u1.alloc (.cells #[.slice P1 W1.length g1, .slice P2 H1.length g2] 26)) (.slice Q1 W2.length i1) (.slice Q2 H2.length i2) 26; simpa using this, ((Draw4D.R2.cl r2 rfl rfl m3 m4).on (below1 _ _)).on (below1 _ _)⟩
    replace BU := Lib.hid (((BU.out.trans (hb.mono BU.out.size)).alloc (BU.out.trans (hb.mono BU.out.size)).size (.cells #[.slice P1 W1.length g1, .slice P2 H1.length g2] 26)).alloc ((BU.out.trans (hb.mono BU.out.size)).alloc (BU.out.trans (hb.mono BU.out.size)).size (.cells #[.slice P1 W1.length g1, .slice P2 H1.length g2] 26)).size (.cells #[.slice Q1 W2.length i1, .slice Q2 H2.length i2] 26))
    obtain ⟨t, W, H, w0, h0, hji, hjs, hjo⟩ := joins P1 P2 Q1 Q2 g1 g2 i1 i2 W1 H1 W2 H2 hcap.out.1 hcap.out.2.1 hcap.out.2.2.1 hcap.out.2.2.2
    have JI := Lib.hid hji
    have JS := Lib.hid hjs
    have JO := Lib.hid hjo
    clear hji hjs hjo r1 r2 hb hcap HE
    go_wp2_with (go_at_call 15; (with_reducible refine (JI.out _ VA.out.cl VB.out.cl).mono ?_); (rintro e u2 ⟨C1, _, f1, C2, _, f2, rfl, rfl, rfl, o1, o2, _, hb⟩); refine Hid.out ?_)
    refine Lib.hid ?_
    replace VA := Lib.hid ((VA.out.on hb).on (below1 _ (.cells #[.slice C1 W.length f1, .slice C2 H.length f2] 26)))
    replace VB := Lib.hid ((VB.out.on hb).on (below1 _ (.cells #[.slice C1 W.length f1, .slice C2 H.length f2] 26)))
    replace BU := Lib.hid ((BU.out.trans (hb.mono BU.out.size)).alloc (BU.out.trans (hb.mono BU.out.size)).size (.cells #[.slice C1 W.length f1, .slice C2 H.length f2] 26))
    have VJ : Hid (Vr (u2.alloc (.cells #[.slice C1 W.length f1, .slice C2 H.length f2] 26)) u2.heap.size C1 W.length f1 C2 H.length f2 W H) := Lib.hid ⟨Bx.new u2 _ _ _, Cl.on ⟨rfl, rfl, At.of_own o1 rfl, At.of_own o2 rfl, by omega, by omega⟩ (below1 _ _)⟩
    clear o1 o2 hb JI
    obtain ⟨_, a0, a1, _, _⟩ := VA.out.bx
    obtain ⟨_, b0, b1, _, _⟩ := VB.out.bx
    go_wp2_with (go_at_call 16; (with_reducible refine (JS.out _ VA.out.cl VB.out.cl).mono ?_); (rintro e u3 ⟨F1, _, j1, F2, _, j2, rfl, rfl, rfl, _, _, _, hb⟩); refine Hid.out ?_)
    refine Lib.hid ?_
    replace VA := Lib.hid (VA.out.on hb)
    replace VB := Lib.hid (VB.out.on hb)
    replace VJ := Lib.hid (VJ.out.on hb)
    replace BU := Lib.hid (BU.out.trans (hb.mono BU.out.size))
    clear hb JS a0 a1 b0 b1
    generalize u2.heap.size = kj at *
    cases t
    · go_wp2_with fail
      go_ret
      exact ⟨rfl, BU.out.alloc BU.out.size _⟩
    · have HX : Hid (∀ x, ∃ ba bb f : Bool,
          (∀ w, Cl w w.heap.size P1 W1.length P2 H1.length W1 H1 → Calls Try.prog 17 #[.agg #[.slice P1 W1.length g1, .slice P2 H1.length g2], .int .i64 x] w fun e w' => e = .returned (.tuple #[.bool ba, .bool f]) ∧ Below w.heap.size w w') ∧
          (∀ w, Cl w w.heap.size Q1 W2.length Q2 H2.length W2 H2 → Calls Try.prog 17 #[.agg #[.slice Q1 W2.length i1, .slice Q2 H2.length i2], .int .i64 x] w fun e w' => e = .returned (.tuple #[.bool bb, .bool f]) ∧ Below w.heap.size w w') ∧
          (∀ w, Cl w w.heap.size C1 W.length C2 H.length W H → Calls Try.prog 17 #[.agg #[.slice C1 W.length f1, .slice C2 H.length f2], .int .i64 x] w fun e w' => e = .returned (.tuple #[.bool (ba && bb), .bool f]) ∧ Below w.heap.size w w')) := Lib.hid fun x => by
        obtain ⟨q1, q2, q3⟩ := JO.out rfl x
        refine ⟨bizB W1 H1 x, bizB W2 H2 x, bizF W1 H1 x, fun w h => bizI P1 P2 _ g1 _ g2 W1 H1 x w h, fun w h => ?_, fun w h => ?_⟩
        · rw [← q1]; exact bizI Q1 Q2 _ i1 _ i2 W2 H2 x w h
        · rw [← q2, ← q3]; exact bizI C1 C2 _ f1 _ f2 W H x w h
      clear JO
      replace VA := Lib.hid (VA.out.on (below1 _ (.cells #[.slice F1 W.length j1, .slice F2 H.length j2] 26)))
      replace VB := Lib.hid (VB.out.on (below1 _ (.cells #[.slice F1 W.length j1, .slice F2 H.length j2] 26)))
      replace VJ := Lib.hid (VJ.out.on (below1 _ (.cells #[.slice F1 W.length j1, .slice F2 H.length j2] 26)))
      replace BU := Lib.hid (BU.out.alloc BU.out.size (.cells #[.slice F1 W.length j1, .slice F2 H.length j2] 26))
      go_wp2_with fail
      go_loopw [18] (fun i wr => ∃ x : Int, i = .int .i64 x ∧ d - 3 ≤ x ∧ x ≤ d + 4 ∧ Hid (Vr wr u1.heap.size P1 W1.length g1 P2 H1.length g2 W1 H1) ∧ Hid (Vr wr (u1.heap.size + 1) Q1 W2.length i1 Q2 H2.length i2 W2 H2) ∧ Hid (Vr wr kj C1 W.length f1 C2 H.length f2 W H) ∧ Hid (Below w.heap.size w wr)) (fun i _ => (d + 4 - intOf i).toNat)
      case atStart => exact ⟨d - 3, by go_num, by omega, by omega, VA, VB, VJ, BU⟩
      case round =>
        clear VA VB VJ BU
        obtain ⟨x, rfl, x0, x1, VA, VB, VJ, BU⟩ := hrel
        by_cases hlt : x < d + 4
        · obtain ⟨ba, bb, f, hx1, hx2, hx3⟩ := HX.out x
          have Z1 := Lib.hid hx1
          have Z2 := Lib.hid hx2
          have Z3 := Lib.hid hx3
          clear hx1 hx2 hx3 HX
          obtain ⟨_, a0, a1, _, _⟩ := VA.out.bx
          go_wp2_with (go_at_call 17; (with_reducible refine (Z1.out _ VA.out.cl).mono ?_); rintro e v1 ⟨rfl, hb⟩; refine Hid.out ?_)
          refine Lib.hid ?_
          replace VA := Lib.hid (VA.out.on hb)
          replace VB := Lib.hid (VB.out.on hb)
          replace VJ := Lib.hid (VJ.out.on hb)
          replace BU := Lib.hid (BU.out.trans (hb.mono BU.out.size))
          clear hb a0 a1 Z1
          obtain ⟨_, a0, a1, _, _⟩ := VB.out.bx
          go_wp2_with (go_at_call 17; (with_reducible refine (Z2.out _ VB.out.cl).mono ?_); rintro e v2 ⟨rfl, hb⟩; refine Hid.out ?_)
          refine Lib.hid ?_
          replace VA := Lib.hid (VA.out.on hb)
          replace VB := Lib.hid (VB.out.on hb)
          replace VJ := Lib.hid (VJ.out.on hb)
          replace BU := Lib.hid (BU.out.trans (hb.mono BU.out.size))
          clear hb a0 a1 Z2
          obtain ⟨_, a0, a1, _, _⟩ := VJ.out.bx
          go_wp2_with (go_at_call 17; (with_reducible refine (Z3.out _ VJ.out.cl).mono ?_); rintro e v3 ⟨rfl, hb⟩; refine Hid.out ?_)
          refine Lib.hid ?_
          replace VA := Lib.hid (VA.out.on hb)
          replace VB := Lib.hid (VB.out.on hb)
          replace VJ := Lib.hid (VJ.out.on hb)
          replace BU := Lib.hid (BU.out.trans (hb.mono BU.out.size))
          clear hb a0 a1 Z3
          have hbf : (f != f) = false := by cases f <;> rfl
          cases ba <;> cases bb
          all_goals
            go_wp2_with fail
            go_roundw
            case rel => exact ⟨x + 1, by go_num, by omega, by omega, VA, VB, VJ, BU⟩
            case measure => simp [intOf]; omega
        · go_wp2_with fail
          go_ret
          exact ⟨rfl, BU.out⟩

theorem walk (A : Option Addr) (n cap : Nat) (w : World) (hm : n ≤ maxLen) (hA : Cur.Bytes w w.heap.size A n) :
    Calls Try.prog 3 #[.slice A n cap] w fun e w' => e = .returned (.bool true) ∧ Below w.heap.size w w' := by
  by_cases hn : n ≤ 65536
  · exact walkNo A n cap w hn hA
  · clear hA
    go_enter Try.func3, Try.ntmps3
    go_wp2_with (go_at_call 9; refine (vBigYes A n cap _ (by omega) hm).mono ?_; rintro e w' ⟨rfl, rfl⟩)
    go_ret
    exact ⟨rfl, Below.refl _ _⟩

end Go.Proofs.Ytglpkanegehcbaa.BizLaw
