/-
  The walk of the law FnMoney.
-/
import Derived.Test.YthobejaiapdanaaDoorDrawAmt
import Derived.Test.YthobejaiapdanaaDoorParseAmt
import Derived.Test.YthobejaiapdanaaDoorScale
import Derived.Deep.DeepCutAuto
namespace Go.Proofs.YthobejaiapdanaaDoor.MoneyWalk
open Go.RowKit Go.Proofs.YthobejaiapdanaaDoor.Cur Go.Proofs.YthobejaiapdanaaDoor.FmtPlain Go.Proofs.YthobejaiapdanaaDoor.FmtAmt Go.Proofs.YthobejaiapdanaaDoor.IsFrac Go.Proofs.YthobejaiapdanaaDoor.DrawFrac Go.Proofs.YthobejaiapdanaaDoor.DrawAmt Go.Proofs.YthobejaiapdanaaDoor.Amount Go.Proofs.YthobejaiapdanaaDoor.ParseAmt Go.Proofs.YthobejaiapdanaaDoor.Lies Go.Proofs.YthobejaiapdanaaDoor.Tz

set_option maxHeartbeats 2000000 in
theorem drawScale (A : Option Addr) (n cap : Nat) (w : World) (hn : n ≤ 1000000) (hA : Bytes w w.heap.size A n) :
    Calls Tryd.prog 17 #[.slice A n cap] w fun e w' => ∃ x u v md : Int, e = .returned (.tuple #[.int .i64 x, .agg #[.int .i64 u, .int .i64 v], .int .i64 md]) ∧ Below w.heap.size w w' := by
  have hA2 : Bytes (w.alloc (.cells #[.int .i64 0, .int .i64 0] 31)) (w.alloc (.cells #[.int .i64 0, .int .i64 0] 31)).heap.size A n := fun hp => by
    obtain ⟨ad, e, hlt, hc⟩ := hA hp
    refine ⟨ad, e, by simp; omega, fun j hj => ?_⟩
    obtain ⟨z, hz, h0, h1⟩ := hc j hj
    exact ⟨z, (World.grownBy_alloc w _ none).cell hz (by simp), h0, h1⟩
  have HO := Lib.hid (Ok.new (w.alloc (.cells #[.int .i64 0, .int .i64 0] 31)) A n cap hn hA2)
  rw [World.size_alloc] at HO
  clear hA hA2
  go_enter Tryd.func17, Tryd.ntmps17
  go_wp2_with (go_at_call 34; refine (amount (w.heap.size + 1) A n cap 0 (w.heap.size + 1) _ HO.out (by omega)).mono ?_; rintro e w1 ⟨x, k1, rfl, hx0, hx1, hk1, hok1, hg1⟩; refine Hid.out ?_)
  refine Lib.hid ?_
  have O1 := Lib.hid hok1
  have RA1 := Lib.hid (oneGrown ((One.new w (.int .i64 0) (.int .i64 0) 31).alloc _) hg1 (by omega))
  have B1 : Hid (Below w.heap.size w w1) := Lib.hid ((((Below.refl _ _).alloc (Nat.le_refl _) _).alloc (by simp) _).grown hg1 (by simp <;> omega) (fun k hk => by injection hk with hk; omega))
  clear hok1 hg1
  go_wp2_with (go_at_call 42; refine (anyFraction (w.heap.size + 1) A n cap k1 (w.heap.size + 1) w1 O1.out (by omega)).mono ?_; rintro e w2 ⟨u, v, k2, rfl, hk2, hok2, hg2⟩; refine Hid.out ?_)
  refine Lib.hid ?_
  have O2 := Lib.hid hok2
  have RA2 := Lib.hid (oneGrown RA1.out hg2 (by omega))
  have B2 : Hid (Below w.heap.size w w2) := Lib.hid (B1.out.grown hg2 B1.out.size (fun k hk => by injection hk with hk; omega))
  have N2 : Hid (w2.heap.size ≠ w.heap.size + 1) := Lib.hid (by have := O2.out.lt; omega)
  clear hok2 hg2
  go_wp2_with (go_at_call 43; refine (among w2.heap.size _ 1000000001 8 rfl (by omega) (by omega) (w.heap.size + 1) A n cap k2 (w.heap.size + 1) _ (O2.out.alloc _) (by omega) (heap_alloc_new w2 _) N2.out (by intro v hv; simp at hv; rcases hv with h | h | h | h | h | h | h | h <;> exact ⟨_, h, by omega, by omega⟩)).mono ?_; rintro e w3 ⟨z3, k3, rfl, hz3, hy3, hk3, hok3, hg3⟩; refine Hid.out ?_)
  refine Lib.hid ?_
  obtain ⟨lA, A0, A1, fA0, fA1⟩ := oneGrown (RA2.out.alloc _) hg3 (by omega)
  have B3 : Hid (Below w.heap.size w w3) := Lib.hid ((B2.out.alloc B2.out.size _).grown hg3 (by have := B2.out.size; simp; omega) (fun k hk => by injection hk with hk; omega))
  clear hok3 hg3
  go_wp2_with fail
  exact bodyPost_ret (v := .tuple #[.int .i64 x, .agg #[.int .i64 u, .int .i64 v], .int .i64 z3]) (by simp [results, Tryd.results17, go_sem, A0, A1]) rfl ⟨x, u, v, z3, rfl, (B3.out.setCell (Nat.le_refl _) _).setCell (Nat.le_refl _) _⟩

/-- Rounding stays within one unit, and within half a unit at the modes that round to the nearest. -/
theorem near (N d : Nat) (mode : Int) (hd : 1 ≤ d) (hm : 1 ≤ mode ∧ mode ≤ 4) :
    (((Round.rndN N d mode * d : Nat) : Int) - N < d ∧ -(d : Int) < ((Round.rndN N d mode * d : Nat) : Int) - N) ∧
    (3 ≤ mode → 2 * (((Round.rndN N d mode * d : Nat) : Int) - N) ≤ d ∧ -(d : Int) ≤ 2 * (((Round.rndN N d mode * d : Nat) : Int) - N)) := by
  have hr : N % d < d := Nat.mod_lt _ hd
  have hN : N / d * d + N % d = N := by rw [Nat.mul_comm]; exact Nat.div_add_mod N d
  unfold Round.rndN
  generalize N / d = q at *
  generalize N % d = r at *
  have e1 : (q + 1) * d = q * d + d := by rw [Nat.add_mul, Nat.one_mul]
  rcases Round.away_cases q r d mode hm with ⟨rfl, ha⟩ | ⟨rfl, h1, ha⟩ | ⟨rfl, h1, ha⟩ | ⟨rfl, h1, ha⟩ | ⟨rfl, h1, ha⟩ | ⟨rfl, h1, ha⟩ | ⟨rfl, ⟨h1, h2⟩, h3, ha⟩ | ⟨rfl, ⟨h1, h2⟩, h3, ha⟩ | ⟨rfl, h1, ha⟩
  all_goals rw [ha]
  all_goals (first | rw [show Round.more false = 0 from rfl, Nat.add_zero] | rw [show Round.more true = 1 from rfl, e1])
  all_goals generalize q * d = Q at *
  all_goals omega

theorem scaled {x fn fd mode : Int} (h : Scale.Ok x fn fd mode) :
    (-1000000000 ≤ Scale.rnd (x * fn) fd mode ∧ Scale.rnd (x * fn) fd mode ≤ 1000000000) ∧ (1 ≤ fd ∧ fd ≤ 1000000000) ∧ (-1000000000000000000 ≤ x * fn ∧ x * fn ≤ 1000000000000000000) ∧
    (-1000000000000000000 ≤ Scale.rnd (x * fn) fd mode * fd ∧ Scale.rnd (x * fn) fd mode * fd ≤ 1000000000000000000) ∧
    (Scale.rnd (x * fn) fd mode * fd - x * fn < fd ∧ -fd < Scale.rnd (x * fn) fd mode * fd - x * fn) ∧ (3 ≤ mode → 2 * (Scale.rnd (x * fn) fd mode * fd - x * fn) ≤ fd ∧ -fd ≤ 2 * (Scale.rnd (x * fn) fd mode * fd - x * fn)) := by
  obtain ⟨⟨hx, ⟨hd, hn, _⟩, hm⟩, hr⟩ := h
  have m1 := mul_bd x fn hx.1 hx.2 hn.1 hn.2
  have m2 := mul_bd (Scale.rnd (x * fn) fd mode) fd hr.1 hr.2 (by omega) (by omega)
  refine ⟨hr, hd, m1, m2, ?_⟩
  obtain ⟨D, rfl⟩ : ∃ D : Nat, fd = D := ⟨fd.toNat, by omega⟩
  have nr := near (x * fn).natAbs D mode (by omega) hm
  unfold Scale.rnd
  rw [Int.natAbs_natCast]
  by_cases hneg : x * fn < 0
  · rw [if_pos hneg, Int.neg_mul, ← Int.natCast_mul]
    have e : ((x * fn).natAbs : Int) = -(x * fn) := by omega
    rw [e] at nr
    generalize Round.rndN (x * fn).natAbs D mode * D = Q at *
    generalize x * fn = P at *
    omega
  · rw [if_neg hneg, ← Int.natCast_mul]
    have e : ((x * fn).natAbs : Int) = x * fn := by omega
    rw [e] at nr
    generalize Round.rndN (x * fn).natAbs D mode * D = Q at *
    generalize x * fn = P at *
    omega

theorem vBigNo (A : Option Addr) (n cap : Nat) (w : World) (h : n ≤ 65536) :
    Calls Tryd.prog 12 #[.slice A n cap] w fun e w' => e = .returned (.bool false) ∧ w = w' := by
  go_enter Tryd.func12, Tryd.ntmps12
  go_wp2_with fail
  go_ret
  exact ⟨by simp; omega, rfl⟩

theorem vBigYes (A : Option Addr) (n cap : Nat) (w : World) (h : 65536 < n) (hm : n ≤ maxLen) :
    Calls Tryd.prog 12 #[.slice A n cap] w fun e w' => e = .returned (.bool true) ∧ w = w' := by
  unfold maxLen at hm
  go_enter Tryd.func12, Tryd.ntmps12
  go_wp2_with fail
  go_ret
  exact ⟨by simp; omega, rfl⟩

theorem bytesBelow {w w' : World} {A : Option Addr} {n : Nat} (h : Bytes w w.heap.size A n) (hb : Below w.heap.size w w') : Bytes w' w'.heap.size A n := fun hp => by
  obtain ⟨ad, e, hlt, hc⟩ := h hp
  refine ⟨ad, e, Nat.lt_of_lt_of_le hlt hb.size, fun j hj => ?_⟩
  obtain ⟨z, hz, h0, h1⟩ := hc j hj
  exact ⟨z, (hb.cell (by rw [Cur.block_add]; exact hlt)).trans hz, h0, h1⟩

set_option maxRecDepth 100000 in
set_option maxHeartbeats 8000000 in
theorem walk (A : Option Addr) (n cap : Nat) (w : World) (hm : n ≤ maxLen) (hA : Bytes w w.heap.size A n) (hL : Lies w) (hT : Tab w) :
    Calls Tryd.prog 3 #[.slice A n cap] w fun e w' => e = .returned (.bool true) ∧ Below w.heap.size w w' := by
  have HL := Lib.hid hL
  have HT := Lib.hid hT
  have HA := Lib.hid hA
  have HM := Lib.hid hm
  clear hL hT hA hm
  by_cases hbig : 65536 < n
  · go_enter Tryd.func3, Tryd.ntmps3
    go_wp2_with (go_at_call 12; refine (vBigYes A n cap _ hbig HM.out).mono ?_; rintro e w' ⟨rfl, rfl⟩)
    go_ret
    exact ⟨rfl, Below.refl _ _⟩
  · go_enter Tryd.func3, Tryd.ntmps3
    go_wp2_with (first
      | (go_at_call 12; refine (vBigNo A n cap _ (by omega)).mono ?_; rintro e w' ⟨rfl, rfl⟩)
      | (go_at_call 13; refine (drawFormat A n cap _ (by omega) HA.out).mono ?_; rintro e w1 ⟨x, rfl, hx0, hx1, hb1⟩; refine Hid.out ?_))
    refine Lib.hid ?_
    have B1 := Lib.hid hb1
    obtain ⟨t, ht⟩ : ∃ t : ByteArray, (⟨(fmtT x).toArray⟩ : ByteArray) = t := ⟨_, rfl⟩
    obtain ⟨fb, hfb⟩ : ∃ b, fmtB x = b := ⟨_, rfl⟩
    obtain ⟨y, fi, hans⟩ := ans_is t
    have HAns := Lib.hid hans
    have HI : Hid (∀ w, Pow w → Calls Tryd.prog 14 #[.int .i64 x] w fun e w' => e = .returned (.tuple #[.string t, .bool fb]) ∧ Below w.heap.size w w') := Lib.hid (fun w h => by rw [← ht, ← hfb]; exact FmtAmt.impl x w h)
    have HZ : Hid (t.size ≤ maxLen) := Lib.hid (by
      rw [← ht, FmtPlain.size]; unfold fmtT maxLen; split
      · have := text_size x (by omega) (by omega); rw [FmtPlain.size] at this; omega
      · simp)
    have HX : Hid (Amt x → fb = true ∧ y = x ∧ fi = true) := Lib.hid (fun h => by
      have hT : IsT t x := ⟨h, by rw [← ht]; unfold fmtT; rw [if_pos h]⟩
      have e := ans_one hans (.inl ⟨x, hT, rfl⟩)
      injection e with e
      simp at e
      exact ⟨by rw [← hfb]; unfold fmtB; exact decide_eq_true h, e.1, e.2⟩)
    have HX' : Hid (¬ Amt x → fb = false) := Lib.hid (fun h => by rw [← hfb]; unfold fmtB; exact decide_eq_false h)
    clear hb1 ht hfb hans
    go_upto_region 6 with (first
      | (go_at_call 14; refine (HI.out _ (HL.out.below B1.out).tab).mono ?_; rintro e w2 ⟨rfl, hb2⟩)
      | (go_at_call 15; refine (implAt HAns.out w2 HZ.out ((HL.out.below B1.out).below hb2)).mono ?_; rintro e w3 ⟨rfl, hb3⟩))
    have B2 : Hid (Below w.heap.size w w2) := Lib.hid (B1.out.trans (hb2.mono B1.out.size))
    have B3 : Hid (Below w.heap.size w w3) := Lib.hid (B2.out.trans (hb3.mono B2.out.size))
    clear hb2 hb3
    go_cut [54] (fun s wx => s = .bool false ∧ wx = w3)
    case first =>
      by_cases h : Amt x
      · obtain ⟨rfl, rfl, rfl⟩ := HX.out h
        obtain ⟨h0, h1⟩ := h
        go_wp2_with fail
        go_meet
        exact ⟨by simp, rfl⟩
      · obtain rfl := HX'.out h
        by_cases hlo : y = y ∧ x < -1000000000
        · obtain ⟨_, hlo⟩ := hlo
          go_wp2_with fail
          go_meet
          exact ⟨by simp, rfl⟩
        · have hhi : 1000000000 < x := by unfold Amt at h; omega
          have hlo2 : -1000000000 ≤ x := by omega
          go_wp2_with fail
          go_meet
          exact ⟨by simp <;> omega, rfl⟩
    case rest =>
      obtain ⟨rfl, rfl⟩ := hcut
      have LL3 := Lib.hid (HL.out.below B3.out)
      have HA3 := Lib.hid (bytesBelow HA.out B3.out)
      clear HI HAns HZ HX HX' B1 B2
      generalize wc = w3 at *
      go_wp2_with (go_at_call 16; refine (drawParse A n cap _ (by omega) HA3.out).mono ?_; rintro e w4 ⟨u, rfl, hu, hb4⟩; refine Hid.out ?_)
      refine Lib.hid ?_
      have B4 : Hid (Below w.heap.size w w4) := Lib.hid (B3.out.trans (hb4.mono B3.out.size))
      have L4 := Lib.hid (LL3.out.below hb4)
      clear hb4
      obtain ⟨z, rd, hans⟩ := ans_is u
      have HAns := Lib.hid hans
      have HZ : Hid (u.size ≤ maxLen) := Lib.hid (by unfold maxLen; omega)
      obtain ⟨bk, hbk⟩ : ∃ t : ByteArray, (⟨(fmtT z).toArray⟩ : ByteArray) = t := ⟨_, rfl⟩
      obtain ⟨sh, hsh⟩ : ∃ b, fmtB z = b := ⟨_, rfl⟩
      have HI : Hid (∀ w, Pow w → Calls Tryd.prog 14 #[.int .i64 z] w fun e w' => e = .returned (.tuple #[.string bk, .bool sh]) ∧ Below w.heap.size w w') := Lib.hid (fun w h => by rw [← hbk, ← hsh]; exact FmtAmt.impl z w h)
      have HX : Hid (rd = true → bk = u ∧ sh = true) := Lib.hid (fun h => by
        subst h
        rcases hans with ⟨x', hx', e⟩ | ⟨_, e⟩
        · injection e with e
          simp at e
          obtain rfl := e
          exact ⟨by rw [← hbk, hx'.2]; unfold fmtT; rw [if_pos hx'.1], by rw [← hsh]; unfold fmtB; exact decide_eq_true hx'.1⟩
        · injection e with e
          simp at e)
      clear hans hbk hsh
      go_upto_region 11 with (first
        | (go_at_call 15; refine (implAt HAns.out w4 HZ.out L4.out).mono ?_; rintro e w5 ⟨rfl, hb5⟩)
        | (go_at_call 14; refine (HI.out _ (L4.out.below hb5).tab).mono ?_; rintro e w6 ⟨rfl, hb6⟩))
      have B5 : Hid (Below w.heap.size w w5) := Lib.hid (B4.out.trans (hb5.mono B4.out.size))
      have B6 : Hid (Below w.heap.size w w6) := Lib.hid (B5.out.trans (hb6.mono B5.out.size))
      clear hb5 hb6
      go_cut [76] (fun s wx => s = .bool false ∧ wx = w6)
      case first =>
        cases rd with
        | true =>
          obtain ⟨rfl, rfl⟩ := HX.out rfl
          go_wp2_with fail
          go_meet
          exact ⟨by simp, rfl⟩
        | false =>
          go_wp2_with fail
          go_meet
          exact ⟨by simp, rfl⟩
      case rest =>
        obtain ⟨rfl, rfl⟩ := hcut
        have HA6 := Lib.hid (bytesBelow HA.out B6.out)
        have T6 := Lib.hid (Tz.Tab.below HT.out B6.out)
        clear HI HAns HZ HX B4 B5 L4 LL3 HA3 B3
        generalize wc = w6 at *
        go_wp2_with (go_at_call 17; refine (drawScale A n cap _ (by omega) HA6.out).mono ?_; rintro e w7 ⟨a, fn, fd, md, rfl, hb7⟩; refine Hid.out ?_)
        refine Lib.hid ?_
        have B7 : Hid (Below w.heap.size w w7) := Lib.hid (B6.out.trans (hb7.mono B6.out.size))
        have T7 : Hid (∀ o, Tab (w7.alloc o)) := Lib.hid (fun o => Frac.Tab.alloc (Tz.Tab.below T6.out hb7) o)
        clear hb7
        obtain ⟨r, hr⟩ : ∃ y, y = Scale.scN a fn fd md := ⟨_, rfl⟩
        obtain ⟨rB, hrB⟩ : ∃ y, y = Scale.scB a fn fd md := ⟨_, rfl⟩
        have HN := Lib.hid hr
        have HB := Lib.hid hrB
        have H0 : Hid (rB = false → r = 0) := Lib.hid (fun h => by
          rw [hr]; unfold Scale.scN; rw [if_neg]
          intro ho; rw [hrB] at h; unfold Scale.scB at h; rw [decide_eq_true ho] at h; cases h)
        have H1 : Hid (rB = true → Scale.Ok a fn fd md ∧ r = Scale.rnd (a * fn) fd md) := Lib.hid (fun h => by
          have ho : Scale.Ok a fn fd md := by rw [hrB] at h; unfold Scale.scB at h; exact of_decide_eq_true h
          exact ⟨ho, by rw [hr]; unfold Scale.scN; rw [if_pos ho]⟩)
        clear hr hrB
        go_wp2_with (go_at_call 18; refine (Scale.scAt (Scale.impl a fn fd md _ (T7.out _)) HN.out HB.out).mono ?_; rintro e w8 ⟨rfl, hb8⟩; refine Hid.out ?_)
        refine Lib.hid ?_
        have O8 := Lib.hid ((One.new w7 (.int .i64 fn) (.int .i64 fd) 31).below hb8)
        have B8 : Hid (Below w.heap.size w w8) := Lib.hid ((B7.out.alloc B7.out.size _).trans (hb8.mono (by have := B7.out.size; simp; omega)))
        clear hb8
        obtain ⟨l8, A08, A18, _, _⟩ := O8.out
        go_wp2_with (go_at_call 19; refine (Scale.scAt (Scale.spec a fn fd md w8) HN.out HB.out).mono ?_; rintro e w9 ⟨rfl, hb9⟩; refine Hid.out ?_)
        refine Lib.hid ?_
        have B9 : Hid (Below w.heap.size w w9) := Lib.hid (B8.out.trans (hb9.mono B8.out.size))
        obtain ⟨l9, A09, A19, _, _⟩ := O8.out.below hb9
        clear hb9 l8 A08 A18
        cases rB with
        | false =>
          obtain rfl := H0.out rfl
          go_wp2_with fail
          go_ret
          exact ⟨by simp, B9.out⟩
        | true =>
          obtain ⟨ho, hre⟩ := H1.out rfl
          have hs := scaled ho
          rw [← hre] at hs
          obtain ⟨⟨s1, s2⟩, ⟨s3, s4⟩, ⟨s5, s6⟩, ⟨s7, s8⟩, ⟨s9, s10⟩, s11⟩ := hs
          have S11 := Lib.hid s11
          clear hre ho s11 H0 H1
          by_cases hmd : md < 3
          · go_wp2_with fail
            go_ret
            exact ⟨by simp <;> omega, B9.out⟩
          · obtain ⟨s12, s13⟩ := S11.out (by omega)
            go_wp2_with fail
            go_ret
            exact ⟨by simp <;> omega, B9.out⟩

end Go.Proofs.YthobejaiapdanaaDoor.MoneyWalk
