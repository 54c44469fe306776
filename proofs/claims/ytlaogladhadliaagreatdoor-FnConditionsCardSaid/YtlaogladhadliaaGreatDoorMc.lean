/-
  The walk of the law FnConditions.
  The law FnConditions returns true at every input, and its arguments read afterwards as before, the listed variables of the library holding what the program's text lays.
-/
import Derived.Test.YtlaogladhadliaaGreatDoorMa
import Derived.Test.YtlaogladhadliaaGreatDoorMb
import Derived.Test.YtlaogladhadliaaGreatDoorCards
import Derived.Test.YtlaogladhadliaaGreatDoorTie
import Derived.OpenShut
import Derived.ShutString
import Derived.ChangeSlices
import Derived.Carry
import Derived.Lib.SmallJoins
import Derived.Deep.DeepHandedRow
import Derived.Deep.DeepWitnessRowRef
import Derived.LaidMore
import Derived.MakeChecks
import Derived.Stop.LaidErr
namespace Go.Proofs.YtlaogladhadliaaGreatDoor.CdW
open Go.RowKit Go.Proofs.YtlaogladhadliaaGreatDoor.Cond Go.Proofs.YtlaogladhadliaaGreatDoor.CurDay Go.Proofs.YtlaogladhadliaaGreatDoor.DrD Go.Proofs.YtlaogladhadliaaGreatDoor.RdT
set_option linter.unusedVariables false
set_option linter.unusedSimpArgs false

theorem ev_smp {q : Q} {f : Bool} {ss : List ByteArray} {z : Int} {v ok : Bool} (h : EvIs q.c f ss z v ok) (hq : q.ok) (hs : q.size ≤ 15) : EvIs (smp q).c f ss z v ok := by
  have e1 : (smp q).c.good = true := q_good (smp_ok hq) (by have := smp_size q; omega)
  have e2 : q.c.good = true := q_good hq hs
  constructor
  · intro hn
    exact h.no (by rw [e1] at hn; rw [e2]; exact hn)
  · intro q' hq' hy
    obtain rfl := Q.c_inj hq'
    rw [e1] at hy
    have := h.yes q rfl (by rw [e2]; exact hy)
    have hz : 0 ≤ z := by
      simp only [Bool.true_and, Bool.and_eq_true, isDy, decide_eq_true_eq] at hy
      exact hy.2.1
    rw [smp_holds _ _ hz]
    exact this
theorem sf_smp {q : Q} (hq : q.ok) (hs : q.size ≤ 15) : SfIs (smp q).c (smp q).c true := by
  have e1 : (smp q).c.good = true := q_good (smp_ok hq) (by have := smp_size q; omega)
  exact ⟨(fun h => by rw [e1] at h; cases h), (fun q' _ e _ => by
    obtain rfl := Q.c_inj e
    rw [smp_smp]
    exact ⟨rfl, rfl⟩)⟩
theorem fm_txt {q : Q} (hq : q.ok) (hs : q.size ≤ 15) : FmF.FmIs q.c ⟨(Txt.txt q).toArray⟩ true := by
  have e1 : q.c.good = true := q_good hq hs
  exact ⟨(fun h => by rw [e1] at h; cases h), (fun q' e _ => by
    obtain rfl := Q.c_inj e
    exact ⟨rfl, rfl⟩)⟩
theorem fok_bool (ss : List ByteArray) : ∃ f : Bool, f = true ↔ FOk ss := by
  classical
  exact ⟨decide (FOk ss), decide_eq_true_iff⟩

set_option maxHeartbeats 1000000 in
theorem specValid (k : K) (w : World) (hin : Lies w w.heap.size k) (hw : k.cond.wt ≤ 1048576) (g : Bool) (hg : k.cond.good = g) :
    Calls Tryz.prog 9 #[k.val] w fun e w' => e = .returned (.bool g) ∧ Below w.heap.size w w' := by
  have B0 := Lib.hid (below1 w (.cells #[.int .i64 k.op, .string k.nm, .int .i64 k.day, .slice k.A k.ps.length k.cap] 26))
  have HG := l5Good k _ (hin.on B0.out) hw
  rw [hg] at HG
  have HGH := Lib.hid HG
  clear HG hin hw hg
  go_enter Tryz.func9, Tryz.ntmps9
  go_wp2_with (go_at_call 23; refine HGH.out.mono ?_; rintro e w2 ⟨rfl, hb2⟩)
  go_ret
  exact ⟨rfl, B0.out.trans (hb2.mono B0.out.size)⟩

theorem row_sp {w : World} {S m cf : Nat} {F : Option Addr} {D : List (List UInt8)} (h : UniT.Own w S (.slice F m cf) D) : ∀ ad, F = some ad → 0 < m → ad = ⟨ad.block, ad.off, none⟩ := by
  intro ad e h0
  rcases h.2 with ⟨hv, _⟩ | ⟨g, c, cur, hv, _⟩
  · cases hv; cases e
  · injection hv with h1 h2 h3
    rw [h1] at e
    injection e with e
    rw [← e]
theorem row_is {w : World} {S m cf : Nat} {F : Option Addr} {D : List (List UInt8)} (h : UniT.Own w S (.slice F m cf) D) (hm : m = D.length) : Row.Is w w.heap.size F (UniT.strs D) := by
  subst hm
  refine Row.Is.of_own (base := S) (n := D.length) (cap := cf) ?_ (by simp [UniT.strs])
  rw [← UniT.map_strs]; exact h

theorem bigWalk (A : Option Addr) (n cap : Nat) (w : World) (h : 65536 < n) (hm : n ≤ maxLen) :
    Calls Tryz.prog 3 #[.slice A n cap] w fun e w' => e = .returned (.bool true) ∧ Below w.heap.size w w' := by
  have HV := Lib.hid (vBigYes A n cap w h hm)
  clear h hm
  go_enter Tryz.func3, Tryz.ntmps3
  go_wp2_with (go_at_call 4; refine HV.out.mono ?_; rintro e w' ⟨rfl, rfl⟩)
  go_ret
  exact ⟨rfl, Below.refl _ _⟩

set_option maxRecDepth 100000 in
set_option maxHeartbeats 16000000 in
theorem small (A : Option Addr) (n cap : Nat) (w : World) (hT : Tab.Tab w) (hL : LiesD.Lies w) (HV : Hid (Calls Tryz.prog 4 #[.slice A n cap] w fun e w' => e = .returned (.bool false) ∧ w = w'))
    (HD : Hid (Calls Tryz.prog 5 #[.slice A n cap] w (EdAns w))) :
    Calls Tryz.prog 3 #[.slice A n cap] w fun e w' => e = .returned (.bool true) ∧ Below w.heap.size w w' := by
  obtain ⟨dt, hdt⟩ := dt_is
  have HDT := Lib.hid hdt
  have TT := Lib.hid hT
  have LL := Lib.hid hL
  clear hdt hT hL
  go_enter Tryz.func3, Tryz.ntmps3
  go_wp2_with (go_at_call 4; refine HV.out.mono ?_; rintro e w' ⟨rfl, rfl⟩; refine Hid.out ?_)
  refine Lib.hid ?_
  go_wp2_with (go_at_call 5; refine HD.out.mono ?_; rintro e w1 ⟨x, F, m, cf, D, z, rfl, hW, hl, hm, hfl, ho, hz, hb⟩; have HM := Lib.hid hm; clear hm; refine Hid.out ?_)
  refine Lib.hid ?_
  have HW : Hid (x.cond.wt ≤ 1048576) := Lib.hid (Nat.le_trans hW (by omega))
  have HSP := Lib.hid (row_sp ho)
  have HN : Hid (m = (UniT.strs D).length) := Lib.hid (by rw [HM.out]; simp [UniT.strs])
  have hm2 : m ≤ 20 := by have := HM.out; have := hfl.1; omega
  have HS : Hid (∀ p ∈ UniT.strs D, p.size ≤ maxLen) := Lib.hid fun p hp => by
    obtain ⟨l, hl, rfl⟩ := List.mem_map.1 hp
    have := hfl.2 l hl
    show l.toArray.size ≤ maxLen
    unfold maxLen
    simp; omega
  obtain ⟨f, hf⟩ := fok_bool (UniT.strs D)
  have HF := Lib.hid hf
  obtain ⟨v, ok, hev⟩ := ev_is x.cond f (UniT.strs D) z
  have HEV := Lib.hid hev
  obtain ⟨W1, hW1⟩ : ∃ W1, W1 = w1.alloc (.cells #[.int .i64 x.op, .string x.nm, .int .i64 x.day, .slice x.A x.ps.length x.cap] 26) := ⟨_, rfl⟩
  have hb1 := below1 w1 (.cells #[.int .i64 x.op, .string x.nm, .int .i64 x.day, .slice x.A x.ps.length x.cap] 26)
  rw [← hW1] at hb1
  have BW1 := Lib.hid (hb.trans (hb1.mono hb.size))
  have LX1 := Lib.hid (hl.on hb1)
  have RI1 := Lib.hid (((row_is ho HM.out).below hb1).more hb1.size)
  have TT1 := Lib.hid (TT.out.below BW1.out)
  have LL1 := Lib.hid (LL.out.below BW1.out)
  have BX1 : Hid (B4 w1.heap.size W1 (.int .i64 x.op) (.string x.nm) (.int .i64 x.day) (.slice x.A x.ps.length x.cap)) := Lib.hid (by rw [hW1]; exact B4.new _ _ _ _ _ _)
  have HW1 := Lib.hid hW1
  generalize UniT.strs D = ss at *
  clear hW1 hb1 hb hl ho hfl hf hev hW TT LL HV HD
  have HC := Lib.hid (implEv x F m cf ss z W1 LX1.out HW.out HN.out (by omega) RI1.out HS.out HSP.out f HF.out v ok HEV.out)
  go_wp2_with (go_at_call 6; (try rw [← HW1.out]); refine HC.out.mono ?_; rintro e w2 ⟨rfl, hb⟩; refine Hid.out ?_)
  refine Lib.hid ?_
  clear HC
  have BW2 := Lib.hid (BW1.out.trans (hb.mono BW1.out.size))
  have LX2 := Lib.hid (LX1.out.on hb)
  have RI2 := Lib.hid ((RI1.out.below hb).more hb.size)
  have TT2 := Lib.hid (TT1.out.below hb)
  have LL2 := Lib.hid (LL1.out.below hb)
  have BX2 := Lib.hid (BX1.out.on hb)
  clear LX1
  clear RI1
  clear TT1
  clear LL1
  clear BX1
  clear hb
  by_cases hg : x.cond.good = true
  · skip
    obtain ⟨q, hq, hqo, hqs⟩ := good_q hg
    have HQ := Lib.hid hq
    have HGD := Lib.hid hg
    have HQO := Lib.hid (And.intro hqo hqs)
    have HSF : Hid (SfIs x.cond (smp q).c true) := Lib.hid ⟨(fun h => by rw [hg] at h; cases h), (fun q' _ e _ => by rw [Q.c_inj (hq.symm.trans e)]; exact ⟨rfl, rfl⟩)⟩
    have HEV2 : Hid (EvIs (smp q).c f ss z v ok) := Lib.hid (ev_smp (by have := HEV.out; rwa [hq] at this) hqo hqs)
    have HSF2 := Lib.hid (sf_smp hqo hqs)
    have HWS : Hid ((smp q).c.wt ≤ 1048576) := Lib.hid (by have h1 := smp_wt q; have h2 := HW.out; rw [hq, Q.wt_c] at h2; rw [Q.wt_c]; omega)
    clear hq hqo hqs hg
    have HC := Lib.hid (implSf x w2 LX2.out HW.out (smp q).c true HSF.out)
    obtain ⟨bxl, bx0, bx1, bx2, bx3, _⟩ := BX2.out
    go_wp2_with (go_at_call 7; refine HC.out.mono ?_; rintro e w3 ⟨r, rfl, hr, hwr, hge, hb⟩; refine Hid.out ?_)
    refine Lib.hid ?_
    clear bxl bx0 bx1 bx2 bx3
    clear HC
    have HCr := Lib.hid hr
    have LR3 := Lib.hid hwr.lies
    clear hr hwr hge
    have BW3 := Lib.hid (BW2.out.trans (hb.mono BW2.out.size))
    have LX3 := Lib.hid (LX2.out.on hb)
    have RI3 := Lib.hid ((RI2.out.below hb).more hb.size)
    have TT3 := Lib.hid (TT2.out.below hb)
    have LL3 := Lib.hid (LL2.out.below hb)
    have BX3 := Lib.hid (BX2.out.on hb)
    clear LX2
    clear RI2
    clear TT2
    clear LL2
    clear BX2
    clear hb
    obtain ⟨W4, hW4⟩ : ∃ W, W = w3.alloc (.cells #[.int .i64 r.op, .string r.nm, .int .i64 r.day, .slice r.A r.ps.length r.cap] 26) := ⟨_, rfl⟩
    have hb := below1 w3 (.cells #[.int .i64 r.op, .string r.nm, .int .i64 r.day, .slice r.A r.ps.length r.cap] 26)
    rw [← hW4] at hb
    have BS4 : Hid (B4 w3.heap.size W4 (.int .i64 r.op) (.string r.nm) (.int .i64 r.day) (.slice r.A r.ps.length r.cap)) := Lib.hid (by rw [hW4]; exact B4.new _ _ _ _ _ _)
    have HW4 := Lib.hid hW4
    clear hW4
    have BW4 := Lib.hid (BW3.out.trans (hb.mono BW3.out.size))
    have LX4 := Lib.hid (LX3.out.on hb)
    have RI4 := Lib.hid ((RI3.out.below hb).more hb.size)
    have TT4 := Lib.hid (TT3.out.below hb)
    have LL4 := Lib.hid (LL3.out.below hb)
    have BX4 := Lib.hid (BX3.out.on hb)
    have LR4 := Lib.hid (LR3.out.on hb)
    clear hb
    have HC := Lib.hid (specEv x F m cf ss z W4 LX4.out HW.out HN.out (by omega) RI4.out f HF.out v ok HEV.out)
    obtain ⟨bxl, bx0, bx1, bx2, bx3, _⟩ := BX3.out
    go_wp2_with (go_at_call 8; (try rw [← HW4.out]); refine HC.out.mono ?_; rintro e w5 ⟨rfl, hb⟩; refine Hid.out ?_)
    refine Lib.hid ?_
    clear bxl bx0 bx1 bx2 bx3
    clear HC
    have BW5 := Lib.hid (BW4.out.trans (hb.mono BW4.out.size))
    have LX5 := Lib.hid (LX4.out.on hb)
    have RI5 := Lib.hid ((RI4.out.below hb).more hb.size)
    have TT5 := Lib.hid (TT4.out.below hb)
    have LL5 := Lib.hid (LL4.out.below hb)
    have BX5 := Lib.hid (BX4.out.on hb)
    have LR5 := Lib.hid (LR4.out.on hb)
    have BS5 := Lib.hid (BS4.out.on hb)
    clear LX4
    clear RI4
    clear TT4
    clear LL4
    clear BX4
    clear LR4
    clear BS4
    clear hb
    have HC := Lib.hid (specValid x w5 LX5.out HW.out true HGD.out)
    obtain ⟨bxl, bx0, bx1, bx2, bx3, _⟩ := BX5.out
    go_wp2_with (go_at_call 9; refine HC.out.mono ?_; rintro e w6 ⟨rfl, hb⟩; refine Hid.out ?_)
    refine Lib.hid ?_
    clear bxl bx0 bx1 bx2 bx3
    clear HC
    have BW6 := Lib.hid (BW5.out.trans (hb.mono BW5.out.size))
    have LX6 := Lib.hid (LX5.out.on hb)
    have RI6 := Lib.hid ((RI5.out.below hb).more hb.size)
    have TT6 := Lib.hid (TT5.out.below hb)
    have LL6 := Lib.hid (LL5.out.below hb)
    have BX6 := Lib.hid (BX5.out.on hb)
    have LR6 := Lib.hid (LR5.out.on hb)
    have BS6 := Lib.hid (BS5.out.on hb)
    clear LX5
    clear RI5
    clear TT5
    clear LL5
    clear BX5
    clear LR5
    clear BS5
    clear hb
    have HC := Lib.hid (implEv r F m cf ss z w6 LR6.out (by rw [HCr.out]; exact HWS.out) HN.out (by omega) RI6.out HS.out HSP.out f HF.out v ok (by rw [HCr.out]; exact HEV2.out))
    obtain ⟨bsl, bs0, bs1, bs2, bs3, _⟩ := BS6.out
    go_wp2_with (go_at_call 6; refine HC.out.mono ?_; rintro e w7 ⟨rfl, hb⟩; refine Hid.out ?_)
    refine Lib.hid ?_
    clear bsl bs0 bs1 bs2 bs3
    clear HC
    have BW7 := Lib.hid (BW6.out.trans (hb.mono BW6.out.size))
    have LX7 := Lib.hid (LX6.out.on hb)
    have RI7 := Lib.hid ((RI6.out.below hb).more hb.size)
    have TT7 := Lib.hid (TT6.out.below hb)
    have LL7 := Lib.hid (LL6.out.below hb)
    have BX7 := Lib.hid (BX6.out.on hb)
    have LR7 := Lib.hid (LR6.out.on hb)
    have BS7 := Lib.hid (BS6.out.on hb)
    clear LX6
    clear RI6
    clear TT6
    clear LL6
    clear BX6
    clear LR6
    clear BS6
    clear hb
    have HC := Lib.hid (implSf r w7 LR7.out (by rw [HCr.out]; exact HWS.out) (smp q).c true (by rw [HCr.out]; exact HSF2.out))
    obtain ⟨bsl, bs0, bs1, bs2, bs3, _⟩ := BS7.out
    go_wp2_with (go_at_call 7; refine HC.out.mono ?_; rintro e w8 ⟨a, rfl, hr, hwr, hge, hb⟩; refine Hid.out ?_)
    refine Lib.hid ?_
    clear bsl bs0 bs1 bs2 bs3
    clear HC
    have HCa := Lib.hid hr
    have LA8 := Lib.hid hwr.lies
    clear hr hwr hge
    have BW8 := Lib.hid (BW7.out.trans (hb.mono BW7.out.size))
    have LX8 := Lib.hid (LX7.out.on hb)
    have RI8 := Lib.hid ((RI7.out.below hb).more hb.size)
    have TT8 := Lib.hid (TT7.out.below hb)
    have LL8 := Lib.hid (LL7.out.below hb)
    have BX8 := Lib.hid (BX7.out.on hb)
    have LR8 := Lib.hid (LR7.out.on hb)
    have BS8 := Lib.hid (BS7.out.on hb)
    clear LX7
    clear RI7
    clear TT7
    clear LL7
    clear BX7
    clear LR7
    clear BS7
    clear hb
    obtain ⟨W9, hW9⟩ : ∃ W, W = w8.alloc (.cells #[.int .i64 a.op, .string a.nm, .int .i64 a.day, .slice a.A a.ps.length a.cap] 26) := ⟨_, rfl⟩
    have hb := below1 w8 (.cells #[.int .i64 a.op, .string a.nm, .int .i64 a.day, .slice a.A a.ps.length a.cap] 26)
    rw [← hW9] at hb
    have BA9 : Hid (B4 w8.heap.size W9 (.int .i64 a.op) (.string a.nm) (.int .i64 a.day) (.slice a.A a.ps.length a.cap)) := Lib.hid (by rw [hW9]; exact B4.new _ _ _ _ _ _)
    have HW9 := Lib.hid hW9
    clear hW9
    have BW9 := Lib.hid (BW8.out.trans (hb.mono BW8.out.size))
    have LX9 := Lib.hid (LX8.out.on hb)
    have RI9 := Lib.hid ((RI8.out.below hb).more hb.size)
    have TT9 := Lib.hid (TT8.out.below hb)
    have LL9 := Lib.hid (LL8.out.below hb)
    have BX9 := Lib.hid (BX8.out.on hb)
    have LR9 := Lib.hid (LR8.out.on hb)
    have BS9 := Lib.hid (BS8.out.on hb)
    have LA9 := Lib.hid (LA8.out.on hb)
    clear hb
    have HSM : Hid (sameC a.cond r.cond = true) := Lib.hid (by rw [HCa.out, HCr.out]; exact (same_iff _ _).2 rfl)
    cases ok
    · skip
      have HC := vSame a r W9 LA9.out LR9.out
      rw [HSM.out] at HC
      have HCH := Lib.hid HC
      clear HC
      have HC := Lib.hid (HCH.out)
      obtain ⟨bsl, bs0, bs1, bs2, bs3, _⟩ := BS8.out
      go_wp2_with (go_at_call 10; (try rw [← HW9.out]); refine HC.out.mono ?_; rintro e w10 ⟨rfl, hb⟩; refine Hid.out ?_)
      refine Lib.hid ?_
      clear bsl bs0 bs1 bs2 bs3
      clear HC
      have BW10 := Lib.hid (BW9.out.trans (hb.mono BW9.out.size))
      have LX10 := Lib.hid (LX9.out.on hb)
      have RI10 := Lib.hid ((RI9.out.below hb).more hb.size)
      have TT10 := Lib.hid (TT9.out.below hb)
      have LL10 := Lib.hid (LL9.out.below hb)
      have BX10 := Lib.hid (BX9.out.on hb)
      have LR10 := Lib.hid (LR9.out.on hb)
      have BS10 := Lib.hid (BS9.out.on hb)
      have LA10 := Lib.hid (LA9.out.on hb)
      have BA10 := Lib.hid (BA9.out.on hb)
      clear LX9
      clear RI9
      clear TT9
      clear LL9
      clear BX9
      clear LR9
      clear BS9
      clear LA9
      clear BA9
      clear hb
      have HC := Lib.hid (FmF.implFm x w10 LX10.out HW.out TT10.out LL10.out.tab ⟨(Txt.txt q).toArray⟩ true (by rw [HQ.out]; exact fm_txt HQO.out.1 HQO.out.2))
      obtain ⟨bxl, bx0, bx1, bx2, bx3, _⟩ := BX10.out
      go_wp2_with (go_at_call 11; refine HC.out.mono ?_; rintro e w11 ⟨rfl, hb⟩; refine Hid.out ?_)
      refine Lib.hid ?_
      clear bxl bx0 bx1 bx2 bx3
      clear HC
      have BW11 := Lib.hid (BW10.out.trans (hb.mono BW10.out.size))
      have LX11 := Lib.hid (LX10.out.on hb)
      have RI11 := Lib.hid ((RI10.out.below hb).more hb.size)
      have TT11 := Lib.hid (TT10.out.below hb)
      have LL11 := Lib.hid (LL10.out.below hb)
      have BX11 := Lib.hid (BX10.out.on hb)
      have LR11 := Lib.hid (LR10.out.on hb)
      have BS11 := Lib.hid (BS10.out.on hb)
      have LA11 := Lib.hid (LA10.out.on hb)
      have BA11 := Lib.hid (BA10.out.on hb)
      clear LX10
      clear RI10
      clear TT10
      clear LL10
      clear BX10
      clear LR10
      clear BS10
      clear LA10
      clear BA10
      clear hb
      have HLT : Hid ((Txt.txt q).length ≤ 1048576) := Lib.hid (by have := Txt.txt_len q HQO.out.1; have := HQO.out.2; omega)
      have HC := Lib.hid (implPc dt HDT.out (Txt.txt q) w11 HLT.out TT11.out LL11.out (some q) (pc_txt HDT.out HQO.out.1 HQO.out.2).symm)
      go_wp2_with (go_at_call 12; refine HC.out.mono ?_; rintro e w12 ⟨b, rfl, hr, hwr, hge, hb⟩; refine Hid.out ?_)
      refine Lib.hid ?_
      clear HC
      have HCb := Lib.hid hr
      have LB12 := Lib.hid hwr.lies
      clear hr hwr hge
      have BW12 := Lib.hid (BW11.out.trans (hb.mono BW11.out.size))
      have LX12 := Lib.hid (LX11.out.on hb)
      have RI12 := Lib.hid ((RI11.out.below hb).more hb.size)
      have TT12 := Lib.hid (TT11.out.below hb)
      have LL12 := Lib.hid (LL11.out.below hb)
      have BX12 := Lib.hid (BX11.out.on hb)
      have LR12 := Lib.hid (LR11.out.on hb)
      have BS12 := Lib.hid (BS11.out.on hb)
      have LA12 := Lib.hid (LA11.out.on hb)
      have BA12 := Lib.hid (BA11.out.on hb)
      clear LX11
      clear RI11
      clear TT11
      clear LL11
      clear BX11
      clear LR11
      clear BS11
      clear LA11
      clear BA11
      clear hb
      obtain ⟨W13, hW13⟩ : ∃ W, W = w12.alloc (.cells #[.int .i64 b.op, .string b.nm, .int .i64 b.day, .slice b.A b.ps.length b.cap] 26) := ⟨_, rfl⟩
      have hb := below1 w12 (.cells #[.int .i64 b.op, .string b.nm, .int .i64 b.day, .slice b.A b.ps.length b.cap] 26)
      rw [← hW13] at hb
      have BB13 : Hid (B4 w12.heap.size W13 (.int .i64 b.op) (.string b.nm) (.int .i64 b.day) (.slice b.A b.ps.length b.cap)) := Lib.hid (by rw [hW13]; exact B4.new _ _ _ _ _ _)
      have HW13 := Lib.hid hW13
      clear hW13
      have BW13 := Lib.hid (BW12.out.trans (hb.mono BW12.out.size))
      have LX13 := Lib.hid (LX12.out.on hb)
      have RI13 := Lib.hid ((RI12.out.below hb).more hb.size)
      have TT13 := Lib.hid (TT12.out.below hb)
      have LL13 := Lib.hid (LL12.out.below hb)
      have BX13 := Lib.hid (BX12.out.on hb)
      have LR13 := Lib.hid (LR12.out.on hb)
      have BS13 := Lib.hid (BS12.out.on hb)
      have LA13 := Lib.hid (LA12.out.on hb)
      have BA13 := Lib.hid (BA12.out.on hb)
      have LB13 := Lib.hid (LB12.out.on hb)
      clear hb
      have HSB : Hid (sameC b.cond x.cond = true) := Lib.hid (by rw [HCb.out, HQ.out]; exact (same_iff _ _).2 rfl)
      have HC := vSame b x W13 LB13.out LX13.out
      rw [HSB.out] at HC
      have HCH2 := Lib.hid HC
      clear HC
      have HC := Lib.hid (HCH2.out)
      obtain ⟨bxl, bx0, bx1, bx2, bx3, _⟩ := BX12.out
      go_wp2_with (go_at_call 10; (try rw [← HW13.out]); refine HC.out.mono ?_; rintro e w14 ⟨rfl, hb⟩; refine Hid.out ?_)
      refine Lib.hid ?_
      clear bxl bx0 bx1 bx2 bx3
      clear HC
      have BW14 := Lib.hid (BW13.out.trans (hb.mono BW13.out.size))
      have LX14 := Lib.hid (LX13.out.on hb)
      have RI14 := Lib.hid ((RI13.out.below hb).more hb.size)
      have TT14 := Lib.hid (TT13.out.below hb)
      have LL14 := Lib.hid (LL13.out.below hb)
      have BX14 := Lib.hid (BX13.out.on hb)
      have LR14 := Lib.hid (LR13.out.on hb)
      have BS14 := Lib.hid (BS13.out.on hb)
      have LA14 := Lib.hid (LA13.out.on hb)
      have BA14 := Lib.hid (BA13.out.on hb)
      have LB14 := Lib.hid (LB13.out.on hb)
      have BB14 := Lib.hid (BB13.out.on hb)
      clear LX13
      clear RI13
      clear TT13
      clear LL13
      clear BX13
      clear LR13
      clear BS13
      clear LA13
      clear BA13
      clear LB13
      clear BB13
      clear hb
      go_wp2_with fail
      go_ret
      exact ⟨rfl, BW14.out⟩
    · skip
      have HC := vSame a r W9 LA9.out LR9.out
      rw [HSM.out] at HC
      have HCH := Lib.hid HC
      clear HC
      have HC := Lib.hid (HCH.out)
      obtain ⟨bsl, bs0, bs1, bs2, bs3, _⟩ := BS8.out
      go_wp2_with (go_at_call 10; (try rw [← HW9.out]); refine HC.out.mono ?_; rintro e w10 ⟨rfl, hb⟩; refine Hid.out ?_)
      refine Lib.hid ?_
      clear bsl bs0 bs1 bs2 bs3
      clear HC
      have BW10 := Lib.hid (BW9.out.trans (hb.mono BW9.out.size))
      have LX10 := Lib.hid (LX9.out.on hb)
      have RI10 := Lib.hid ((RI9.out.below hb).more hb.size)
      have TT10 := Lib.hid (TT9.out.below hb)
      have LL10 := Lib.hid (LL9.out.below hb)
      have BX10 := Lib.hid (BX9.out.on hb)
      have LR10 := Lib.hid (LR9.out.on hb)
      have BS10 := Lib.hid (BS9.out.on hb)
      have LA10 := Lib.hid (LA9.out.on hb)
      have BA10 := Lib.hid (BA9.out.on hb)
      clear LX9
      clear RI9
      clear TT9
      clear LL9
      clear BX9
      clear LR9
      clear BS9
      clear LA9
      clear BA9
      clear hb
      have HC := Lib.hid (FmF.implFm x w10 LX10.out HW.out TT10.out LL10.out.tab ⟨(Txt.txt q).toArray⟩ true (by rw [HQ.out]; exact fm_txt HQO.out.1 HQO.out.2))
      obtain ⟨bxl, bx0, bx1, bx2, bx3, _⟩ := BX10.out
      go_wp2_with (go_at_call 11; refine HC.out.mono ?_; rintro e w11 ⟨rfl, hb⟩; refine Hid.out ?_)
      refine Lib.hid ?_
      clear bxl bx0 bx1 bx2 bx3
      clear HC
      have BW11 := Lib.hid (BW10.out.trans (hb.mono BW10.out.size))
      have LX11 := Lib.hid (LX10.out.on hb)
      have RI11 := Lib.hid ((RI10.out.below hb).more hb.size)
      have TT11 := Lib.hid (TT10.out.below hb)
      have LL11 := Lib.hid (LL10.out.below hb)
      have BX11 := Lib.hid (BX10.out.on hb)
      have LR11 := Lib.hid (LR10.out.on hb)
      have BS11 := Lib.hid (BS10.out.on hb)
      have LA11 := Lib.hid (LA10.out.on hb)
      have BA11 := Lib.hid (BA10.out.on hb)
      clear LX10
      clear RI10
      clear TT10
      clear LL10
      clear BX10
      clear LR10
      clear BS10
      clear LA10
      clear BA10
      clear hb
      have HLT : Hid ((Txt.txt q).length ≤ 1048576) := Lib.hid (by have := Txt.txt_len q HQO.out.1; have := HQO.out.2; omega)
      have HC := Lib.hid (implPc dt HDT.out (Txt.txt q) w11 HLT.out TT11.out LL11.out (some q) (pc_txt HDT.out HQO.out.1 HQO.out.2).symm)
      go_wp2_with (go_at_call 12; refine HC.out.mono ?_; rintro e w12 ⟨b, rfl, hr, hwr, hge, hb⟩; refine Hid.out ?_)
      refine Lib.hid ?_
      clear HC
      have HCb := Lib.hid hr
      have LB12 := Lib.hid hwr.lies
      clear hr hwr hge
      have BW12 := Lib.hid (BW11.out.trans (hb.mono BW11.out.size))
      have LX12 := Lib.hid (LX11.out.on hb)
      have RI12 := Lib.hid ((RI11.out.below hb).more hb.size)
      have TT12 := Lib.hid (TT11.out.below hb)
      have LL12 := Lib.hid (LL11.out.below hb)
      have BX12 := Lib.hid (BX11.out.on hb)
      have LR12 := Lib.hid (LR11.out.on hb)
      have BS12 := Lib.hid (BS11.out.on hb)
      have LA12 := Lib.hid (LA11.out.on hb)
      have BA12 := Lib.hid (BA11.out.on hb)
      clear LX11
      clear RI11
      clear TT11
      clear LL11
      clear BX11
      clear LR11
      clear BS11
      clear LA11
      clear BA11
      clear hb
      obtain ⟨W13, hW13⟩ : ∃ W, W = w12.alloc (.cells #[.int .i64 b.op, .string b.nm, .int .i64 b.day, .slice b.A b.ps.length b.cap] 26) := ⟨_, rfl⟩
      have hb := below1 w12 (.cells #[.int .i64 b.op, .string b.nm, .int .i64 b.day, .slice b.A b.ps.length b.cap] 26)
      rw [← hW13] at hb
      have BB13 : Hid (B4 w12.heap.size W13 (.int .i64 b.op) (.string b.nm) (.int .i64 b.day) (.slice b.A b.ps.length b.cap)) := Lib.hid (by rw [hW13]; exact B4.new _ _ _ _ _ _)
      have HW13 := Lib.hid hW13
      clear hW13
      have BW13 := Lib.hid (BW12.out.trans (hb.mono BW12.out.size))
      have LX13 := Lib.hid (LX12.out.on hb)
      have RI13 := Lib.hid ((RI12.out.below hb).more hb.size)
      have TT13 := Lib.hid (TT12.out.below hb)
      have LL13 := Lib.hid (LL12.out.below hb)
      have BX13 := Lib.hid (BX12.out.on hb)
      have LR13 := Lib.hid (LR12.out.on hb)
      have BS13 := Lib.hid (BS12.out.on hb)
      have LA13 := Lib.hid (LA12.out.on hb)
      have BA13 := Lib.hid (BA12.out.on hb)
      have LB13 := Lib.hid (LB12.out.on hb)
      clear hb
      have HSB : Hid (sameC b.cond x.cond = true) := Lib.hid (by rw [HCb.out, HQ.out]; exact (same_iff _ _).2 rfl)
      have HC := vSame b x W13 LB13.out LX13.out
      rw [HSB.out] at HC
      have HCH2 := Lib.hid HC
      clear HC
      have HC := Lib.hid (HCH2.out)
      obtain ⟨bxl, bx0, bx1, bx2, bx3, _⟩ := BX12.out
      go_wp2_with (go_at_call 10; (try rw [← HW13.out]); refine HC.out.mono ?_; rintro e w14 ⟨rfl, hb⟩; refine Hid.out ?_)
      refine Lib.hid ?_
      clear bxl bx0 bx1 bx2 bx3
      clear HC
      have BW14 := Lib.hid (BW13.out.trans (hb.mono BW13.out.size))
      have LX14 := Lib.hid (LX13.out.on hb)
      have RI14 := Lib.hid ((RI13.out.below hb).more hb.size)
      have TT14 := Lib.hid (TT13.out.below hb)
      have LL14 := Lib.hid (LL13.out.below hb)
      have BX14 := Lib.hid (BX13.out.on hb)
      have LR14 := Lib.hid (LR13.out.on hb)
      have BS14 := Lib.hid (BS13.out.on hb)
      have LA14 := Lib.hid (LA13.out.on hb)
      have BA14 := Lib.hid (BA13.out.on hb)
      have LB14 := Lib.hid (LB13.out.on hb)
      have BB14 := Lib.hid (BB13.out.on hb)
      clear LX13
      clear RI13
      clear TT13
      clear LL13
      clear BX13
      clear LR13
      clear BS13
      clear LA13
      clear BA13
      clear LB13
      clear BB13
      clear hb
      go_wp2_with fail
      go_ret
      exact ⟨rfl, BW14.out⟩
  · skip
    have hg2 : x.cond.good = false := by simpa using hg
    have HGD := Lib.hid hg2
    have HSF : Hid (SfIs x.cond (.mk 0 .empty 0 []) false) := Lib.hid ⟨fun _ => ⟨rfl, rfl⟩, fun _ h => absurd h hg⟩
    have HNO := Lib.hid (HEV.out.no (by rw [hg2]; rfl))
    obtain ⟨rfl, rfl⟩ := HNO.out
    clear hg hg2
    have HC := Lib.hid (implSf x w2 LX2.out HW.out (.mk 0 .empty 0 []) false HSF.out)
    obtain ⟨bxl, bx0, bx1, bx2, bx3, _⟩ := BX2.out
    go_wp2_with (go_at_call 7; refine HC.out.mono ?_; rintro e w3 ⟨r, rfl, hr, hwr, hge, hb⟩; refine Hid.out ?_)
    refine Lib.hid ?_
    clear bxl bx0 bx1 bx2 bx3
    clear HC
    have HCr := Lib.hid hr
    have LR3 := Lib.hid hwr.lies
    clear hr hwr hge
    have BW3 := Lib.hid (BW2.out.trans (hb.mono BW2.out.size))
    have LX3 := Lib.hid (LX2.out.on hb)
    have RI3 := Lib.hid ((RI2.out.below hb).more hb.size)
    have TT3 := Lib.hid (TT2.out.below hb)
    have LL3 := Lib.hid (LL2.out.below hb)
    have BX3 := Lib.hid (BX2.out.on hb)
    clear LX2
    clear RI2
    clear TT2
    clear LL2
    clear BX2
    clear hb
    have hro : r.op = 0 := by have := HCr.out; cases r with | mk op nm day A cap ps => simp only [K.cond, C.mk.injEq] at this; exact this.1
    have HRO := Lib.hid hro
    clear hro
    obtain ⟨W4, hW4⟩ : ∃ W, W = w3.alloc (.cells #[.int .i64 r.op, .string r.nm, .int .i64 r.day, .slice r.A r.ps.length r.cap] 26) := ⟨_, rfl⟩
    have hb := below1 w3 (.cells #[.int .i64 r.op, .string r.nm, .int .i64 r.day, .slice r.A r.ps.length r.cap] 26)
    rw [← hW4] at hb
    have BS4 : Hid (B4 w3.heap.size W4 (.int .i64 r.op) (.string r.nm) (.int .i64 r.day) (.slice r.A r.ps.length r.cap)) := Lib.hid (by rw [hW4]; exact B4.new _ _ _ _ _ _)
    have HW4 := Lib.hid hW4
    clear hW4
    have BW4 := Lib.hid (BW3.out.trans (hb.mono BW3.out.size))
    have LX4 := Lib.hid (LX3.out.on hb)
    have RI4 := Lib.hid ((RI3.out.below hb).more hb.size)
    have TT4 := Lib.hid (TT3.out.below hb)
    have LL4 := Lib.hid (LL3.out.below hb)
    have BX4 := Lib.hid (BX3.out.on hb)
    have LR4 := Lib.hid (LR3.out.on hb)
    clear hb
    have HT0 : Hid (True) := Lib.hid trivial
    have HSE := Lib.hid (specEv x F m cf ss z W4 LX4.out HW.out HN.out (by omega) RI4.out f HF.out false false HEV.out)
    have HC := Lib.hid (HSE.out)
    obtain ⟨bxl, bx0, bx1, bx2, bx3, _⟩ := BX3.out
    go_wp2_with (go_at_call 8; (try rw [← HW4.out]); refine HC.out.mono ?_; rintro e w5 ⟨rfl, hb⟩; refine Hid.out ?_)
    refine Lib.hid ?_
    clear bxl bx0 bx1 bx2 bx3
    clear HC
    have BW5 := Lib.hid (BW4.out.trans (hb.mono BW4.out.size))
    have LX5 := Lib.hid (LX4.out.on hb)
    have RI5 := Lib.hid ((RI4.out.below hb).more hb.size)
    have TT5 := Lib.hid (TT4.out.below hb)
    have LL5 := Lib.hid (LL4.out.below hb)
    have BX5 := Lib.hid (BX4.out.on hb)
    have LR5 := Lib.hid (LR4.out.on hb)
    have BS5 := Lib.hid (BS4.out.on hb)
    clear LX4
    clear RI4
    clear TT4
    clear LL4
    clear BX4
    clear LR4
    clear BS4
    clear hb
    have HC := Lib.hid (specValid x w5 LX5.out HW.out false HGD.out)
    obtain ⟨bxl, bx0, bx1, bx2, bx3, _⟩ := BX5.out
    go_wp2_with (go_at_call 9; refine HC.out.mono ?_; rintro e w6 ⟨rfl, hb⟩; refine Hid.out ?_)
    refine Lib.hid ?_
    clear bxl bx0 bx1 bx2 bx3
    clear HC
    have BW6 := Lib.hid (BW5.out.trans (hb.mono BW5.out.size))
    have LX6 := Lib.hid (LX5.out.on hb)
    have RI6 := Lib.hid ((RI5.out.below hb).more hb.size)
    have TT6 := Lib.hid (TT5.out.below hb)
    have LL6 := Lib.hid (LL5.out.below hb)
    have BX6 := Lib.hid (BX5.out.on hb)
    have LR6 := Lib.hid (LR5.out.on hb)
    have BS6 := Lib.hid (BS5.out.on hb)
    clear LX5
    clear RI5
    clear TT5
    clear LL5
    clear BX5
    clear LR5
    clear BS5
    clear hb
    have HBS := BS6.out
    rw [HRO.out] at HBS
    obtain ⟨_, s0, _, _, _, _⟩ := HBS
    go_wp2_with fail
    go_ret
    exact ⟨rfl, BW6.out⟩

theorem walk (A : Option Addr) (len cap : Nat) (w : World) (hm : len ≤ maxLen) (hA : Cur.Bytes w w.heap.size A len) (hT : Tab.Tab w) (hL : LiesD.Lies w) :
    Calls Tryz.prog 3 #[.slice A len cap] w fun e w' => e = .returned (.bool true) ∧ Below w.heap.size w w' := by
  by_cases h : 65536 < len
  · exact bigWalk A len cap w h hm
  · exact small A len cap w hT hL (Lib.hid (vBigNo A len cap w (by omega))) (Lib.hid (drawEv A len cap w (by omega) hA))

end Go.Proofs.YtlaogladhadliaaGreatDoor.CdW

namespace Go.Proofs.YtlaogladhadliaaGreatDoor.fnConditions
open Go.ChangeShapes Go.WideShapes Go.ChangeAt Go.RowKit Go.Joins
open Go.ChangeMaps (open_string shut_string)
set_option linter.unusedVariables false

theorem own : ownKnob Tryz.prog.godebug = none := by kernel_rfl
theorem laidOut : laidOutB Tryz.prog = true := by kernel_rfl

set_option maxRecDepth 100000 in
theorem contract (H : Type) (enc : TypeId × Value → H) (W : World) (base : Nat) (args : Array Value) (ds gs : List (DataW H)) (before : List MemPlace)
    (hval : ∀ (j : Nat) t v, Tryz.f3.params[j]? = some t → args[j]? = some v → Value.okWide Tryz.prog W .any base t v)
    (hW : DataW.Whole enc Tryz.prog Tryz.f3.params.toList Rows.fnConditionsSpec.vars false W args.toList ds gs before) (hL : laidMetH Tryz.prog Rows.fnConditionsRow.laid W) (hSh : W.ShapedOpen Tryz.prog) :
    Calls Tryz.prog 3 args W fun e W' => ∃ v, e = .returned v ∧ Rows.fnConditionsSpec.post enc Tryz.prog Tryz.f3 false true false false W args v W' := by
  have hW' := hW
  obtain ⟨p, q, hA0, hV, rfl, hfz, hnd⟩ := hW
  have hA : DataW.TrodAll enc Tryz.prog W 0 (fun _ => true) true Tryz.f3.params.toList args.toList ds p := hA0
  rw [Tryz.params3] at hA hval
  obtain ⟨v0, vs0, d0, ds0, p0, q0, hargs, rfl, rfl, h0, r0⟩ := trodAll_cons hA
  obtain ⟨rfl, rfl, rfl⟩ := trodAll_nil r0
  obtain rfl : args = #[v0] := by cases args; simp_all
  rw [MakeChecks.laidMetH_plain _ _ _ (by kernel_rfl)] at hL
  have hT : Tab.Tab W := Tab.first hL.tail.tail.tail.tail.tail
  have hV1 : DataW.TrodVars enc Tryz.prog W (fun _ => true) ["loop.example/g00902/impl.daysBefore"] gs q := hV
  obtain ⟨rfl, rfl⟩ := hV1.unique (Tab.vars enc hT _)
  obtain ⟨a0, len0, cap0, rfl⟩ := okWide_slice Tryz.underlying22 (hval 0 22 v0 rfl rfl)
  have k0 := h0
  have lt0 : ∀ x ∈ p0, x.block < W.heap.size := by obtain ⟨m, hm⟩ := k0; exact DataW.trod_lt m _ _ _ hm
  obtain ⟨hm0, hB0, hc0, hz0⟩ : len0 ≤ maxLen ∧ Cur.Bytes W W.heap.size a0 len0 ∧ len0 ≤ cap0 ∧ (a0 = none → len0 = 0 ∧ cap0 = 0) := by
    obtain ⟨fuel, hf⟩ := h0
    rcases open_ints Tryz.underlying22 Tryz.underlying5 (by kernel_rfl) hf with ⟨hcs, _⟩ | ⟨x, n, c, zs, hcs, _, hl, hm, hz, _, hcell, hwz⟩
    · simp [Value.cells] at hcs
      obtain ⟨rfl, rfl, rfl⟩ := hcs
      exact ⟨by unfold maxLen; omega, fun h => by omega, Nat.le_refl _, fun _ => ⟨rfl, rfl⟩⟩
    · simp [Value.cells] at hcs
      obtain ⟨rfl, rfl, rfl⟩ := hcs
      have hz' : zs.length = cap0 := by simpa using hz
      refine ⟨by omega, fun hp => ⟨x, rfl, ?_, fun j hj => ?_⟩, hl, fun h => by cases h⟩
      · have h2 := World.block_lt_of_cell? W _ (hcell 0 (by omega))
        rwa [Cur.block_add] at h2
      · have hj' : j < zs.length := by omega
        refine ⟨zs[j], by rw [hcell j hj']; simp [List.getD, hj'], ?_⟩
        have hw := hwz zs[j] (List.getElem_mem hj')
        simpa [Lit.wf, IntKind.min, IntKind.max, IntKind.signed, IntKind.bits] using hw
  clear hA0
  refine (CdW.walk a0 len0 cap0 W hm0 hB0 hT (LiesD.lies hL)).mono fun e W' ⟨he, bel⟩ => ?_
  subst he
  exact ⟨_, rfl, _, _, _, [], _, MemPlace.row ⟨0, 0, none⟩ 13 ++ [], hW', trodAll_mk1 (shut_bool Tryz.underlying4 _), (trodAll_cons_mk (Below.trod laidOut (by kernel_rfl) (of_decide_eq_true (by kernel_rfl)) k0 bel lt0) trodAll_mk0), Tab.vars enc (hT.below bel) _, bel.frame _, fun h => by cases h⟩

theorem laid_met (os : Os) : laidMetH Tryz.prog Rows.fnConditionsRow.laid ((World.doorLaid Tryz.prog 62 os).forCall (fun _ _ => 0) ⟨#[], #[.slice none 0 0], []⟩).memory := 
  laidMetH_of_parts3 (fuel := 8) (laidMet_of_run' 8 (by kernel_rfl) (by kernel_rfl)) (by kernel_rfl) (by kernel_rfl)
theorem reads (os : Os) {H : Type} (enc : TypeId × Value → H) : ∃ places, DataW.whole enc Tryz.prog ((World.doorLaid Tryz.prog 62 os).forCall (fun _ _ => 0) ⟨#[], #[.slice none 0 0], []⟩).memory Tryz.f3.params.toList Rows.fnConditionsSpec.vars false (#[.slice none 0 0] : Array Value).toList 8 = some ([.nil], [Tab.datum], places) :=
  ⟨MemPlace.row ⟨0, 0, none⟩ 13, by kernel_rfl⟩

set_option maxRecDepth 100000 in
theorem lifted (os : Os) (started : os.Started) (H : Type) (enc : TypeId × Value → H) (F : Stop.Interp) :
    ReturnsInHanded {} Tryz.checked os 3 .any ((OpenSpec.ofChange Rows.fnConditionsSpec).preRow enc Tryz.prog Tryz.f3 Rows.fnConditionsRow.domain false Rows.fnConditionsRow.laid) (((OpenSpec.ofChange Rows.fnConditionsSpec).at F).post enc Tryz.prog Tryz.f3 false true false false) := by
  obtain ⟨places, hx⟩ := reads os enc
  refine returnsInHanded_of_row (C := Tryz.checked) (s := OpenSpec.ofChange Rows.fnConditionsSpec) own started (by kernel_rfl) Tryz.func3
    (witness_row_atRef (enc := enc) (C := Tryz.checked) false (World.doorLaid Tryz.prog 62 os) #[.slice none 0 0] rfl (by kernel_rfl) (by kernel_rfl) (by kernel_rfl)
      (OpenSpec.preRow_of_cond 8 hx (by kernel_rfl) (fun k hk => by cases hk) (by kernel_rfl) (laid_met os))) ?_
  intro W base args ds gs before hval hW _ _ _ hL hSh _
  exact contract H enc W base args ds gs before hval hW hL hSh

theorem said : Rows.FnConditionsSaid :=
  OpenClaim.holds_of_cond 3 Tryz.f3 rfl rfl rfl rfl rfl rfl rfl ⟨rfl, rfl, rfl, rfl, rfl⟩ rfl rfl rfl rfl rfl (by kernel_rfl) Tryz.func3 (by kernel_rfl)
    (of_decide_eq_true (by kernel_rfl)) (by unfold Func.isWrapper; first | (rw [if_pos (by decide +kernel)]; kernel_rfl) | (rw [if_neg (by decide +kernel)]; exact ⟨rfl, rfl⟩))
    (fun os started H enc _ F => by rw [OpenClaim.pre_eq_preRow]; exact lifted os started H enc F)

theorem plain (f : FuncId) (fn : Func) (hf : Tryz.pinned.checked.prog.funcNamed "loop.example/g00902/laws.FnConditions" = some f) (hfn : Tryz.pinned.checked.prog.funcs[f]? = some fn) :
    true = Tryz.pinned.checked.prog.looks [] ∧ ∀ (j : Nat) t, fn.params[j]? = some t → Tryz.pinned.checked.prog.wantsStandIn t = false := by
  obtain rfl : f = 3 := Option.some.inj ((show Tryz.prog.funcNamed "loop.example/g00902/laws.FnConditions" = some 3 by kernel_rfl).symm.trans hf) |>.symm
  obtain rfl : fn = Tryz.f3 := (Option.some.inj (Tryz.func3.symm.trans hfn)).symm
  refine ⟨by kernel_rfl, fun j t ht => ?_⟩
  rw [Tryz.params3] at ht
  obtain rfl : t = 22 := by simpa using Array.mem_of_getElem? ht
  exact (show Tryz.prog.wantsStandIn 22 = false by kernel_rfl)

theorem card : Rows.FnConditionsCardSaid :=
  Claim7.holds_tied_plain_at .later [] _ _ _ _ said (fun _ h => by cases h) (by kernel_rfl) (fun _ h => by cases h) fnConditions_row_tie rfl ⟨rfl, rfl⟩ (by kernel_rfl) rfl plain (by kernel_rfl)
end Go.Proofs.YtlaogladhadliaaGreatDoor.fnConditions
