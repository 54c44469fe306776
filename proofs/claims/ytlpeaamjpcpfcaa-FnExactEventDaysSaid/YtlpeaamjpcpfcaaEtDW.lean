/-
  The walk of the law FnExactEventDays.
-/
import Derived.Test.YtlpeaamjpcpfcaaEtR
import Derived.Deep.RegionHeld3
namespace Go.Proofs.Ytlpeaamjpcpfcaa.Et
open Go.RowKit Go.Proofs.Ytlpeaamjpcpfcaa.Cond Go.Proofs.Ytlpeaamjpcpfcaa.Gx
set_option linter.unusedVariables false
set_option linter.unusedSimpArgs false

set_option maxRecDepth 100000 in
set_option maxHeartbeats 8000000 in
theorem walkEventDays (A : Option Addr) (n cap : Nat) (ms : List E) (a1 : Int) (w : World) (hx0 : LiE w w.heap.size A n cap ms) (hl1 : -9223372036854775808 ≤ a1) (hu1 : a1 ≤ 9223372036854775807) :
    Calls Try.prog 11 #[.slice A n cap, .int .i64 a1] w fun e w' => e = .returned (.bool true) ∧ Below w.heap.size w w' := by
  have HI := Lib.hid hx0
  clear hx0
  obtain ⟨t, ht⟩ := t_iff (goodE ms a1)
  have HV := Lib.hid ht
  have hlen3 : (if t then dyE ms else []).length ≤ 3000 := by
    cases t
    · simp
    · have h1 := dyE_len ms
      have h2 := good_len (ht.1 rfl)
      simp only [if_true]; omega
  clear ht
  obtain ⟨D, hD⟩ : ∃ D : List Int, D = if t then dyE ms else [] := ⟨_, rfl⟩
  obtain ⟨N, hN⟩ : ∃ N, N = D.length := ⟨_, rfl⟩
  have hN3 : N ≤ 3000 := by rw [hN, hD]; exact hlen3
  have HVD := Lib.hid hD
  have HVN := Lib.hid hN
  clear hD hN
  have HSPA : Hid (∀ (W : World) (G : Nat), LiE W W.heap.size (some ⟨G, 0, none⟩) n n ms → Calls Try.prog 38 #[.slice (some ⟨G, 0, none⟩) n n, .int .i64 a1] W (IAns W.heap.size D t W)) := Lib.hid fun W G h => by
    have := specED (some ⟨G, 0, none⟩) n n ms a1 hl1 hu1 t HV.out W h
    rw [← HVD.out] at this
    exact this
  have HIMA : Hid (∀ (W : World) (G : Nat), LiE W W.heap.size (some ⟨G, 0, none⟩) n n ms → Calls Try.prog 39 #[.slice (some ⟨G, 0, none⟩) n n, .int .i64 a1] W (IAns W.heap.size D t W)) := Lib.hid fun W G h => by
    have := implED (some ⟨G, 0, none⟩) n n ms a1 t HV.out W h
    rw [← HVD.out] at this
    exact this
  go_enter Try.func11, Try.ntmps11
  by_cases hz : 1048576 < n + wtE ms
  · have HZ := szES A n cap ms 1048576 (Nat.le_refl _) w HI.out
    rw [szRes_no hz] at HZ
    have HZH := Lib.hid HZ
    clear HZ hz
    go_wp2_with (go_at_call 25; refine HZH.out.mono ?_; rintro e wz ⟨rfl, hbz⟩)
    go_ret
    exact ⟨rfl, hbz⟩
  have HZ := szES A n cap ms 1048576 (Nat.le_refl _) w HI.out
  rw [szRes_yes hz] at HZ
  have hn : n ≤ 1048576 := by omega
  obtain ⟨m1, hm1⟩ : ∃ m, m = 1048576 - (n + wtE ms) := ⟨_, rfl⟩
  rw [← hm1] at HZ
  have HZH := Lib.hid HZ
  have hm0 : (0 : Int) ≤ (m1 : Int) := by omega
  have HLN := Lib.hid HI.out.len
  clear HZ hm1 hz
  go_wp2_with (go_at_call 25; refine HZH.out.mono ?_; rintro e w1 ⟨rfl, hb⟩; refine Hid.out ?_)
  refine Lib.hid ?_
  have B1 := Lib.hid hb
  clear hb HZH
  have HT := Lib.hid (toES A n cap ms w1 (HI.out.on B1.out) hn)
  go_wp2_with (go_at_call 27; refine HT.out.mono ?_; rintro e w2 ⟨rfl, hq, hb⟩; refine Hid.out ?_)
  refine Lib.hid ?_
  clear HT
  have B2 := Lib.hid (B1.out.trans (hb.mono B1.out.size))
  have L2 := Lib.hid (hq.lie HLN.out.symm (by unfold maxLen; omega))
  generalize w1.heap.size = g1 at *
  clear hb hq
  have HCH := Lib.hid (HSPA.out w2 g1 L2.out)
  go_wp2_with (go_at_call 38; refine HCH.out.mono ?_; intro e w3 ha; obtain ⟨gS, cS, rfl, hoS, hb⟩ := IAns.fix HVN.out ha; refine Hid.out ?_)
  refine Lib.hid ?_
  clear HCH ha
  have B3 := Lib.hid (B2.out.trans (hb.mono B2.out.size))
  have S3 : Hid (IRow.Is w3 w3.heap.size (some ⟨gS, 0, none⟩) D) := Lib.hid (IRow.Is.of_own hoS HVN.out)
  clear hb hoS L2
  have HT := Lib.hid (toES A n cap ms w3 (HI.out.on B3.out) hn)
  go_wp2_with (go_at_call 27; refine HT.out.mono ?_; rintro e w4 ⟨rfl, hq, hb⟩; refine Hid.out ?_)
  refine Lib.hid ?_
  clear HT
  have K4 : Hid (Below w3.heap.size w3 w4) := Lib.hid hb
  have Y4 := Lib.hid hq
  have HG34 : Hid (w3.heap.size < w4.heap.size) := Lib.hid hq.blk.lt
  obtain ⟨g3, hg3⟩ : ∃ g, g = w3.heap.size := ⟨_, rfl⟩
  rw [← hg3] at Y4 HG34
  rw [← hg3]
  have HG3 := Lib.hid hg3
  clear hb hq hg3
  have HCH := Lib.hid (HIMA.out w4 g3 (Y4.out.lie HLN.out.symm (by unfold maxLen; omega)))
  go_wp2_with (go_at_call 39; refine HCH.out.mono ?_; intro e w5 ha; obtain ⟨gI, cI, rfl, hoI, hb⟩ := IAns.fix HVN.out ha; refine Hid.out ?_)
  refine Lib.hid ?_
  clear HCH ha
  have K5 := Lib.hid (K4.out.trans (hb.mono K4.out.size))
  have Y5 := Lib.hid (Y4.out.on hb)
  have I5 := Lib.hid hoI
  have HGI : Hid (w4.heap.size ≤ gI) := Lib.hid (row_ge hoI).1
  clear hb hoI K4 Y4
  cases t
  all_goals
    have HEQ := Lib.hid (IRow.eqI (some ⟨gI, 0, none⟩) (some ⟨gS, 0, none⟩) N cI cS w5.heap.size D w5 HVN.out (by omega) (IRow.Is.of_own I5.out HVN.out) ((S3.out.below K5.out).more K5.out.size))
    go_wp2_with (go_at_call 40; refine HEQ.out.mono ?_; rintro e _ ⟨rfl, qd, rfl⟩; refine Hid.out ?_)
    refine Lib.hid ?_
    obtain ⟨w6, hwq⟩ : ∃ v, v = w5.drewN qd := ⟨_, rfl⟩
    have hbq : Below w5.heap.size w5 w6 := by rw [hwq]; exact below_drewN (Below.refl _ _) _
    rw [← hwq]
    clear hwq HEQ
    have K6 := Lib.hid (K5.out.trans (hbq.mono K5.out.size))
    have Y6 := Lib.hid (Y5.out.on hbq)
    have I6 := Lib.hid (row_on I5.out hbq)
    have B6 := Lib.hid (B3.out.trans (K6.out.mono B3.out.size))
    clear hbq K5 Y5 I5
    have HTX := Lib.hid fun v (hv : Below w6.heap.size w6 v) => toES A n cap ms v (HI.out.on (B6.out.trans (hv.mono B6.out.size))) hn
    have HEQ : Hid (∀ v wa g, Below w6.heap.size w6 wa → RwE wa g n ms → Below wa.heap.size wa v → Calls Try.prog 28 #[.slice (some ⟨g3, 0, none⟩) n n, .slice (some ⟨g, 0, none⟩) n n] v fun e w' => e = .returned (.bool true) ∧ Below v.heap.size v w') :=
      Lib.hid fun v wa g hx hz hv => eqES _ _ n n n ms v hn ((((Y6.out.on hx).lie HLN.out.symm (by unfold maxLen; omega))).on hv) ((hz.lie HLN.out.symm (by unfold maxLen; omega)).on hv)
    have hmk1 := fun (v : World) (hv : Below w6.heap.size w6 v) => markES (some ⟨g3, 0, none⟩) n n ms 1 v (Nat.le_refl _) (by omega) ((Y6.out.on hv).wre HLN.out.symm (by unfold maxLen; omega))
    obtain ⟨mq, hmq⟩ : ∃ m, m = 1 + 4 * n := ⟨_, rfl⟩
    rw [← hmq] at hmk1
    have hmq0 : (0 : Int) ≤ (mq : Int) := by omega
    have HMK := Lib.hid hmk1
    clear hmk1 hmq
    go_wp2_with (first
      | (go_at_call 27; refine (HTX.out _ (by (repeat (first | exact Below.refl _ _ | apply Below.drew)))).mono ?_; rintro e wa ⟨rfl, hq, hb⟩; have b1 : Below w6.heap.size w6 wa := Below.trans (by (repeat (first | exact Below.refl _ _ | apply Below.drew))) (hb.mono (by first | omega | (simp; done) | (simp; omega))); have NA := Lib.hid hq; clear hb hq)
      | (go_at_call 28; refine (HEQ.out _ _ _ b1 NA.out (by (repeat (first | exact Below.refl _ _ | apply Below.drew)))).mono ?_; rintro e w7 ⟨rfl, hb⟩; have b2 : Below w6.heap.size w6 w7 := b1.trans ((Below.trans (by (repeat (first | exact Below.refl _ _ | apply Below.drew))) hb).mono (by first | exact b1.size | (have := b1.size; simp; omega))); clear hb)
      | (go_at_call 33; refine (HMK.out _ b2).mono ?_; rintro e w8 ⟨rfl, hlm, hmv⟩; refine Hid.out ?_))
    refine Lib.hid ?_
    have K7 := Lib.hid (K6.out.trans (b2.mono K6.out.size))
    have K8 : Hid (Below w3.heap.size w3 w8) := Lib.hid (K7.out.trans (Mv.belowF hmv (Nat.le_of_eq HG3.out.symm) K7.out.size))
    have I8 := Lib.hid (row_mv (row_on I6.out b2) hmv (fun h => by have := front_one h; have := HGI.out; have := HG34.out; omega))
    clear hlm hmv b1 b2 NA K6 K7 Y6 I6 B6 HTX HEQ HMK
    have HEQ := Lib.hid (IRow.eqI (some ⟨gI, 0, none⟩) (some ⟨gS, 0, none⟩) N cI cS w8.heap.size D w8 HVN.out (by omega) (IRow.Is.of_own I8.out HVN.out) ((S3.out.below K8.out).more K8.out.size))
    go_wp2_with (go_at_call 40; refine HEQ.out.mono ?_; rintro e _ ⟨rfl, qd, rfl⟩; refine Hid.out ?_)
    refine Lib.hid ?_
    obtain ⟨w9, hwq⟩ : ∃ v, v = w8.drewN qd := ⟨_, rfl⟩
    have hbq : Below w8.heap.size w8 w9 := by rw [hwq]; exact below_drewN (Below.refl _ _) _
    rw [← hwq]
    clear hwq HEQ
    have K9 := Lib.hid (K8.out.trans (hbq.mono K8.out.size))
    have I9 := Lib.hid (row_on I8.out hbq)
    clear hbq K8 I8
    have HG3I : Hid (w3.heap.size ≤ gI) := Lib.hid (by have := HGI.out; have := HG34.out; have := HG3.out; omega)
    have HMI := Lib.hid (MarkI.markI (some ⟨gI, 0, none⟩) N cI w4.heap.size _ w9 (by omega) I9.out)
    go_wp2_with (go_at_call 41; refine HMI.out.mono ?_; rintro e w10 ⟨rfl, ⟨ys, hoy, hmy⟩, hon⟩; refine Hid.out ?_)
    refine Lib.hid ?_
    have hbo : Below w3.heap.size w9 w10 := hon.below (fun ad e => by injection e with e; subst e; exact HG3I.out)
    have K10 := Lib.hid (K9.out.trans hbo)
    have I10 := Lib.hid hoy
    have HMY := Lib.hid hmy
    clear hoy hmy hon hbo HMI K9 I9
    have HHI := Lib.hid (MarkI.heldI (some ⟨gI, 0, none⟩) N cI w4.heap.size ys w10 (by omega) I10.out HMY.out)
    go_wp2_with (go_at_call 42; refine HHI.out.mono ?_; rintro e _ ⟨rfl, qd, rfl⟩; refine Hid.out ?_)
    refine Lib.hid ?_
    obtain ⟨w11, hwq⟩ : ∃ v, v = w10.drewN qd := ⟨_, rfl⟩
    have hbq : Below w10.heap.size w10 w11 := by rw [hwq]; exact below_drewN (Below.refl _ _) _
    rw [← hwq]
    clear hwq HHI
    have I11 := Lib.hid (row_on I10.out hbq)
    have K11 := Lib.hid (K10.out.trans (hbq.mono K10.out.size))
    clear hbq K10 I10
    have B11 := Lib.hid (B3.out.trans (K11.out.mono B3.out.size))
    have HT := Lib.hid (toES A n cap ms w11 (HI.out.on B11.out) hn)
    go_wp2_with (go_at_call 27; refine HT.out.mono ?_; rintro e w12 ⟨rfl, hq, hb⟩; refine Hid.out ?_)
    refine Lib.hid ?_
    clear HT
    have K12 := Lib.hid (K11.out.trans (hb.mono K11.out.size))
    have I12 := Lib.hid (row_on I11.out hb)
    have L12 := Lib.hid (hq.lie HLN.out.symm (by unfold maxLen; omega))
    generalize w11.heap.size = g11 at *
    clear hb hq K11 I11
    have HCH := Lib.hid (HIMA.out w12 g11 L12.out)
    go_wp2_with (go_at_call 39; refine HCH.out.mono ?_; intro e w13 ha; obtain ⟨gH, cH, rfl, hoH, hb⟩ := IAns.fix HVN.out ha; refine Hid.out ?_)
    refine Lib.hid ?_
    clear HCH ha
    have K13 := Lib.hid (K12.out.trans (hb.mono K12.out.size))
    have I13 := Lib.hid (row_on I12.out hb)
    have H13 := Lib.hid hoH
    clear hb hoH K12 I12 L12
    have HEQ := Lib.hid (IRow.eqI (some ⟨gH, 0, none⟩) (some ⟨gS, 0, none⟩) N cH cS w13.heap.size D w13 HVN.out (by omega) (IRow.Is.of_own H13.out HVN.out) ((S3.out.below K13.out).more K13.out.size))
    go_wp2_with (go_at_call 40; refine HEQ.out.mono ?_; rintro e _ ⟨rfl, qd, rfl⟩; refine Hid.out ?_)
    refine Lib.hid ?_
    obtain ⟨w14, hwq⟩ : ∃ v, v = w13.drewN qd := ⟨_, rfl⟩
    have hbq : Below w13.heap.size w13 w14 := by rw [hwq]; exact below_drewN (Below.refl _ _) _
    rw [← hwq]
    clear hwq HEQ
    have K14 := Lib.hid (K13.out.trans (hbq.mono K13.out.size))
    have I14 := Lib.hid (row_on I13.out hbq)
    clear hbq K13 I13 H13
    have HHI := Lib.hid (MarkI.heldI (some ⟨gI, 0, none⟩) N cI w4.heap.size ys w14 (by omega) I14.out HMY.out)
    go_wp2_with (go_at_call 42; refine HHI.out.mono ?_; rintro e _ ⟨rfl, qd, rfl⟩)
    go_ret
    exact ⟨rfl, below_drewN (B3.out.trans (K14.out.mono B3.out.size)) qd⟩

end Go.Proofs.Ytlpeaamjpcpfcaa.Et
