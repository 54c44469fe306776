/-
  The walk of the law FnExactEventsBetween.
-/
import Derived.Test.YtlpeaamjpcpfcaaEtX
import Derived.Deep.RegionHeld3
namespace Go.Proofs.Ytlpeaamjpcpfcaa.Et
open Go.RowKit Go.Proofs.Ytlpeaamjpcpfcaa.Cond Go.Proofs.Ytlpeaamjpcpfcaa.Gx
set_option linter.unusedVariables false
set_option linter.unusedSimpArgs false

set_option maxRecDepth 100000 in
set_option maxHeartbeats 8000000 in
theorem walkEventsBetween (A : Option Addr) (n cap : Nat) (ms : List E) (a1 : Int) (a2 : Int) (a3 : Int) (w : World) (hx0 : LiE w w.heap.size A n cap ms) (hl1 : -9223372036854775808 ≤ a1) (hu1 : a1 ≤ 9223372036854775807) (hl2 : -9223372036854775808 ≤ a2) (hu2 : a2 ≤ 9223372036854775807) (hl3 : -9223372036854775808 ≤ a3) (hu3 : a3 ≤ 9223372036854775807) :
    Calls Try.prog 8 #[.slice A n cap, .int .i64 a1, .int .i64 a2, .int .i64 a3] w fun e w' => e = .returned (.bool true) ∧ Below w.heap.size w w' := by
  have HI := Lib.hid hx0
  clear hx0
  obtain ⟨t, ht⟩ := t_iff (goodE ms a1)
  have HV := Lib.hid ht
  have hlen3 : (if t then ms.filter (inR a2 a3) else []).length ≤ 3000 := by
    cases t
    · simp
    · have h2 := good_len (ht.1 rfl)
      have h3 := List.length_filter_le (inR a2 a3) ms
      simp only [if_true]; omega
  clear ht
  obtain ⟨D, hD⟩ : ∃ D : List E, D = if t then ms.filter (inR a2 a3) else [] := ⟨_, rfl⟩
  obtain ⟨N, hN⟩ : ∃ N, N = D.length := ⟨_, rfl⟩
  have hN3 : N ≤ 3000 := by rw [hN, hD]; exact hlen3
  have HVD := Lib.hid hD
  have HVN := Lib.hid hN
  clear hD hN
  have HSPA : Hid (∀ (W : World) (G : Nat), LiE W W.heap.size (some ⟨G, 0, none⟩) n n ms → Calls Try.prog 35 #[.slice (some ⟨G, 0, none⟩) n n, .int .i64 a1, .int .i64 a2, .int .i64 a3] W (EAns W.heap.size D t W)) := Lib.hid fun W G h => by
    have := specEB (some ⟨G, 0, none⟩) n n ms a1 a2 a3 hl1 hu1 t HV.out W h
    rw [← HVD.out] at this
    exact this
  have HIMA : Hid (∀ (W : World) (G : Nat), LiE W W.heap.size (some ⟨G, 0, none⟩) n n ms → Calls Try.prog 36 #[.slice (some ⟨G, 0, none⟩) n n, .int .i64 a1, .int .i64 a2, .int .i64 a3] W (EAns W.heap.size D t W)) := Lib.hid fun W G h => by
    have := implEB (some ⟨G, 0, none⟩) n n ms a1 a2 a3 t HV.out W h
    rw [← HVD.out] at this
    exact this
  go_enter Try.func8, Try.ntmps8
  by_cases hz : 1048576 < n + wtE ms
  · have HZ := szES A n cap ms 1048576 (Nat.le_refl _) w HI.out
    rw [szRes_no hz] at HZ
    have HZH := Lib.hid HZ
    clear HZ hz
    go_wp2_with (go_at_call 25; refine HZH.out.mono ?_; rintro e wz ⟨rfl, hbz⟩)
    go_ret
    exact ⟨rfl, hbz⟩
  have HZ := szES A n cap ms 1048576 (Nat.le_refl _) w HI.out
  rw [szRes_yes hz] at HZ
  have hn : n ≤ 1048576 := by omega
  obtain ⟨m1, hm1⟩ : ∃ m, m = 1048576 - (n + wtE ms) := ⟨_, rfl⟩
  rw [← hm1] at HZ
  have HZH := Lib.hid HZ
  have hm0 : (0 : Int) ≤ (m1 : Int) := by omega
  have HLN := Lib.hid HI.out.len
  clear HZ hm1 hz
  go_wp2_with (go_at_call 25; refine HZH.out.mono ?_; rintro e w1 ⟨rfl, hb⟩; refine Hid.out ?_)
  refine Lib.hid ?_
  have B1 := Lib.hid hb
  clear hb HZH
  have HT := Lib.hid (toES A n cap ms w1 (HI.out.on B1.out) hn)
  go_wp2_with (go_at_call 27; refine HT.out.mono ?_; rintro e w2 ⟨rfl, hq, hb⟩; refine Hid.out ?_)
  refine Lib.hid ?_
  clear HT
  have B2 := Lib.hid (B1.out.trans (hb.mono B1.out.size))
  have L2 := Lib.hid (hq.lie HLN.out.symm (by unfold maxLen; omega))
  generalize w1.heap.size = g1 at *
  clear hb hq
  have HCH := Lib.hid (HSPA.out w2 g1 L2.out)
  go_wp2_with (go_at_call 35; refine HCH.out.mono ?_; intro e w3 ha; obtain ⟨gS, cS, rfl, hoS, hb⟩ := EAns.fix HVN.out ha; refine Hid.out ?_)
  refine Lib.hid ?_
  clear HCH ha
  have B3 := Lib.hid (B2.out.trans (hb.mono B2.out.size))
  have S3 : Hid (LiE w3 w3.heap.size (some ⟨gS, 0, none⟩) N cS D) := Lib.hid hoS.wr.has
  clear hb hoS L2
  have HT := Lib.hid (toES A n cap ms w3 (HI.out.on B3.out) hn)
  go_wp2_with (go_at_call 27; refine HT.out.mono ?_; rintro e w4 ⟨rfl, hq, hb⟩; refine Hid.out ?_)
  refine Lib.hid ?_
  clear HT
  have K4 : Hid (Below w3.heap.size w3 w4) := Lib.hid hb
  have Y4 := Lib.hid hq
  have HG34 : Hid (w3.heap.size < w4.heap.size) := Lib.hid hq.blk.lt
  obtain ⟨g3, hg3⟩ : ∃ g, g = w3.heap.size := ⟨_, rfl⟩
  rw [← hg3] at Y4 HG34
  rw [← hg3]
  have HG3 := Lib.hid hg3
  clear hb hq hg3
  have HCH := Lib.hid (HIMA.out w4 g3 (Y4.out.lie HLN.out.symm (by unfold maxLen; omega)))
  go_wp2_with (go_at_call 36; refine HCH.out.mono ?_; intro e w5 ha; obtain ⟨gI, cI, rfl, hoI, hb⟩ := EAns.fix HVN.out ha; refine Hid.out ?_)
  refine Lib.hid ?_
  clear HCH ha
  have K5 := Lib.hid (K4.out.trans (hb.mono K4.out.size))
  have Y5 := Lib.hid (Y4.out.on hb)
  have I5 := Lib.hid hoI
  have HGI : Hid (w4.heap.size ≤ gI) := Lib.hid hoI.ge
  clear hb hoI K4 Y4
  cases t
  all_goals
    have HEQ := Lib.hid (eqES (some ⟨gI, 0, none⟩) (some ⟨gS, 0, none⟩) N cI cS D w5 (by omega) I5.out.wr.has ((S3.out.below K5.out).more K5.out.size))
    go_wp2_with (go_at_call 28; refine HEQ.out.mono ?_; rintro e w6 ⟨rfl, hbq⟩; refine Hid.out ?_)
    refine Lib.hid ?_
    clear HEQ
    have K6 := Lib.hid (K5.out.trans (hbq.mono K5.out.size))
    have Y6 := Lib.hid (Y5.out.on hbq)
    have I6 := Lib.hid (I5.out.on hbq)
    have B6 := Lib.hid (B3.out.trans (K6.out.mono B3.out.size))
    clear hbq K5 Y5 I5
    have HTX := Lib.hid fun v (hv : Below w6.heap.size w6 v) => toES A n cap ms v (HI.out.on (B6.out.trans (hv.mono B6.out.size))) hn
    have HEQ : Hid (∀ v wa g, Below w6.heap.size w6 wa → RwE wa g n ms → Below wa.heap.size wa v → Calls Try.prog 28 #[.slice (some ⟨g3, 0, none⟩) n n, .slice (some ⟨g, 0, none⟩) n n] v fun e w' => e = .returned (.bool true) ∧ Below v.heap.size v w') :=
      Lib.hid fun v wa g hx hz hv => eqES _ _ n n n ms v hn ((((Y6.out.on hx).lie HLN.out.symm (by unfold maxLen; omega))).on hv) ((hz.lie HLN.out.symm (by unfold maxLen; omega)).on hv)
    have hmk1 := fun (v : World) (hv : Below w6.heap.size w6 v) => markES (some ⟨g3, 0, none⟩) n n ms 1 v (Nat.le_refl _) (by omega) ((Y6.out.on hv).wre HLN.out.symm (by unfold maxLen; omega))
    obtain ⟨mq, hmq⟩ : ∃ m, m = 1 + 4 * n := ⟨_, rfl⟩
    rw [← hmq] at hmk1
    have hmq0 : (0 : Int) ≤ (mq : Int) := by omega
    have HMK := Lib.hid hmk1
    clear hmk1 hmq
    go_wp2_with (first
      | (go_at_call 27; refine (HTX.out _ (by (repeat (first | exact Below.refl _ _ | apply Below.drew)))).mono ?_; rintro e wa ⟨rfl, hq, hb⟩; have b1 : Below w6.heap.size w6 wa := Below.trans (by (repeat (first | exact Below.refl _ _ | apply Below.drew))) (hb.mono (by first | omega | (simp; done) | (simp; omega))); have NA := Lib.hid hq; clear hb hq)
      | (go_at_call 28; refine (HEQ.out _ _ _ b1 NA.out (by (repeat (first | exact Below.refl _ _ | apply Below.drew)))).mono ?_; rintro e w7 ⟨rfl, hb⟩; have b2 : Below w6.heap.size w6 w7 := b1.trans ((Below.trans (by (repeat (first | exact Below.refl _ _ | apply Below.drew))) hb).mono (by first | exact b1.size | (have := b1.size; simp; omega))); clear hb)
      | (go_at_call 33; refine (HMK.out _ b2).mono ?_; rintro e w8 ⟨rfl, hlm, hmv⟩; refine Hid.out ?_))
    refine Lib.hid ?_
    have K7 := Lib.hid (K6.out.trans (b2.mono K6.out.size))
    have K8 : Hid (Below w3.heap.size w3 w8) := Lib.hid (K7.out.trans (Mv.belowF hmv (Nat.le_of_eq HG3.out.symm) K7.out.size))
    have I8 := Lib.hid ((I6.out.on b2).mv hmv (fun h => by have := front_one h; have := HGI.out; have := HG34.out; omega))
    clear hlm hmv b1 b2 NA K6 K7 Y6 I6 B6 HTX HEQ HMK
    have HEQ := Lib.hid (eqES (some ⟨gI, 0, none⟩) (some ⟨gS, 0, none⟩) N cI cS D w8 (by omega) I8.out.wr.has ((S3.out.below K8.out).more K8.out.size))
    go_wp2_with (go_at_call 28; refine HEQ.out.mono ?_; rintro e w9 ⟨rfl, hbq⟩; refine Hid.out ?_)
    refine Lib.hid ?_
    clear HEQ
    have K9 := Lib.hid (K8.out.trans (hbq.mono K8.out.size))
    have I9 := Lib.hid (I8.out.on hbq)
    clear hbq K8 I8
    have HG3I : Hid (w3.heap.size ≤ gI) := Lib.hid (by have := HGI.out; have := HG34.out; have := HG3.out; omega)
    have hmi := markES (some ⟨gI, 0, none⟩) N cI D 1 w9 (Nat.le_refl _) (by omega) I9.out.wr
    obtain ⟨mp, hmp⟩ : ∃ m, m = 1 + 4 * N := ⟨_, rfl⟩
    have HMP : Hid (∀ v, LiE v v.heap.size (some ⟨gI, 0, none⟩) N cI (mkR 1 N) → Calls Try.prog 34 #[.slice (some ⟨gI, 0, none⟩) N cI, .int .i64 ((1 : Nat) : Int)] v fun e w' => e = .returned (.int .i64 (mp : Int)) ∧ Below v.heap.size v w') := Lib.hid fun v hv => by
      rw [hmp]; exact heldES (some ⟨gI, 0, none⟩) N cI 1 v (Nat.le_refl _) (by omega) hv
    rw [← hmp] at hmi
    have hmp0 : (0 : Int) ≤ (mp : Int) := by omega
    have HMI := Lib.hid hmi
    clear hmi hmp
    go_wp2_with (go_at_call 33; refine HMI.out.mono ?_; rintro e w10 ⟨rfl, hlm, hmv⟩; refine Hid.out ?_)
    refine Lib.hid ?_
    have K10 := Lib.hid (K9.out.trans (Mv.belowF hmv HG3I.out K9.out.size))
    have I10 := Lib.hid hlm
    clear hlm hmv HMI K9 I9
    have HHI := Lib.hid (HMP.out w10 I10.out)
    go_wp2_with (go_at_call 34; refine HHI.out.mono ?_; rintro e w11 ⟨rfl, hbq⟩; refine Hid.out ?_)
    refine Lib.hid ?_
    clear HHI
    have I11 := Lib.hid (I10.out.on hbq)
    have K11 := Lib.hid (K10.out.trans (hbq.mono K10.out.size))
    clear hbq K10 I10
    have B11 := Lib.hid (B3.out.trans (K11.out.mono B3.out.size))
    have HT := Lib.hid (toES A n cap ms w11 (HI.out.on B11.out) hn)
    go_wp2_with (go_at_call 27; refine HT.out.mono ?_; rintro e w12 ⟨rfl, hq, hb⟩; refine Hid.out ?_)
    refine Lib.hid ?_
    clear HT
    have K12 := Lib.hid (K11.out.trans (hb.mono K11.out.size))
    have I12 := Lib.hid (I11.out.on hb)
    have L12 := Lib.hid (hq.lie HLN.out.symm (by unfold maxLen; omega))
    generalize w11.heap.size = g11 at *
    clear hb hq K11 I11
    have HCH := Lib.hid (HIMA.out w12 g11 L12.out)
    go_wp2_with (go_at_call 36; refine HCH.out.mono ?_; intro e w13 ha; obtain ⟨gH, cH, rfl, hoH, hb⟩ := EAns.fix HVN.out ha; refine Hid.out ?_)
    refine Lib.hid ?_
    clear HCH ha
    have K13 := Lib.hid (K12.out.trans (hb.mono K12.out.size))
    have I13 := Lib.hid (I12.out.on hb)
    have H13 := Lib.hid hoH
    clear hb hoH K12 I12 L12
    have HEQ := Lib.hid (eqES (some ⟨gH, 0, none⟩) (some ⟨gS, 0, none⟩) N cH cS D w13 (by omega) H13.out.wr.has ((S3.out.below K13.out).more K13.out.size))
    go_wp2_with (go_at_call 28; refine HEQ.out.mono ?_; rintro e w14 ⟨rfl, hbq⟩; refine Hid.out ?_)
    refine Lib.hid ?_
    clear HEQ
    have K14 := Lib.hid (K13.out.trans (hbq.mono K13.out.size))
    have I14 := Lib.hid (I13.out.on hbq)
    clear hbq K13 I13 H13
    have HHI := Lib.hid (HMP.out w14 I14.out)
    go_wp2_with (go_at_call 34; refine HHI.out.mono ?_; rintro e w15 ⟨rfl, hbq⟩)
    go_ret
    exact ⟨rfl, (B3.out.trans (K14.out.mono B3.out.size)).trans (hbq.mono (B3.out.trans (K14.out.mono B3.out.size)).size)⟩

end Go.Proofs.Ytlpeaamjpcpfcaa.Et
