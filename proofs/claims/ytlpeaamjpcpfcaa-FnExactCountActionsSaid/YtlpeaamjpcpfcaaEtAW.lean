/-
  The walk of the law FnExactCountActions.
-/
import Derived.Test.YtlpeaamjpcpfcaaEtA
import Derived.Deep.RegionHeld3
namespace Go.Proofs.Ytlpeaamjpcpfcaa.Et
open Go.RowKit Go.Proofs.Ytlpeaamjpcpfcaa.Cond Go.Proofs.Ytlpeaamjpcpfcaa.Gx
set_option linter.unusedVariables false
set_option linter.unusedSimpArgs false

set_option maxRecDepth 100000 in
set_option maxHeartbeats 8000000 in
theorem walkCountActions (A : Option Addr) (n cap : Nat) (ms : List E) (a1 : Int) (a2 : Int) (s3 : ByteArray) (w : World) (hx0 : LiE w w.heap.size A n cap ms) (hl1 : -9223372036854775808 ≤ a1) (hu1 : a1 ≤ 9223372036854775807) (hl2 : -9223372036854775808 ≤ a2) (hu2 : a2 ≤ 9223372036854775807) (hs3 : s3.size ≤ maxLen) :
    Calls Try.prog 10 #[.slice A n cap, .int .i64 a1, .int .i64 a2, .string s3] w fun e w' => e = .returned (.bool true) ∧ Below w.heap.size w w' := by
  have HI := Lib.hid hx0
  clear hx0
  obtain ⟨t, ht⟩ := t_iff (goodE ms a1)
  have HV := Lib.hid ht
  clear ht
  obtain ⟨x, hx⟩ : ∃ x : Int, x = if t then (cntE a2 s3 ms : Int) else 0 := ⟨_, rfl⟩
  obtain ⟨y, hy⟩ : ∃ y : Int, y = if t then sumE a2 s3 ms else 0 := ⟨_, rfl⟩
  have HXY := Lib.hid (And.intro hx hy)
  clear hx hy
  go_enter Try.func10, Try.ntmps10
  by_cases hl : 1048576 < s3.size
  · have g3 : (1048576 : Int) < (s3.size : Int) := by omega
    go_wp2_with fail
    go_ret
    exact ⟨rfl, Below.refl _ _⟩
  have g3 : ¬ (1048576 : Int) < (s3.size : Int) := by omega
  have HS3 := Lib.hid hs3
  clear hl hs3
  by_cases hz : 1048576 < n + wtE ms
  · have HZ := szES A n cap ms 1048576 (Nat.le_refl _) w HI.out
    rw [szRes_no hz] at HZ
    have HZH := Lib.hid HZ
    clear HZ hz
    go_wp2_with (go_at_call 25; refine HZH.out.mono ?_; rintro e wz ⟨rfl, hbz⟩)
    go_ret
    exact ⟨rfl, hbz⟩
  have HZ := szES A n cap ms 1048576 (Nat.le_refl _) w HI.out
  rw [szRes_yes hz] at HZ
  have hn : n ≤ 1048576 := by omega
  obtain ⟨m1, hm1⟩ : ∃ m, m = 1048576 - (n + wtE ms) := ⟨_, rfl⟩
  rw [← hm1] at HZ
  have HZH := Lib.hid HZ
  have hm0 : (0 : Int) ≤ (m1 : Int) := by omega
  have hmt : m1 ≤ 1048576 := by omega
  clear HZ hm1 hz
  go_wp2_with (go_at_call 25; refine HZH.out.mono ?_; rintro e w1 ⟨rfl, hb⟩; refine Hid.out ?_)
  refine Lib.hid ?_
  have B1 := Lib.hid hb
  clear hb HZH
  have HT := Lib.hid (toES A n cap ms w1 (HI.out.on B1.out) hn)
  go_wp2_with (go_at_call 27; refine HT.out.mono ?_; rintro e w2 ⟨rfl, hq, hb⟩; refine Hid.out ?_)
  refine Lib.hid ?_
  have B2 := Lib.hid (B1.out.trans (hb.mono B1.out.size))
  have HLN := Lib.hid HI.out.len
  have L2 := Lib.hid (hq.lie HLN.out.symm (by unfold maxLen; omega))
  generalize w1.heap.size = g1 at *
  have HSPH := Lib.hid (show Calls Try.prog 37 #[.slice (some ⟨g1, 0, none⟩) n n, .int .i64 a1, .int .i64 a2, .string s3] w2 fun e w' => e = .returned (.tuple #[.int .i64 x, .int .i64 y, .bool t]) ∧ Below w2.heap.size w2 w' by rw [HXY.out.1, HXY.out.2]; exact specCA (some ⟨g1, 0, none⟩) n n ms a1 a2 s3 HS3.out hl1 hu1 t HV.out w2 L2.out)
  clear hb hq HT
  go_wp2_with (go_at_call 37; refine HSPH.out.mono ?_; rintro e w3 ⟨rfl, hb⟩; refine Hid.out ?_)
  refine Lib.hid ?_
  have B3 := Lib.hid (B2.out.trans (hb.mono B2.out.size))
  clear hb HSPH
  have HT := Lib.hid (toES A n cap ms w3 (HI.out.on B3.out) hn)
  go_wp2_with (go_at_call 27; refine HT.out.mono ?_; rintro e w4 ⟨rfl, hq, hb⟩; refine Hid.out ?_)
  refine Lib.hid ?_
  have B4 := Lib.hid (B3.out.trans (hb.mono B3.out.size))
  have L4 := Lib.hid (hq.lie HLN.out.symm (by unfold maxLen; omega))
  generalize w3.heap.size = g3 at *
  have HIMH := Lib.hid (show Calls Try.prog 20 #[.slice (some ⟨g3, 0, none⟩) n n, .int .i64 a1, .int .i64 a2, .string s3] w4 fun e w' => e = .returned (.tuple #[.int .i64 x, .int .i64 y, .bool t]) ∧ Below w4.heap.size w4 w' by rw [HXY.out.1, HXY.out.2]; exact implCA (some ⟨g3, 0, none⟩) n n ms a1 a2 s3 HS3.out t HV.out w4 L4.out)
  clear hb hq HT
  go_wp2_with (go_at_call 20; refine HIMH.out.mono ?_; rintro e w5 ⟨rfl, hb⟩; refine Hid.out ?_)
  refine Lib.hid ?_
  have B5 := Lib.hid (B4.out.trans (hb.mono B4.out.size))
  have L5 := Lib.hid (L4.out.on hb)
  clear hb HIMH
  cases t
  all_goals
    have HTX := Lib.hid fun v (hv : Below w5.heap.size w5 v) => toES A n cap ms v (HI.out.on (B5.out.trans (hv.mono B5.out.size))) hn
    have HEQ : Hid (∀ v wa g, Below w5.heap.size w5 wa → RwE wa g n ms → Below wa.heap.size wa v → Calls Try.prog 28 #[.slice (some ⟨g3, 0, none⟩) n n, .slice (some ⟨g, 0, none⟩) n n] v fun e w' => e = .returned (.bool true) ∧ Below v.heap.size v w') :=
      Lib.hid fun v wa g hx hz hv => eqES _ _ n n n ms v hn ((L5.out.on hx).on hv) ((hz.lie HLN.out.symm (by unfold maxLen; omega)).on hv)
    go_wp2_with (first
      | (go_at_call 27; refine (HTX.out _ (by (repeat (first | exact Below.refl _ _ | apply Below.drew)))).mono ?_; rintro e wa ⟨rfl, hq, hb⟩; have b1 : Below w5.heap.size w5 wa := Below.trans (by (repeat (first | exact Below.refl _ _ | apply Below.drew))) (hb.mono (by first | omega | (simp; done) | (simp; omega))); have NA := Lib.hid hq; clear hb hq)
      | (go_at_call 28; refine (HEQ.out _ _ _ b1 NA.out (by (repeat (first | exact Below.refl _ _ | apply Below.drew)))).mono ?_; rintro e wb ⟨rfl, hb⟩; have b2 : Below w5.heap.size w5 wb := b1.trans ((Below.trans (by (repeat (first | exact Below.refl _ _ | apply Below.drew))) hb).mono (by first | exact b1.size | (have := b1.size; simp; omega))); clear hb))
    go_ret
    exact ⟨rfl, B5.out.trans (b2.mono B5.out.size)⟩

end Go.Proofs.Ytlpeaamjpcpfcaa.Et
