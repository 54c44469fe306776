/-
  sort's order2 and median over a row of events.
  sort's choosePivot and breakPatterns over a row of at most 40 events.
  sort's partitionEqual over a row of at most 40 events.
-/
import Derived.Test.YtomloodakabcbaaSoI
import Derived.Sort.LotD4
import Derived.Sort.LotD1
import Derived.Sort.Walk11
import Derived.Test.YtomloodakabcbaaShelfXo
import Derived.Sort.Walk7
import Derived.Sort.LotD5
import Derived.Sort.Walk13
import Derived.Laws.Bits64b
import Derived.Deep.LoopGhost
import Derived.Sort.WalkC
import Derived.Sort.WalkC4
namespace Go.Proofs.Ytomloodakabcbaa.Et
open Go.RowKit Go.Proofs.Ytomloodakabcbaa.Cond Go.Proofs.Ytomloodakabcbaa.Gx
set_option linter.unusedVariables false
set_option linter.unusedSimpArgs false

/-- A state beside a counter of one's own, in block k. -/
structure Sc (g n k : Nat) (w : World) (d : Array E) (s : Nat) (v : World) : Prop where
  sw : Sw g n w d v
  bx : Bk k v [.int .i64 (s : Int)]
theorem Sc.drew {g n k : Nat} {w v : World} {d : Array E} {s : Nat} (h : Sc g n k w d s v) : Sc g n k w d s v.drew := ⟨h.sw.drew, h.bx.on ((Below.refl _ _).drew)⟩
theorem ord2_lt (d : Array E) (a b s m : Nat) (ha : a < m) (hb : b < m) : (Sort.order2 ltE d a b s).1 < m ∧ (Sort.order2 ltE d a b s).2.1 < m ∧ (Sort.order2 ltE d a b s).2.2 ≤ s + 1 := by
  unfold Sort.order2
  split
  · exact ⟨hb, ha, Nat.le_refl _⟩
  · exact ⟨ha, hb, Nat.le_succ _⟩

set_option maxRecDepth 100000 in
set_option maxHeartbeats 4000000 in
theorem o2A {g n k : Nat} (a b s : Nat) (d : Array E) (w w1 : World) (h : Sc g n k w d s w1) (hk : w.heap.size ≤ k) (hg : k ≠ g) (hn : n ≤ 40) (ha : a < n) (hb : b < n) (hs : s ≤ 100) :
    Calls Try.prog 64 #[rvE g n, .int .i64 (a : Int), .int .i64 (b : Int), .pointer (some ⟨k, 0, none⟩)] w1 fun e w' => e = .returned (.tuple #[.int .i64 ((Sort.order2 ltE d a b s).1 : Int), .int .i64 ((Sort.order2 ltE d a b s).2.1 : Int)]) ∧ Sc g n k w d (Sort.order2 ltE d a b s).2.2 w' := by
  have mL := reachLess (some ⟨g, 0, none⟩) n n
  obtain ⟨u, hu⟩ : ∃ u, u = ltE d[b]! d[a]! := ⟨_, rfl⟩
  have HLJ : Hid (∀ v, Below w1.heap.size w1 v → Calls Try.prog 82 #[.slice (some ⟨g, 0, none⟩) n n, .int .i64 (b : Int), .int .i64 (a : Int)] v fun e w' => e = .returned (.bool u) ∧ Below v.heap.size v w') := Lib.hid fun v hv => by
    have hl : d.toList.length = n := by simpa using h.sw.siz
    have := lessE (some ⟨g, 0, none⟩) n n d.toList b a (by omega) (by omega) v ((h.sw.rw.on hv).lie hl (by unfold maxLen; omega))
    rw [hu, getE (by omega), getE (by omega)]
    exact this
  have H0 := Lib.hid h
  have HU := Lib.hid hu
  clear h hu
  cases u
  · have HX : Hid (Sort.order2 ltE d a b s = (a, b, s)) := Lib.hid (by unfold Sort.order2; rw [← HU.out]; rfl)
    rw [HX.out]
    go_enter Try.func64, Try.ntmps64
    go_wp2_with (go_at_call 82; refine (HLJ.out _ (by (repeat (first | exact Below.refl _ _ | apply Below.drew)))).mono ?_; rintro e w2 ⟨rfl, hb2⟩)
    go_ret2
    have hb3 : Below w1.heap.size w1 w2 := Below.trans (by (repeat (first | exact Below.refl _ _ | apply Below.drew))) (hb2.mono (by first | omega | (simp; done) | (simp; omega)))
    exact ⟨rfl, H0.out.sw.on hb3, H0.out.bx.on hb3⟩
  · have HX : Hid (Sort.order2 ltE d a b s = (b, a, s + 1)) := Lib.hid (by unfold Sort.order2; rw [← HU.out]; rfl)
    rw [HX.out]
    go_enter Try.func64, Try.ntmps64
    go_wp2_with (go_at_call 82; refine (HLJ.out _ (by (repeat (first | exact Below.refl _ _ | apply Below.drew)))).mono ?_; rintro e w2 ⟨rfl, hb2⟩; refine Hid.out ?_)
    refine Lib.hid ?_
    have hb3 : Below w1.heap.size w1 w2 := Below.trans (by (repeat (first | exact Below.refl _ _ | apply Below.drew))) (hb2.mono (by first | omega | (simp; done) | (simp; omega)))
    have B3 := Lib.hid hb3
    have bx := H0.out.bx.on hb3
    have c0 := bx.c 0 (by simp)
    have f0 := bx.fz 0
    simp only [List.getElem_cons_zero] at c0
    have HP : Hid (Sc g n k w d (s + 1) (w2.setCell ⟨k, 0, none⟩ (.int .i64 ((s : Int) + 1)))) := Lib.hid ⟨(H0.out.sw.on hb3).own hk hg, by
      have := bx.put (us := [.int .i64 ((s : Int) + 1)]) rfl
      rw [show ((s + 1 : Nat) : Int) = (s : Int) + 1 by omega]
      exact this⟩
    clear hb2 hb3 bx HLJ
    go_wp2_with fail
    go_ret2
    exact ⟨rfl, by first | exact HP.out | exact HP.out.drew⟩

set_option maxRecDepth 100000 in
set_option maxHeartbeats 4000000 in
theorem mdA {g n k : Nat} (a b c s : Nat) (d : Array E) (w w1 : World) (h : Sc g n k w d s w1) (hk : w.heap.size ≤ k) (hg : k ≠ g) (hn : n ≤ 40) (ha : a < n) (hb : b < n) (hc : c < n) (hs : s ≤ 50) :
    Calls Try.prog 63 #[rvE g n, .int .i64 (a : Int), .int .i64 (b : Int), .int .i64 (c : Int), .pointer (some ⟨k, 0, none⟩)] w1 fun e w' => e = .returned (.int .i64 ((Sort.median ltE d a b c s).1 : Int)) ∧ Sc g n k w d (Sort.median ltE d a b c s).2 w' := by
  have l1 := ord2_lt d a b s n ha hb
  obtain ⟨a1, b1, s1, e1⟩ : ∃ a1 b1 s1, Sort.order2 ltE d a b s = (a1, b1, s1) := ⟨_, _, _, rfl⟩
  rw [e1] at l1
  have l2 := ord2_lt d b1 c s1 n l1.2.1 hc
  obtain ⟨b2, c2, s2, e2⟩ : ∃ x y z, Sort.order2 ltE d b1 c s1 = (x, y, z) := ⟨_, _, _, rfl⟩
  rw [e2] at l2
  have l3 := ord2_lt d a1 b2 s2 n l1.1 l2.1
  obtain ⟨a3, b3, s3, e3⟩ : ∃ x y z, Sort.order2 ltE d a1 b2 s2 = (x, y, z) := ⟨_, _, _, rfl⟩
  have HX : Hid (Sort.median ltE d a b c s = (b3, s3)) := Lib.hid (by unfold Sort.median; simp only [e1, e2, e3])
  simp only at l1 l2
  have H1 := Lib.hid (by have := o2A a b s d w w1 h hk hg hn ha hb (by omega); rw [e1] at this; exact this)
  have H2 : Hid (∀ v, Sc g n k w d s1 v → Calls Try.prog 64 #[rvE g n, .int .i64 (b1 : Int), .int .i64 (c : Int), .pointer (some ⟨k, 0, none⟩)] v fun e w' => e = .returned (.tuple #[.int .i64 (b2 : Int), .int .i64 (c2 : Int)]) ∧ Sc g n k w d s2 w') := Lib.hid fun v hv => by have := o2A b1 c s1 d w v hv hk hg hn l1.2.1 hc (by omega); rw [e2] at this; exact this
  have H3 : Hid (∀ v, Sc g n k w d s2 v → Calls Try.prog 64 #[rvE g n, .int .i64 (a1 : Int), .int .i64 (b2 : Int), .pointer (some ⟨k, 0, none⟩)] v fun e w' => e = .returned (.tuple #[.int .i64 (a3 : Int), .int .i64 (b3 : Int)]) ∧ Sc g n k w d s3 w') := Lib.hid fun v hv => by have := o2A a1 b2 s2 d w v hv hk hg hn l1.1 l2.1 (by omega); rw [e3] at this; exact this
  rw [HX.out]
  clear h e1 e2 e3 l1 l2 l3 HX
  go_enter Try.func63, Try.ntmps63
  go_wp2_with (go_at_call 64; refine H1.out.mono ?_; rintro e w2 ⟨rfl, q1⟩; refine Hid.out ?_)
  refine Lib.hid ?_
  have Q1 := Lib.hid q1
  clear q1 H1
  go_wp2_with (go_at_call 64; refine (H2.out _ (by (repeat (first | exact Q1.out | apply Sc.drew)))).mono ?_; rintro e w3 ⟨rfl, q2⟩; refine Hid.out ?_)
  refine Lib.hid ?_
  have Q2 := Lib.hid q2
  clear q2 H2 Q1
  go_wp2_with (go_at_call 64; refine (H3.out _ (by (repeat (first | exact Q2.out | apply Sc.drew)))).mono ?_; rintro e w4 ⟨rfl, q3⟩)
  go_ret
  exact ⟨rfl, q3⟩

end Go.Proofs.Ytomloodakabcbaa.Et

namespace Go.Proofs.Ytomloodakabcbaa.Et
open Go.RowKit Go.Proofs.Ytomloodakabcbaa.Cond Go.Proofs.Ytomloodakabcbaa.Gx
set_option linter.unusedVariables false
set_option linter.unusedSimpArgs false

set_option maxRecDepth 100000 in
set_option maxHeartbeats 8000000 in
theorem cpA {g n : Nat} (a b : Nat) (d : Array E) (w : World) (h : Sw g n w d w) (hn : n ≤ 40) (h12 : 12 < b - a) (hb : b ≤ n) :
    Calls Try.prog 51 #[rvE g n, .int .i64 (a : Int), .int .i64 (b : Int)] w fun e w' => e = .returned (.tuple #[.int .i64 ((Sort.choosePivot ltE d a b).1 : Int), .int .i64 (Sort.hintCode (Sort.choosePivot ltE d a b).2)]) ∧ Sw g n w d w' := by
  obtain ⟨X, hX⟩ : ∃ X, X = w.alloc (.cells #[.int .i64 0] 3) := ⟨_, rfl⟩
  have B0 : Below w.heap.size w X := by rw [hX]; exact below1 _ _
  have H0 : Hid (Sc g n w.heap.size w d 0 X) := Lib.hid ⟨h.on B0, by rw [hX]; exact Bk.new w #[.int .i64 ((0 : Nat) : Int)] 3⟩
  obtain ⟨I, hI⟩ : ∃ I : Nat, I = a + (b - a) / 4 * 1 := ⟨_, rfl⟩
  obtain ⟨J, hJ⟩ : ∃ J : Nat, J = a + (b - a) / 4 * 2 := ⟨_, rfl⟩
  obtain ⟨K, hK⟩ : ∃ K : Nat, K = a + (b - a) / 4 * 3 := ⟨_, rfl⟩
  have eI : ((a : Int) + ((b : Int) - (a : Int)) / 4) = (I : Int) := by omega
  have eJ : ((a : Int) + ((b : Int) - (a : Int)) / 4 * 2) = (J : Int) := by omega
  have eK : ((a : Int) + ((b : Int) - (a : Int)) / 4 * 3) = (K : Int) := by omega
  obtain ⟨p, s, h4⟩ : ∃ p s, Sort.median ltE d I J K 0 = (p, s) := ⟨_, _, rfl⟩
  have HR : Hid (Sort.choosePivot ltE d a b = (p, Sort.hintOf s)) := Lib.hid (by
    rw [Sort.choosePivot_eq]
    have : Sort.rawPivot ltE d a b = (p, s) := by simp only [Sort.rawPivot, if_pos (show b - a ≥ 8 by omega), if_neg (show ¬ b - a ≥ 50 by omega), ← hI, ← hJ, ← hK, h4]
    rw [this])
  have HM := Lib.hid (by
    have := mdA I J K 0 d w X H0.out (Nat.le_refl _) (by have := h.lt; omega) hn (by omega) (by omega) (by omega) (by omega)
    rw [h4] at this
    exact this)
  obtain ⟨Hc, hHc⟩ : ∃ Hc : Int, Hc = Sort.hintCode (Sort.hintOf s) := ⟨_, rfl⟩
  have hh0 : s = 0 → Hc = 1 := fun h => by rw [hHc, h]; rfl
  have hh12 : s = 12 → Hc = 2 := fun h => by rw [hHc, h]; rfl
  have hhx : s ≠ 0 → s ≠ 12 → Hc = 0 := fun h1 h2 => by rw [hHc]; unfold Sort.hintOf; rw [if_neg h1, if_neg h2]; rfl
  have H3 := Lib.hid (And.intro hh0 (And.intro hh12 hhx))
  have h8z : (8 : Int) ≤ (b : Int) - (a : Int) := by omega
  have h50z : ¬ (50 : Int) ≤ (b : Int) - (a : Int) := by omega
  rw [HR.out]
  show Calls Try.prog 51 _ w fun e w' => e = .returned (.tuple #[.int .i64 (p : Int), .int .i64 (Sort.hintCode (Sort.hintOf s))]) ∧ Sw g n w d w'
  rw [← hHc]
  have HX := Lib.hid hX
  clear h h4 hI hJ hK hHc hh0 hh12 hhx B0 H0 HR hX
  go_enter Try.func51, Try.ntmps51
  go_wp2_with (go_at_call 63; (try rw [← HX.out]); refine HM.out.mono ?_; rintro e w2 ⟨rfl, q⟩; refine Hid.out ?_)
  refine Lib.hid ?_
  have Q := Lib.hid q
  have c0 := q.bx.c 0 (by simp)
  simp only [List.getElem_cons_zero] at c0
  clear q HM
  by_cases e0 : s = 0
  · have g1 : Hc = 1 := H3.out.1 e0
    subst e0
    subst g1
    go_wp2_with fail
    all_goals go_ret2
    all_goals exact ⟨rfl, by first | exact Q.out.sw | exact Q.out.sw.drew⟩
  · by_cases e12 : s = 12
    · have g1 : Hc = 2 := H3.out.2.1 e12
      subst e12
      subst g1
      go_wp2_with fail
      all_goals go_ret2
      all_goals exact ⟨rfl, by first | exact Q.out.sw | exact Q.out.sw.drew⟩
    · have g1 : Hc = 0 := H3.out.2.2 e0 e12
      have n0 : ((s : Int) == 0) = false := beq_eq_false_iff_ne.2 (by omega)
      have n12 : ((s : Int) == 12) = false := beq_eq_false_iff_ne.2 (by omega)
      have m0 : ¬ (s : Int) = 0 := by omega
      have m12 : ¬ (s : Int) = 12 := by omega
      subst g1
      go_wp2_with fail
      all_goals go_ret2
      all_goals exact ⟨rfl, by first | exact Q.out.sw | exact Q.out.sw.drew⟩

/-- A state beside a random number of one's own, in block k. -/
structure Sx (g n k : Nat) (w : World) (d : Array E) (r : Nat) (v : World) : Prop where
  sw : Sw g n w d v
  bx : Bk k v [.int .u64 (r : Int)]
theorem Sx.drew {g n k : Nat} {w v : World} {d : Array E} {r : Nat} (h : Sx g n k w d r v) : Sx g n k w d r v.drew := ⟨h.sw.drew, h.bx.on ((Below.refl _ _).drew)⟩

set_option maxRecDepth 100000 in
set_option maxHeartbeats 8000000 in
theorem bpA {g n : Nat} (a L : Nat) (d : Array E) (w : World) (h : Sw g n w d w) (hn : n ≤ 40) (h8 : 8 ≤ L) (hb : a + L ≤ n) :
    Calls Try.prog 50 #[rvE g n, .int .i64 (a : Int), .int .i64 ((a + L : Nat) : Int)] w fun e w' => e = .returned (.tuple #[]) ∧ Sw g n w (Sort.breakPatterns d a (a + L)) w' := by
  have mS := reachSwap (some ⟨g, 0, none⟩) n n
  rw [breakPatterns_eq d a L h8]
  obtain ⟨M, hM⟩ : ∃ M : Nat, M = 1 <<< Sort.bitsLen L := ⟨_, rfl⟩
  have hM1 : 1 ≤ M := by rw [hM, Nat.one_shiftLeft]; exact Nat.two_pow_pos _
  have hM2 : M ≤ 2 * L := by rw [hM, Nat.one_shiftLeft]; exact Sort.two_pow_bitsLen_le (by omega)
  have HNP : Hid (∀ w, Calls Try.prog 60 #[.int .i64 (L : Int)] w fun e w' => e = .returned (.int .u64 (M : Int)) ∧ w' = w) := Lib.hid (by rw [hM]; exact fun w => Try.nextPowerOfTwo L (by omega) w)
  rw [← hM]
  clear hM
  have hgl := h.lt
  have hLz : ((a : Int) + (L : Int) - (a : Int)) = (L : Int) := by omega
  have h8z : (8 : Int) ≤ (L : Int) := by omega
  have HSW : Hid (∀ (dk : Array E) (r : Nat) (v : World) (i j : Nat), Sx g n w.heap.size w dk r v → i < n → j < n → Calls Try.prog 83 #[.slice (some ⟨g, 0, none⟩) n n, .int .i64 (i : Int), .int .i64 (j : Int)] v fun e w' => e = .returned (.tuple #[]) ∧ Sx g n w.heap.size w (Sort.swp dk i j) r w') := Lib.hid fun dk r v i j hv hi hj =>
    (swapA hv.sw.re hn i j hi hj).mono fun e w' ⟨he, hs⟩ => ⟨he, hv.sw.to hs, hv.bx.alike (hs.oth.blk _ hv.bx.lt (by omega))⟩
  have HNX : Hid (∀ (dk : Array E) (r : Nat) (v : World), r < 18446744073709551616 → Sx g n w.heap.size w dk r v → Calls Try.prog 61 #[.pointer (some ⟨w.heap.size, 0, none⟩)] v fun e w' => e = .returned (.int .u64 (Sort.xorNextN r : Int)) ∧ Sx g n w.heap.size w dk (Sort.xorNextN r) w') := Lib.hid fun dk r v hr hv => by
    have c0 := hv.bx.c 0 (by simp)
    simp only [List.getElem_cons_zero] at c0
    refine (Try.xorshift_Next w.heap.size 0 r hr v c0 (hv.bx.fz 0)).mono fun e w' ⟨he, hw⟩ => ⟨he, ?_⟩
    rw [hw]
    have b1 := hv.bx.put (us := [.int .u64 (Sort.xorNextN r : Int)]) rfl
    exact ⟨(hv.sw.own (Nat.le_refl _) (by omega)).drewN 3, Bk.on (by exact b1) (below_drewN (Below.refl _ _) 3)⟩
  obtain ⟨X, hX⟩ : ∃ X, X = w.alloc (.cells #[.int .u64 (L : Int)] 84) := ⟨_, rfl⟩
  have H0 : Hid (Sx g n w.heap.size w d (UInt64.ofNat L).toNat X) := Lib.hid ⟨h.on (by rw [hX]; exact below1 _ _), by
    rw [show (UInt64.ofNat L).toNat = L from by simp; omega, hX]
    exact Bk.new w #[.int .u64 (L : Int)] 84⟩
  have HX := Lib.hid hX
  clear h hX
  go_enter Try.func50, Try.ntmps50
  go_wp2_with (go_at_call 60; refine (HNP.out _).mono ?_; rintro e w' ⟨rfl, hw⟩; rw [hw]; clear hw)
  go_loopg [9] 3 (fun g1 vi wr => ∃ (t : Nat) (r : UInt64) (dk : Array E), vi = .int .i64 ((a : Int) + (L : Int) / 4 * 2 - 1 + (t : Int)) ∧ t ≤ 3 ∧ 3 - t ≤ g1 ∧ Hid (Sx g n w.heap.size w dk r.toNat wr) ∧ Hid (bpRest a L M (a + L / 4 * 2 - 1) (3 - t) t (r, dk) = bpRest a L M (a + L / 4 * 2 - 1) 3 0 (UInt64.ofNat L, d)))
  case atStart => exact ⟨0, UInt64.ofNat L, d, by simp, by omega, by omega, by rw [← HX.out]; exact H0, Lib.hid rfl⟩
  case round =>
    obtain ⟨t, r, dk, rfl, ht, hg1, HW, HR⟩ := hrel
    by_cases ht3 : t < 3
    · have hle : (a : Int) + (L : Int) / 4 * 2 - 1 + (t : Int) ≤ (a : Int) + (L : Int) / 4 * 2 + 1 := by omega
      obtain ⟨R', hR'⟩ : ∃ R' : Nat, R' = Sort.xorNextN r.toNat := ⟨_, rfl⟩
      have lR' : R' < 18446744073709551616 := by rw [hR']; exact Sort.xorNextN_lt _ r.toNat_lt
      obtain ⟨O, hO⟩ : ∃ O : Nat, O = R' &&& (M - 1) := ⟨_, rfl⟩
      have lO : O ≤ M - 1 := by rw [hO]; exact Nat.and_le_right
      have eAnd : bits .and .u64 (R' : Int) ((M : Int) - 1) = (O : Int) := by
        rw [show ((M : Int) - 1) = ((M - 1 : Nat) : Int) by omega, bits_and_u64_nat _ _ lR' (by omega), hO]
      have HNT := Lib.hid (by have := HNX.out dk r.toNat wr r.toNat_lt HW.out; rw [← hR'] at this; exact this)
      have HN : Hid (R' = (Sort.xorNext r).toNat ∧ O = (Sort.xorNext r).toNat &&& (M - 1)) := Lib.hid (by
        have e : R' = (Sort.xorNext r).toNat := by rw [hR', Sort.xorNext_toNat]
        exact ⟨e, by rw [hO, e]⟩)
      clear hR' hO
      by_cases hLO : L ≤ O
      · have hLOz : (L : Int) ≤ (O : Int) := by omega
        have HS1 : Hid (∀ v, Sx g n w.heap.size w dk R' v → Calls Try.prog 83 #[.slice (some ⟨g, 0, none⟩) n n, .int .i64 ((a : Int) + (L : Int) / 4 * 2 - 1 + (t : Int)), .int .i64 ((a : Int) + ((O : Int) - (L : Int)))] v fun e w' => e = .returned (.tuple #[]) ∧ Sx g n w.heap.size w (Sort.swp dk (a + L / 4 * 2 - 1 + t) (a + (O - L))) R' w') := Lib.hid fun v hv => by
          have := HSW.out dk R' v (a + L / 4 * 2 - 1 + t) (a + (O - L)) hv (by omega) (by omega)
          rwa [show ((a + L / 4 * 2 - 1 + t : Nat) : Int) = (a : Int) + (L : Int) / 4 * 2 - 1 + (t : Int) by omega, show ((a + (O - L) : Nat) : Int) = (a : Int) + ((O : Int) - (L : Int)) by omega] at this
        have HE : Hid (bpRest a L M (a + L / 4 * 2 - 1) (3 - (t + 1)) (t + 1) (Sort.xorNext r, Sort.swp dk (a + L / 4 * 2 - 1 + t) (a + (O - L))) = bpRest a L M (a + L / 4 * 2 - 1) 3 0 (UInt64.ofNat L, d)) := Lib.hid (by rw [← HR.out, bp_step a L M _ t r dk (O - L) ht3 (by rw [← HN.out.2, if_pos (by omega)])])
        go_wp2_with (first
          | (go_at_call 61; refine HNT.out.mono ?_; rintro e w2 ⟨rfl, q2⟩)
          | (go_at_call 83; refine (HS1.out _ (by (repeat (first | exact q2 | apply Sx.drew)))).mono ?_; rintro e w3 ⟨rfl, q3⟩))
        go_roundg (3 - (t + 1))
        case measure => omega
        case rel => exact ⟨t + 1, Sort.xorNext r, _, by congr 1; push_cast; omega, by omega, Nat.le_refl _, Lib.hid (by rw [← HN.out.1]; exact q3), HE⟩
      · have hLOz : ¬ (L : Int) ≤ (O : Int) := by omega
        have HS1 : Hid (∀ v, Sx g n w.heap.size w dk R' v → Calls Try.prog 83 #[.slice (some ⟨g, 0, none⟩) n n, .int .i64 ((a : Int) + (L : Int) / 4 * 2 - 1 + (t : Int)), .int .i64 ((a : Int) + (O : Int))] v fun e w' => e = .returned (.tuple #[]) ∧ Sx g n w.heap.size w (Sort.swp dk (a + L / 4 * 2 - 1 + t) (a + O)) R' w') := Lib.hid fun v hv => by
          have := HSW.out dk R' v (a + L / 4 * 2 - 1 + t) (a + O) hv (by omega) (by omega)
          rwa [show ((a + L / 4 * 2 - 1 + t : Nat) : Int) = (a : Int) + (L : Int) / 4 * 2 - 1 + (t : Int) by omega, show ((a + O : Nat) : Int) = (a : Int) + (O : Int) by omega] at this
        have HE : Hid (bpRest a L M (a + L / 4 * 2 - 1) (3 - (t + 1)) (t + 1) (Sort.xorNext r, Sort.swp dk (a + L / 4 * 2 - 1 + t) (a + O)) = bpRest a L M (a + L / 4 * 2 - 1) 3 0 (UInt64.ofNat L, d)) := Lib.hid (by rw [← HR.out, bp_step a L M _ t r dk O ht3 (by rw [← HN.out.2, if_neg (by omega)])])
        go_wp2_with (first
          | (go_at_call 61; refine HNT.out.mono ?_; rintro e w2 ⟨rfl, q2⟩)
          | (go_at_call 83; refine (HS1.out _ (by (repeat (first | exact q2 | apply Sx.drew)))).mono ?_; rintro e w3 ⟨rfl, q3⟩))
        go_roundg (3 - (t + 1))
        case measure => omega
        case rel => exact ⟨t + 1, Sort.xorNext r, _, by congr 1; push_cast; omega, by omega, Nat.le_refl _, Lib.hid (by rw [← HN.out.1]; exact q3), HE⟩
    · obtain rfl : t = 3 := by omega
      have hle : ¬ ((a : Int) + (L : Int) / 4 * 2 - 1 + ((3 : Nat) : Int) ≤ (a : Int) + (L : Int) / 4 * 2 + 1) := by omega
      have HE : Hid ((bpRest a L M (a + L / 4 * 2 - 1) 3 0 (UInt64.ofNat L, d)) = dk) := Lib.hid (by rw [← HR.out]; rfl)
      go_wp2_with fail
      go_end0
      exact ⟨rfl, by rw [HE.out]; exact HW.out.sw⟩

end Go.Proofs.Ytomloodakabcbaa.Et

namespace Go.Proofs.Ytomloodakabcbaa.Et
open Go.RowKit Go.Proofs.Ytomloodakabcbaa.Cond Go.Proofs.Ytomloodakabcbaa.Gx
set_option linter.unusedVariables false
set_option linter.unusedSimpArgs false

set_option maxRecDepth 100000 in
set_option maxHeartbeats 16000000 in
theorem peA {g n : Nat} (a b pivot : Nat) (d : Array E) (w : World) (h : Sw g n w d w) (hn : n ≤ 40) (hap : a ≤ pivot) (hpb : pivot < b) (hb : b ≤ n) :
    Calls Try.prog 54 #[rvE g n, .int .i64 (a : Int), .int .i64 (b : Int), .int .i64 (pivot : Int)] w fun e w' => e = .returned (.int .i64 ((Sort.partitionEqual ltE d a b pivot).1 : Int)) ∧ Sw g n w (Sort.partitionEqual ltE d a b pivot).2 w' := by
  have mL := reachLess (some ⟨g, 0, none⟩) n n
  have mS := reachSwap (some ⟨g, 0, none⟩) n n
  have HL := Lib.hid (lsA (g := g) (w := w) hn)
  have HS := Lib.hid (ssA (g := g) (w := w) hn)
  have H0 := Lib.hid h
  have HS0 := Lib.hid (HS.out d w a pivot h (by omega) (by omega))
  clear h
  go_enter Try.func54, Try.ntmps54
  go_wp2_with (go_at_call 83; refine HS0.out.mono ?_; rintro e w3 ⟨rfl, hw3⟩)
  go_loopw [9, 10] (fun vi vj wr => ∃ (i j : Nat) (dk : Array E), vi = .int .i64 (i : Int) ∧ vj = .int .i64 (j : Int) ∧ a < i ∧ i ≤ j + 1 ∧ j < b ∧ Hid (Sw g n w dk wr) ∧ Hid (Sort.partEqLoop ltE a i j dk = Sort.partEqLoop ltE a (a + 1) (b - 1) (Sort.swp d a pivot))) (fun vi vj _ => (intOf vj).toNat + 1 - (intOf vi).toNat)
  case atStart => exact ⟨a + 1, b - 1, Sort.swp d a pivot, by go_num, by go_num, by omega, by omega, by omega, Lib.hid hw3, Lib.hid rfl⟩
  case round =>
    clear hw3
    obtain ⟨i, j, dk, rfl, rfl, hai, hij, hjb, HW, AE⟩ := hrel
    go_wp2_with fail
    go_loopw [9] (fun vi w1 => ∃ (i' : Nat), vi = .int .i64 (i' : Int) ∧ i ≤ i' ∧ i' ≤ j + 1 ∧ Hid (Sw g n w dk w1) ∧ Hid (Sort.scanUp (fun x => !ltE dk[a]! x) dk j i' = Sort.scanUp (fun x => !ltE dk[a]! x) dk j i)) (fun vi _ => j + 1 - (intOf vi).toNat)
    case atStart => exact ⟨i, rfl, Nat.le_refl _, hij, HW, Lib.hid rfl⟩
    case round =>
      obtain ⟨i', rfl, hii, hij', HJ, HSC⟩ := hrel
      by_cases hle : i' ≤ j
      · have hlez : (i' : Int) ≤ (j : Int) := by omega
        have HLU : Hid (∀ v, Sw g n w dk v → Calls Try.prog 82 #[.slice (some ⟨g, 0, none⟩) n n, .int .i64 (a : Int), .int .i64 (i' : Int)] v fun e w' => e = .returned (.bool (ltE dk[a]! dk[i']!)) ∧ Sw g n w dk w') := Lib.hid fun v hv => HL.out dk v a i' hv (by omega) (by omega)
        obtain ⟨u, hu⟩ : ∃ u, u = ltE dk[a]! dk[i']! := ⟨_, rfl⟩
        rw [← hu] at HLU
        have HU := Lib.hid hu
        clear hu
        cases u
        · have HN : Hid (Sort.scanUp (fun x => !ltE dk[a]! x) dk j (i' + 1) = Sort.scanUp (fun x => !ltE dk[a]! x) dk j i) := Lib.hid ((scanUp_go (fun x => !ltE dk[a]! x) dk j i' hle (by simp [← HU.out])).symm.trans HSC.out)
          go_wp2_with (go_at_call 82; (with_reducible refine (HLU.out _ (by (repeat (first | exact HJ.out | apply Sw.drew)))).mono ?_); rintro e w2 ⟨rfl, hw2⟩)
          go_roundw
          case rel => exact ⟨i' + 1, by go_num, by omega, by omega, Lib.hid hw2, HN⟩
          case measure => simp [intOf]; omega
        · have HI2 : Hid (i' = Sort.scanUp (fun x => !ltE dk[a]! x) dk j i) := Lib.hid ((scanUp_end (fun x => !ltE dk[a]! x) dk j i' (.inr (by simp [← HU.out]))).symm.trans HSC.out)
          go_wp2_with (go_at_call 82; (with_reducible refine (HLU.out _ (by (repeat (first | exact HJ.out | apply Sw.drew)))).mono ?_); rintro e w2 ⟨rfl, hw2⟩)
          have HJ2 := Lib.hid hw2
          clear hw2 HLU
          go_loopw [10] (fun vj w2 => ∃ (j' : Nat), vj = .int .i64 (j' : Int) ∧ j' ≤ j ∧ i' ≤ j' + 1 ∧ Hid (Sw g n w dk w2) ∧ Hid (Sort.scanDown (fun x => ltE dk[a]! x) dk i' j' = Sort.scanDown (fun x => ltE dk[a]! x) dk i' j)) (fun vj _ => (intOf vj).toNat)
          case atStart => exact ⟨j, rfl, Nat.le_refl _, hij', HJ2, Lib.hid rfl⟩
          case round =>
            obtain ⟨j', rfl, hjj, hij2, HD, HSD⟩ := hrel
            by_cases hle2 : i' ≤ j'
            · have hle2z : (i' : Int) ≤ (j' : Int) := by omega
              have HLD : Hid (∀ v, Sw g n w dk v → Calls Try.prog 82 #[.slice (some ⟨g, 0, none⟩) n n, .int .i64 (a : Int), .int .i64 (j' : Int)] v fun e w' => e = .returned (.bool (ltE dk[a]! dk[j']!)) ∧ Sw g n w dk w') := Lib.hid fun v hv => HL.out dk v a j' hv (by omega) (by omega)
              obtain ⟨v, hv⟩ : ∃ u, u = ltE dk[a]! dk[j']! := ⟨_, rfl⟩
              rw [← hv] at HLD
              have HV := Lib.hid hv
              clear hv
              cases v
              · have HJX : Hid (j' = Sort.scanDown (fun x => ltE dk[a]! x) dk i' j) := Lib.hid ((scanDown_end (fun x => ltE dk[a]! x) dk i' j' (.inr HV.out.symm)).symm.trans HSD.out)
                have hlt3 := scans_lt ltE a i j dk (by omega) HI2.out HJX.out hle2
                have HSX := Lib.hid fun v hv => HS.out dk v i' j' hv (by omega) (by omega)
                go_wp2_with (first
                  | (go_at_call 82; (with_reducible refine (HLD.out _ (by (repeat (first | exact HD.out | apply Sw.drew)))).mono ?_); rintro e w2 ⟨rfl, hw2⟩)
                  | (go_at_call 83; (with_reducible refine (HSX.out _ (by (repeat (first | exact hw2 | apply Sw.drew)))).mono ?_); rintro e w3 ⟨rfl, hw3⟩))
                have HN : Hid (Sort.partEqLoop ltE a (i' + 1) (j' - 1) (Sort.swp dk i' j') = Sort.partEqLoop ltE a (a + 1) (b - 1) (Sort.swp d a pivot)) := Lib.hid (by rw [← AE.out]; exact (partEq_go ltE a i j dk HI2.out HJX.out (by omega)).symm)
                go_roundw
                case rel => exact ⟨i' + 1, j' - 1, Sort.swp dk i' j', by go_num, by go_num, by omega, by omega, by omega, Lib.hid hw3, HN⟩
                case measure => simp [intOf]; omega
              · have HN : Hid (Sort.scanDown (fun x => ltE dk[a]! x) dk i' (j' - 1) = Sort.scanDown (fun x => ltE dk[a]! x) dk i' j) := Lib.hid ((scanDown_go (fun x => ltE dk[a]! x) dk i' j' hle2 (by omega) HV.out.symm).symm.trans HSD.out)
                go_wp2_with (go_at_call 82; (with_reducible refine (HLD.out _ (by (repeat (first | exact HD.out | apply Sw.drew)))).mono ?_); rintro e w2 ⟨rfl, hw2⟩)
                go_roundw
                case rel => exact ⟨j' - 1, by go_num, by omega, by omega, Lib.hid hw2, HN⟩
                case measure => simp [intOf]; omega
            · have hle2z : ¬ (i' : Int) ≤ (j' : Int) := by omega
              have HJX : Hid (j' = Sort.scanDown (fun x => ltE dk[a]! x) dk i' j) := Lib.hid ((scanDown_end (fun x => ltE dk[a]! x) dk i' j' (.inl hle2)).symm.trans HSD.out)
              have HX : Hid (Sort.partitionEqual ltE d a b pivot = (i', dk)) := Lib.hid (by unfold Sort.partitionEqual; rw [← AE.out, partEq_break ltE a i j dk HI2.out HJX.out (by omega)])
              go_wp2_with fail
              go_ret
              rw [HX.out]
              exact ⟨rfl, HD.out⟩
      · have hlez : ¬ (i' : Int) ≤ (j : Int) := by omega
        have HI2 : Hid (i' = Sort.scanUp (fun x => !ltE dk[a]! x) dk j i) := Lib.hid ((scanUp_end (fun x => !ltE dk[a]! x) dk j i' (.inl hle)).symm.trans HSC.out)
        go_wp2_with fail
        go_loopw [10] (fun vj w2 => ∃ (j' : Nat), vj = .int .i64 (j' : Int) ∧ j' ≤ j ∧ i' ≤ j' + 1 ∧ Hid (Sw g n w dk w2) ∧ Hid (Sort.scanDown (fun x => ltE dk[a]! x) dk i' j' = Sort.scanDown (fun x => ltE dk[a]! x) dk i' j)) (fun vj _ => (intOf vj).toNat)
        case atStart => exact ⟨j, rfl, Nat.le_refl _, hij', HJ, Lib.hid rfl⟩
        case round =>
          obtain ⟨j', rfl, hjj, hij2, HD, HSD⟩ := hrel
          by_cases hle2 : i' ≤ j'
          · exfalso; omega
          · have hle2z : ¬ (i' : Int) ≤ (j' : Int) := by omega
            have HJX : Hid (j' = Sort.scanDown (fun x => ltE dk[a]! x) dk i' j) := Lib.hid ((scanDown_end (fun x => ltE dk[a]! x) dk i' j' (.inl hle2)).symm.trans HSD.out)
            have HX : Hid (Sort.partitionEqual ltE d a b pivot = (i', dk)) := Lib.hid (by unfold Sort.partitionEqual; rw [← AE.out, partEq_break ltE a i j dk HI2.out HJX.out (by omega)])
            go_wp2_with fail
            go_ret
            rw [HX.out]
            exact ⟨rfl, HD.out⟩

end Go.Proofs.Ytomloodakabcbaa.Et
