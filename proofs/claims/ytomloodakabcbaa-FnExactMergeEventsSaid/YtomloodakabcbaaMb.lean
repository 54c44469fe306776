/-
  sort's pdqsort over a row of at most 40 events.
  sort.Sort over a row of at most 40 events: a permutation, in order.
-/
import Derived.Test.YtomloodakabcbaaSoHa
import Derived.Test.YtomloodakabcbaaSoHb
import Derived.Test.YtomloodakabcbaaSoHc
import Derived.Test.YtomloodakabcbaaMa
import Derived.Test.YtomloodakabcbaaSoPd
import Derived.Sort.Walk13
import Derived.Sort.Walk13a
import Derived.Sort.AssemblyPlain
namespace Go.Proofs.Ytomloodakabcbaa.Et
open Go.RowKit Go.Proofs.Ytomloodakabcbaa.Cond Go.Proofs.Ytomloodakabcbaa.Gx
set_option linter.unusedVariables false
set_option linter.unusedSimpArgs false

set_option maxHeartbeats 16000000 in
set_option maxRecDepth 1000000 in
theorem pdA {g n : Nat} (hn : n ≤ 40) (hO : Sort.SWO ltE) :
    ∀ (N a b limit : Nat) (d : Array E) (w : World), b - a < N → Sw g n w d w → a ≤ b → b ≤ n → limit < 4611686018427387904 → Sort.Below ltE a b d →
    Calls Try.prog 36 #[rvE g n, .int .i64 (a : Int), .int .i64 (b : Int), .int .i64 (limit : Int)] w fun e w' => e = .returned (.tuple #[]) ∧ Sw g n w (Sort.pdq ltE d a b limit true true) w' := by
  have mL := reachLess (some ⟨g, 0, none⟩) n n
  intro N
  induction N with
  | zero => intro _ _ _ _ _ h; exact absurd h (Nat.not_lt_zero _)
  | succ N ih =>
    intro a b limit d w hN h hab hb hlimit hBel0
    have HL := Lib.hid (lsA (g := g) (w := w) hn)
    have H0 := Lib.hid h
    have hsz0 : d.size = n := h.siz
    clear h
    go_enter Try.func36, Try.ntmps36
    go_wp2_with fail
    go_loopg [1, 2, 3, 8, 9] (b - a) (fun k s1 s2 s3 s8 s9 wr => ∃ (a' b' lim : Nat) (wb wp : Bool) (dk : Array E), s1 = .int .i64 (a' : Int) ∧ s2 = .int .i64 (b' : Int) ∧ s3 = .int .i64 (lim : Int) ∧ s8 = .bool wb ∧ s9 = .bool wp ∧
      a' ≤ b' ∧ b' ≤ n ∧ b' - a' ≤ k ∧ k ≤ b - a ∧ lim ≤ limit ∧ Hid (Sort.Below ltE a' b' dk) ∧ Hid (Sw g n w dk wr) ∧ Hid (Sort.pdq ltE dk a' b' lim wb wp = Sort.pdq ltE d a b limit true true))
    case atStart => exact ⟨a, b, limit, true, true, d, rfl, rfl, rfl, rfl, rfl, hab, hb, Nat.le_refl _, Nat.le_refl _, Nat.le_refl _, Lib.hid hBel0, H0, Lib.hid rfl⟩
    case round =>
      obtain ⟨a', b', lim, wb, wp, dk, rfl, rfl, rfl, rfl, rfl, hab', hb', hk, hkN, hlim, HBel, HW, A⟩ := hrel
      have hds : dk.size = n := HW.out.siz
      by_cases h12 : b' - a' ≤ 12
      · have h12z : (b' : Int) - (a' : Int) ≤ 12 := by omega
        have hc := Lib.hid (insA a' b' dk wr HW.out.re hn hab' hb')
        have HX : Hid (Sort.pdq ltE d a b limit true true = Sort.insertionSort ltE dk a' b') := Lib.hid (by rw [← A.out, Sort.pdq_small h12])
        go_wp2_with (go_at_call 48; refine hc.out.mono ?_; rintro e w1 ⟨rfl, hw1⟩)
        (try simp only [Exit.inBlock, Exit.then])
        refine bodyPost_ret (results_none rfl _ _ _) rfl ?_
        exact ⟨rfl, by rw [HX.out]; exact HW.out.to hw1⟩
      · have h12z : ¬ ((b' : Int) - (a' : Int) ≤ 12) := by omega
        by_cases hl0 : lim = 0
        · subst hl0
          have hc := Lib.hid (hsA a' b' dk wr HW.out.re hn hab' hb')
          have HX : Hid (Sort.pdq ltE d a b limit true true = Sort.heapSort ltE dk a' b') := Lib.hid (by rw [← A.out, Sort.pdq_heap h12 rfl])
          go_wp2_with (go_at_call 49; refine hc.out.mono ?_; rintro e w1 ⟨rfl, hw1⟩)
          (try simp only [Exit.inBlock, Exit.then])
          refine bodyPost_ret (results_none rfl _ _ _) rfl ?_
          exact ⟨rfl, by rw [HX.out]; exact HW.out.to hw1⟩
        · have hl0z : ¬ ((lim : Int) = 0) := by omega
          obtain ⟨s1, B1, hc1, s2, B2, hpv, s3, B3⟩ := Sort.rd_facts (lt := ltE) (limit := lim) (wb := wb) (wp := wp) hO Sort.partialInsertionSort_holds Sort.reverseRange_holds (show a' < b' by omega) (show b' ≤ dk.size by omega) HBel.out
          have HBB := Lib.hid (And.intro B1 (And.intro B2 B3))
          clear B1 B2 B3
          go_upto_if 35 with fail
          go_cut [3] from 19 (fun s3 wc => s3 = .int .i64 ((Sort.rd ltE dk a' b' lim wb wp).lim : Int) ∧ Hid (Sw g n w (Sort.rd ltE dk a' b' lim wb wp).d1 wc))
          case first =>
            cases wb
            · have hc : Hid (Calls Try.prog 50 #[rvE g n, .int .i64 (a' : Int), .int .i64 (b' : Int)] wr fun e w' => e = .returned (.tuple #[]) ∧ Sw g n wr (Sort.breakPatterns dk a' b') w') := Lib.hid (by
                have := bpA a' (b' - a') dk wr HW.out.re hn (by omega) (by omega)
                rwa [show a' + (b' - a') = b' by omega] at this)
              go_wp2_with (go_at_call 50; refine hc.out.mono ?_; rintro e w1 ⟨rfl, hw1⟩)
              go_meet
              case rel =>
                refine ⟨?_, Lib.hid (HW.out.to hw1)⟩
                show Value.int .i64 ((lim : Int) - 1) = Value.int .i64 ((lim - 1 : Nat) : Int)
                congr 1
                omega
            · go_wp2_with fail
              go_meet
              case rel => exact ⟨rfl, HW⟩
          case rest =>
            obtain ⟨rfl, hAt1⟩ := hcut
            have hc17 : Hid (Calls Try.prog 51 #[rvE g n, .int .i64 (a' : Int), .int .i64 (b' : Int)] wc fun e w' => e = .returned (.tuple #[.int .i64 ((Sort.rd ltE dk a' b' lim wb wp).c.1 : Int), .int .i64 (Sort.hintCode (Sort.rd ltE dk a' b' lim wb wp).c.2)]) ∧ Sw g n wc (Sort.rd ltE dk a' b' lim wb wp).d1 w') := Lib.hid (cpA a' b' (Sort.rd ltE dk a' b' lim wb wp).d1 wc hAt1.out.re hn (by omega) hb')
            go_upto_if 50 with (go_at_call 51; refine hc17.out.mono ?_; rintro e w2 ⟨rfl, hw2⟩)
            have hAt2 := Lib.hid (hAt1.out.to hw2)
            clear hw2 hc17
            go_cut [11, 12] from 19 (fun s11 s12 wc => s11 = .int .i64 ((Sort.rd ltE dk a' b' lim wb wp).pivot : Int) ∧ s12 = .int .i64 (Sort.hintCode (Sort.rd ltE dk a' b' lim wb wp).hint) ∧ Hid (Sw g n w (Sort.rd ltE dk a' b' lim wb wp).d2 wc))
            case first =>
              by_cases hh : (Sort.rd ltE dk a' b' lim wb wp).c.2 = .decreasing
              · have hcode : Sort.hintCode (Sort.rd ltE dk a' b' lim wb wp).c.2 = 2 := by rw [hh]; rfl
                obtain ⟨e2, epv, eht⟩ := Sort.rd_dec hh
                have hc18 := Lib.hid (revA a' b' (Sort.rd ltE dk a' b' lim wb wp).d1 w2 hAt2.out.re hn hab' hb')
                go_wp2_with (go_at_call 52; refine hc18.out.mono ?_; rintro e w3 ⟨rfl, hw3⟩)
                go_meet
                case rel =>
                  refine ⟨?_, by rw [eht]; rfl, by rw [e2]; exact Lib.hid (hAt2.out.to hw3)⟩
                  rw [epv]
                  congr 1
                  omega
              · have hcode : ¬ (Sort.hintCode (Sort.rd ltE dk a' b' lim wb wp).c.2 = 2) := fun h => hh (hintCode_two h)
                obtain ⟨e2, epv, eht⟩ := Sort.rd_not hh
                go_wp2_with fail
                go_meet
                case rel => exact ⟨by rw [epv], by rw [eht], by rw [e2]; exact hAt2⟩
            case rest =>
              obtain ⟨rfl, rfl, hAt3⟩ := hcut
              go_upto_region 15 with fail
              go_cut [12, 68] from 19 (fun s12 s68 wx => s12 = .int .i64 (Sort.hintCode (Sort.rd ltE dk a' b' lim wb wp).hint) ∧ s68 = .bool (wb && wp && decide ((Sort.rd ltE dk a' b' lim wb wp).hint = .increasing)) ∧ wx = wc)
              case first =>
                cases wb <;> cases wp <;> cases hh3 : (Sort.rd ltE dk a' b' lim _ _).hint <;>
                  (have hcode3 := congrArg Sort.hintCode hh3
                   simp only [Sort.hintCode] at hcode3
                   go_wp2_with fail
                   go_meet
                   exact ⟨by simp [hh3, Sort.hintCode], by simp [hh3, Sort.hintCode], rfl⟩)
              case rest =>
                obtain ⟨rfl, rfl, rfl⟩ := hcut
                go_upto_if 68 with fail
                go_cut [] from 19 (fun wx => (Sort.rd ltE dk a' b' lim wb wp).pi.2 = false ∧ Hid (Sw g n w (Sort.rd ltE dk a' b' lim wb wp).pi.1 wx))
                case first =>
                  cases h68 : (wb && wp && decide ((Sort.rd ltE dk a' b' lim wb wp).hint = .increasing))
                  · have epi := Sort.rd_pi_no h68
                    go_wp2_with fail
                    go_meet
                    case rel => exact ⟨by rw [epi], by rw [epi]; exact hAt3⟩
                  · have epi := Sort.rd_pi_yes h68
                    have hc19 := piA a' b' (Sort.rd ltE dk a' b' lim wb wp).d2 wc hAt3.out.re hn (by omega) hb'
                    rw [← epi] at hc19
                    have HX := Lib.hid (fun hp2 => Sort.pdq_done (wb := wb) (wp := wp) (lt := ltE) (d := dk) h12 hl0 hp2)
                    have HEP := Lib.hid epi
                    obtain ⟨pz, hpz⟩ : ∃ z, z = (Sort.rd ltE dk a' b' lim wb wp).pi.2 := ⟨_, rfl⟩
                    rw [← hpz] at hc19
                    have HPZ := Lib.hid hpz
                    have HC19 := Lib.hid hc19
                    clear epi hpz hc19
                    cases pz
                    · go_wp2_with (go_at_call 53; refine HC19.out.mono ?_; rintro e w4 ⟨rfl, hw4⟩)
                      go_meet
                      exact ⟨HPZ.out.symm, Lib.hid (hAt3.out.to hw4)⟩
                    · go_wp2_with (go_at_call 53; refine HC19.out.mono ?_; rintro e w4 ⟨rfl, hw4⟩)
                      (try simp only [Exit.inBlock, Exit.then])
                      refine bodyPost_ret (results_none rfl _ _ _) rfl ?_
                      refine ⟨rfl, ?_⟩
                      rw [← A.out, HX.out HPZ.out.symm]
                      exact hAt3.out.to hw4
                case rest =>
                  obtain ⟨hp2, hAt5⟩ := hcut
                  go_upto_region 17 with fail
                  go_cut [82] from 19 (fun s82 wx => s82 = .bool (decide (a' > 0) && !ltE (Sort.rd ltE dk a' b' lim wb wp).pi.1[a' - 1]! (Sort.rd ltE dk a' b' lim wb wp).pi.1[(Sort.rd ltE dk a' b' lim wb wp).pivot]!) ∧ Hid (Sw g n w (Sort.rd ltE dk a' b' lim wb wp).pi.1 wx))
                  case first =>
                    rcases Nat.eq_zero_or_pos a' with ha0 | ha0
                    · have ha0z : decide ((a' : Int) > 0) = false := decide_eq_false (by omega)
                      go_wp2_with fail
                      go_meet
                      case rel => exact ⟨by simp [ha0], hAt5⟩
                    · have ha0z : (a' : Int) > 0 := by omega
                      obtain ⟨u, hu⟩ : ∃ u, u = ltE (Sort.rd ltE dk a' b' lim wb wp).pi.1[a' - 1]! (Sort.rd ltE dk a' b' lim wb wp).pi.1[(Sort.rd ltE dk a' b' lim wb wp).pivot]! := ⟨_, rfl⟩
                      have hl : Hid (Calls Try.prog 82 #[.slice (some ⟨g, 0, none⟩) n n, .int .i64 ((a' : Int) - 1), .int .i64 ((Sort.rd ltE dk a' b' lim wb wp).pivot : Int)] wc fun e w' => e = .returned (.bool u) ∧ Sw g n w (Sort.rd ltE dk a' b' lim wb wp).pi.1 w') := Lib.hid (by
                        have := HL.out (Sort.rd ltE dk a' b' lim wb wp).pi.1 wc (a' - 1) (Sort.rd ltE dk a' b' lim wb wp).pivot hAt5.out (by omega) (by omega)
                        rw [← hu, show ((a' - 1 : Nat) : Int) = (a' : Int) - 1 by omega] at this
                        exact this)
                      have HU := Lib.hid hu
                      clear hu
                      cases u <;>
                        (go_wp2_with (go_at_call 82; refine hl.out.mono ?_; rintro e w' ⟨rfl, hwl⟩)
                         go_meet
                         exact ⟨by rw [← HU.out]; simp [ha0], Lib.hid hwl⟩)
                  case rest =>
                    obtain ⟨rfl, hAt6⟩ := hcut
                    cases h87 : (decide (a' > 0) && !ltE (Sort.rd ltE dk a' b' lim wb wp).pi.1[a' - 1]! (Sort.rd ltE dk a' b' lim wb wp).pi.1[(Sort.rd ltE dk a' b' lim wb wp).pivot]!)
                    · obtain ⟨mid, ap, d4, hx⟩ : ∃ mid ap d4, Sort.partition ltE (Sort.rd ltE dk a' b' lim wb wp).pi.1 a' b' (Sort.rd ltE dk a' b' lim wb wp).pivot = (mid, ap, d4) := ⟨(Sort.partition ltE (Sort.rd ltE dk a' b' lim wb wp).pi.1 a' b' (Sort.rd ltE dk a' b' lim wb wp).pivot).1, (Sort.partition ltE (Sort.rd ltE dk a' b' lim wb wp).pi.1 a' b' (Sort.rd ltE dk a' b' lim wb wp).pivot).2.1, (Sort.partition ltE (Sort.rd ltE dk a' b' lim wb wp).pi.1 a' b' (Sort.rd ltE dk a' b' lim wb wp).pivot).2.2, rfl⟩
                      obtain ⟨r1, r2, r3, r4, r5, r6, r7⟩ := Sort.round_part hO (Sort.partition_holds ltE) hpv.1 hpv.2 (show b' ≤ (Sort.rd ltE dk a' b' lim wb wp).pi.1.size by omega) HBB.out.2.2 hx
                      have hc22 := ptA a' b' (Sort.rd ltE dk a' b' lim wb wp).pivot (Sort.rd ltE dk a' b' lim wb wp).pi.1 wc hAt6.out.re hn hpv.1 hpv.2 hb'
                      rw [hx] at hc22
                      have HC22 := Lib.hid hc22
                      have X : Hid (Sort.partition ltE (Sort.rd ltE dk a' b' lim wb wp).pi.1 a' b' (Sort.rd ltE dk a' b' lim wb wp).pivot = (mid, ap, d4)) := Lib.hid hx
                      have R67 := Lib.hid (And.intro r6 r7)
                      have R45 := Lib.hid (And.intro r4 r5)
                      clear hx hc22 r6 r7 r4 r5
                      go_upto_if 108 with (go_at_call 55; refine HC22.out.mono ?_; rintro e w7 ⟨rfl, hw7⟩)
                      have hx := X.out
                      have hs4 : d4.size = n := hw7.siz
                      have hAt7 := Lib.hid (hAt6.out.to hw7)
                      clear hw7 HC22
                      by_cases h4 : mid - a' < b' - mid
                      · have h4z : (mid : Int) - (a' : Int) < (b' : Int) - (mid : Int) := by omega
                        have hih := Lib.hid (ih a' mid (Sort.rd ltE dk a' b' lim wb wp).lim d4 w7 (by omega) hAt7.out.re (by omega) (by omega) (Nat.lt_of_le_of_lt (Nat.le_trans Sort.rd_lim_le hlim) hlimit) R45.out.1)
                        obtain ⟨pL, sL⟩ := Sort.pdq_sorts ltE hO d4 a' mid (Sort.rd ltE dk a' b' lim wb wp).lim true true (by omega) (by omega) R45.out.1
                        have PS := Lib.hid (And.intro pL sL)
                        clear pL sL
                        go_wp2_with (go_at_call 36; refine hih.out.mono ?_; rintro e w8 ⟨rfl, hw8⟩)
                        go_roundg (b' - (mid + 1))
                        case measure => omega
                        case rel =>
                          refine ⟨mid + 1, b', (Sort.rd ltE dk a' b' lim wb wp).lim, decide (mid - a' ≥ (b' - a') / 8), ap, Sort.pdq ltE d4 a' mid (Sort.rd ltE dk a' b' lim wb wp).lim true true, by simp, rfl, rfl, ?_, rfl, by omega, by omega, Nat.le_refl _, by omega, Nat.le_trans Sort.rd_lim_le hlim, Lib.hid (R67.out.1 _ PS.out.1 PS.out.2).1, Lib.hid (hAt7.out.to hw8), Lib.hid ?_⟩
                          · exact congrArg Value.bool (eighth (by omega) (by omega))
                          · rw [← A.out, Sort.pdq_left h12 hl0 hp2 h87 (by rw [hx]; exact ⟨r1, r2⟩) (by rw [hx]; exact h4), hx]
                      · have h4z : ¬ ((mid : Int) - (a' : Int) < (b' : Int) - (mid : Int)) := by omega
                        have hih := ih (mid + 1) b' (Sort.rd ltE dk a' b' lim wb wp).lim d4 w7 (by omega) hAt7.out.re (by omega) (by omega) (Nat.lt_of_le_of_lt (Nat.le_trans Sort.rd_lim_le hlim) hlimit) R45.out.2
                        rw [show ((mid + 1 : Nat) : Int) = (mid : Int) + 1 by omega] at hih
                        have HIH := Lib.hid hih
                        obtain ⟨pL, sL⟩ := Sort.pdq_sorts ltE hO d4 (mid + 1) b' (Sort.rd ltE dk a' b' lim wb wp).lim true true (by omega) (by omega) R45.out.2
                        have PS := Lib.hid (And.intro pL sL)
                        clear pL sL hih
                        go_wp2_with (go_at_call 36; refine HIH.out.mono ?_; rintro e w8 ⟨rfl, hw8⟩)
                        go_roundg (mid - a')
                        case measure => omega
                        case rel =>
                          refine ⟨a', mid, (Sort.rd ltE dk a' b' lim wb wp).lim, decide (b' - mid ≥ (b' - a') / 8), ap, Sort.pdq ltE d4 (mid + 1) b' (Sort.rd ltE dk a' b' lim wb wp).lim true true, rfl, rfl, rfl, ?_, rfl, by omega, by omega, Nat.le_refl _, by omega, Nat.le_trans Sort.rd_lim_le hlim, Lib.hid (R67.out.2 _ PS.out.1 PS.out.2).1, Lib.hid (hAt7.out.to hw8), Lib.hid ?_⟩
                          · exact congrArg Value.bool (eighth (by omega) (by omega))
                          · rw [← A.out, Sort.pdq_right h12 hl0 hp2 h87 (by rw [hx]; exact ⟨r1, r2⟩) (by rw [hx]; exact h4), hx]
                    · have h87' := h87
                      simp only [Bool.and_eq_true, decide_eq_true_eq, Bool.not_eq_true'] at h87'
                      obtain ⟨mid, d4, hx⟩ : ∃ mid d4, Sort.partitionEqual ltE (Sort.rd ltE dk a' b' lim wb wp).pi.1 a' b' (Sort.rd ltE dk a' b' lim wb wp).pivot = (mid, d4) := ⟨(Sort.partitionEqual ltE (Sort.rd ltE dk a' b' lim wb wp).pi.1 a' b' (Sort.rd ltE dk a' b' lim wb wp).pivot).1, (Sort.partitionEqual ltE (Sort.rd ltE dk a' b' lim wb wp).pi.1 a' b' (Sort.rd ltE dk a' b' lim wb wp).pivot).2, rfl⟩
                      obtain ⟨r1, r2, r3, r4, _⟩ := Sort.round_eq hO (Sort.partitionEqual_holds ltE) h87'.1 hpv.1 hpv.2 (show b' ≤ (Sort.rd ltE dk a' b' lim wb wp).pi.1.size by omega) HBB.out.2.2 h87'.2 hx
                      have hc21 := peA a' b' (Sort.rd ltE dk a' b' lim wb wp).pivot (Sort.rd ltE dk a' b' lim wb wp).pi.1 wc hAt6.out.re hn hpv.1 hpv.2 hb'
                      rw [hx] at hc21
                      have HC21 := Lib.hid hc21
                      have X : Hid (Sort.partitionEqual ltE (Sort.rd ltE dk a' b' lim wb wp).pi.1 a' b' (Sort.rd ltE dk a' b' lim wb wp).pivot = (mid, d4)) := Lib.hid hx
                      have R4 := Lib.hid r4
                      clear hx hc21 r4
                      go_wp2_with (go_at_call 54; refine HC21.out.mono ?_; rintro e w7 ⟨rfl, hw7⟩)
                      go_roundg (b' - mid)
                      case measure => omega
                      case rel =>
                        have hx := X.out
                        exact ⟨mid, b', (Sort.rd ltE dk a' b' lim wb wp).lim, wb, wp, d4, rfl, rfl, rfl, rfl, rfl, r2, hb', Nat.le_refl _, by omega, Nat.le_trans Sort.rd_lim_le hlim, R4, Lib.hid (hAt6.out.to hw7), Lib.hid (by rw [← A.out, Sort.pdq_eq h12 hl0 hp2 h87 (by rw [hx]; exact ⟨r1, r2⟩), hx])⟩

end Go.Proofs.Ytomloodakabcbaa.Et

namespace Go.Proofs.Ytomloodakabcbaa.Et
open Go.RowKit Go.Proofs.Ytomloodakabcbaa.Cond Go.Proofs.Ytomloodakabcbaa.Gx
set_option linter.unusedVariables false
set_option linter.unusedSimpArgs false

/-- What sort.Sort leaves in the row. -/
def srtE (d : Array E) (n : Nat) : Array E := if n < 2 then d else Sort.pdq ltE d 0 n (Lib.bitLen n) true true

set_option maxHeartbeats 4000000 in
set_option maxRecDepth 100000 in
theorem sortA {g n : Nat} (hn : n ≤ 40) (hO : Sort.SWO ltE) (d : Array E) (w : World) (h : Sw g n w d w) :
    Calls Try.prog 21 #[rvE g n] w fun e w' => e = .returned (.tuple #[]) ∧ Sw g n w (srtE d n) w' := by
  have mN := reachLen (some ⟨g, 0, none⟩) n n
  have HLN := Lib.hid (lenE (some ⟨g, 0, none⟩) n n)
  have H0 := Lib.hid h
  by_cases h2 : n < 2
  · have HX : Hid (srtE d n = d) := Lib.hid (if_pos h2)
    have h2z : (n : Int) ≤ 1 := by omega
    clear h
    go_enter Try.func21, Try.ntmps21
    go_wp2_with (go_at_call 81; refine (HLN.out _).mono ?_; rintro e w2 ⟨rfl, hw⟩; rw [hw]; clear hw)
    all_goals first
      | (exfalso; omega)
      | ((try simp only [Exit.inBlock, Exit.then]); refine bodyPost_ret (results_none rfl _ _ _) rfl ?_; exact ⟨rfl, by rw [HX.out]; exact H0.out⟩)
  · have HX : Hid (srtE d n = Sort.pdq ltE d 0 n (Lib.bitLen n) true true) := Lib.hid (if_neg h2)
    have h2z : ¬ (n : Int) ≤ 1 := by omega
    have HB : Hid (∀ v, Calls Try.prog 35 #[.int .u64 (n : Int)] v fun e w' => e = .returned (.int .i64 (Lib.bitLen n : Int)) ∧ w' = v) := Lib.hid fun v => by
      have := Try.bits_Len (n : Int) v (by omega) (by omega)
      simpa using this
    have hbl : Lib.bitLen n < 4611686018427387904 := Nat.lt_of_le_of_lt (Lib.bitLen_le n 62 (by omega) (by omega)) (by omega)
    have wr : IntKind.u64.wrap (n : Int) = n := by simp [IntKind.wrap, IntKind.bits, IntKind.signed]; omega
    have HP : Hid (∀ v, Sw g n w d v → Calls Try.prog 36 #[rvE g n, .int .i64 0, .int .i64 (n : Int), .int .i64 (Lib.bitLen n : Int)] v fun e w' => e = .returned (.tuple #[]) ∧ Sw g n w (Sort.pdq ltE d 0 n (Lib.bitLen n) true true) w') := Lib.hid fun v hv =>
      (pdA hn hO (n + 1) 0 n (Lib.bitLen n) d v (by omega) hv.re (by omega) (Nat.le_refl _) hbl (.inl rfl)).mono fun e w' ⟨he, hs⟩ => ⟨he, hv.to hs⟩
    clear h hbl
    go_enter Try.func21, Try.ntmps21
    go_wp2_with (first
      | (go_at_call 81; refine (HLN.out _).mono ?_; rintro e w2 ⟨rfl, hw⟩; rw [hw]; clear hw)
      | (go_at_call 35; refine (HB.out _).mono ?_; rintro e w2 ⟨rfl, hw⟩; rw [hw]; clear hw)
      | (go_at_call 36; refine (HP.out _ (by (repeat (first | exact H0.out | apply Sw.drew)))).mono ?_; rintro e w3 ⟨rfl, hw3⟩))
    all_goals first
      | (exfalso; omega)
      | (go_end0; exact ⟨rfl, by rw [HX.out]; exact hw3⟩)

/-- It is a permutation, in order. -/
theorem srtE_is {d : Array E} {n : Nat} (hO : Sort.SWO ltE) (hs : d.size = n) : Sort.PermIn 0 n d (srtE d n) ∧ Sort.SortedIn ltE 0 n (srtE d n) := by
  unfold srtE
  split
  · exact ⟨⟨rfl, fun _ _ => rfl, List.Perm.refl _⟩, fun i j hi hij hj => by omega⟩
  · exact Sort.pdq_sorts ltE hO d 0 n (Lib.bitLen n) true true (by omega) (by omega) (.inl rfl)

end Go.Proofs.Ytomloodakabcbaa.Et
