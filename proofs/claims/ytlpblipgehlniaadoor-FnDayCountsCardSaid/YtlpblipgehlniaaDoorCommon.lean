/-
  Greatest common divisors: what the model's and the program's functions return.
-/
import Derived.Test.YtlpblipgehlniaaDoorTz
namespace Go.Proofs.YtlpblipgehlniaaDoor.Common
open Go.RowKit Go.Proofs.YtlpblipgehlniaaDoor.Gcd Go.Proofs.YtlpblipgehlniaaDoor.Tz

theorem ret_int {k : IntKind} {a b : Int} (h : a = b) : Ending.returned (.int k a) = .returned (.int k b) := by rw [h]

theorem l2Abs (x : Int) (h0 : -4000000000000000000 ≤ x) (w : World) :
    Calls Tryd.prog 76 #[.int .i64 x] w fun e w' => e = .returned (.int .i64 (x.natAbs : Int)) ∧ w = w' := by
  by_cases h : x < 0
  · have HE : Hid (-x = (x.natAbs : Int)) := Lib.hid (by omega)
    have h1 : x < 9000000000000000000 := by omega
    go_enter Tryd.func76, Tryd.ntmps76
    go_wp2
    go_ret
    exact ⟨ret_int HE.out, rfl⟩
  · have HE : Hid (x = (x.natAbs : Int)) := Lib.hid (by omega)
    go_enter Tryd.func76, Tryd.ntmps76
    go_wp2
    go_ret
    exact ⟨ret_int HE.out, rfl⟩

set_option maxHeartbeats 400000 in
theorem l2Gcd (a b : Nat) (ha : a < 9000000000000000000) (hb : b < 9000000000000000000) (w : World) :
    Calls Tryd.prog 75 #[.int .i64 a, .int .i64 b] w fun e w' => e = .returned (.int .i64 (Nat.gcd a b : Nat)) ∧ w = w' := by
  go_enter Tryd.func75, Tryd.ntmps75
  go_wp2
  go_loop [0, 1] (fun x y => ∃ p q : Nat, p < 9000000000000000000 ∧ q < 9000000000000000000 ∧ x = .int .i64 p ∧ y = .int .i64 q ∧ Hid (Nat.gcd p q = Nat.gcd a b)) (fun _ y => (intOf y).toNat)
  case atStart => exact ⟨a, b, ha, hb, rfl, rfl, Lib.hid rfl⟩
  case round =>
    obtain ⟨p, q, hp, hq, rfl, rfl, HG⟩ := hrel
    by_cases h0 : q = 0
    · subst h0
      have HG' : Hid (p = Nat.gcd a b) := Lib.hid (by rw [← HG.out]; simp)
      go_wp2
      go_ret
      exact ⟨ret_int (by rw [← HG'.out]), rfl⟩
    · have hq0 : ((q : Int) != 0) = true := by simp; omega
      have hq1 : ¬ ((q : Int) = 0) := by omega
      have hlt : p % q < q := Nat.mod_lt _ (by omega)
      have HS := Lib.hid ((gcd_step p q).trans HG.out)
      go_wp2
      go_round
      case rel => exact ⟨q, p % q, hq, by omega, rfl, rfl, HS⟩
      case measure => simp [intOf]; omega

theorem magnitude (x : Int) (h0 : -4000000000000000000 ≤ x) (h9 : x ≤ 4000000000000000000) (w : World) :
    Calls Tryd.prog 87 #[.int .i64 x] w fun e w' => e = .returned (.int .u64 (x.natAbs : Int)) ∧ w = w' := by
  by_cases h : x < 0
  · go_enter Tryd.func87, Tryd.ntmps87
    go_wp2
    go_ret
    refine ⟨ret_int ?_, rfl⟩
    simp only [IntKind.wrap_u64]; omega
  · go_enter Tryd.func87, Tryd.ntmps87
    go_wp2
    go_ret
    refine ⟨ret_int ?_, rfl⟩
    omega

theorem cut_int (x : Nat) (h0 : x ≠ 0) (h : x < 18446744073709551616) : (x : Int) / 2 ^ min (Lib.ctz 64 x) 64 = ((cut x : Nat) : Int) := by
  obtain ⟨_, _, hk⟩ := ctz_spec x h0 h
  rw [Nat.min_eq_left (by omega)]
  unfold cut
  rw [Int.natCast_ediv, Int.natCast_pow]; rfl

set_option maxHeartbeats 1000000 in
theorem commonDivisor (a b : Nat) (ha : a < 4000000000000000000) (hb0 : b ≠ 0) (hb : b < 4000000000000000000) (w : World) (hT : Tab w) :
    Calls Tryd.prog 86 #[.int .u64 a, .int .u64 b] w fun e w' => e = .returned (.int .u64 (Nat.gcd a b : Nat)) ∧ w = w' := by
  have HT := Lib.hid hT
  clear hT
  by_cases h0 : a = 0
  · subst h0
    go_enter Tryd.func86, Tryd.ntmps86
    go_wp2
    go_ret
    exact ⟨ret_int (by simp), rfl⟩
  · have ha0 : ((a : Int) == 0) = false := by simp; omega
    have hor : (a ||| b) < 18446744073709551616 := Nat.or_lt_two_pow (n := 64) (by omega) (by omega)
    have hor0 : (a ||| b) ≠ 0 := fun h => h0 (Nat.or_eq_zero_iff.1 h).1
    have eor := bits_or_u64_nat a b (by omega) (by omega)
    have HO := Lib.hid hor
    have HO0 := Lib.hid hor0
    clear hor hor0
    go_enter Tryd.func86, Tryd.ntmps86
    go_wp2_with (go_at_call 93; refine (tz _ HO.out HO0.out _ HT.out).mono ?_; rintro e w' ⟨rfl, rfl⟩; refine Hid.out ?_)
    refine Lib.hid ?_
    clear eor
    have ecut := cut_int a h0 (by omega)
    go_wp2_with (go_at_call 93; refine (tz a (by omega) h0 _ HT.out).mono ?_; rintro e w' ⟨rfl, rfl⟩)
    have hc1 : cut a < 4000000000000000000 := by have := cut_le a; omega
    have HC1 := Lib.hid (cut_odd a h0 (by omega)).1
    have HST := Lib.hid (Gcd.start a b h0 (by omega) (by omega))
    have ht : Lib.ctz 64 (a ||| b) < 64 := by obtain ⟨_, _, hk⟩ := ctz_spec _ HO0.out HO.out; exact hk
    have HGL : Hid (Nat.gcd a b ≤ b) := Lib.hid (Nat.le_of_dvd (by omega) (Nat.gcd_dvd_right a b))
    clear ecut
    generalize cut a = c at *
    generalize Lib.ctz 64 (a ||| b) = t at *
    go_loop [0, 1] (fun x y => ∃ p q : Nat, p < 4000000000000000000 ∧ q < 4000000000000000000 ∧ x = .int .u64 p ∧ y = .int .u64 q ∧ Hid (p % 2 = 1 ∧ Nat.gcd p q = Nat.gcd c b)) (fun x y => (intOf x).toNat + (intOf y).toNat)
    case atStart => exact ⟨c, b, hc1, hb, rfl, rfl, Lib.hid ⟨HC1.out, rfl⟩⟩
    case round =>
      obtain ⟨p, q, hp, hq, rfl, rfl, HG⟩ := hrel
      by_cases hq0 : q = 0
      · subst hq0
        have HR : Hid (IntKind.u64.wrap ((p : Int) * 2 ^ t) = (Nat.gcd a b : Nat)) := Lib.hid (by
          have e1 := HG.out.2
          rw [Nat.gcd_zero_right] at e1
          have e2 := HST.out
          rw [← e1, Nat.mul_comm] at e2
          rw [IntKind.wrap_u64]
          have e3 : (p : Int) * 2 ^ t = ((Nat.gcd a b : Nat) : Int) := by rw [e2, Int.natCast_mul, Int.natCast_pow]; rfl
          rw [e3]
          have := HGL.out
          omega)
        go_wp2
        go_ret
        exact ⟨ret_int HR.out, rfl⟩
      · have hq1 : ((q : Int) != 0) = true := by simp; omega
        have ecut := cut_int q hq0 (by omega)
        obtain ⟨r1, r2, r3⟩ := Gcd.round p q HG.out.1 hq0 (by omega)
        have hcq : cut q < 4000000000000000000 := by have := cut_le q; omega
        have HR1 := Lib.hid (r1.trans HG.out.2)
        have HR2 := Lib.hid r2
        have HQ0 := Lib.hid hq0
        clear r1 r2 hq0
        by_cases hle : p ≤ cut q
        · rw [Nat.min_eq_left hle, Nat.max_eq_right hle] at HR1 r3
          rw [Nat.min_eq_left hle] at HR2
          go_wp2_with (go_at_call 93; refine (tz q (by omega) HQ0.out _ HT.out).mono ?_; rintro e w' ⟨rfl, rfl⟩)
          go_round
          case rel => exact ⟨p, cut q - p, hp, by omega, by go_num, by go_num, Lib.hid ⟨HR2.out, HR1.out⟩⟩
          case measure => simp [intOf]; omega
        · have hle' : cut q ≤ p := by omega
          rw [Nat.min_eq_right hle', Nat.max_eq_left hle'] at HR1 r3
          rw [Nat.min_eq_right hle'] at HR2
          go_wp2_with (go_at_call 93; refine (tz q (by omega) HQ0.out _ HT.out).mono ?_; rintro e w' ⟨rfl, rfl⟩)
          go_round
          case rel => exact ⟨cut q, p - cut q, hcq, by omega, by go_num, by go_num, Lib.hid ⟨HR2.out, HR1.out⟩⟩
          case measure => simp [intOf]; omega

end Go.Proofs.YtlpblipgehlniaaDoor.Common
