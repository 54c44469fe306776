/-
  What FormatAmount returns, of the model and of the program, at every int.
-/
import Derived.Test.YtgjihejneadadaaDoorFmtPlain
import Derived.Test.YtgjihejneadadaaDoorNum
import Derived.Test.YtgjihejneadadaaDoorAmount
import Derived.Test.YtgjihejneadadaaDoorLaid
import Derived.Test.YtgjihejneadadaaDoorShelf
import Derived.WalkSmall
import Derived.Lib.AppendIntMem
namespace Go.Proofs.YtgjihejneadadaaDoor.FmtAmt
open Go.RowKit Go.Proofs.YtgjihejneadadaaDoor.FmtPlain Go.Proofs.YtgjihejneadadaaDoor.Num Go.Proofs.YtgjihejneadadaaDoor.Amount
set_option linter.unusedSimpArgs false

theorem ret_str {a b : ByteArray} (h : a = b) : Ending.returned (.string a) = .returned (.string b) := by rw [h]

theorem ret_pair {a b : ByteArray} {c : Bool} (h : a = b) : Ending.returned (.tuple #[.string a, .bool c]) = .returned (.tuple #[.string b, .bool c]) := by rw [h]

theorem addIs (a b : List UInt8) (h : a.length + b.length ≤ 100) (w : World) :
    (Op.stringOp .add ⟨a.toArray⟩ ⟨b.toArray⟩).run Tryd.prog w = .ok (.string ⟨(a ++ b).toArray⟩) w := by
  rw [run_string_add_sum w _ _ (by rw [size, size]; omega), cat]

set_option maxHeartbeats 1000000 in
theorem l2FormatPosGreat (N : Nat) (hN : N ≤ 2000000000) (hk : 10 ≤ N % 100) (w : World) :
    Calls Tryd.prog 34 #[.int .i64 (N)] w fun e w' => e = .returned (.string ⟨([] ++ body N).toArray⟩) ∧ ∃ m, w' = w.drewN m := by
  have hq : ∀ w, Calls Tryd.prog 50 #[.int .i64 ((N : Int) / 100)] w fun e w' => e = .returned (.string ⟨(Lib.decDigits (N / 100)).toArray⟩) ∧ ∃ m, w' = w.drewN m := fun w => by
    have h := l1NumPos (N / 100) ((N : Int) / 100) w (by omega) (by omega) (by omega)
    rw [show ((N : Int) / 100).toNat = N / 100 by omega] at h
    exact h
  have hr : ∀ w, Calls Tryd.prog 50 #[.int .i64 ((N : Int) % 100)] w fun e w' => e = .returned (.string ⟨(two (N % 100)).toArray⟩) ∧ ∃ m, w' = w.drewN m := fun w => by
    have h := l1NumPos (N % 100) ((N : Int) % 100) w (by omega) (by omega) (by omega)
    rw [show ((N : Int) % 100).toNat = N % 100 by omega, dec_two _ hk (by omega)] at h
    exact h
  have hl := dec_le (N / 100) (by omega)
  have ht : (two (N % 100)).length = 2 := rfl
  have HT : Hid (True) := Lib.hid (trivial)
  obtain ⟨D, hD⟩ : ∃ D, Lib.decDigits (N / 100) = D := ⟨_, rfl⟩
  obtain ⟨t, htt⟩ : ∃ t, two (N % 100) = t := ⟨_, rfl⟩
  have htl : t.length ≤ 2 := by rw [← htt]; simp [two]
  have HB : Hid (body N = D ++ 46 :: t) := Lib.hid (by unfold body; rw [hD, htt])
  rw [hD] at hq hl
  rw [htt] at hr
  have HQ := Lib.hid hq
  have HR := Lib.hid hr
  have a1 := addIs [] D (by simp; omega)
  have a2 := addIs ([] ++ D) [46] (by simp; omega)
  have a4 := addIs ([] ++ D ++ [46]) t (by simp; omega)
  have HF : Hid (([] ++ D ++ [46] ++ t) = [] ++ body N) := Lib.hid (by rw [HB.out]; simp)
  try simp only [List.nil_append] at a1 a2 a4 HF
  clear hq hr hD htt ht HT HF
  go_enter Tryd.func34, Tryd.ntmps34
  go_wp2_with (first
    | (go_at_call 50; (with_reducible refine (HQ.out _).mono ?_); rintro e w' ⟨rfl, m, rfl⟩)
    | (go_at_call 50; (with_reducible refine (HR.out _).mono ?_); rintro e w' ⟨rfl, m', rfl⟩))
  go_ret
  exact ⟨ret_str (by apply ByteArray.ext; simp [ByteArray.data_append, HB.out]), _, rfl⟩

set_option maxHeartbeats 1000000 in
theorem l2FormatPosSmall (N : Nat) (hN : N ≤ 2000000000) (hk : N % 100 < 10) (w : World) :
    Calls Tryd.prog 34 #[.int .i64 (N)] w fun e w' => e = .returned (.string ⟨([] ++ body N).toArray⟩) ∧ ∃ m, w' = w.drewN m := by
  have hq : ∀ w, Calls Tryd.prog 50 #[.int .i64 ((N : Int) / 100)] w fun e w' => e = .returned (.string ⟨(Lib.decDigits (N / 100)).toArray⟩) ∧ ∃ m, w' = w.drewN m := fun w => by
    have h := l1NumPos (N / 100) ((N : Int) / 100) w (by omega) (by omega) (by omega)
    rw [show ((N : Int) / 100).toNat = N / 100 by omega] at h
    exact h
  have hr : ∀ w, Calls Tryd.prog 50 #[.int .i64 ((N : Int) % 100)] w fun e w' => e = .returned (.string ⟨(two (N % 100) |>.drop 1).toArray⟩) ∧ ∃ m, w' = w.drewN m := fun w => by
    have h := l1NumPos (N % 100) ((N : Int) % 100) w (by omega) (by omega) (by omega)
    rw [show ((N : Int) % 100).toNat = N % 100 by omega, dec_one _ hk, show [UInt8.ofNat (48 + N % 100)] = (two (N % 100)).drop 1 by simp [two]; congr 1; omega] at h
    exact h
  have hl := dec_le (N / 100) (by omega)
  have ht : (two (N % 100)).length = 2 := rfl
  have HT : Hid (two (N % 100) = 48 :: (two (N % 100)).drop 1) := Lib.hid (by unfold two; rw [show N % 100 / 10 = 0 by omega]; rfl)
  obtain ⟨D, hD⟩ : ∃ D, Lib.decDigits (N / 100) = D := ⟨_, rfl⟩
  obtain ⟨t, htt⟩ : ∃ t, (two (N % 100)).drop 1 = t := ⟨_, rfl⟩
  have htl : t.length ≤ 2 := by rw [← htt]; simp [two]
  have HB : Hid (body N = D ++ 46 :: 48 :: t) := Lib.hid (by unfold body; rw [hD, HT.out, htt])
  rw [hD] at hq hl
  rw [htt] at hr
  have HQ := Lib.hid hq
  have HR := Lib.hid hr
  have a1 := addIs [] D (by simp; omega)
  have a2 := addIs ([] ++ D) [46] (by simp; omega)
  have a3 := addIs ([] ++ D ++ [46]) [48] (by simp; omega)
  have a4 := addIs ([] ++ D ++ [46] ++ [48]) t (by simp; omega)
  have HF : Hid (([] ++ D ++ [46] ++ [48] ++ t) = [] ++ body N) := Lib.hid (by rw [HB.out]; simp)
  try simp only [List.nil_append] at a1 a2 a3 a4 HF
  clear hq hr hD htt ht HT HF
  go_enter Tryd.func34, Tryd.ntmps34
  go_wp2_with (first
    | (go_at_call 50; (with_reducible refine (HQ.out _).mono ?_); rintro e w' ⟨rfl, m, rfl⟩)
    | (go_at_call 50; (with_reducible refine (HR.out _).mono ?_); rintro e w' ⟨rfl, m', rfl⟩))
  go_ret
  exact ⟨ret_str (by apply ByteArray.ext; simp [ByteArray.data_append, HB.out]), _, rfl⟩

set_option maxHeartbeats 1000000 in
theorem l2FormatNegGreat (N : Nat) (hN : N ≤ 2000000000) (hk : 10 ≤ N % 100) (hpos : 0 < N) (w : World) :
    Calls Tryd.prog 34 #[.int .i64 (-(N : Int))] w fun e w' => e = .returned (.string ⟨([45] ++ body N).toArray⟩) ∧ ∃ m, w' = w.drewN m := by
  have hq : ∀ w, Calls Tryd.prog 50 #[.int .i64 ((N : Int) / 100)] w fun e w' => e = .returned (.string ⟨(Lib.decDigits (N / 100)).toArray⟩) ∧ ∃ m, w' = w.drewN m := fun w => by
    have h := l1NumPos (N / 100) ((N : Int) / 100) w (by omega) (by omega) (by omega)
    rw [show ((N : Int) / 100).toNat = N / 100 by omega] at h
    exact h
  have hr : ∀ w, Calls Tryd.prog 50 #[.int .i64 ((N : Int) % 100)] w fun e w' => e = .returned (.string ⟨(two (N % 100)).toArray⟩) ∧ ∃ m, w' = w.drewN m := fun w => by
    have h := l1NumPos (N % 100) ((N : Int) % 100) w (by omega) (by omega) (by omega)
    rw [show ((N : Int) % 100).toNat = N % 100 by omega, dec_two _ hk (by omega)] at h
    exact h
  have hl := dec_le (N / 100) (by omega)
  have ht : (two (N % 100)).length = 2 := rfl
  have HT : Hid (True) := Lib.hid (trivial)
  obtain ⟨D, hD⟩ : ∃ D, Lib.decDigits (N / 100) = D := ⟨_, rfl⟩
  obtain ⟨t, htt⟩ : ∃ t, two (N % 100) = t := ⟨_, rfl⟩
  have htl : t.length ≤ 2 := by rw [← htt]; simp [two]
  have HB : Hid (body N = D ++ 46 :: t) := Lib.hid (by unfold body; rw [hD, htt])
  rw [hD] at hq hl
  rw [htt] at hr
  have HQ := Lib.hid hq
  have HR := Lib.hid hr
  have a1 := addIs [45] D (by simp; omega)
  have a2 := addIs ([45] ++ D) [46] (by simp; omega)
  have a4 := addIs ([45] ++ D ++ [46]) t (by simp; omega)
  have HF : Hid (([45] ++ D ++ [46] ++ t) = [45] ++ body N) := Lib.hid (by rw [HB.out]; simp)
  try simp only [List.nil_append] at a1 a2 a4 HF
  clear hq hr hD htt ht HT HF
  go_enter Tryd.func34, Tryd.ntmps34
  go_wp2_with (first
    | (go_at_call 50; (with_reducible refine (HQ.out _).mono ?_); rintro e w' ⟨rfl, m, rfl⟩)
    | (go_at_call 50; (with_reducible refine (HR.out _).mono ?_); rintro e w' ⟨rfl, m', rfl⟩))
  go_ret
  exact ⟨ret_str (by apply ByteArray.ext; simp [ByteArray.data_append, HB.out]), _, rfl⟩

set_option maxHeartbeats 1000000 in
theorem l2FormatNegSmall (N : Nat) (hN : N ≤ 2000000000) (hk : N % 100 < 10) (hpos : 0 < N) (w : World) :
    Calls Tryd.prog 34 #[.int .i64 (-(N : Int))] w fun e w' => e = .returned (.string ⟨([45] ++ body N).toArray⟩) ∧ ∃ m, w' = w.drewN m := by
  have hq : ∀ w, Calls Tryd.prog 50 #[.int .i64 ((N : Int) / 100)] w fun e w' => e = .returned (.string ⟨(Lib.decDigits (N / 100)).toArray⟩) ∧ ∃ m, w' = w.drewN m := fun w => by
    have h := l1NumPos (N / 100) ((N : Int) / 100) w (by omega) (by omega) (by omega)
    rw [show ((N : Int) / 100).toNat = N / 100 by omega] at h
    exact h
  have hr : ∀ w, Calls Tryd.prog 50 #[.int .i64 ((N : Int) % 100)] w fun e w' => e = .returned (.string ⟨(two (N % 100) |>.drop 1).toArray⟩) ∧ ∃ m, w' = w.drewN m := fun w => by
    have h := l1NumPos (N % 100) ((N : Int) % 100) w (by omega) (by omega) (by omega)
    rw [show ((N : Int) % 100).toNat = N % 100 by omega, dec_one _ hk, show [UInt8.ofNat (48 + N % 100)] = (two (N % 100)).drop 1 by simp [two]; congr 1; omega] at h
    exact h
  have hl := dec_le (N / 100) (by omega)
  have ht : (two (N % 100)).length = 2 := rfl
  have HT : Hid (two (N % 100) = 48 :: (two (N % 100)).drop 1) := Lib.hid (by unfold two; rw [show N % 100 / 10 = 0 by omega]; rfl)
  obtain ⟨D, hD⟩ : ∃ D, Lib.decDigits (N / 100) = D := ⟨_, rfl⟩
  obtain ⟨t, htt⟩ : ∃ t, (two (N % 100)).drop 1 = t := ⟨_, rfl⟩
  have htl : t.length ≤ 2 := by rw [← htt]; simp [two]
  have HB : Hid (body N = D ++ 46 :: 48 :: t) := Lib.hid (by unfold body; rw [hD, HT.out, htt])
  rw [hD] at hq hl
  rw [htt] at hr
  have HQ := Lib.hid hq
  have HR := Lib.hid hr
  have a1 := addIs [45] D (by simp; omega)
  have a2 := addIs ([45] ++ D) [46] (by simp; omega)
  have a3 := addIs ([45] ++ D ++ [46]) [48] (by simp; omega)
  have a4 := addIs ([45] ++ D ++ [46] ++ [48]) t (by simp; omega)
  have HF : Hid (([45] ++ D ++ [46] ++ [48] ++ t) = [45] ++ body N) := Lib.hid (by rw [HB.out]; simp)
  try simp only [List.nil_append] at a1 a2 a3 a4 HF
  clear hq hr hD htt ht HT HF
  go_enter Tryd.func34, Tryd.ntmps34
  go_wp2_with (first
    | (go_at_call 50; (with_reducible refine (HQ.out _).mono ?_); rintro e w' ⟨rfl, m, rfl⟩)
    | (go_at_call 50; (with_reducible refine (HR.out _).mono ?_); rintro e w' ⟨rfl, m', rfl⟩))
  go_ret
  exact ⟨ret_str (by apply ByteArray.ext; simp [ByteArray.data_append, HB.out]), _, rfl⟩

theorem l2FormatWide (x : Int) (h0 : -2000000000 ≤ x) (h1 : x ≤ 2000000000) (w : World) :
    Calls Tryd.prog 34 #[.int .i64 x] w fun e w' => e = .returned (.string ⟨(text x).toArray⟩) ∧ ∃ m, w' = w.drewN m := by
  unfold text
  by_cases hx : x < 0
  · rw [if_pos hx]
    have e : x = -((x.natAbs : Nat) : Int) := by omega
    by_cases hk : x.natAbs % 100 < 10
    · have := l2FormatNegSmall x.natAbs (by omega) hk (by omega) w
      rw [← e] at this; exact this
    · have := l2FormatNegGreat x.natAbs (by omega) (by omega) (by omega) w
      rw [← e] at this; exact this
  · rw [if_neg hx]
    have e : x = ((x.natAbs : Nat) : Int) := by omega
    by_cases hk : x.natAbs % 100 < 10
    · have := l2FormatPosSmall x.natAbs (by omega) hk w
      rw [← e] at this; exact this
    · have := l2FormatPosGreat x.natAbs (by omega) (by omega) w
      rw [← e] at this; exact this

theorem l2Format (x : Int) (h : Amt x) (w : World) :
    Calls Tryd.prog 34 #[.int .i64 x] w fun e w' => e = .returned (.string ⟨(text x).toArray⟩) ∧ ∃ m, w' = w.drewN m :=
  l2FormatWide x (by have := h.1; omega) (by have := h.2; omega) w

def fmtT (x : Int) : List UInt8 := if Amt x then text x else []
def fmtB (x : Int) : Bool := decide (Amt x)

/-- The table of powers of ten. -/
def Pow (w : World) : Prop := Lib.TabIs Tryd.prog w "internal/strconv.uint64pow10" .u64 Lib.pow10Tab
theorem Pow.below {w w' : World} (h : Pow w) (hb : Below w.heap.size w w') : Pow w' := Laid.table_below hb h

set_option maxHeartbeats 1000000 in
theorem implPos (N : Nat) (hN : N ≤ 1000000000) (w : World) (hP : Pow w) :
    Calls Tryd.prog 58 #[.int .i64 (N)] w fun e w' => e = .returned (.tuple #[.string ⟨([] ++ body N).toArray⟩, .bool true]) ∧ Below w.heap.size w w' := by
  have HP := Lib.hid hP
  have HA : Hid (Amt (N)) := Lib.hid ⟨by omega, by omega⟩
  have h1 : ∀ w, Pow w → Calls Tryd.prog 56 #[.int .i64 (100 + (N : Int) % 100)] w fun e w' => e = .returned (.string ⟨(49 :: two (N % 100)).toArray⟩) ∧ Below w.heap.size w w' := fun w hw => by
    have h := Tryd.strconv_Itoa (100 + (N : Int) % 100) (by omega) (by omega) w hw
    rw [show (100 + (N : Int) % 100) = 100 + ((N % 100 : Nat) : Int) by omega, itoa_minor _ (by omega)] at h
    rw [show (100 + (N : Int) % 100) = 100 + ((N % 100 : Nat) : Int) by omega]
    exact h.mono fun _ _ ⟨he, k, os, hw⟩ => ⟨he, by rw [hw]; exact Lib.below_grow _ _ (Nat.le_refl _) _ _⟩
  have h2 : ∀ w, Pow w → Calls Tryd.prog 56 #[.int .i64 ((N : Int) / 100)] w fun e w' => e = .returned (.string ⟨(Lib.decDigits (N / 100)).toArray⟩) ∧ Below w.heap.size w w' := fun w hw => by
    have h := Tryd.strconv_Itoa ((N : Int) / 100) (by omega) (by omega) w hw
    rw [show ((N : Int) / 100) = ((N / 100 : Nat) : Int) by omega, itoa_nat] at h
    rw [show ((N : Int) / 100) = ((N / 100 : Nat) : Int) by omega]
    exact h.mono fun _ _ ⟨he, k, os, hw⟩ => ⟨he, by rw [hw]; exact Lib.below_grow _ _ (Nat.le_refl _) _ _⟩
  have hl := dec_le (N / 100) (by omega)
  obtain ⟨D, hD⟩ : ∃ D, Lib.decDigits (N / 100) = D := ⟨_, rfl⟩
  obtain ⟨x, y, hxy⟩ : ∃ x y, two (N % 100) = [x, y] := ⟨_, _, rfl⟩
  have HB : Hid (body N = D ++ [46, x, y]) := Lib.hid (by unfold body; rw [hD, hxy])
  rw [hD] at h2 hl
  rw [hxy] at h1
  have H1 := Lib.hid h1
  have H2 := Lib.hid h2
  have sl : ∀ w, (Instr.slice 9 (.string ⟨#[49, x, y]⟩) (some (.int .i64 1)) none none).run Tryd.prog w = .ok (.string ⟨#[x, y]⟩) w := fun w => by
    simp [go_sem, ByteArray.size]
    rfl
  have a1 := addIs [] D (by simp; omega)
  have a2 := addIs ([] ++ D) [46] (by simp; omega)
  have a4 := addIs ([] ++ D ++ [46]) [x, y] (by simp; omega)
  have HF : Hid (([] ++ D ++ [46] ++ [x, y]) = [] ++ body N) := Lib.hid (by rw [HB.out]; simp)
  try simp only [List.nil_append] at a1 a2 a4 HF
  have e1 : (N : Int).tdiv 100 = (N : Int) / 100 := Int.tdiv_eq_ediv_of_nonneg (by omega)
  have e4 : IntKind.i64.wrap ((N : Int) / 100) = (N : Int) / 100 := IntWalk.i64_in _ (by omega)
  clear h1 h2 hD hxy HF hP
  go_enter Tryd.func58, Tryd.ntmps58
  go_wp2_with (first
    | (go_at_call 66; refine (implYes _ HA.out _).mono ?_; rintro e w' ⟨rfl, rfl⟩)
    | (go_at_call 56; (with_reducible refine (H1.out _ HP.out).mono ?_); rintro e w1 ⟨rfl, hw1⟩))
  go_region_with (go_at_call 56; (with_reducible refine (H2.out _ (HP.out.below (by first | exact hw1 | exact hw1.drew))).mono ?_); rintro e w2 ⟨rfl, hw2⟩)
  all_goals go_wp2_with fail
  all_goals go_ret2
  all_goals exact ⟨ret_pair (by apply ByteArray.ext; simp [ByteArray.data_append, HB.out]), hw1.trans (Below.mono (by first | exact hw2 | exact Below.trans ((Below.refl _ _).drew) hw2) hw1.size)⟩

set_option maxHeartbeats 1000000 in
theorem implNeg (N : Nat) (hN : N ≤ 1000000000) (hpos : 0 < N) (w : World) (hP : Pow w) :
    Calls Tryd.prog 58 #[.int .i64 (-(N : Int))] w fun e w' => e = .returned (.tuple #[.string ⟨([45] ++ body N).toArray⟩, .bool true]) ∧ Below w.heap.size w w' := by
  have HP := Lib.hid hP
  have HA : Hid (Amt (-(N : Int))) := Lib.hid ⟨by omega, by omega⟩
  have h1 : ∀ w, Pow w → Calls Tryd.prog 56 #[.int .i64 (100 + (N : Int) % 100)] w fun e w' => e = .returned (.string ⟨(49 :: two (N % 100)).toArray⟩) ∧ Below w.heap.size w w' := fun w hw => by
    have h := Tryd.strconv_Itoa (100 + (N : Int) % 100) (by omega) (by omega) w hw
    rw [show (100 + (N : Int) % 100) = 100 + ((N % 100 : Nat) : Int) by omega, itoa_minor _ (by omega)] at h
    rw [show (100 + (N : Int) % 100) = 100 + ((N % 100 : Nat) : Int) by omega]
    exact h.mono fun _ _ ⟨he, k, os, hw⟩ => ⟨he, by rw [hw]; exact Lib.below_grow _ _ (Nat.le_refl _) _ _⟩
  have h2 : ∀ w, Pow w → Calls Tryd.prog 56 #[.int .i64 ((N : Int) / 100)] w fun e w' => e = .returned (.string ⟨(Lib.decDigits (N / 100)).toArray⟩) ∧ Below w.heap.size w w' := fun w hw => by
    have h := Tryd.strconv_Itoa ((N : Int) / 100) (by omega) (by omega) w hw
    rw [show ((N : Int) / 100) = ((N / 100 : Nat) : Int) by omega, itoa_nat] at h
    rw [show ((N : Int) / 100) = ((N / 100 : Nat) : Int) by omega]
    exact h.mono fun _ _ ⟨he, k, os, hw⟩ => ⟨he, by rw [hw]; exact Lib.below_grow _ _ (Nat.le_refl _) _ _⟩
  have hl := dec_le (N / 100) (by omega)
  obtain ⟨D, hD⟩ : ∃ D, Lib.decDigits (N / 100) = D := ⟨_, rfl⟩
  obtain ⟨x, y, hxy⟩ : ∃ x y, two (N % 100) = [x, y] := ⟨_, _, rfl⟩
  have HB : Hid (body N = D ++ [46, x, y]) := Lib.hid (by unfold body; rw [hD, hxy])
  rw [hD] at h2 hl
  rw [hxy] at h1
  have H1 := Lib.hid h1
  have H2 := Lib.hid h2
  have sl : ∀ w, (Instr.slice 9 (.string ⟨#[49, x, y]⟩) (some (.int .i64 1)) none none).run Tryd.prog w = .ok (.string ⟨#[x, y]⟩) w := fun w => by
    simp [go_sem, ByteArray.size]
    rfl
  have a1 := addIs [45] D (by simp; omega)
  have a2 := addIs ([45] ++ D) [46] (by simp; omega)
  have a4 := addIs ([45] ++ D ++ [46]) [x, y] (by simp; omega)
  have HF : Hid (([45] ++ D ++ [46] ++ [x, y]) = [45] ++ body N) := Lib.hid (by rw [HB.out]; simp)
  try simp only [List.nil_append] at a1 a2 a4 HF
  have e1 : (N : Int).tdiv 100 = (N : Int) / 100 := Int.tdiv_eq_ediv_of_nonneg (by omega)
  have e4 : IntKind.i64.wrap ((N : Int) / 100) = (N : Int) / 100 := IntWalk.i64_in _ (by omega)
  clear h1 h2 hD hxy HF hP
  go_enter Tryd.func58, Tryd.ntmps58
  go_wp2_with (first
    | (go_at_call 66; refine (implYes _ HA.out _).mono ?_; rintro e w' ⟨rfl, rfl⟩)
    | (go_at_call 56; (with_reducible refine (H1.out _ HP.out).mono ?_); rintro e w1 ⟨rfl, hw1⟩))
  go_region_with (go_at_call 56; (with_reducible refine (H2.out _ (HP.out.below (by first | exact hw1 | exact hw1.drew))).mono ?_); rintro e w2 ⟨rfl, hw2⟩)
  all_goals go_wp2_with fail
  all_goals go_ret2
  all_goals exact ⟨ret_pair (by apply ByteArray.ext; simp [ByteArray.data_append, HB.out]), hw1.trans (Below.mono (by first | exact hw2 | exact Below.trans ((Below.refl _ _).drew) hw2) hw1.size)⟩

theorem impl (x : Int) (w : World) (hP : Pow w) :
    Calls Tryd.prog 58 #[.int .i64 x] w fun e w' => e = .returned (.tuple #[.string ⟨(fmtT x).toArray⟩, .bool (fmtB x)]) ∧ Below w.heap.size w w' := by
  unfold fmtT fmtB
  by_cases h : Amt x
  · rw [if_pos h, decide_eq_true h]
    obtain ⟨h0, h1⟩ := h
    unfold text
    by_cases hx : x < 0
    · rw [if_pos hx]
      have e : x = -((x.natAbs : Nat) : Int) := by omega
      have := implNeg x.natAbs (by omega) (by omega) w hP
      rw [← e] at this; exact this
    · rw [if_neg hx]
      have e : x = ((x.natAbs : Nat) : Int) := by omega
      have := implPos x.natAbs (by omega) w hP
      rw [← e] at this; exact this
  · rw [if_neg h, decide_eq_false h]
    have H := Lib.hid h
    clear h
    go_enter Tryd.func58, Tryd.ntmps58
    go_wp2_with (go_at_call 66; refine (implNo x H.out _).mono ?_; rintro e w' ⟨rfl, rfl⟩)
    go_ret2
    exact ⟨rfl, Below.refl _ _⟩

end Go.Proofs.YtgjihejneadadaaDoor.FmtAmt
