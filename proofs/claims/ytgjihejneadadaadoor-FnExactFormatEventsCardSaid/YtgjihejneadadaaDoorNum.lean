/-
  The model's number text: what l1Num and l1In return.
-/
import Derived.Test.YtgjihejneadadaaDoorRows
import Derived.Test.YtgjihejneadadaaDoorPlain
import Derived.WalkKit
import Derived.ProofKit
import Derived.Lib.Hide
import Derived.Lib.ItoaNum
import Derived.Deep.QuietTactic
import Derived.BigQuiet
namespace Go.Proofs.YtgjihejneadadaaDoor.Num
open Go.RowKit Go.Proofs.YtgjihejneadadaaDoor.Plain

/-- The text of one digit. -/
def dgt (n : Int) : ByteArray := ⟨#[UInt8.ofNat (48 + n.toNat)]⟩

theorem dgt_eq : ∀ i : Fin 10, (⟨#[48, 49, 50, 51, 52, 53, 54, 55, 56, 57]⟩ : ByteArray).extract i.val (i.val + 1) = ⟨#[UInt8.ofNat (48 + i.val)]⟩ := by decide +kernel

theorem slice_dgt (n : Int) (h0 : 0 ≤ n) (h1 : n < 10) (w : World) :
    (Instr.slice 9 (.string ⟨#[48, 49, 50, 51, 52, 53, 54, 55, 56, 57]⟩) (some (.int .i64 n)) (some (.int .i64 (n + 1))) none).run Tryd.prog w = .ok (.string (dgt n)) w := by
  rw [run_slice_string w 9 _ .i64 .i64 _ _ Tryd.underlying9 h0 (by omega) (by show n + 1 ≤ 10; omega)]
  have := dgt_eq ⟨n.toNat, by omega⟩
  rw [show (n + 1).toNat = n.toNat + 1 by omega]
  simp only at this
  rw [this]; rfl

theorem add_dgt (u : Nat) (h : ¬ u < 10) : (⟨(Lib.decDigits (u / 10)).toArray⟩ : ByteArray) ++ dgt ((u : Int) % 10) = ⟨(Lib.decDigits u).toArray⟩ := by
  rw [Lib.decDigits.eq_def u, dif_neg h]
  apply ByteArray.ext
  simp [dgt, ByteArray.data_append]
  have e : ((u : Int) % 10).toNat = u % 10 := by omega
  rw [e]

theorem decDigits_le (u : Nat) (h : u ≤ 100000000) : (Lib.decDigits u).length ≤ 9 := by
  have step : ∀ k u, u < 10 ^ (k + 1) → (Lib.decDigits u).length ≤ k + 1 := by
    intro k
    induction k with
    | zero => intro u h; rw [Lib.decDigits.eq_def u, dif_pos (by omega)]; simp
    | succ k ih =>
      intro u h
      rw [Lib.decDigits.eq_def u]
      split
      · simp
      · have := ih (u / 10) (by rw [Nat.pow_succ] at h; omega)
        simp; omega
  exact step 8 u (by omega)

theorem dgt_one (n : Int) (h0 : 0 ≤ n) (h : n < 10) : (⟨(Lib.decDigits n.toNat).toArray⟩ : ByteArray) = dgt n := by
  rw [Lib.decDigits.eq_def n.toNat, dif_pos (by omega)]; rfl

set_option maxHeartbeats 400000 in
theorem l1NumPos (k : Nat) : ∀ (n : Int) (w : World), n ≤ k → 0 ≤ n → n ≤ 99999999 →
    Calls Tryd.prog 50 #[.int .i64 n] w fun e w' => e = .returned (.string ⟨(Lib.decDigits n.toNat).toArray⟩) ∧ ∃ m, w' = w.drewN m := by
  induction k with
  | zero =>
    intro n w hk h0 h1
    have hs := slice_dgt n h0 (by omega)
    go_enter Tryd.func50, Tryd.ntmps50
    go_wp2_with fail
    go_ret
    exact ⟨by rw [dgt_one n h0 (by omega)]; rfl, 0, rfl⟩
  | succ k ih =>
    intro n w hk h0 h1
    by_cases hn : n < 10
    · have hs := slice_dgt n h0 hn
      go_enter Tryd.func50, Tryd.ntmps50
      go_wp2_with fail
      go_ret
      exact ⟨by rw [dgt_one n h0 hn]; rfl, 0, rfl⟩
    · have hs := slice_dgt (n % 10) (by omega) (by omega)
      have hq := fun w => ih (n / 10) w (by omega) (by omega) (by omega)
      have ha := Lib.hid (add_dgt n.toNat (by omega))
      rw [show ((n.toNat : Nat) : Int) = n by omega, show n.toNat / 10 = (n / 10).toNat by omega] at ha
      have hadd : ∀ w, (Op.stringOp .add ⟨(Lib.decDigits (n / 10).toNat).toArray⟩ (dgt (n % 10))).run Tryd.prog w = .ok (.string ⟨(Lib.decDigits n.toNat).toArray⟩) w := by
        intro w
        rw [run_string_add_sum w _ _ (by have := decDigits_le (n / 10).toNat (by omega); simp [dgt, ByteArray.size]; omega), ha.out]
      have e1 : n.tdiv 10 = n / 10 := Int.tdiv_eq_ediv_of_nonneg h0
      have e2 : n.tmod 10 = n % 10 := Int.tmod_eq_emod_of_nonneg h0
      have e3 : IntKind.i64.wrap (n % 10 + 1) = n % 10 + 1 := IntWalk.i64_in _ (by omega)
      have e4 : IntKind.i64.wrap (n / 10) = n / 10 := IntWalk.i64_in _ (by omega)
      clear ih
      go_enter Tryd.func50, Tryd.ntmps50
      go_wp2_with fail
      go_quiet ((go_at_call 50; with_reducible exact Calls.quiet_of (hq _)))
      clear e1 e2 e3 e4
      go_wp2_with fail
      go_ret
      exact ⟨rfl, _, rfl⟩

theorem itoa_neg (n : Int) (h : n < 0) : (⟨#[45]⟩ : ByteArray) ++ (⟨(Lib.decDigits (-n).toNat).toArray⟩ : ByteArray) = ⟨(Lib.itoa n).toArray⟩ := by
  unfold Lib.itoa
  rw [if_pos h, show n.natAbs = (-n).toNat by omega]
  apply ByteArray.ext
  simp [ByteArray.data_append]

set_option maxHeartbeats 400000 in
theorem l1Num (n : Int) (w : World) (h0 : -9999999 ≤ n) (h1 : n ≤ 9999999) :
    Calls Tryd.prog 50 #[.int .i64 n] w fun e w' => e = .returned (.string ⟨(Lib.itoa n).toArray⟩) ∧ ∃ m, w' = w.drewN m := by
  by_cases hn : n < 0
  · have hq := fun w => l1NumPos (-n).toNat (-n) w (by omega) (by omega) (by omega)
    have ha := Lib.hid (itoa_neg n hn)
    have hl := decDigits_le (-n).toNat (by omega)
    have hadd : ∀ w, (Op.stringOp .add ⟨#[45]⟩ ⟨(Lib.decDigits (-n).toNat).toArray⟩).run Tryd.prog w = .ok (.string ⟨(Lib.itoa n).toArray⟩) w := by
      intro w
      rw [run_string_add_sum w _ _ (by simp [ByteArray.size]; omega), ha.out]
    clear hl
    go_enter Tryd.func50, Tryd.ntmps50
    go_wp2_with (go_at_call 50; refine (hq _).mono ?_; rintro e w' ⟨rfl, m, rfl⟩)
    go_ret
    exact ⟨rfl, _, rfl⟩
  · have e : Lib.itoa n = Lib.decDigits n.toNat := by unfold Lib.itoa; rw [if_neg hn]
    rw [e]
    exact l1NumPos n.toNat n w (by omega) (by omega) (by omega)

end Go.Proofs.YtgjihejneadadaaDoor.Num
