/-
  The model's number text: what l1Num and l1In return.
-/
import Derived.Test.YthdiiocgemomoaaDoorRows
import Derived.Test.YthdiiocgemomoaaDoorPlain
import Derived.WalkKit
import Derived.ProofKit
import Derived.Lib.Hide
import Derived.Lib.ItoaNum
import Derived.Deep.QuietTactic
import Derived.BigQuiet
namespace Go.Proofs.YthdiiocgemomoaaDoor.Num
open Go.RowKit Go.Proofs.YthdiiocgemomoaaDoor.Plain

/-- The text of one digit. -/
def dgt (n : Int) : ByteArray := ⟨#[UInt8.ofNat (48 + n.toNat)]⟩

theorem dgt_eq : ∀ i : Fin 10, (⟨#[48, 49, 50, 51, 52, 53, 54, 55, 56, 57]⟩ : ByteArray).extract i.val (i.val + 1) = ⟨#[UInt8.ofNat (48 + i.val)]⟩ := by decide +kernel

theorem slice_dgt (n : Int) (h0 : 0 ≤ n) (h1 : n < 10) (w : World) :
    (Instr.slice 9 (.string ⟨#[48, 49, 50, 51, 52, 53, 54, 55, 56, 57]⟩) (some (.int .i64 n)) (some (.int .i64 (n + 1))) none).run Tryd.prog w = .ok (.string (dgt n)) w := by
  rw [run_slice_string w 9 _ .i64 .i64 _ _ Tryd.underlying9 h0 (by omega) (by show n + 1 ≤ 10; omega)]
  have := dgt_eq ⟨n.toNat, by omega⟩
  rw [show (n + 1).toNat = n.toNat + 1 by omega]
  simp only at this
  rw [this]; rfl

theorem add_dgt (u : Nat) (h : ¬ u < 10) : (⟨(Lib.decDigits (u / 10)).toArray⟩ : ByteArray) ++ dgt ((u : Int) % 10) = ⟨(Lib.decDigits u).toArray⟩ := by
  rw [Lib.decDigits.eq_def u, dif_neg h]
  apply ByteArray.ext
  simp [dgt, ByteArray.data_append]
  have e : ((u : Int) % 10).toNat = u % 10 := by omega
  rw [e]

theorem decDigits_le (u : Nat) (h : u ≤ 100000000) : (Lib.decDigits u).length ≤ 9 := by
  have step : ∀ k u, u < 10 ^ (k + 1) → (Lib.decDigits u).length ≤ k + 1 := by
    intro k
    induction k with
    | zero => intro u h; rw [Lib.decDigits.eq_def u, dif_pos (by omega)]; simp
    | succ k ih =>
      intro u h
      rw [Lib.decDigits.eq_def u]
      split
      · simp
      · have := ih (u / 10) (by rw [Nat.pow_succ] at h; omega)
        simp; omega
  exact step 8 u (by omega)

theorem dgt_one (n : Int) (h0 : 0 ≤ n) (h : n < 10) : (⟨(Lib.decDigits n.toNat).toArray⟩ : ByteArray) = dgt n := by
  rw [Lib.decDigits.eq_def n.toNat, dif_pos (by omega)]; rfl

theorem itoa_neg (n : Int) (h : n < 0) : (⟨#[45]⟩ : ByteArray) ++ (⟨(Lib.decDigits (-n).toNat).toArray⟩ : ByteArray) = ⟨(Lib.itoa n).toArray⟩ := by
  unfold Lib.itoa
  rw [if_pos h, show n.natAbs = (-n).toNat by omega]
  apply ByteArray.ext
  simp [ByteArray.data_append]

end Go.Proofs.YthdiiocgemomoaaDoor.Num
