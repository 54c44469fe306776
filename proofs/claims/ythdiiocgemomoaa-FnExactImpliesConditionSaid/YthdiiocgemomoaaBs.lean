/-
  slices.BinarySearch of strings in a row that rises strictly, at a string that is there.
-/
import Derived.Test.YthdiiocgemomoaaUniT
import Derived.Shelf.Spec.SearchS
namespace Go.Proofs
def Try.laysBs_ren : Go.Shelf.Ren := ⟨fun | 26 => 45 | 33 => 59 | 34 => 60 | 38 => 69 | n => n, fun | 0 => 0 | 3 => 3 | 4 => 4 | 9 => 9 | 24 => 44 | 40 => 57 | n => n, fun | n => n⟩
theorem Try.laysBs : Go.Proofs.Lays2.n26 Try.prog Try.laysBs_ren := {
  mixed := by kernel_rfl
  f26 := Try.func45.trans (congrArg some (by kernel_rfl))
  f33 := Try.func59.trans (congrArg some (by kernel_rfl))
  f34 := Try.func60.trans (congrArg some (by kernel_rfl))
  f38 := Try.func69.trans (congrArg some (by kernel_rfl))
  t0 := Try.underlying0
  a0 := Try.isAgg0
  z0 := Try.sizeOf0
  v0 := Try.zeroValue0
  t3 := Try.underlying3
  a3 := Try.isAgg3
  z3 := Try.sizeOf3
  v3 := Try.zeroValue3
  t4 := Try.underlying4
  a4 := Try.isAgg4
  z4 := Try.sizeOf4
  v4 := Try.zeroValue4
  t9 := Try.underlying9
  a9 := Try.isAgg9
  z9 := Try.sizeOf9
  v9 := Try.zeroValue9
  t24 := Try.underlying44
  a24 := Try.isAgg44
  z24 := Try.sizeOf44
  v24 := Try.zeroValue44
  t40 := Try.underlying57
  a40 := Try.isAgg57
  z40 := Try.sizeOf57
  v40 := Try.zeroValue57 }
end Go.Proofs
namespace Go.Proofs.Ythdiiocgemomoaa.Bs
open Go.RowKit Go.Sort
set_option linter.unusedVariables false

theorem less_at {N : List (List UInt8)} (hs : N.Pairwise (· < ·)) {i : Nat} (hi : i < N.length) (t : Nat) (ht : t < N.length) : Op.bytesLess N[t] N[i] = decide (t < i) := by
  rw [bytesLess_eq]
  have hp := List.pairwise_iff_getElem.1 hs
  by_cases h : t < i
  · rw [decide_eq_true h, decide_eq_true (hp t i ht hi h)]
  · rw [decide_eq_false h, decide_eq_false]
    intro h2
    rcases Nat.lt_or_ge i t with h3 | h3
    · exact UniTM.irr _ (UniTM.ltt h2 (hp i t hi ht h3))
    · have : t = i := by omega
      subst this
      exact UniTM.irr _ h2

theorem bs_congr (f h : Nat → Bool) (n : Nat) (e : ∀ t, t < n → f t = h t) : ∀ (k lo hi : Nat), hi ≤ n → Lib.bsGo f k lo hi = Lib.bsGo h k lo hi
  | 0, lo, hi, _ => rfl
  | k + 1, lo, hi, hh => by
    unfold Lib.bsGo
    by_cases hlt : lo < hi
    · rw [if_pos hlt, if_pos hlt, e _ (by omega), bs_congr f h n e k _ _ hh, bs_congr f h n e k lo _ (by omega)]
    · rw [if_neg hlt, if_neg hlt]

theorem search (g c n : Nat) (N : List (List UInt8)) (x : ByteArray) (w : World) (hn : n = N.length) (hm : n ≤ 1000) (i : Nat) (hi : i < N.length) (hx : x.toList = N[i]) (hs : N.Pairwise (· < ·)) (hc : ∀ j, ∀ h : j < N.length, w.cell? ⟨g, j, none⟩ = some (.string ⟨N[j].toArray⟩)) :
    Calls Try.prog 45 #[.slice (some ⟨g, 0, none⟩) n c, .string x] w fun e w' => (∃ y, e = .returned (.tuple #[.int .i64 (i : Int), .bool y])) ∧ ∃ q, w' = w.drewN q := by
  subst hn
  have hS : ∀ t, t < N.length → (ByteArray.mk (N.getD t []).toArray).toList = N.getD t [] := fun t _ => by rw [Go.ByteArray.toList_eq]
  have key : Lib.bsGo (fun t => Op.bytesLess (ByteArray.mk (N.getD t []).toArray).toList x.toList) N.length 0 N.length = i := by
    have e : Lib.bsGo (fun t => Op.bytesLess (ByteArray.mk (N.getD t []).toArray).toList x.toList) N.length 0 N.length = Lib.bsGo (fun t => decide (t < i)) N.length 0 N.length := bs_congr _ _ N.length (fun t ht => by
      rw [hS t ht, hx]
      have : N.getD t [] = N[t] := by simp [List.getD, ht]
      rw [this]
      exact less_at hs hi t ht) N.length 0 N.length (Nat.le_refl _)
    rw [e]
    exact Lib.bsGo_spec _ i (fun t h => decide_eq_true h) (fun t h => decide_eq_false (by omega)) N.length 0 N.length (by omega) (by omega) (by omega)
  refine (Any2.slices_BinarySearch_string Try.laysBs g 0 N.length c (fun t => ⟨(N.getD t []).toArray⟩) x w (by omega) (fun j hj => ?_)).mono fun e w' ⟨he, hw⟩ => ⟨?_, hw⟩
  · have := hc j hj
    simp [List.getD, hj, this]
  · rw [he, key]
    exact ⟨_, rfl⟩

end Go.Proofs.Ythdiiocgemomoaa.Bs
