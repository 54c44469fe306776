/-
  slices.Sort and slices.Compact of rows that a call owns: of strings and of ints.
-/
import Derived.Test.YtlpeaamjpcpfcaaUniS
import Derived.Test.YtlpeaamjpcpfcaaUniT
import Derived.Test.YtlpeaamjpcpfcaaShelfSo
import Derived.Lib.OwnBridge
import Derived.Lib.RowBridge
import Derived.Sort.OwnSortedInts
import Derived.Sort.OwnSorted
namespace Go.Proofs.Ytlpeaamjpcpfcaa.SrtR
open Go.RowKit Go.Sort Go.Lib
set_option linter.unusedVariables false

abbrev srtI (D : List Int) : List Int := D.mergeSort fun x y => decide (x ≤ y)
abbrev srtT (D : List (List UInt8)) : List (List UInt8) := D.mergeSort fun x y => decide (x ≤ y)

theorem grown_putRow {α : Type} [Inhabited α] {enc : α → Value} {w : World} {g q : Nat} {d : Array α} : w.grownBy (putRow enc (Sort.ahead w q) g 0 d) (some g) := by
  refine ⟨rfl, rfl, rfl, by simp [putRow, mapBlock, Sort.ahead], fun k hk hne => ?_⟩
  have : g ≠ k := fun e => hne (by rw [e])
  simp [putRow, mapBlock, Sort.ahead, Array.getElem?_modify, this]

theorem compI (u : World) (S g n c : Nat) (D : List Int) (hn : n = D.length) (hm : n ≤ 5000) (h : UniS.Own u S (.slice (some ⟨g, 0, none⟩) n c) D) :
    Calls Try.prog 66 #[.slice (some ⟨g, 0, none⟩) n c] u fun e w' => ∃ n3, n3 = (Lib.compact D).length ∧ e = .returned (.slice (some ⟨g, 0, none⟩) n3 c) ∧ UniS.Own w' S (.slice (some ⟨g, 0, none⟩) n3 c) (Lib.compact D) ∧ u.grownBy w' (some g) := by
  subst hn
  obtain ⟨g1, cap, e, hS, hlt, hle, hcap, _, hH⟩ := holds_of_ownsRow h (by simp)
  injection e with e1 e2 e3
  injection e1 with e1
  injection e1 with e1
  subst e1; subst e3
  have hcl := compact_length_le D
  refine (Try.slices_Compact_int g 0 c D u hH (by omega) hle).mono ?_
  rintro e w' ⟨he, m, rfl⟩
  refine ⟨_, rfl, he, ?_, grown_putRow⟩
  have := ownsRow_putRow (q := m) (k := (Lib.compact D).length) (ys := Lib.compact D ++ List.replicate (D.length - (Lib.compact D).length) 0) h (by simp; omega) hcl
  rw [List.take_left] at this
  exact this

end Go.Proofs.Ytlpeaamjpcpfcaa.SrtR
