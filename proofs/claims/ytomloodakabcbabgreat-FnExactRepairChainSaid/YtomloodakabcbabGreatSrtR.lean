/-
  slices.Sort and slices.Compact of rows that a call owns: of strings and of ints.
-/
import Derived.Test.YtomloodakabcbabGreatUniS
import Derived.Test.YtomloodakabcbabGreatUniT
import Derived.Test.YtomloodakabcbabGreatShelfSo
import Derived.Lib.OwnBridge
import Derived.Lib.RowBridge
import Derived.Sort.OwnSortedInts
import Derived.Sort.OwnSorted
namespace Go.Proofs.YtomloodakabcbabGreat.SrtR
open Go.RowKit Go.Sort Go.Lib
set_option linter.unusedVariables false

abbrev srtI (D : List Int) : List Int := D.mergeSort fun x y => decide (x ≤ y)
abbrev srtT (D : List (List UInt8)) : List (List UInt8) := D.mergeSort fun x y => decide (x ≤ y)

theorem grown_putRow {α : Type} [Inhabited α] {enc : α → Value} {w : World} {g q : Nat} {d : Array α} : w.grownBy (putRow enc (Sort.ahead w q) g 0 d) (some g) := by
  refine ⟨rfl, rfl, rfl, by simp [putRow, mapBlock, Sort.ahead], fun k hk hne => ?_⟩
  have : g ≠ k := fun e => hne (by rw [e])
  simp [putRow, mapBlock, Sort.ahead, Array.getElem?_modify, this]

theorem sortI (u : World) (S g n c : Nat) (D : List Int) (hn : n = D.length) (hm : n ≤ 5000) (h : UniS.Own u S (.slice (some ⟨g, 0, none⟩) n c) D) :
    Calls Tryz.prog 70 #[.slice (some ⟨g, 0, none⟩) n c] u fun e w' => e = .returned (.tuple #[]) ∧ UniS.Own w' S (.slice (some ⟨g, 0, none⟩) n c) (srtI D) ∧ u.grownBy w' (some g) := by
  subst hn
  have hl : (srtI D).length = D.length := List.length_mergeSort _
  obtain ⟨g1, cap, e, hS, hlt, hle, hcap, _, hH⟩ := holds_of_ownsRow h (by simp)
  injection e with e1 e2 e3
  injection e1 with e1
  injection e1 with e1
  subst e1; subst e3
  refine (Tryz.slices_Sort_int g 0 c D u hH hlt (by omega)).mono ?_
  rintro e w' ⟨he, m, os, rfl⟩
  rcases h.2 with ⟨hv', _⟩ | ⟨g', c', cur, hv', _, hb, _, _, hs, _⟩
  · cases hv'
  · injection hv' with e1 e2 e3
    injection e1 with e1
    injection e1 with e1
    subst e1; subst e3
    refine ⟨he, ?_, grownBy_sortedI _⟩
    have := ownsRow_sortedI (n := m) (os := os) (ss := D) (ts := srtI D) hl hS hb hle hcap hs
    unfold UniS.Own
    rw [hl]; exact this

theorem sortT (u : World) (S g n c : Nat) (D : List (List UInt8)) (hn : n = D.length) (hm : n ≤ 5000) (h : UniT.Own u S (.slice (some ⟨g, 0, none⟩) n c) D) :
    Calls Tryz.prog 55 #[.slice (some ⟨g, 0, none⟩) n c] u fun e w' => e = .returned (.tuple #[]) ∧ UniT.Own w' S (.slice (some ⟨g, 0, none⟩) n c) (srtT D) ∧ u.grownBy w' (some g) := by
  subst hn
  have hl : (srtT D).length = D.length := List.length_mergeSort _
  obtain ⟨g1, cap, e, hS, hlt, hle, hcap, _, hH⟩ := holds_of_ownsRow h (by simp)
  injection e with e1 e2 e3
  injection e1 with e1
  injection e1 with e1
  subst e1; subst e3
  refine (Tryz.slices_Sort_string g 0 c D u hH hlt (by omega)).mono ?_
  rintro e w' ⟨he, m, os, rfl⟩
  rcases h.2 with ⟨hv', _⟩ | ⟨g', c', cur, hv', _, hb, _, _, hs, _⟩
  · cases hv'
  · injection hv' with e1 e2 e3
    injection e1 with e1
    injection e1 with e1
    subst e1; subst e3
    refine ⟨he, ?_, grownBy_sorted _⟩
    have := ownsRow_sorted (n := m) (os := os) (ss := D) (ts := srtT D) hl hS hb hle hcap hs
    unfold UniT.Own
    rw [hl]; exact this

theorem compI (u : World) (S g n c : Nat) (D : List Int) (hn : n = D.length) (hm : n ≤ 5000) (h : UniS.Own u S (.slice (some ⟨g, 0, none⟩) n c) D) :
    Calls Tryz.prog 71 #[.slice (some ⟨g, 0, none⟩) n c] u fun e w' => ∃ n3, n3 = (Lib.compact D).length ∧ e = .returned (.slice (some ⟨g, 0, none⟩) n3 c) ∧ UniS.Own w' S (.slice (some ⟨g, 0, none⟩) n3 c) (Lib.compact D) ∧ u.grownBy w' (some g) := by
  subst hn
  obtain ⟨g1, cap, e, hS, hlt, hle, hcap, _, hH⟩ := holds_of_ownsRow h (by simp)
  injection e with e1 e2 e3
  injection e1 with e1
  injection e1 with e1
  subst e1; subst e3
  have hcl := compact_length_le D
  refine (Tryz.slices_Compact_int g 0 c D u hH (by omega) hle).mono ?_
  rintro e w' ⟨he, m, rfl⟩
  refine ⟨_, rfl, he, ?_, grown_putRow⟩
  have := ownsRow_putRow (q := m) (k := (Lib.compact D).length) (ys := Lib.compact D ++ List.replicate (D.length - (Lib.compact D).length) 0) h (by simp; omega) hcl
  rw [List.take_left] at this
  exact this

theorem compT (u : World) (S g n c : Nat) (D : List (List UInt8)) (hn : n = D.length) (hm : n ≤ 5000) (h : UniT.Own u S (.slice (some ⟨g, 0, none⟩) n c) D) :
    Calls Tryz.prog 56 #[.slice (some ⟨g, 0, none⟩) n c] u fun e w' => ∃ n3, n3 = (Lib.compact D).length ∧ e = .returned (.slice (some ⟨g, 0, none⟩) n3 c) ∧ UniT.Own w' S (.slice (some ⟨g, 0, none⟩) n3 c) (Lib.compact D) ∧ u.grownBy w' (some g) := by
  subst hn
  obtain ⟨g1, cap, e, hS, hlt, hle, hcap, _, hH⟩ := holds_of_ownsRow h (by simp)
  injection e with e1 e2 e3
  injection e1 with e1
  injection e1 with e1
  subst e1; subst e3
  have hcl := compact_length_le D
  refine (Tryz.slices_Compact_string g 0 c D u hH (by omega) hle).mono ?_
  rintro e w' ⟨he, m, rfl⟩
  refine ⟨_, rfl, he, ?_, grown_putRow⟩
  have := ownsRow_putRow (q := m) (k := (Lib.compact D).length) (ys := Lib.compact D ++ List.replicate (D.length - (Lib.compact D).length) []) h (by simp; omega) hcl
  rw [List.take_left] at this
  exact this

end Go.Proofs.YtomloodakabcbabGreat.SrtR
