/-
  The words with which a condition's text begins, in plain facts.
-/
import Derived.Test.YthdiiocgemomoaaDoorPcR
import Derived.Test.YthdiiocgemomoaaDoorNmI
namespace Go.Proofs.YthdiiocgemomoaaDoor.Cond
open Go.RowKit
set_option linter.unusedVariables false

theorem st_iff {p l : List UInt8} : st p l = true ↔ ∃ t, l = p ++ t := by
  unfold st
  rw [decide_eq_true_eq]
  constructor
  · intro h; exact ⟨l.drop p.length, by conv => lhs; rw [← List.take_append_drop p.length l, h]⟩
  · rintro ⟨t, rfl⟩; simp
theorem word_app {p t : List UInt8} (hp : ∀ x ∈ p, sgn x.toNat = true) (ht : ∀ x, t.head? = some x → sgn x.toNat = false) : word (p ++ t) = p := by
  induction p with
  | nil =>
    cases t with
    | nil => rfl
    | cons x t => simp [word, ht x rfl]
  | cons y p ih =>
    have h1 := hp y (by simp)
    have h2 := ih (fun x hx => hp x (by simp [hx]))
    unfold word at h2 ⊢
    simp [h1, h2]
theorem word_not {l : List UInt8} (h : st wNot l = true) : word l = [110, 111, 116] := by
  obtain ⟨t, rfl⟩ := st_iff.1 h
  exact word_app (p := [110, 111, 116]) (t := 32 :: t) (by decide) (by intro x hx; simp at hx; subst hx; decide)
theorem word_from {l : List UInt8} (h : st wFrom l = true) : word l = [102, 114, 111, 109] := by
  obtain ⟨t, rfl⟩ := st_iff.1 h
  exact word_app (p := [102, 114, 111, 109]) (t := 32 :: t) (by decide) (by intro x hx; simp at hx; subst hx; decide)
theorem word_par {l : List UInt8} (h : st wPar l = true) : word l = [] := by
  obtain ⟨t, rfl⟩ := st_iff.1 h
  exact word_app (p := []) (t := 40 :: t) (by simp) (by intro x hx; simp at hx; subst hx; decide)
theorem word_pre (l : List UInt8) : l = word l ++ l.drop (word l).length := by
  conv => lhs; rw [← List.take_append_drop (word l).length l]
  congr 1
  exact (List.prefix_iff_eq_take.1 (List.takeWhile_prefix _)).symm
theorem st_not {l : List UInt8} (h : word l = [110, 111, 116]) : st wNot l = st [32] (l.drop 3) := by
  have e := word_pre l
  rw [h] at e
  rw [Bool.eq_iff_iff, st_iff, st_iff]
  constructor
  · rintro ⟨t, ht⟩; exact ⟨t, by rw [ht]; rfl⟩
  · rintro ⟨t, ht⟩; exact ⟨t, by rw [e]; show [110, 111, 116] ++ l.drop 3 = _; rw [ht]; rfl⟩
theorem st_from {l : List UInt8} (h : word l = [102, 114, 111, 109]) : st wFrom l = st [32] (l.drop 4) := by
  have e := word_pre l
  rw [h] at e
  rw [Bool.eq_iff_iff, st_iff, st_iff]
  constructor
  · rintro ⟨t, ht⟩; exact ⟨t, by rw [ht]; rfl⟩
  · rintro ⟨t, ht⟩; exact ⟨t, by rw [e]; show [102, 114, 111, 109] ++ l.drop 4 = _; rw [ht]; rfl⟩
theorem or_and {r : List UInt8} (h : st wAnd r = true) : st wOr r = false := by
  obtain ⟨t, rfl⟩ := st_iff.1 h
  rfl
theorem nm_not : isNm (ba [110, 111, 116]) = false := by decide +kernel
theorem nm_from : isNm (ba [102, 114, 111, 109]) = false := by decide +kernel

end Go.Proofs.YthdiiocgemomoaaDoor.Cond
