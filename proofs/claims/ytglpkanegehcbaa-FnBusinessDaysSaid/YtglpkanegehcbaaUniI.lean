/-
  The union of two ascending lists, as the program makes it: sorted, equal neighbours struck.
-/
import Derived.Test.YtglpkanegehcbaaUniC
import Derived.Test.YtglpkanegehcbaaUniU
import Derived.Test.YtglpkanegehcbaaShelfJoin
import Derived.Lib.OwnBridge
import Derived.Lib.RowBridge
import Derived.Sort.OwnSortedInts
namespace Go.Proofs.Ytglpkanegehcbaa.UniI
open Go.RowKit Go.Sort Go.Lib Go.Proofs.Ytglpkanegehcbaa.IRow Go.Proofs.Ytglpkanegehcbaa.Biz Go.Proofs.Ytglpkanegehcbaa.UniMath Go.Proofs.Ytglpkanegehcbaa.UniS Go.Proofs.Ytglpkanegehcbaa.UniC Go.Proofs.Ytglpkanegehcbaa.UniU
set_option linter.unusedVariables false
set_option linter.unusedSimpArgs false

abbrev srt (D : List Int) : List Int := D.mergeSort fun x y => decide (x ≤ y)

theorem sort (w u : World) (A : Option Addr) (n c : Nat) (D : List Int) (hn : n = D.length) (hm : n ≤ 5000) (h : Pt w u (.slice A n c) D) :
    Calls Try.prog 65 #[.slice A n c] u fun e w' => e = .returned (.tuple #[]) ∧ Pt w w' (.slice A n c) (srt D) := by
  subst hn
  have hl : (srt D).length = D.length := List.length_mergeSort _
  by_cases hv : Value.slice A D.length c = .slice none 0 0
  · injection hv with e1 e2 e3
    subst e1; subst e3
    have hD : D = [] := List.eq_nil_of_length_eq_zero e2
    subst hD
    refine (Try.slices_Sort_int_none none 0 u).mono ?_
    rintro e w' ⟨he, rfl⟩
    exact ⟨he, by simpa [srt] using h⟩
  · obtain ⟨g, cap, e, hS, hlt, hle, hcap, _, hH⟩ := holds_of_ownsRow h.own hv
    injection e with e1 e2 e3
    subst e1; subst e3
    refine (Try.slices_Sort_int g 0 c D u hH hlt (by omega)).mono ?_
    rintro e w' ⟨he, m, os, rfl⟩
    rcases h.own.2 with ⟨hv', _⟩ | ⟨g', c', cur, hv', _, hb, _, _, hs, _⟩
    · cases hv'
    · injection hv' with e1 e2 e3
      injection e1 with e1
      injection e1 with e1
      subst e1; subst e3
      refine ⟨he, ?_, h.bel.grown (grownBy_sortedI _) h.bel.size (fun k hk => by cases hk; exact hS)⟩
      have := ownsRow_sortedI (n := m) (os := os) (ss := D) (ts := srt D) hl hS hb hle hcap hs
      unfold Own
      rw [hl]; exact this

theorem compact1 (w u : World) (A : Option Addr) (n c : Nat) (D : List Int) (hn : n = D.length) (hm : n ≤ 5000) (h : Pt w u (.slice A n c) D) :
    Calls Try.prog 66 #[.slice A n c] u fun e w' => ∃ n3, n3 = (Lib.compact D).length ∧ e = .returned (.slice A n3 c) ∧ Pt w w' (.slice A n3 c) (Lib.compact D) := by
  subst hn
  by_cases hv : Value.slice A D.length c = .slice none 0 0
  · injection hv with e1 e2 e3
    subst e1; subst e3
    have hD : D = [] := List.eq_nil_of_length_eq_zero e2
    subst hD
    refine (Try.slices_Compact_int_empty none 0 u).mono ?_
    rintro e w' ⟨he, rfl⟩
    exact ⟨0, rfl, he, h⟩
  · obtain ⟨g, cap, e, hS, hlt, hle, hcap, _, hH⟩ := holds_of_ownsRow h.own hv
    injection e with e1 e2 e3
    subst e1; subst e3
    have hcl := compact_length_le D
    refine (Try.slices_Compact_int g 0 c D u hH (by omega) hle).mono ?_
    rintro e w' ⟨he, m, rfl⟩
    refine ⟨_, rfl, he, ?_, below_putRow h.bel hS⟩
    have := ownsRow_putRow (q := m) (k := (Lib.compact D).length) (ys := Lib.compact D ++ List.replicate (D.length - (Lib.compact D).length) 0) h.own (by simp; omega) hcl
    unfold Own
    rw [List.take_left] at this
    exact this

theorem own_mono {w : World} {S T : Nat} {v : Value} {D : List Int} (h : Own w S v D) (hT : T ≤ S) : Own w T v D := by
  refine ⟨h.1, ?_⟩
  rcases h.2 with h | ⟨g, c, cur, hv, hS, r⟩
  · exact .inl h
  · exact .inr ⟨g, c, cur, hv, by omega, r⟩

theorem two_new (w : World) (A1 A2 : Option Addr) (n1 c1 n2 c2 : Nat) : Two (w.alloc (.cells #[.slice A1 n1 c1, .slice A2 n2 c2] 24)) w.heap.size A1 n1 c1 A2 n2 c2 :=
  ⟨by simp [go_sem], by simp [go_sem], by simp [go_sem]⟩

theorem pt_of {w u w1 : World} {v : Value} {D : List Int} (hu : Below w.heap.size w u) (h1 : Own w1 u.heap.size v D) (h2 : Below u.heap.size u w1) : Pt w w1 v D :=
  ⟨own_mono h1 hu.size, hu.trans (h2.mono hu.size)⟩

set_option maxRecDepth 100000 in
set_option maxHeartbeats 4000000 in
theorem union (A1 A2 : Option Addr) (n1 c1 n2 c2 : Nat) (a b : List Int) (w : World) (ha : a.Pairwise (· < ·)) (h1 : n1 = a.length) (h2 : n2 = b.length) (hm1 : n1 ≤ 1000) (hm2 : n2 ≤ 1000) (hA1 : Is w w.heap.size A1 a) (hA2 : Is w w.heap.size A2 b) (hc1 : A1 = none → c1 = 0) (hc2 : A2 = none → c2 = 0) :
    Calls Try.prog 40 #[.slice A1 n1 c1, .slice A2 n2 c2] w (OwnAns (uni a b) w) := by
  have HA1 := Lib.hid hA1
  have HA2 := Lib.hid hA2
  have HN1 := Lib.hid h1
  have HN2 := Lib.hid h2
  have HC1 := Lib.hid hc1
  have HC2 := Lib.hid hc2
  have HU := Lib.hid (compact_sort a b ha)
  have HL : Hid ((a ++ b).length ≤ 5000) := Lib.hid (by rw [List.length_append]; omega)
  have HS : Hid ((a ++ b).length = (srt (a ++ b)).length) := Lib.hid (List.length_mergeSort _).symm
  clear hA1 hA2 h1 h2 hc1 hc2 ha
  go_enter Try.func40, Try.ntmps40
  have HW : Hid (Below w.heap.size w (w.alloc (.cells #[.slice A1 n1 c1, .slice A2 n2 c2] 24))) := Lib.hid ((Below.refl _ _).alloc (Nat.le_refl _) _)
  go_wp2_with (go_at_call 64; refine (concat w.heap.size A1 A2 n1 c1 n2 c2 a b _ (two_new w A1 A2 n1 c1 n2 c2) HN1.out HN2.out hm1 hm2 ((HA1.out.below HW.out).more HW.out.size) ((HA2.out.below HW.out).more HW.out.size) HC1.out HC2.out).mono ?_; rintro e w1 ⟨A3, n3, c3, hn3, rfl, hown, hb⟩; have HN3 := Lib.hid hn3; have P1 := Lib.hid (pt_of HW.out hown hb); clear hn3 hown hb; refine Hid.out ?_)
  refine Lib.hid ?_
  have HM3 : Hid (n3 ≤ 5000) := Lib.hid (by have := HN3.out; have := HL.out; omega)
  go_wp2_with (go_at_call 65; refine (sort w w1 A3 n3 c3 (a ++ b) HN3.out HM3.out P1.out).mono ?_; rintro e w2 ⟨rfl, h2⟩; have P2 := Lib.hid h2; clear h2; refine Hid.out ?_)
  refine Lib.hid ?_
  go_wp2_with (go_at_call 66; refine (compact1 w w2 A3 n3 c3 (srt (a ++ b)) (HN3.out.trans HS.out) HM3.out P2.out).mono ?_; rintro e w3 ⟨n4, hn4, rfl, h3⟩; have HF := Lib.hid (show OwnAns (uni a b) w (.returned (.slice A3 n4 c3)) w3 from ⟨A3, n4, c3, by rw [← HU.out]; exact hn4, rfl, by rw [← HU.out]; exact h3.own, h3.bel⟩); clear hn4 h3; refine Hid.out ?_)
  refine Lib.hid ?_
  go_wp2_with fail
  go_ret
  exact HF.out

end Go.Proofs.Ytglpkanegehcbaa.UniI
