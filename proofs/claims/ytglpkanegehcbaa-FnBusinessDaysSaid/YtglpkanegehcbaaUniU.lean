/-
  The union of two ascending lists, as the model makes it: l4Union.
-/
import Derived.Test.YtglpkanegehcbaaUniS
namespace Go.Proofs.Ytglpkanegehcbaa.UniU
open Go.RowKit Go.Proofs.Ytglpkanegehcbaa.IRow Go.Proofs.Ytglpkanegehcbaa.Biz Go.Proofs.Ytglpkanegehcbaa.UniMath Go.Proofs.Ytglpkanegehcbaa.UniS
set_option linter.unusedVariables false
set_option linter.unusedSimpArgs false

/-- The two lists' union, in a row of the call's own. -/
def UniAns (a b : List Int) (w : World) (e : Ending) (w' : World) : Prop :=
  ∃ g3 n3 c3, n3 = (uni a b).length ∧ e = .returned (.slice (some ⟨g3, 0, none⟩) n3 c3) ∧ Own w' w.heap.size (.slice (some ⟨g3, 0, none⟩) n3 c3) (uni a b) ∧ Below w.heap.size w w'

set_option maxRecDepth 100000 in
set_option maxHeartbeats 4000000 in
theorem l4Union (A1 A2 : Option Addr) (n1 c1 n2 c2 : Nat) (a b : List Int) (w : World) (h1 : n1 = a.length) (h2 : n2 = b.length) (hm1 : n1 ≤ 1000) (hm2 : n2 ≤ 1000) (hA1 : Is w w.heap.size A1 a) (hA2 : Is w w.heap.size A2 b) (hc1 : A1 = none → c1 = 0) :
    Calls Try.prog 41 #[.slice A1 n1 c1, .slice A2 n2 c2] w (UniAns a b w) := by
  have HA1 := Lib.hid hA1
  have HA2 := Lib.hid hA2
  have HN1 := Lib.hid h1
  have HN2 := Lib.hid h2
  have HC := Lib.hid hc1
  clear hA1 hA2 h1 h2 hc1
  go_enter Try.func41, Try.ntmps41
  go_wp2_with (go_at_call 67; refine (l1Own A1 n1 c1 a w w.heap.size HN1.out (by omega) HA1.out (Nat.le_refl _) HC.out).mono ?_; rintro e w1 ⟨g3, n3, c3, hn3, rfl, hown, hb⟩; have HN3 := Lib.hid hn3; clear hn3; refine Hid.out ?_)
  refine Lib.hid ?_
  have HO := Lib.hid hown
  have HB := Lib.hid hb
  clear hown hb
  go_wp2_with fail
  go_loopw [5, 6] (fun s i wr => ∃ (k n4 c4 g4 : Nat), k ≤ n2 ∧ i = .int .i64 k ∧ s = .slice (some ⟨g4, 0, none⟩) n4 c4 ∧ Hid (n4 = (uni a (b.take k)).length) ∧ Hid (Own wr w.heap.size (.slice (some ⟨g4, 0, none⟩) n4 c4) (uni a (b.take k))) ∧ Hid (Below w.heap.size w wr)) (fun _ i _ => n2 - (intOf i).toNat)
  case atStart => exact ⟨0, n3, c3, g3, Nat.zero_le _, rfl, rfl, Lib.hid (by rw [List.take_zero]; exact HN3.out), Lib.hid (by rw [List.take_zero]; exact HO.out), HB⟩
  case round =>
    obtain ⟨k, n4, c4, g4, hk, rfl, rfl, HN4, HO4, HB4⟩ := hrel
    by_cases hlt : k < n2
    · have hk' : k < b.length := by have := HN2.out; omega
      obtain ⟨ad, rfl, hB, hc⟩ := (HA2.out.below HB4.out) (by omega)
      obtain ⟨p, hp⟩ : ∃ p, p = b[k] := ⟨_, rfl⟩
      have hcell : wr.cell? (ad.add k) = some (.int .i64 p) := by rw [hp]; exact hc k hk'
      have HT : Hid (uni a (b.take (k + 1)) = putL (uni a (b.take k)) p) := Lib.hid (by rw [List.take_succ_eq_append_getElem hk', uni_snoc, hp])
      have HL4 : Hid (n4 ≤ 100000) := Lib.hid (by
        have h1 := HN4.out; have h2 := length_uni (b.take k) a; have h3 := HN1.out; have h4 := HN2.out
        have h5 := List.length_take (i := k) (l := b); omega)
      clear hc hp
      go_wp2_with (go_at_call 68; refine (l1Put g4 n4 c4 (uni a (b.take k)) p wr w.heap.size HN4.out HL4.out HB4.out.size HO4.out).mono ?_; rintro e w5 ⟨g5, n5, c5, hn5, rfl, hown5, hb5⟩; have HN5 := Lib.hid hn5; clear hn5; refine Hid.out ?_)
      refine Lib.hid ?_
      have HF : Hid (Hid (n5 = (uni a (b.take (k + 1))).length) ∧ Hid (Own w5 w.heap.size (.slice (some ⟨g5, 0, none⟩) n5 c5) (uni a (b.take (k + 1)))) ∧ Hid (Below w.heap.size w w5)) := Lib.hid (by
        rw [HT.out]; exact ⟨HN5, Lib.hid hown5, Lib.hid (HB4.out.trans (hb5.mono HB4.out.size))⟩)
      clear HN5 hown5 hb5 HT HO4 HN4 HB4
      go_wp2_with fail
      go_roundw
      case rel => exact ⟨k + 1, n5, c5, g5, by omega, by go_num, rfl, HF.out⟩
      case measure => simp [intOf]; omega
    · have HF : Hid (UniAns a b w (.returned (.slice (some ⟨g4, 0, none⟩) n4 c4)) wr) := Lib.hid (by
        have h4 := HN2.out
        have e : b.take k = b := List.take_of_length_le (by omega)
        have h5 := HN4.out; have h6 := HO4.out
        rw [e] at h5 h6
        exact ⟨g4, n4, c4, h5, rfl, h6, HB4.out⟩)
      go_wp2_with fail
      go_ret
      exact HF.out

end Go.Proofs.Ytglpkanegehcbaa.UniU
