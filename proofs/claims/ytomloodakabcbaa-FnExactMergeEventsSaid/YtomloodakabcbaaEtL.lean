/-
  Event lists: l8Good of the model, sort.IsSorted of the program; both IsValidEvents.
-/
import Derived.Test.YtomloodakabcbaaEtI
import Derived.Deep.RegionHeld3
namespace Go.Proofs.Ytomloodakabcbaa.Et
open Go.RowKit Go.Proofs.Ytomloodakabcbaa.Cond Go.Proofs.Ytomloodakabcbaa.Gx
set_option linter.unusedVariables false
set_option linter.unusedSimpArgs false

/-- An event list. -/
def goodE (ms : List E) (p : Int) : Prop := riseE ms ∧ valE ms p = true

set_option maxHeartbeats 4000000 in
theorem l8Good (A : Option Addr) (n cap : Nat) (ms : List E) (p : Int) (hp : -9223372036854775808 ≤ p) (hp2 : p ≤ 9223372036854775807) (t : Bool) (ht : t = true ↔ goodE ms p) (w : World) (h : LiE w w.heap.size A n cap ms) :
    Calls Try.prog 24 #[.slice A n cap, .int .i64 p] w fun e w' => e = .returned (.bool t) ∧ Below w.heap.size w w' := by
  have HCM : Hid (∀ (a b : E) v, Calls Try.prog 29 #[a.val, b.val] v fun e w' => e = .returned (.int .i64 (cE a b)) ∧ Below v.heap.size v w') := Lib.hid specCE
  have HVA : Hid (∀ v, Below w.heap.size w v → Calls Try.prog 15 #[.slice A n cap, .int .i64 p] v fun e w' => e = .returned (.bool (valE ms p)) ∧ Below v.heap.size v w') := Lib.hid fun v hv => l8Valid A n cap ms p hp hp2 v (h.on hv)
  have HN := Lib.hid h.len
  have HL := Lib.hid h
  have HT := Lib.hid ht
  have hnl : n ≤ 9223372036854775807 := h.n1
  clear ht h
  go_enter Try.func24, Try.ntmps24
  go_wp2_with fail
  go_loopw [5] (fun i wr => ∃ k : Nat, (k ≤ n ∨ k ≤ 1) ∧ k ≤ 41 ∧ 1 ≤ k ∧ i = .int .i64 k ∧ Hid (∀ j, ∀ h : j + 1 < ms.length, j + 1 < k → cE ms[j] ms[j + 1] ≤ 0) ∧ Hid (Below w.heap.size w wr)) (fun i _ => n - (intOf i).toNat)
  case atStart => exact ⟨1, .inr (Nat.le_refl _), by omega, Nat.le_refl _, rfl, Lib.hid fun j _ h => by omega, Lib.hid (Below.refl _ _)⟩
  case round =>
    obtain ⟨k, hk, hk4, hk1, rfl, HK, HB⟩ := hrel
    by_cases hlt : k < n
    · by_cases h40 : k ≤ 40
      · obtain ⟨b, o, hk', e1, hB, hc⟩ := HL.out.get hlt
        obtain ⟨b', o', hl', e2, hB', hc'⟩ := HL.out.get (k := k - 1) (by omega)
        rw [e1] at e2
        injection e2 with e2
        injection e2 with e3 e4' _
        subst e3 e4' e1
        obtain ⟨m, hm⟩ : ∃ m, m = ms[k] := ⟨_, rfl⟩
        obtain ⟨m', hm'⟩ : ∃ m, m = ms[k - 1] := ⟨_, rfl⟩
        have hE : ∀ v, Below wr.heap.size wr v → El v b (o + k * 4) m.cells := fun v hv => by rw [hm]; exact hc v (HB.out.trans (hv.mono HB.out.size))
        have hE' : ∀ v, Below wr.heap.size wr v → El v b (o + (k - 1) * 4) m'.cells := fun v hv => by rw [hm']; exact hc' v (HB.out.trans (hv.mono HB.out.size))
        have KX : Hid (∀ v, Below wr.heap.size wr v → (v.cell? ⟨b, o + k * 4, none⟩ = some (.int .i64 m.day) ∧ v.cell? ⟨b, o + k * 4 + 1, none⟩ = some (.int .i64 m.party) ∧ v.cell? ⟨b, o + k * 4 + 2, none⟩ = some (.string m.act) ∧ v.cell? ⟨b, o + k * 4 + 3, none⟩ = some (.int .i64 m.amt)) ∧ v.cell? ⟨b, o + (k - 1) * 4, none⟩ = some (.int .i64 m'.day) ∧ v.cell? ⟨b, o + (k - 1) * 4 + 1, none⟩ = some (.int .i64 m'.party) ∧ v.cell? ⟨b, o + (k - 1) * 4 + 2, none⟩ = some (.string m'.act) ∧ v.cell? ⟨b, o + (k - 1) * 4 + 3, none⟩ = some (.int .i64 m'.amt)) := Lib.hid fun v hv => ⟨e4 (hE v hv), e4 (hE' v hv)⟩
        obtain ⟨⟨c0, c1, c2, c3⟩, d0, d1, d2, d3⟩ := KX.out wr (Below.refl _ _)
        obtain ⟨z, hz⟩ : ∃ z, z = cE m' m := ⟨_, rfl⟩
        have HF : Hid (∀ v, Calls Try.prog 29 #[m'.val, m.val] v fun e w' => e = .returned (.int .i64 z) ∧ Below v.heap.size v w') := Lib.hid fun v => by rw [hz]; exact HCM.out m' m v
        have HZ : Hid (∀ j, ∀ h : j + 1 < ms.length, j + 1 = k → z = cE ms[j] ms[j + 1]) := Lib.hid fun j h hj => by subst hj; rw [hz, hm, hm']; rfl
        have i0 : (0 : Int) ≤ (k : Int) := by omega
        have i1 : (k : Int) < (n : Int) := by omega
        have iw : IntKind.i64.wrap ((k : Int) - 1) = (k : Int) - 1 := by simp [IntKind.wrap, IntKind.bits, IntKind.signed]; omega
        have i2 : (0 : Int) ≤ (k : Int) - 1 := by omega
        have i3 : (k : Int) - 1 < (n : Int) := by omega
        have i4 : (1 : Int) ≤ (k : Int) := by omega
        have i5 : (k : Int) ≤ (n : Int) := by omega
        clear hE hE' hc hc' hm hm' hz
        by_cases hgt : 0 < z
        · have HR : Hid (t = false) := Lib.hid (by
            rw [Bool.eq_false_iff]; intro e
            have h1 := (HT.out.1 e).1 (k - 1) (by omega)
            have h2 := HZ.out (k - 1) (by omega) (by omega)
            omega)
          go_wp2_with fail
          go_region_held3 (fun v => (v.cell? ⟨b, o + k * 4, none⟩ = some (.int .i64 m.day) ∧ v.cell? ⟨b, o + k * 4 + 1, none⟩ = some (.int .i64 m.party) ∧ v.cell? ⟨b, o + k * 4 + 2, none⟩ = some (.string m.act) ∧ v.cell? ⟨b, o + k * 4 + 3, none⟩ = some (.int .i64 m.amt)) ∧ v.cell? ⟨b, o + (k - 1) * 4, none⟩ = some (.int .i64 m'.day) ∧ v.cell? ⟨b, o + (k - 1) * 4 + 1, none⟩ = some (.int .i64 m'.party) ∧ v.cell? ⟨b, o + (k - 1) * 4 + 2, none⟩ = some (.string m'.act) ∧ v.cell? ⟨b, o + (k - 1) * 4 + 3, none⟩ = some (.int .i64 m'.amt)) (first | (refine KX.out _ ?_; (repeat (first | exact Below.refl _ _ | exact bx | apply Below.drew)); done))
            (first | (go_at_call 29; (with_reducible refine (HF.out _).mono ?_); rintro e w2 ⟨rfl, hb⟩; have bx : Below wr.heap.size wr w2 := Below.trans (by (repeat (first | exact Below.refl _ _ | apply Below.drew))) (hb.mono (by first | omega | (simp; done) | (simp; omega))); clear hb))
          all_goals go_wp2_with fail
          all_goals go_ret
          all_goals exact ⟨by rw [HR.out]; rfl, HB.out.trans (bx.mono HB.out.size)⟩
        · have HK2 : Hid (∀ j, ∀ h : j + 1 < ms.length, j + 1 < k + 1 → cE ms[j] ms[j + 1] ≤ 0) := Lib.hid fun j h hj => by
            by_cases e : j + 1 = k
            · have := HZ.out j h e; omega
            · exact HK.out j h (by omega)
          have hgt' : z ≤ 0 := by omega
          go_wp2_with fail
          go_region_held3 (fun v => (v.cell? ⟨b, o + k * 4, none⟩ = some (.int .i64 m.day) ∧ v.cell? ⟨b, o + k * 4 + 1, none⟩ = some (.int .i64 m.party) ∧ v.cell? ⟨b, o + k * 4 + 2, none⟩ = some (.string m.act) ∧ v.cell? ⟨b, o + k * 4 + 3, none⟩ = some (.int .i64 m.amt)) ∧ v.cell? ⟨b, o + (k - 1) * 4, none⟩ = some (.int .i64 m'.day) ∧ v.cell? ⟨b, o + (k - 1) * 4 + 1, none⟩ = some (.int .i64 m'.party) ∧ v.cell? ⟨b, o + (k - 1) * 4 + 2, none⟩ = some (.string m'.act) ∧ v.cell? ⟨b, o + (k - 1) * 4 + 3, none⟩ = some (.int .i64 m'.amt)) (first | (refine KX.out _ ?_; (repeat (first | exact Below.refl _ _ | exact bx | apply Below.drew)); done))
            (first | (go_at_call 29; (with_reducible refine (HF.out _).mono ?_); rintro e w2 ⟨rfl, hb⟩; have bx : Below wr.heap.size wr w2 := Below.trans (by (repeat (first | exact Below.refl _ _ | apply Below.drew))) (hb.mono (by first | omega | (simp; done) | (simp; omega))); clear hb))
          all_goals go_wp2_with fail
          all_goals go_roundw
          all_goals first
            | exact ⟨k + 1, .inl (by omega), by omega, by omega, by go_num, HK2, Lib.hid (HB.out.trans (bx.mono HB.out.size))⟩
            | (simp [intOf]; omega)
      · have HR : Hid (t = false) := Lib.hid (by
          rw [Bool.eq_false_iff]; intro e
          have := (HT.out.1 e).2
          rw [valE_big (by have := HN.out; omega)] at this
          cases this)
        have HV2 := Lib.hid (HVA.out wr HB.out)
        have hval : valE ms p = false := valE_big (by have := HN.out; omega)
        rw [hval] at HV2
        have h41 : ¬ (k : Int) ≤ 40 := by omega
        clear hval
        go_wp2_with (go_at_call 15; refine HV2.out.mono ?_; rintro e w2 ⟨rfl, hb⟩)
        go_ret
        exact ⟨by rw [HR.out]; rfl, HB.out.trans (hb.mono HB.out.size)⟩
    · have HR : Hid (t = valE ms p) := Lib.hid (by
        rw [Bool.eq_iff_iff, HT.out]
        exact ⟨fun h => h.2, fun h => ⟨fun i hi => HK.out i hi (by have := HN.out; omega), h⟩⟩)
      have HV2 := Lib.hid (HVA.out wr HB.out)
      rw [← HR.out] at HV2
      go_wp2_with (go_at_call 15; refine HV2.out.mono ?_; rintro e w2 ⟨rfl, hb⟩)
      go_ret
      exact ⟨rfl, HB.out.trans (hb.mono HB.out.size)⟩

theorem lenE (A : Option Addr) (n cap : Nat) (w : World) :
    Calls Try.prog 81 #[.slice A n cap] w fun e w' => e = .returned (.int .i64 n) ∧ w' = w := by
  go_enter Try.func81, Try.ntmps81
  go_wp2
  go_ret
  exact ⟨rfl, rfl⟩

set_option maxHeartbeats 4000000 in
theorem lessE (A : Option Addr) (n cap : Nat) (ms : List E) (i k : Nat) (hi : i < ms.length) (hk : k < ms.length) (w : World) (h : LiE w w.heap.size A n cap ms) :
    Calls Try.prog 82 #[.slice A n cap, .int .i64 (i : Int), .int .i64 (k : Int)] w fun e w' => e = .returned (.bool (decide (cE ms[i] ms[k] < 0))) ∧ Below w.heap.size w w' := by
  have HCM : Hid (∀ (a b : E) v, Calls Try.prog 84 #[a.val, b.val] v fun e w' => e = .returned (.int .i64 (cE a b)) ∧ Below v.heap.size v w') := Lib.hid implCE
  have hl := h.len
  have hnl : n ≤ 9223372036854775807 := h.n1
  obtain ⟨b, o, hk', e1, hB, hc⟩ := h.get (k := i) (by omega)
  obtain ⟨b', o', hl', e2, hB', hc'⟩ := h.get (k := k) (by omega)
  rw [e1] at e2
  injection e2 with e2
  injection e2 with e3 e4' _
  subst e3 e4' e1
  obtain ⟨m, hm⟩ : ∃ m, m = ms[i] := ⟨_, rfl⟩
  obtain ⟨m', hm'⟩ : ∃ m, m = ms[k] := ⟨_, rfl⟩
  rw [← hm, ← hm']
  rw [← hm] at hc
  rw [← hm'] at hc'
  have KX : Hid (∀ v, Below w.heap.size w v → (v.cell? ⟨b, o + i * 4, none⟩ = some (.int .i64 m.day) ∧ v.cell? ⟨b, o + i * 4 + 1, none⟩ = some (.int .i64 m.party) ∧ v.cell? ⟨b, o + i * 4 + 2, none⟩ = some (.string m.act) ∧ v.cell? ⟨b, o + i * 4 + 3, none⟩ = some (.int .i64 m.amt)) ∧ v.cell? ⟨b, o + k * 4, none⟩ = some (.int .i64 m'.day) ∧ v.cell? ⟨b, o + k * 4 + 1, none⟩ = some (.int .i64 m'.party) ∧ v.cell? ⟨b, o + k * 4 + 2, none⟩ = some (.string m'.act) ∧ v.cell? ⟨b, o + k * 4 + 3, none⟩ = some (.int .i64 m'.amt)) := Lib.hid fun v hv => ⟨e4 (hc v hv), e4 (hc' v hv)⟩
  obtain ⟨⟨c0, c1, c2, c3⟩, d0, d1, d2, d3⟩ := KX.out w (Below.refl _ _)
  obtain ⟨z, hz⟩ : ∃ z, z = cE m m' := ⟨_, rfl⟩
  have HF : Hid (∀ v, Calls Try.prog 84 #[m.val, m'.val] v fun e w' => e = .returned (.int .i64 z) ∧ Below v.heap.size v w') := Lib.hid fun v => by rw [hz]; exact HCM.out m m' v
  rw [← hz]
  have i0 : (0 : Int) ≤ (i : Int) := by omega
  have i1 : (i : Int) < (n : Int) := by omega
  have k0 : (0 : Int) ≤ (k : Int) := by omega
  have k1 : (k : Int) < (n : Int) := by omega
  clear h hc hc' hm hm' hz hl
  go_enter Try.func82, Try.ntmps82
  go_wp2_with fail
  go_region_held3 (fun v => (v.cell? ⟨b, o + i * 4, none⟩ = some (.int .i64 m.day) ∧ v.cell? ⟨b, o + i * 4 + 1, none⟩ = some (.int .i64 m.party) ∧ v.cell? ⟨b, o + i * 4 + 2, none⟩ = some (.string m.act) ∧ v.cell? ⟨b, o + i * 4 + 3, none⟩ = some (.int .i64 m.amt)) ∧ v.cell? ⟨b, o + k * 4, none⟩ = some (.int .i64 m'.day) ∧ v.cell? ⟨b, o + k * 4 + 1, none⟩ = some (.int .i64 m'.party) ∧ v.cell? ⟨b, o + k * 4 + 2, none⟩ = some (.string m'.act) ∧ v.cell? ⟨b, o + k * 4 + 3, none⟩ = some (.int .i64 m'.amt)) (first | (refine KX.out _ ?_; (repeat (first | exact Below.refl _ _ | exact bx | apply Below.drew)); done))
    (first | (go_at_call 84; (with_reducible refine (HF.out _).mono ?_); rintro e w2 ⟨rfl, hb⟩; have bx : Below w.heap.size w w2 := Below.trans (by (repeat (first | exact Below.refl _ _ | apply Below.drew))) (hb.mono (by first | omega | (simp; done) | (simp; omega))); clear hb))
  all_goals go_wp2_with fail
  all_goals go_ret
  all_goals exact ⟨rfl, bx⟩

/-- The methods that sort's interface reaches. -/
theorem reachLen (A : Option Addr) (n cap : Nat) (w : World) : Sem.run Try.prog (method 211 44 (.slice A n cap) "Len") w = .ok (81, .slice A n cap) w := by kernel_rfl
theorem reachLess (A : Option Addr) (n cap : Nat) (w : World) : Sem.run Try.prog (method 211 44 (.slice A n cap) "Less") w = .ok (82, .slice A n cap) w := by kernel_rfl

set_option maxRecDepth 100000 in
set_option maxHeartbeats 4000000 in
theorem isSorted (A : Option Addr) (n cap : Nat) (ms : List E) (t : Bool) (ht : t = true ↔ riseE ms) (w : World) (h : LiE w w.heap.size A n cap ms) :
    Calls Try.prog 37 #[.iface 44 (.slice A n cap)] w fun e w' => e = .returned (.bool t) ∧ Below w.heap.size w w' := by
  have mN := reachLen A n cap
  have mL := reachLess A n cap
  have HLN := Lib.hid (lenE A n cap)
  have HN := Lib.hid h.len
  have HL := Lib.hid h
  have HT := Lib.hid ht
  have hnl : n ≤ 9223372036854775807 := h.n1
  clear ht h
  go_enter Try.func37, Try.ntmps37
  go_wp2_with (go_at_call 81; refine (HLN.out _).mono ?_; rintro e w2 ⟨rfl, hw⟩; rw [hw]; clear hw)
  go_loopw [4] (fun i wr => ∃ z : Int, i = .int .i64 z ∧ -1 ≤ z ∧ z < n ∧ Hid (∀ j, ∀ h : j + 1 < ms.length, z ≤ (j : Int) → cE ms[j] ms[j + 1] ≤ 0) ∧ Hid (Below w.heap.size w wr)) (fun i _ => (intOf i).toNat)
  case atStart => exact ⟨(n : Int) - 1, rfl, by omega, by omega, Lib.hid fun j h hj => by have := HN.out; omega, Lib.hid (Below.refl _ _)⟩
  case round =>
    obtain ⟨z, rfl, hz1, hz2, HK, HB⟩ := hrel
    by_cases h0 : 0 < z
    · obtain ⟨l, rfl⟩ : ∃ l : Nat, z = (l : Int) + 1 := ⟨(z - 1).toNat, by omega⟩
      have hl : l + 1 < ms.length := by have := HN.out; omega
      obtain ⟨u, hu⟩ : ∃ u, u = decide (cE ms[l + 1] ms[l] < 0) := ⟨_, rfl⟩
      have HF : Hid (Calls Try.prog 82 #[.slice A n cap, .int .i64 ((l : Int) + 1), .int .i64 (l : Int)] wr fun e w' => e = .returned (.bool u) ∧ Below wr.heap.size wr w') := Lib.hid (by
        have := lessE A n cap ms (l + 1) l hl (by omega) wr (HL.out.on HB.out)
        rw [← hu, show ((l + 1 : Nat) : Int) = (l : Int) + 1 by omega] at this
        exact this)
      have HU := Lib.hid hu
      have hsub : (l : Int) + 1 - 1 = (l : Int) := by omega
      clear hu
      cases u
      · have HK2 : Hid (∀ j, ∀ h : j + 1 < ms.length, (l : Int) ≤ (j : Int) → cE ms[j] ms[j + 1] ≤ 0) := Lib.hid fun j h hj => by
          by_cases e : j = l
          · subst e
            have h1 := of_decide_eq_false HU.out.symm
            rw [cE_neg] at h1
            omega
          · exact HK.out j h (by omega)
        go_wp2_with (go_at_call 82; refine HF.out.mono ?_; rintro e w2 ⟨rfl, hb⟩)
        go_roundw
        case rel => exact ⟨(l : Int), by go_num, by omega, by omega, HK2, Lib.hid (HB.out.trans (hb.mono HB.out.size))⟩
        case measure => first | (simp [intOf]; done) | (simp [intOf]; omega)
      · have HR : Hid (t = false) := Lib.hid (by
          rw [Bool.eq_false_iff]; intro e
          have h1 := HT.out.1 e l hl
          have h2 := of_decide_eq_true HU.out.symm
          rw [cE_neg] at h2
          omega)
        go_wp2_with (go_at_call 82; refine HF.out.mono ?_; rintro e w2 ⟨rfl, hb⟩)
        go_ret
        exact ⟨by rw [HR.out]; rfl, HB.out.trans (hb.mono HB.out.size)⟩
    · have HR : Hid (t = true) := Lib.hid (HT.out.2 fun i hi => HK.out i hi (by omega))
      go_wp2_with fail
      go_ret
      exact ⟨by rw [HR.out]; rfl, HB.out⟩

theorem t_iff (p : Prop) : ∃ u : Bool, u = true ↔ p := by
  by_cases h : p
  · exact ⟨true, by simp [h]⟩
  · exact ⟨false, by simp [h]⟩

set_option maxHeartbeats 4000000 in
theorem implValidEv (A : Option Addr) (n cap : Nat) (ms : List E) (p : Int) (t : Bool) (ht : t = true ↔ goodE ms p) (w : World) (h : LiE w w.heap.size A n cap ms) :
    Calls Try.prog 25 #[.slice A n cap, .int .i64 p] w fun e w' => e = .returned (.bool t) ∧ Below w.heap.size w w' := by
  obtain ⟨r, hr⟩ := t_iff (riseE ms)
  have HVA : Hid (Calls Try.prog 18 #[.slice A n cap, .int .i64 p] w fun e w' => e = .returned (.bool (valE ms p)) ∧ Below w.heap.size w w') := Lib.hid (areValid A n cap ms p w h)
  have HSO : Hid (∀ v, Below w.heap.size w v → Calls Try.prog 37 #[.iface 44 (.slice A n cap)] v fun e w' => e = .returned (.bool r) ∧ Below v.heap.size v w') := Lib.hid fun v hv => isSorted A n cap ms r hr v (h.on hv)
  obtain ⟨u, hu⟩ : ∃ u, u = valE ms p := ⟨_, rfl⟩
  have HT : Hid (t = (u && r)) := Lib.hid (by
    rw [Bool.eq_iff_iff, ht, Bool.and_eq_true, hr, hu]
    exact ⟨fun h => ⟨h.2, h.1⟩, fun h => ⟨h.2, h.1⟩⟩)
  rw [← hu] at HVA
  clear ht h hr hu
  go_enter Try.func25, Try.ntmps25
  cases u
  · go_wp2_with (go_at_call 18; refine HVA.out.mono ?_; rintro e w2 ⟨rfl, hb⟩)
    go_ret
    exact ⟨by rw [HT.out]; rfl, hb⟩
  · go_wp2_with (first | (go_at_call 18; refine HVA.out.mono ?_; rintro e w2 ⟨rfl, hb⟩; have HB2 := Lib.hid hb; clear hb) | (go_at_call 37; refine (HSO.out _ HB2.out).mono ?_; rintro e w3 ⟨rfl, hb⟩))
    go_ret
    exact ⟨by rw [HT.out]; rfl, HB2.out.trans (hb.mono HB2.out.size)⟩

end Go.Proofs.Ytomloodakabcbaa.Et
