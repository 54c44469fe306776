/-
  Valid rows of events: l8Valid of the model; the library's ContainsFunc with its closure, areValidEvents of the program.
-/
import Derived.Test.YtomloodakabcbaaEtG
namespace Go.Proofs.Ytomloodakabcbaa.Et
open Go.RowKit Go.Proofs.Ytomloodakabcbaa.Cond Go.Proofs.Ytomloodakabcbaa.Gx
set_option linter.unusedVariables false
set_option linter.unusedSimpArgs false

/-- All events are valid, and they are not too many; p parties. -/
def valE (ms : List E) (p : Int) : Bool := (decide (2 ≤ p) && decide (p ≤ 4)) && (decide (ms.length ≤ 40) && ms.all fun m => okE m (p - 1))
theorem valE_bad {ms : List E} {p q : Int} {k : Nat} (hk : k < ms.length) (hq : 2 ≤ p → q = p - 1) (h : okE ms[k] q = false) : valE ms p = false := by
  by_cases h2 : 2 ≤ p
  · have e := hq h2
    subst e
    have : ms.all (fun m => okE m (p - 1)) = false := by
      rw [List.all_eq_false]
      exact ⟨ms[k], List.getElem_mem hk, by simp [h]⟩
    simp [valE, this]
  · simp [valE, h2]
theorem valE_big {ms : List E} {p : Int} (h : 40 < ms.length) : valE ms p = false := by
  have : ¬ ms.length ≤ 40 := by omega
  simp [valE, this]
theorem valE_all {ms : List E} {p q : Int} (hq : 2 ≤ p → q = p - 1) (hl : ms.length ≤ 40) (h : ∀ j, ∀ h : j < ms.length, okE ms[j] q = true) : valE ms p = (decide (2 ≤ p) && decide (p ≤ 4)) := by
  by_cases h2 : 2 ≤ p
  · have e := hq h2
    subst e
    have : ms.all (fun m => okE m (p - 1)) = true := by
      rw [List.all_eq_true]
      intro x hx
      obtain ⟨i, hi, rfl⟩ := List.mem_iff_getElem.1 hx
      exact h i hi
    simp [valE, this, hl]
  · simp [valE, h2]

set_option maxHeartbeats 4000000 in
theorem l8Valid (A : Option Addr) (n cap : Nat) (ms : List E) (p : Int) (hp : -9223372036854775808 ≤ p) (hp2 : p ≤ 9223372036854775807) (w : World) (h : LiE w w.heap.size A n cap ms) :
    Calls Try.prog 15 #[.slice A n cap, .int .i64 p] w fun e w' => e = .returned (.bool (valE ms p)) ∧ Below w.heap.size w w' := by
  obtain ⟨q, hq, hqv⟩ : ∃ q : Int, ((-9223372036854775808 < p ∧ q = p - 1) ∨ (p = -9223372036854775808 ∧ q = wrap64 (-9223372036854775809))) ∧ (2 ≤ p → q = p - 1) := by
    by_cases e : -9223372036854775808 < p
    · exact ⟨p - 1, .inl ⟨e, rfl⟩, fun _ => rfl⟩
    · exact ⟨wrap64 (-9223372036854775809), .inr ⟨by omega, rfl⟩, fun h => by omega⟩
  have HEV : Hid (∀ (m : E) v, Calls Try.prog 27 #[m.val, .int .i64 p] v fun e w' => e = .returned (.bool (okE m q)) ∧ Below v.heap.size v w') := Lib.hid fun m v => l8Event m p q hp hp2 hq v
  have HIN : Hid (∀ v, Calls Try.prog 28 #[.int .i64 p, .int .i64 2, .int .i64 4] v fun e w' => e = .returned (.bool (decide (2 ≤ p) && decide (p ≤ 4))) ∧ w' = v) := Lib.hid fun v => (l1In _ _ _ v).mono fun e w' ⟨he, hw⟩ => ⟨he, hw.symm⟩
  have HQ := Lib.hid hqv
  have HN := Lib.hid h.len
  have HL := Lib.hid h
  have hnl : n ≤ 9223372036854775807 := h.n1
  clear hq hqv h
  go_enter Try.func15, Try.ntmps15
  go_wp2_with fail
  go_loopw [5] (fun i wr => ∃ k : Nat, k ≤ n ∧ k ≤ 41 ∧ i = .int .i64 k ∧ Hid (∀ j, ∀ h : j < ms.length, j < k → okE ms[j] q = true) ∧ Hid (Below w.heap.size w wr)) (fun i _ => n - (intOf i).toNat)
  case atStart => exact ⟨0, Nat.zero_le _, by omega, rfl, Lib.hid fun j _ h => by omega, Lib.hid (Below.refl _ _)⟩
  case round =>
    obtain ⟨k, hk, hk4, rfl, HK, HB⟩ := hrel
    by_cases hlt : k < n
    · by_cases h40 : k ≤ 40
      · obtain ⟨b, o, hk', rfl, hB, hc⟩ := HL.out.get hlt
        obtain ⟨m, hm⟩ : ∃ m, m = ms[k] := ⟨_, rfl⟩
        have hE := hc wr HB.out
        rw [← hm] at hE
        obtain ⟨c0, c1, c2, c3⟩ := e4 hE
        have i0 : (0 : Int) ≤ (k : Int) := by omega
        have i1 : (k : Int) < (n : Int) := by omega
        obtain ⟨t, ht⟩ : ∃ t, t = okE m q := ⟨_, rfl⟩
        have HF : Hid (∀ v, Calls Try.prog 27 #[m.val, .int .i64 p] v fun e w' => e = .returned (.bool t) ∧ Below v.heap.size v w') := Lib.hid fun v => by rw [ht]; exact HEV.out m v
        have HT := Lib.hid (And.intro ht hm)
        clear hE hc hm ht
        cases t
        · have HR : Hid (valE ms p = false) := Lib.hid (valE_bad hk' HQ.out (by rw [← HT.out.2]; exact HT.out.1.symm))
          go_wp2_with (go_at_call 27; refine (HF.out _).mono ?_; rintro e w2 ⟨rfl, hb⟩)
          go_ret
          exact ⟨by rw [HR.out]; rfl, HB.out.trans (hb.mono HB.out.size)⟩
        · have HK2 : Hid (∀ j, ∀ h : j < ms.length, j < k + 1 → okE ms[j] q = true) := Lib.hid fun j h hj => by
            by_cases e : j = k
            · subst e; rw [← HT.out.2]; exact HT.out.1.symm
            · exact HK.out j h (by omega)
          go_wp2_with (go_at_call 27; refine (HF.out _).mono ?_; rintro e w2 ⟨rfl, hb⟩)
          go_roundw
          case rel => exact ⟨k + 1, by omega, by omega, by go_num, HK2, Lib.hid (HB.out.trans (hb.mono HB.out.size))⟩
          case measure => simp [intOf]; omega
      · have HR : Hid (valE ms p = false) := Lib.hid (valE_big (by have := HN.out; omega))
        have h41 : ¬ (k : Int) ≤ 40 := by omega
        have hn41 : ¬ (n : Int) ≤ 40 := by omega
        go_wp2_with (go_at_call 28; refine (HIN.out _).mono ?_; rintro e w2 ⟨rfl, hw⟩; rw [hw]; clear hw)
        go_ret
        exact ⟨by rw [HR.out]; rfl, HB.out⟩
    · by_cases h40 : n ≤ 40
      · have HR : Hid (valE ms p = (decide (2 ≤ p) && decide (p ≤ 4))) := Lib.hid (valE_all HQ.out (by have := HN.out; omega) fun j hj => HK.out j hj (by have := HN.out; omega))
        have hn40 : (n : Int) ≤ 40 := by omega
        go_wp2_with (go_at_call 28; refine (HIN.out _).mono ?_; rintro e w2 ⟨rfl, hw⟩; rw [hw]; clear hw)
        go_ret
        exact ⟨by rw [HR.out]; rfl, HB.out⟩
      · have HR : Hid (valE ms p = false) := Lib.hid (valE_big (by have := HN.out; omega))
        have hn41 : ¬ (n : Int) ≤ 40 := by omega
        go_wp2_with (go_at_call 28; refine (HIN.out _).mono ?_; rintro e w2 ⟨rfl, hw⟩; rw [hw]; clear hw)
        go_ret
        exact ⟨by rw [HR.out]; rfl, HB.out⟩

theorem makeFn (fn : Fn) (first cap : Array Value) (w : World) : (Instr.makeFunc fn first cap).run Try.prog w = .ok (.func fn first cap) w := rfl
theorem isPartyCount (p : Int) (w : World) : Calls Try.prog 30 #[.int .i64 p] w fun e w' => e = .returned (.bool (decide (2 ≤ p) && decide (p ≤ 4))) ∧ w' = w := by
  go_enter Try.func30, Try.ntmps30
  go_wp2
  all_goals go_ret
  all_goals refine ⟨?_, rfl⟩
  all_goals (first | (simp; done) | (simp; omega) | (simp; rw [Bool.eq_iff_iff]; simp; omega))

set_option maxHeartbeats 4000000 in
theorem badFn (m : E) (k p : Nat) (hp : p ≤ 4) (hm : m.act.size ≤ maxLen) (w : World) (hP : Bk k w [.int .i64 (p : Int)]) :
    Calls Try.prog 32 #[m.val, .pointer (some ⟨k, 0, none⟩)] w fun e w' => e = .returned (.bool !(okE m ((p : Int) - 1))) ∧ Below w.heap.size w w' := by
  have HV : Hid (∀ v, Calls Try.prog 33 #[m.val, .int .i64 (p : Int)] v fun e w' => e = .returned (.bool (okE m ((p : Int) - 1))) ∧ Below v.heap.size v w') := Lib.hid fun v => isValidE m p hp hm v
  obtain ⟨t, ht⟩ : ∃ t, t = okE m ((p : Int) - 1) := ⟨_, rfl⟩
  rw [← ht] at HV ⊢
  obtain ⟨X, hX⟩ : ∃ X, X = w.alloc (.cells #[.int .i64 m.day, .int .i64 m.party, .string m.act, .int .i64 m.amt] 38) := ⟨_, rfl⟩
  have HB := Lib.hid (show Below w.heap.size w X by rw [hX]; exact below1 _ _)
  have hlt := hP.lt
  have p0 := hP.c 0 (by simp)
  simp only [List.getElem_cons_zero] at p0
  clear hP ht
  go_enter Try.func32, Try.ntmps32
  have HX := Lib.hid hX
  go_wp2_with (go_at_call 33; (try rw [← HX.out]); refine (HV.out _).mono ?_; rintro e w2 ⟨rfl, hb⟩)
  go_ret
  exact ⟨rfl, HB.out.trans (hb.mono HB.out.size)⟩

end Go.Proofs.Ytomloodakabcbaa.Et
