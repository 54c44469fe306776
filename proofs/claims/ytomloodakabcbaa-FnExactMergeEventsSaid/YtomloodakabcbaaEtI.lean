/-
  Event lists: areValidEvents and sort.IsSorted of the program, l8Good of the model; both IsValidEvents.
-/
import Derived.Test.YtomloodakabcbaaEtV
namespace Go.Proofs.Ytomloodakabcbaa.Et
open Go.RowKit Go.Proofs.Ytomloodakabcbaa.Cond Go.Proofs.Ytomloodakabcbaa.Gx
set_option linter.unusedVariables false
set_option linter.unusedSimpArgs false

set_option maxHeartbeats 4000000 in
theorem badIx (A : Option Addr) (n cap : Nat) (ms : List E) (k p : Nat) (hp : p ≤ 4) (w : World) (h : LiE w w.heap.size A n cap ms) (hl : n ≤ 40) (hP : Bk k w [.int .i64 (p : Int)]) :
    Calls Try.prog 41 #[.slice A n cap, .func (.func 32) #[] #[.pointer (some ⟨k, 0, none⟩)]] w fun e w' => ∃ z : Int, e = .returned (.int .i64 z) ∧ (decide (0 ≤ z) = !(ms.all fun m => okE m ((p : Int) - 1))) ∧ Below w.heap.size w w' := by
  have HFN : Hid (∀ v (m : E), Below w.heap.size w v → m.act.size ≤ maxLen → Calls Try.prog 32 #[m.val, .pointer (some ⟨k, 0, none⟩)] v fun e w' => e = .returned (.bool !(okE m ((p : Int) - 1))) ∧ Below v.heap.size v w') := Lib.hid fun v m hv hm => badFn m k p hp hm v (hP.on hv)
  have HL := Lib.hid h
  have HN := Lib.hid h.len
  clear h hP
  go_enter Try.func41, Try.ntmps41
  go_wp2_with fail
  go_loopw [8] (fun i wr => ∃ j : Nat, j ≤ n ∧ i = .int .i64 j ∧ Hid (∀ i, ∀ h : i < ms.length, i < j → okE ms[i] ((p : Int) - 1) = true) ∧ Hid (Below w.heap.size w wr)) (fun i _ => n - (intOf i).toNat)
  case atStart => exact ⟨0, Nat.zero_le _, rfl, Lib.hid fun j _ h => by omega, Lib.hid (Below.refl _ _)⟩
  case round =>
    obtain ⟨j, hj, rfl, HK, HB⟩ := hrel
    by_cases hlt : j < n
    · obtain ⟨b, o, hj', rfl, hB, hc⟩ := HL.out.get hlt
      obtain ⟨m, hm⟩ : ∃ m, m = ms[j] := ⟨_, rfl⟩
      have hE := hc wr HB.out
      rw [← hm] at hE
      obtain ⟨c0, c1, c2, c3⟩ := e4 hE
      have i0 : (0 : Int) ≤ (j : Int) := by omega
      have i1 : (j : Int) < (n : Int) := by omega
      obtain ⟨t, ht⟩ : ∃ t, t = okE m ((p : Int) - 1) := ⟨_, rfl⟩
      have HF := HFN.out wr m HB.out (HL.out.asz m (by rw [hm]; exact List.getElem_mem hj'))
      rw [← ht] at HF
      have HFH := Lib.hid HF
      have HT := Lib.hid (And.intro ht hm)
      clear hE hc hm ht HF
      cases t
      · have HD : Hid ((!(ms.all fun m => okE m ((p : Int) - 1))) = true) := Lib.hid (by
          have : ms.all (fun m => okE m ((p : Int) - 1)) = false := by
            rw [List.all_eq_false]
            exact ⟨ms[j], List.getElem_mem hj', by rw [← HT.out.2, ← HT.out.1]; simp⟩
          rw [this]; rfl)
        go_wp2_with (go_at_call 32; refine HFH.out.mono ?_; rintro e w2 ⟨rfl, hb⟩)
        go_ret
        exact ⟨j, rfl, by rw [HD.out]; exact decide_eq_true (by omega), HB.out.trans (hb.mono HB.out.size)⟩
      · have HK2 : Hid (∀ i, ∀ h : i < ms.length, i < j + 1 → okE ms[i] ((p : Int) - 1) = true) := Lib.hid fun i h hi => by
          by_cases e : i = j
          · subst e; rw [← HT.out.2]; exact HT.out.1.symm
          · exact HK.out i h (by omega)
        go_wp2_with (go_at_call 32; refine HFH.out.mono ?_; rintro e w2 ⟨rfl, hb⟩)
        go_roundw
        case rel => exact ⟨j + 1, by omega, by go_num, HK2, Lib.hid (HB.out.trans (hb.mono HB.out.size))⟩
        case measure => simp [intOf]; omega
    · have HD : Hid ((!(ms.all fun m => okE m ((p : Int) - 1))) = false) := Lib.hid (by
        have : ms.all (fun m => okE m ((p : Int) - 1)) = true := by
          rw [List.all_eq_true]
          intro x hx
          obtain ⟨i, hi, rfl⟩ := List.mem_iff_getElem.1 hx
          exact HK.out i hi (by have := HN.out; omega)
        rw [this]; rfl)
      go_wp2_with fail
      go_ret
      exact ⟨-1, rfl, by rw [HD.out]; rfl, HB.out⟩

set_option maxHeartbeats 4000000 in
theorem areValid (A : Option Addr) (n cap : Nat) (ms : List E) (p : Int) (w : World) (h : LiE w w.heap.size A n cap ms) :
    Calls Try.prog 18 #[.slice A n cap, .int .i64 p] w fun e w' => e = .returned (.bool (valE ms p)) ∧ Below w.heap.size w w' := by
  obtain ⟨X, hX⟩ : ∃ X, X = w.alloc (.cells #[.int .i64 p] 3) := ⟨_, rfl⟩
  have B0 : Below w.heap.size w X := by rw [hX]; exact below1 _ _
  have P0 : Bk w.heap.size X [.int .i64 p] := by rw [hX]; exact Bk.new _ _ _
  have HPC : Hid (∀ v, Calls Try.prog 30 #[.int .i64 p] v fun e w' => e = .returned (.bool (decide (2 ≤ p) && decide (p ≤ 4))) ∧ w' = v) := Lib.hid fun v => isPartyCount p v
  have HB := Lib.hid B0
  have HX := Lib.hid hX
  have hnl : n ≤ 9223372036854775807 := h.n1
  have p0 := P0.c 0 (by simp)
  simp only [List.getElem_cons_zero] at p0
  by_cases h2 : 2 ≤ p ∧ p ≤ 4
  · have e2 : (decide (2 ≤ p) && decide (p ≤ 4)) = true := by simp [h2]
    rw [e2] at HPC
    by_cases h40 : n ≤ 40
    · obtain ⟨q, rfl⟩ : ∃ q : Nat, p = (q : Int) := ⟨p.toNat, by omega⟩
      obtain ⟨t, ht⟩ : ∃ t, t = !(ms.all fun m => okE m ((q : Int) - 1)) := ⟨_, rfl⟩
      have HCF : Hid (Calls Try.prog 31 #[.slice A n cap, .func (.func 32) #[] #[.pointer (some ⟨w.heap.size, 0, none⟩)]] X fun e w' => e = .returned (.bool t) ∧ Below X.heap.size X w') := Lib.hid (by
        have HIX := Lib.hid (badIx A n cap ms w.heap.size q (by omega) X (h.on B0) h40 P0)
        rw [← ht] at HIX
        clear h hX B0 P0 p0 HPC e2 ht
        go_enter Try.func31, Try.ntmps31
        go_wp2_with (go_at_call 41; refine HIX.out.mono ?_; rintro e w2 ⟨z, rfl, hz, hb⟩; have HZ := Lib.hid hz; clear hz)
        go_ret
        exact ⟨by rw [← HZ.out]; rfl, hb⟩)
      have HR : Hid (valE ms (q : Int) = !t) := Lib.hid (by
        have hn : ms.length ≤ 40 := by have := h.len; omega
        rw [valE, e2, ht]; simp [hn])
      have hmf := makeFn
      have hn40 : (n : Int) ≤ 40 := by omega
      clear h B0 P0 ht e2 h2
      rw [hX] at p0
      clear hX
      go_enter Try.func18, Try.ntmps18
      go_wp2_with (first | (go_at_call 30; refine (HPC.out _).mono ?_; rintro e w2 ⟨rfl, hw⟩; rw [hw]; clear hw) | (go_at_call 31; (try rw [← HX.out]); refine HCF.out.mono ?_; rintro e w2 ⟨rfl, hb⟩))
      go_ret
      exact ⟨by rw [HR.out]; rfl, HB.out.trans (hb.mono HB.out.size)⟩
    · have HR : Hid (valE ms p = false) := Lib.hid (valE_big (by have := h.len; omega))
      have hn41 : ¬ (n : Int) ≤ 40 := by omega
      clear h B0 P0 e2 h2
      rw [hX] at p0
      go_enter Try.func18, Try.ntmps18
      go_wp2_with (go_at_call 30; refine (HPC.out _).mono ?_; rintro e w2 ⟨rfl, hw⟩; rw [hw]; clear hw)
      go_ret
      exact ⟨by rw [HR.out]; rfl, by rw [← hX]; exact HB.out⟩
  · have e2 : (decide (2 ≤ p) && decide (p ≤ 4)) = false := by
      rw [Bool.eq_false_iff]; simp; omega
    rw [e2] at HPC
    have HR : Hid (valE ms p = false) := Lib.hid (by rw [valE, e2]; rfl)
    clear h B0 P0 e2 h2
    rw [hX] at p0
    go_enter Try.func18, Try.ntmps18
    go_wp2_with (go_at_call 30; refine (HPC.out _).mono ?_; rintro e w2 ⟨rfl, hw⟩; rw [hw]; clear hw)
    go_ret
    exact ⟨by rw [HR.out]; rfl, by rw [← hX]; exact HB.out⟩

/-- The events rise. -/
def riseE (ms : List E) : Prop := ∀ i, ∀ h : i + 1 < ms.length, cE ms[i] ms[i + 1] ≤ 0

theorem cI_neg (x y : Int) : cI y x = -cI x y := by
  unfold cI
  (repeat' split) <;> omega
theorem cS_neg (x y : ByteArray) : cS y x = -cS x y := by
  unfold cS
  simp only [bytesLess_eq, decide_eq_true_eq]
  by_cases h1 : x.toList < y.toList
  · have h2 : ¬ y.toList < x.toList := fun h => List.lt_irrefl _ (List.lt_trans h1 h)
    have h3 : ¬ y.toList = x.toList := fun h => by rw [h] at h1; exact List.lt_irrefl _ h1
    simp [h1, h2, h3]
  · by_cases h3 : x.toList = y.toList
    · simp [h3, List.lt_irrefl]
    · have h2 : y.toList < x.toList := by
        have h4 : y.toList ≤ x.toList := List.not_lt.1 h1
        rcases List.le_iff_lt_or_eq.1 h4 with h | h
        · exact h
        · exact absurd h.symm h3
      simp [h1, h2, h3]
theorem orI_neg (zs : List Int) : orI (zs.map fun z => -z) = -orI zs := by
  induction zs with
  | nil => rfl
  | cons z zs ih =>
    simp only [List.map_cons, orI]
    by_cases h : z = 0
    · subst h; simpa using ih
    · have : ¬ -z = 0 := by omega
      simp [h, this]
theorem cE_neg (a b : E) : cE b a = -cE a b := by
  unfold cE
  rw [cI_neg a.day, cI_neg a.party, cS_neg a.act, cI_neg a.amt]
  exact orI_neg [cI a.day b.day, cI a.party b.party, cS a.act b.act, cI a.amt b.amt]

end Go.Proofs.Ytomloodakabcbaa.Et
