/-
  Events of a party and an action, counted: both CountActions.
-/
import Derived.Test.YtlpeaamjpcpfcaaEtL
import Derived.Test.YtlpeaamjpcpfcaaEtMk
namespace Go.Proofs.Ytlpeaamjpcpfcaa.Et
open Go.RowKit Go.Proofs.Ytlpeaamjpcpfcaa.Cond Go.Proofs.Ytlpeaamjpcpfcaa.Gx
set_option linter.unusedVariables false
set_option linter.unusedSimpArgs false

def isAct (q : Int) (s : ByteArray) (m : E) : Bool := decide (m.party = q) && decide (m.act.toList = s.toList)
/-- How many events these are, and the sum of their amounts. -/
def cntE (q : Int) (s : ByteArray) : List E → Nat
  | [] => 0
  | m :: ms => (if isAct q s m then 1 else 0) + cntE q s ms
def sumE (q : Int) (s : ByteArray) : List E → Int
  | [] => 0
  | m :: ms => (if isAct q s m then m.amt else 0) + sumE q s ms
theorem cntE_app (q : Int) (s : ByteArray) (ms : List E) (m : E) : cntE q s (ms ++ [m]) = cntE q s ms + (if isAct q s m then 1 else 0) := by
  induction ms with
  | nil => simp [cntE]
  | cons x xs ih => simp only [List.cons_append, cntE, ih]; omega
theorem sumE_app (q : Int) (s : ByteArray) (ms : List E) (m : E) : sumE q s (ms ++ [m]) = sumE q s ms + (if isAct q s m then m.amt else 0) := by
  induction ms with
  | nil => simp [sumE]
  | cons x xs ih => simp only [List.cons_append, sumE, ih]; omega
theorem cntE_le (q : Int) (s : ByteArray) (ms : List E) : cntE q s ms ≤ ms.length := by
  induction ms with
  | nil => simp [cntE]
  | cons x xs ih => simp only [cntE, List.length_cons]; split <;> omega
theorem good_amt {ms : List E} {p : Int} (h : goodE ms p) : ms.length ≤ 40 ∧ ∀ m ∈ ms, 0 ≤ m.amt ∧ m.amt ≤ 1000000 := by
  have h2 := h.2
  simp only [valE, Bool.and_eq_true, decide_eq_true_eq, List.all_eq_true, okE] at h2
  exact ⟨h2.2.1, fun m hm => (h2.2.2 m hm).2.2.2⟩
theorem sumE_le {q : Int} {s : ByteArray} : ∀ {ms : List E}, (∀ m ∈ ms, 0 ≤ m.amt ∧ m.amt ≤ 1000000) → 0 ≤ sumE q s ms ∧ sumE q s ms ≤ 1000000 * ms.length
  | [], _ => by simp [sumE]
  | m :: ms, h => by
    have h1 := sumE_le (q := q) (s := s) (ms := ms) fun x hx => h x (by simp [hx])
    have h2 := h m (by simp)
    simp only [sumE, List.length_cons]
    split <;> omega

set_option maxHeartbeats 4000000 in
theorem specCA (A : Option Addr) (n cap : Nat) (ms : List E) (p q : Int) (s : ByteArray) (hs : s.size ≤ maxLen) (hp : -9223372036854775808 ≤ p) (hp2 : p ≤ 9223372036854775807) (t : Bool) (ht : t = true ↔ goodE ms p) (w : World) (h : LiE w w.heap.size A n cap ms) :
    Calls Try.prog 37 #[.slice A n cap, .int .i64 p, .int .i64 q, .string s] w fun e w' => e = .returned (.tuple #[.int .i64 (if t then (cntE q s ms : Int) else 0), .int .i64 (if t then sumE q s ms else 0), .bool t]) ∧ Below w.heap.size w w' := by
  have HG := Lib.hid (l8Good A n cap ms p hp hp2 t ht w h)
  have HN := Lib.hid h.len
  have HL := Lib.hid h
  have HT := Lib.hid ht
  have hnl : n ≤ 9223372036854775807 := h.n1
  clear ht h
  cases t
  · go_enter Try.func37, Try.ntmps37
    go_wp2_with (go_at_call 54; refine HG.out.mono ?_; rintro e w2 ⟨rfl, hb⟩)
    go_ret3
    exact ⟨rfl, hb⟩
  have HGA := Lib.hid (good_amt (HT.out.1 rfl))
  have HLE := Lib.hid fun k => cntE_le q s (ms.take k)
  have HSE : Hid (∀ k, 0 ≤ sumE q s (ms.take k) ∧ sumE q s (ms.take k) ≤ 40000000) := Lib.hid fun k => by
    have h1 := sumE_le (q := q) (s := s) (ms := ms.take k) fun m hm => HGA.out.2 m (List.mem_of_mem_take hm)
    have h2 : (ms.take k).length ≤ ms.length := by rw [List.length_take]; omega
    have h3 := HGA.out.1
    omega
  go_enter Try.func37, Try.ntmps37
  go_wp2_with (go_at_call 54; refine HG.out.mono ?_; rintro e w2 ⟨rfl, hb⟩; refine Hid.out ?_)
  refine Lib.hid ?_
  have HB2 := Lib.hid hb
  clear hb
  go_wp2_with fail
  go_loopw [11, 12, 13] (fun a b i wr => ∃ k : Nat, k ≤ n ∧ i = .int .i64 k ∧ ∃ (c : Nat) (z : Int), c ≤ 100 ∧ -1 ≤ z ∧ z ≤ 90000000 ∧ a = .int .i64 (c : Int) ∧ b = .int .i64 z ∧ Hid (c = cntE q s (ms.take k) ∧ z = sumE q s (ms.take k)) ∧ Hid (Below w.heap.size w wr)) (fun _ _ i _ => n - (intOf i).toNat)
  case atStart => exact ⟨0, Nat.zero_le _, rfl, 0, 0, by omega, by omega, by omega, rfl, rfl, Lib.hid ⟨rfl, rfl⟩, HB2⟩
  case round =>
    obtain ⟨k, hk, rfl, c, z, hc1, hz1, hz2, rfl, rfl, HC, HB⟩ := hrel
    by_cases hlt : k < n
    · obtain ⟨b, o, hk', rfl, hB, hc⟩ := HL.out.get hlt
      obtain ⟨m, hm⟩ : ∃ m, m = ms[k] := ⟨_, rfl⟩
      have hE := hc wr HB.out
      rw [← hm] at hE
      obtain ⟨c0, c1, c2, c3⟩ := e4 hE
      have i0 : (0 : Int) ≤ (k : Int) := by omega
      have i1 : (k : Int) < (n : Int) := by omega
      have HTK : Hid (ms.take (k + 1) = ms.take k ++ [m]) := Lib.hid (by rw [hm]; exact List.take_succ_eq_append_getElem hk')
      have HMA : Hid (0 ≤ m.amt ∧ m.amt ≤ 1000000) := Lib.hid (HGA.out.2 m (by rw [hm]; exact List.getElem_mem hk'))
      have hm1 : 0 ≤ m.amt := HMA.out.1
      have hm2 : m.amt ≤ 1000000 := HMA.out.2
      have HCK := Lib.hid (HLE.out k)
      have HSK := Lib.hid (HSE.out k)
      have HL40 := Lib.hid HGA.out.1
      have hcc : c ≤ 40 := by have := HC.out.1; have := HLE.out k; have := HGA.out.1; rw [List.length_take] at *; omega
      have hzz : 0 ≤ z := by have := HC.out.2; have := (HSE.out k).1; omega
      have hzz2 : z ≤ 40000000 := by have := HC.out.2; have := (HSE.out k).2; omega
      clear hE hc hm hc1 hz1 hz2
      by_cases g1 : m.party = q
      · by_cases g2 : m.act.toList = s.toList
        · have HN2 : Hid (c + 1 = cntE q s (ms.take (k + 1)) ∧ z + m.amt = sumE q s (ms.take (k + 1))) := Lib.hid (by
            rw [HTK.out, cntE_app, sumE_app, ← HC.out.1, ← HC.out.2]; simp [isAct, g1, g2])
          have g2' : (m.act.toList == s.toList) = true := by simpa using g2
          clear g2
          go_wp2_with fail
          skip
          go_roundw
          case rel => exact ⟨k + 1, by omega, by go_num, c + 1, z + m.amt, by omega, by omega, by omega, by go_num, rfl, HN2, Lib.hid (by first | exact HB.out | exact HB.out.drew | exact below_drewN HB.out _)⟩
          case measure => simp [intOf]; omega
        · have HN2 : Hid (c = cntE q s (ms.take (k + 1)) ∧ z = sumE q s (ms.take (k + 1))) := Lib.hid (by
            rw [HTK.out, cntE_app, sumE_app, ← HC.out.1, ← HC.out.2]; simp [isAct, g1, g2])
          have g2' : (m.act.toList == s.toList) = false := by simpa using g2
          clear g2
          go_wp2_with fail
          skip
          go_roundw
          case rel => exact ⟨k + 1, by omega, by go_num, c, z, by omega, by omega, by omega, rfl, rfl, HN2, Lib.hid (by first | exact HB.out | exact HB.out.drew | exact below_drewN HB.out _)⟩
          case measure => simp [intOf]; omega
      · have HN2 : Hid (c = cntE q s (ms.take (k + 1)) ∧ z = sumE q s (ms.take (k + 1))) := Lib.hid (by
          rw [HTK.out, cntE_app, sumE_app, ← HC.out.1, ← HC.out.2]; simp [isAct, g1])
        go_wp2_with fail
        skip
        go_roundw
        case rel => exact ⟨k + 1, by omega, by go_num, c, z, by omega, by omega, by omega, rfl, rfl, HN2, Lib.hid (by first | exact HB.out | exact HB.out.drew | exact below_drewN HB.out _)⟩
        case measure => simp [intOf]; omega
    · have HE : Hid (ms.take k = ms) := Lib.hid (List.take_of_length_le (by have := HN.out; omega))
      go_wp2_with fail
      go_ret3
      refine ⟨?_, HB.out⟩
      have h1 := HC.out
      rw [HE.out] at h1
      rw [← h1.1, ← h1.2]; rfl

set_option maxHeartbeats 4000000 in
theorem implCA (A : Option Addr) (n cap : Nat) (ms : List E) (p q : Int) (s : ByteArray) (hs : s.size ≤ maxLen) (t : Bool) (ht : t = true ↔ goodE ms p) (w : World) (h : LiE w w.heap.size A n cap ms) :
    Calls Try.prog 20 #[.slice A n cap, .int .i64 p, .int .i64 q, .string s] w fun e w' => e = .returned (.tuple #[.int .i64 (if t then (cntE q s ms : Int) else 0), .int .i64 (if t then sumE q s ms else 0), .bool t]) ∧ Below w.heap.size w w' := by
  have HG := Lib.hid (implValidEv A n cap ms p t ht w h)
  have HN := Lib.hid h.len
  have HL := Lib.hid h
  have HT := Lib.hid ht
  have hnl : n ≤ 9223372036854775807 := h.n1
  clear ht h
  cases t
  · go_enter Try.func20, Try.ntmps20
    go_wp2_with (go_at_call 16; refine HG.out.mono ?_; rintro e w2 ⟨rfl, hb⟩)
    go_ret3
    exact ⟨rfl, hb⟩
  have HGA := Lib.hid (good_amt (HT.out.1 rfl))
  have HLE := Lib.hid fun k => cntE_le q s (ms.take k)
  have HSE : Hid (∀ k, 0 ≤ sumE q s (ms.take k) ∧ sumE q s (ms.take k) ≤ 40000000) := Lib.hid fun k => by
    have h1 := sumE_le (q := q) (s := s) (ms := ms.take k) fun m hm => HGA.out.2 m (List.mem_of_mem_take hm)
    have h2 : (ms.take k).length ≤ ms.length := by rw [List.length_take]; omega
    have h3 := HGA.out.1
    omega
  go_enter Try.func20, Try.ntmps20
  go_wp2_with (go_at_call 16; refine HG.out.mono ?_; rintro e w2 ⟨rfl, hb⟩; refine Hid.out ?_)
  refine Lib.hid ?_
  have HB2 := Lib.hid hb
  clear hb
  go_wp2_with fail
  go_loopw [11, 12, 21] (fun a b i wr => ∃ k : Nat, k ≤ n ∧ i = .int .i64 k ∧ ∃ (c : Nat) (z : Int), c ≤ 100 ∧ -1 ≤ z ∧ z ≤ 90000000 ∧ a = .int .i64 (c : Int) ∧ b = .int .i64 z ∧ Hid (c = cntE q s (ms.take k) ∧ z = sumE q s (ms.take k)) ∧ Hid (Below w.heap.size w wr)) (fun _ _ i _ => n - (intOf i).toNat)
  case atStart => exact ⟨0, Nat.zero_le _, rfl, 0, 0, by omega, by omega, by omega, rfl, rfl, Lib.hid ⟨rfl, rfl⟩, HB2⟩
  case round =>
    obtain ⟨k, hk, rfl, c, z, hc1, hz1, hz2, rfl, rfl, HC, HB⟩ := hrel
    by_cases hlt : k < n
    · obtain ⟨b, o, hk', rfl, hB, hc⟩ := HL.out.get hlt
      obtain ⟨m, hm⟩ : ∃ m, m = ms[k] := ⟨_, rfl⟩
      have hE := hc wr HB.out
      rw [← hm] at hE
      obtain ⟨c0, c1, c2, c3⟩ := e4 hE
      have i0 : (0 : Int) ≤ (k : Int) := by omega
      have i1 : (k : Int) < (n : Int) := by omega
      have HTK : Hid (ms.take (k + 1) = ms.take k ++ [m]) := Lib.hid (by rw [hm]; exact List.take_succ_eq_append_getElem hk')
      have HMA : Hid (0 ≤ m.amt ∧ m.amt ≤ 1000000) := Lib.hid (HGA.out.2 m (by rw [hm]; exact List.getElem_mem hk'))
      have hm1 : 0 ≤ m.amt := HMA.out.1
      have hm2 : m.amt ≤ 1000000 := HMA.out.2
      have HCK := Lib.hid (HLE.out k)
      have HSK := Lib.hid (HSE.out k)
      have HL40 := Lib.hid HGA.out.1
      have hcc : c ≤ 40 := by have := HC.out.1; have := HLE.out k; have := HGA.out.1; rw [List.length_take] at *; omega
      have hzz : 0 ≤ z := by have := HC.out.2; have := (HSE.out k).1; omega
      have hzz2 : z ≤ 40000000 := by have := HC.out.2; have := (HSE.out k).2; omega
      clear hE hc hm hc1 hz1 hz2
      by_cases g1 : m.party = q
      · by_cases g2 : m.act.toList = s.toList
        · have HN2 : Hid (c + 1 = cntE q s (ms.take (k + 1)) ∧ z + m.amt = sumE q s (ms.take (k + 1))) := Lib.hid (by
            rw [HTK.out, cntE_app, sumE_app, ← HC.out.1, ← HC.out.2]; simp [isAct, g1, g2])
          have g2' : (m.act.toList == s.toList) = true := by simpa using g2
          clear g2
          go_wp2_with fail
          skip
          go_roundw
          case rel => exact ⟨k + 1, by omega, by go_num, c + 1, z + m.amt, by omega, by omega, by omega, by go_num, rfl, HN2, Lib.hid (by first | exact HB.out | exact HB.out.drew | exact (below1 _ _).mono HB.out.size |> HB.out.trans)⟩
          case measure => simp [intOf]; omega
        · have HN2 : Hid (c = cntE q s (ms.take (k + 1)) ∧ z = sumE q s (ms.take (k + 1))) := Lib.hid (by
            rw [HTK.out, cntE_app, sumE_app, ← HC.out.1, ← HC.out.2]; simp [isAct, g1, g2])
          have g2' : (m.act.toList == s.toList) = false := by simpa using g2
          clear g2
          go_wp2_with fail
          skip
          go_roundw
          case rel => exact ⟨k + 1, by omega, by go_num, c, z, by omega, by omega, by omega, rfl, rfl, HN2, Lib.hid (by first | exact HB.out | exact HB.out.drew | exact (below1 _ _).mono HB.out.size |> HB.out.trans)⟩
          case measure => simp [intOf]; omega
      · have HN2 : Hid (c = cntE q s (ms.take (k + 1)) ∧ z = sumE q s (ms.take (k + 1))) := Lib.hid (by
          rw [HTK.out, cntE_app, sumE_app, ← HC.out.1, ← HC.out.2]; simp [isAct, g1])
        go_wp2_with fail
        skip
        go_roundw
        case rel => exact ⟨k + 1, by omega, by go_num, c, z, by omega, by omega, by omega, rfl, rfl, HN2, Lib.hid (by first | exact HB.out | exact HB.out.drew | exact (below1 _ _).mono HB.out.size |> HB.out.trans)⟩
        case measure => simp [intOf]; omega
    · have HE : Hid (ms.take k = ms) := Lib.hid (List.take_of_length_le (by have := HN.out; omega))
      go_wp2_with fail
      go_ret3
      refine ⟨?_, HB.out⟩
      have h1 := HC.out
      rw [HE.out] at h1
      rw [← h1.1, ← h1.2]; rfl

end Go.Proofs.Ytlpeaamjpcpfcaa.Et
