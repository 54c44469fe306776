/-
  Events, in plain facts and as they lie in memory; what szEvent and szEventS take away.
-/
import Derived.Test.YtomloodakabcbaaGx
import Derived.Test.YtomloodakabcbaaSz
namespace Go.Proofs.Ytomloodakabcbaa.Et
open Go.RowKit Go.Proofs.Ytomloodakabcbaa.Cond Go.Proofs.Ytomloodakabcbaa.Gx
set_option linter.unusedVariables false
set_option linter.unusedSimpArgs false

/-- An event. -/
structure E where
  day : Int
  party : Int
  act : ByteArray
  amt : Int
def E.cells (m : E) : List Value := [.int .i64 m.day, .int .i64 m.party, .string m.act, .int .i64 m.amt]
theorem E.len (m : E) : m.cells.length = 4 := rfl
abbrev E.val (m : E) : Value := .agg #[.int .i64 m.day, .int .i64 m.party, .string m.act, .int .i64 m.amt]
/-- What szEventS takes away, the length aside. -/
def wtE : List E → Nat
  | [] => 0
  | x :: xs => x.act.size + wtE xs
theorem wtE_step {xs : List E} {i : Nat} (hi : i < xs.length) : wtE (xs.take (i + 1)) = wtE (xs.take i) + xs[i].act.size := by
  induction xs generalizing i with
  | nil => simp at hi
  | cons x xs ih =>
    cases i with
    | zero => simp [wtE]
    | succ i =>
      have := ih (i := i) (by simpa using hi)
      simp only [List.take_succ_cons, wtE, List.getElem_cons_succ]
      omega
theorem wtE_take_le (xs : List E) (i : Nat) : wtE (xs.take i) ≤ wtE xs := by
  induction xs generalizing i with
  | nil => simp [wtE]
  | cons x xs ih =>
    cases i with
    | zero => simp [wtE]
    | succ i => have := ih i; simp only [List.take_succ_cons, wtE]; omega
/-- The four cells of an event. -/
theorem e4 {w : World} {b o : Nat} {m : E} (h : El w b o m.cells) :
    w.cell? ⟨b, o, none⟩ = some (.int .i64 m.day) ∧ w.cell? ⟨b, o + 1, none⟩ = some (.int .i64 m.party) ∧ w.cell? ⟨b, o + 2, none⟩ = some (.string m.act) ∧ w.cell? ⟨b, o + 3, none⟩ = some (.int .i64 m.amt) :=
  have hl := E.len m
  ⟨h 0 (by omega), h 1 (by omega), h 2 (by omega), h 3 (by omega)⟩
/-- The four cells of a box. -/
theorem b4 {w : World} {k : Nat} {m : E} (h : Bk k w m.cells) :
    w.cell? ⟨k, 0, none⟩ = some (.int .i64 m.day) ∧ w.cell? ⟨k, 1, none⟩ = some (.int .i64 m.party) ∧ w.cell? ⟨k, 2, none⟩ = some (.string m.act) ∧ w.cell? ⟨k, 3, none⟩ = some (.int .i64 m.amt) := by
  have := e4 h.el
  simpa only [Nat.zero_add] using this

/-- A row of events lies below block B. -/
structure LiE (w : World) (B : Nat) (A : Option Addr) (n cap : Nat) (ms : List E) : Prop where
  at_ : AtR E.cells 4 w B A ms
  asz : ∀ m ∈ ms, m.act.size ≤ maxLen
  len : n = ms.length
  nc : n ≤ cap
  cm : cap ≤ maxLen
theorem LiE.below {w w' : World} {B : Nat} {A : Option Addr} {n cap : Nat} {ms : List E} (h : LiE w B A n cap ms) (hb : Below B w w') : LiE w' B A n cap ms := ⟨h.at_.below hb, h.asz, h.len, h.nc, h.cm⟩
theorem LiE.more {w : World} {B B' : Nat} {A : Option Addr} {n cap : Nat} {ms : List E} (h : LiE w B A n cap ms) (hB : B ≤ B') : LiE w B' A n cap ms := ⟨h.at_.more hB, h.asz, h.len, h.nc, h.cm⟩
theorem LiE.on {w w' : World} {A : Option Addr} {n cap : Nat} {ms : List E} (h : LiE w w.heap.size A n cap ms) (hb : Below w.heap.size w w') : LiE w' w'.heap.size A n cap ms := (h.below hb).more hb.size
theorem LiE.n1 {w : World} {B : Nat} {A : Option Addr} {n cap : Nat} {ms : List E} (h : LiE w B A n cap ms) : n ≤ 9223372036854775807 := Nat.le_trans h.nc h.cm
/-- An element of the row, in every later world. -/
theorem LiE.get {w : World} {B : Nat} {A : Option Addr} {n cap : Nat} {ms : List E} (h : LiE w B A n cap ms) {k : Nat} (hk : k < n) :
    ∃ b o, ∃ h' : k < ms.length, A = some ⟨b, o, none⟩ ∧ b < B ∧ ∀ v, Below B w v → El v b (o + k * 4) ms[k].cells := by
  have hk' : k < ms.length := by have := h.len; omega
  obtain ⟨b, o, e, hB, hc⟩ := h.at_ (by omega)
  exact ⟨b, o, hk', e, hB, fun v hv => (hc k hk').alike (hv.block b hB)⟩

theorem szRes_no {m t : Nat} (h : m < t) : szRes m t = -1 := if_pos h
theorem szRes_yes {m t : Nat} (h : ¬ m < t) : szRes m t = ((m - t : Nat) : Int) := if_neg h

set_option maxHeartbeats 4000000 in
theorem szE (m : E) (t : Nat) (w : World) (ht : t ≤ 1048576) (hs : m.act.size ≤ maxLen) :
    Calls Try.prog 14 #[m.val, .int .i64 t] w fun e w' => e = .returned (.int .i64 (szRes t m.act.size)) ∧ Below w.heap.size w w' := by
  have B0 := Lib.hid (below1 w (.cells #[.int .i64 m.day, .int .i64 m.party, .string m.act, .int .i64 m.amt] 35))
  have ba : m.act.size ≤ 9223372036854775807 := hs
  by_cases h1 : t < m.act.size
  · have h1' : (t : Int) < (m.act.size : Int) := by omega
    have HR := Lib.hid (szRes_no h1)
    go_enter Try.func14, Try.ntmps14
    go_wp2_with fail
    go_ret
    exact ⟨by rw [HR.out]; rfl, B0.out⟩
  · have h1' : ¬ (t : Int) < (m.act.size : Int) := by omega
    have HR : Hid (szRes t m.act.size = (t : Int) - (m.act.size : Int)) := Lib.hid (by rw [szRes_yes h1]; omega)
    go_enter Try.func14, Try.ntmps14
    go_wp2_with fail
    go_ret
    exact ⟨by rw [HR.out]; rfl, B0.out⟩

set_option maxHeartbeats 4000000 in
theorem szES (A : Option Addr) (n cap : Nat) (ms : List E) (m : Nat) (hm : m ≤ 1048576) (w : World) (h : LiE w w.heap.size A n cap ms) :
    Calls Try.prog 5 #[.slice A n cap, .int .i64 m] w fun e w' => e = .returned (.int .i64 (szRes m (n + wtE ms))) ∧ Below w.heap.size w w' := by
  have HN := Lib.hid h.len
  have hl : n ≤ 9223372036854775807 := h.n1
  have HR := Lib.hid h
  have HLE := Lib.hid (fun i => wtE_take_le ms i)
  clear h
  by_cases hbig : m < n
  · go_enter Try.func5, Try.ntmps5
    go_wp2
    go_ret
    refine ⟨?_, Below.refl _ _⟩
    rw [szRes_no (by omega)]; rfl
  · go_enter Try.func5, Try.ntmps5
    go_wp2_with fail
    go_loopw [1, 5] (fun l i wr => ∃ (k t : Nat), k ≤ n ∧ t ≤ 1048576 ∧ i = .int .i64 k ∧ l = .int .i64 (t : Int) ∧ Hid (t + n + wtE (ms.take k) = m) ∧ Hid (Below w.heap.size w wr)) (fun _ i _ => n - (intOf i).toNat)
    case atStart => exact ⟨0, m - n, Nat.zero_le _, by omega, rfl, by congr 1; omega, Lib.hid (by simp [wtE]; omega), Lib.hid (Below.refl _ _)⟩
    case round =>
      obtain ⟨k, t, hk, ht, rfl, rfl, HT, HB⟩ := hrel
      by_cases hlt : k < n
      · obtain ⟨b, o, hk', rfl, hB, hc⟩ := HR.out.get hlt
        obtain ⟨p, hp⟩ : ∃ p, p = ms[k] := ⟨_, rfl⟩
        have hE := hc wr HB.out
        rw [← hp] at hE
        obtain ⟨c0, c1, c2, c3⟩ := e4 hE
        have HW : Hid (wtE (ms.take (k + 1)) = wtE (ms.take k) + p.act.size) := Lib.hid (by rw [wtE_step hk', hp])
        have HV := Lib.hid (HLE.out (k + 1))
        have IH := szE p t wr ht (HR.out.asz p (by rw [hp]; exact List.getElem_mem hk'))
        clear hp hc hE
        by_cases hneg : t < p.act.size
        · rw [szRes_no hneg] at IH
          have IHH := Lib.hid IH
          clear IH
          go_wp2_with (go_at_call 14; refine IHH.out.mono ?_; rintro e w2 ⟨rfl, hb2⟩)
          go_ret
          refine ⟨?_, HB.out.trans (hb2.mono HB.out.size)⟩
          have := HW.out; have := HV.out; have := HT.out
          rw [szRes_no (by omega)]; rfl
        · rw [szRes_yes hneg] at IH
          have IHH := Lib.hid IH
          have ht2 : (0 : Int) ≤ ((t - p.act.size : Nat) : Int) := by omega
          have HT2 : Hid (t - p.act.size + n + wtE (ms.take (k + 1)) = m) := Lib.hid (by have := HT.out; have := HW.out; omega)
          have ht3 : t - p.act.size ≤ 1048576 := by omega
          clear IH
          generalize t - p.act.size = t2 at *
          go_wp2_with (go_at_call 14; refine IHH.out.mono ?_; rintro e w2 ⟨rfl, hb2⟩)
          go_roundw
          case rel => exact ⟨k + 1, t2, by omega, ht3, by go_num, rfl, HT2, Lib.hid (HB.out.trans (hb2.mono HB.out.size))⟩
          case measure => simp [intOf]; omega
      · have HE : Hid (ms.take k = ms) := Lib.hid (List.take_of_length_le (by have := HN.out; omega))
        go_wp2_with fail
        go_ret
        refine ⟨?_, HB.out⟩
        have h1 := HT.out
        rw [HE.out] at h1
        rw [szRes_yes (by omega)]
        show Ending.returned (.int .i64 (t : Int)) = _
        congr 2; omega

end Go.Proofs.Ytomloodakabcbaa.Et
