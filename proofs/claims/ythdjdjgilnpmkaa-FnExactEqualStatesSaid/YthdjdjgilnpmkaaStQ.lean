/-
  EqualStates: the model's and the program's.
-/
import Derived.Test.YthdjdjgilnpmkaaStB
namespace Go.Proofs.Ythdjdjgilnpmkaa.Sta
open Go.RowKit Go.Proofs.Ythdjdjgilnpmkaa.Cond Go.Proofs.Ythdjdjgilnpmkaa.Gx Go.Proofs.Ythdjdjgilnpmkaa.Cl Go.Proofs.Ythdjdjgilnpmkaa.Dt
set_option linter.unusedVariables false
set_option linter.unusedSimpArgs false

theorem bool_not {P : Prop} {t : Bool} (h : t = true ↔ P) (hn : ¬ P) : t = false := by
  cases t
  · rfl
  · exact absurd (h.1 rfl) hn
theorem t_dec {α : Type} (a b : α) : ∃ u : Bool, u = true ↔ a = b := by
  by_cases h : a = b
  · exact ⟨true, by simp [h]⟩
  · exact ⟨false, by simp [h]⟩
theorem bytes_eqS {a b : ByteArray} (h : a.toList = b.toList) : a = b := by
  rw [Go.ByteArray.toList_eq, Go.ByteArray.toList_eq] at h
  cases a; cases b
  simpa [Array.toList_inj] using h
theorem add_no (b o i : Nat) : (⟨b, o, none⟩ : Addr).add i = ⟨b, o + i, none⟩ := by simp [Addr.add]
theorem LiI.get {X : World} {B : Nat} {A : Option Addr} {n c : Nat} {zs : List Int} (h : LiI X B A n c zs) {k : Nat} (hk : k < n) :
    ∃ (b oo : Nat) (hk' : k < zs.length), A = some ⟨b, oo, none⟩ ∧ ∀ v, Below B X v → v.cell? ⟨b, oo + k, none⟩ = some (.int .i64 zs[k]) := by
  have hk' : k < zs.length := by have := h.len; omega
  obtain ⟨ad, e, hB, hc⟩ := h.is (by omega)
  have had := h.sp ad e (by omega)
  obtain ⟨b, oo, had2⟩ : ∃ b oo, ad = ⟨b, oo, none⟩ := ⟨_, _, had⟩
  refine ⟨b, oo, hk', by rw [e, had2], fun v hv => ?_⟩
  rw [← World.cell?_of_block (hv.block b (by rw [had2] at hB; exact hB)) |>.symm]
  have := hc k hk'
  rw [had2, add_no] at this
  exact this
theorem getN {X : World} {B : Nat} {A : Option Addr} {n c : Nat} {ss : List ByteArray} (h : LiN X B A n c ss) {k : Nat} (hk : k < n) :
    ∃ (b oo : Nat) (hk' : k < ss.length), A = some ⟨b, oo, none⟩ ∧ ∀ v, Below B X v → v.cell? ⟨b, oo + k, none⟩ = some (.string ss[k]) := by
  have hk' : k < ss.length := by have := h.len; omega
  obtain ⟨ad, e, hB, hc⟩ := h.is (by omega)
  have had := h.sp ad e (by omega)
  obtain ⟨b, oo, had2⟩ : ∃ b oo, ad = ⟨b, oo, none⟩ := ⟨_, _, had⟩
  refine ⟨b, oo, hk', by rw [e, had2], fun v hv => ?_⟩
  rw [← World.cell?_of_block (hv.block b (by rw [had2] at hB; exact hB)) |>.symm]
  have := hc k hk'
  rw [had2, add_no] at this
  exact this
/-- The first k are alike. -/
def Pre {α : Type} (xs ys : List α) (k : Nat) : Prop := ∀ j, ∀ h1 : j < xs.length, ∀ h2 : j < ys.length, j < k → xs[j] = ys[j]
theorem Pre.snoc {α : Type} {xs ys : List α} {k : Nat} (h : Pre xs ys k) (h1 : k < xs.length) (h2 : k < ys.length) (e : xs[k] = ys[k]) : Pre xs ys (k + 1) := fun j a b hj => by
  by_cases q : j = k
  · subst q; exact e
  · exact h j a b (by omega)
theorem Pre.all {α : Type} {xs ys : List α} {k : Nat} (h : Pre xs ys k) (hl : xs.length = ys.length) (hk : xs.length ≤ k) : xs = ys := List.ext_getElem hl fun j a b => h j a b (by omega)
theorem ne_at {α : Type} {xs ys : List α} {k : Nat} (h1 : k < xs.length) (h2 : k < ys.length) (e : ¬ xs[k] = ys[k]) : ¬ xs = ys := fun h => e (by subst h; rfl)

set_option maxRecDepth 100000 in
set_option maxHeartbeats 4000000 in
theorem sameI (A1 A2 : Option Addr) (n1 n2 c1 c2 : Nat) (xs ys : List Int) (w : World) (h1 : LiI w w.heap.size A1 n1 c1 xs) (h2 : LiI w w.heap.size A2 n2 c2 ys) (t : Bool) (ht : t = true ↔ xs = ys) :
    Calls Try.prog 22 #[.slice A1 n1 c1, .slice A2 n2 c2] w fun e w' => e = .returned (.bool t) ∧ Below w.heap.size w w' := by
  have H1 := Lib.hid h1
  have H2 := Lib.hid h2
  have HT := Lib.hid ht
  have m1 : n1 ≤ 9223372036854775807 := Nat.le_trans h1.nc h1.cm
  have m2 : n2 ≤ 9223372036854775807 := Nat.le_trans h2.nc h2.cm
  have HL := Lib.hid (And.intro h1.len h2.len)
  clear h1 h2 ht
  by_cases q : n1 = n2
  · have q3 : (n1 : Int) = (n2 : Int) := by omega
    have Q := Lib.hid q
    clear q
    go_enter Try.func22, Try.ntmps22
    go_wp2_with fail
    clear q3
    go_loopw [5] (fun i wr => ∃ k : Nat, k ≤ n1 ∧ i = .int .i64 k ∧ Hid (Pre xs ys k) ∧ Hid (Below w.heap.size w wr)) (fun i _ => n1 - (intOf i).toNat)
    case atStart => exact ⟨0, Nat.zero_le _, rfl, Lib.hid fun _ _ _ h => by omega, Lib.hid (Below.refl _ _)⟩
    case round =>
      obtain ⟨k, hk, rfl, HK, HB⟩ := hrel
      by_cases hlt : k < n1
      · have hlt2 : k < n2 := by have := Q.out; omega
        obtain ⟨b, oo, hk1, rfl, hc1⟩ := LiI.get H1.out hlt
        obtain ⟨b', oo', hk2, rfl, hc2⟩ := LiI.get H2.out hlt2
        have d1 := hc1 _ HB.out
        have d2 := hc2 _ HB.out
        obtain ⟨p, hp⟩ : ∃ p, p = xs[k] := ⟨_, rfl⟩
        obtain ⟨q, hq⟩ : ∃ q, q = ys[k] := ⟨_, rfl⟩
        rw [← hp] at d1
        rw [← hq] at d2
        have i0 : (0 : Int) ≤ (k : Int) := by omega
        have i1 : (k : Int) < (n1 : Int) := by omega
        have i2 : (k : Int) < (n2 : Int) := by omega
        have HPQ := Lib.hid (And.intro hp hq)
        by_cases hpq : p = q
        · have HK2 : Hid (Pre xs ys (k + 1)) := Lib.hid (HK.out.snoc hk1 hk2 (by rw [← HPQ.out.1, ← HPQ.out.2]; exact hpq))
          clear HPQ hp hq hc1 hc2 hk1 hk2 HT
          go_wp2_with fail
          go_quiet (fail)
          go_wp2_with fail
          go_roundw
          case rel => exact ⟨k + 1, by omega, by go_num, HK2, Lib.hid (below_drewN HB.out _)⟩
          case measure => simp [intOf]; omega
        · have hf : Hid (t = false) := Lib.hid (bool_not HT.out (ne_at hk1 hk2 (by rw [← HPQ.out.1, ← HPQ.out.2]; exact hpq)))
          clear HPQ hp hq hc1 hc2 hk1 hk2 HT HK
          go_wp2_with fail
          go_quiet (fail)
          go_wp2_with fail
          go_ret
          exact ⟨by rw [hf.out]; rfl, below_drewN HB.out _⟩
      · have hf : Hid (t = true) := Lib.hid (HT.out.2 (HK.out.all (by have := HL.out; have := Q.out; omega) (by have := HL.out; omega)))
        have i1 : ¬ (k : Int) < (n1 : Int) := by omega
        have i2 : ¬ (k : Int) < (n2 : Int) := by have := Q.out; omega
        go_wp2_with fail
        go_ret
        exact ⟨by rw [hf.out]; rfl, HB.out⟩
  · have q3 : ¬ (n1 : Int) = (n2 : Int) := by omega
    have hf : Hid (t = false) := Lib.hid (bool_not HT.out fun e => q (by have := HL.out; rw [e] at this; omega))
    go_enter Try.func22, Try.ntmps22
    go_wp2_with fail
    go_ret
    exact ⟨by rw [hf.out]; rfl, Below.refl _ _⟩

set_option maxRecDepth 100000 in
set_option maxHeartbeats 4000000 in
theorem eqInt (A1 A2 : Option Addr) (n1 n2 c1 c2 : Nat) (xs ys : List Int) (w : World) (h1 : LiI w w.heap.size A1 n1 c1 xs) (h2 : LiI w w.heap.size A2 n2 c2 ys) (t : Bool) (ht : t = true ↔ xs = ys) :
    Calls Try.prog 18 #[.slice A1 n1 c1, .slice A2 n2 c2] w fun e w' => e = .returned (.bool t) ∧ Below w.heap.size w w' := by
  have H1 := Lib.hid h1
  have H2 := Lib.hid h2
  have HT := Lib.hid ht
  have m1 : n1 ≤ 9223372036854775807 := Nat.le_trans h1.nc h1.cm
  have m2 : n2 ≤ 9223372036854775807 := Nat.le_trans h2.nc h2.cm
  have HL := Lib.hid (And.intro h1.len h2.len)
  clear h1 h2 ht
  by_cases q : n1 = n2
  · have q3 : (n1 : Int) = (n2 : Int) := by omega
    have Q := Lib.hid q
    clear q
    go_enter Try.func18, Try.ntmps18
    go_wp2_with fail
    clear q3
    go_loopw [13] (fun i wr => ∃ k : Nat, k ≤ n1 ∧ i = .int .i64 k ∧ Hid (Pre xs ys k) ∧ Hid (Below w.heap.size w wr)) (fun i _ => n1 - (intOf i).toNat)
    case atStart => exact ⟨0, Nat.zero_le _, rfl, Lib.hid fun _ _ _ h => by omega, Lib.hid (Below.refl _ _)⟩
    case round =>
      obtain ⟨k, hk, rfl, HK, HB⟩ := hrel
      by_cases hlt : k < n1
      · have hlt2 : k < n2 := by have := Q.out; omega
        obtain ⟨b, oo, hk1, rfl, hc1⟩ := LiI.get H1.out hlt
        obtain ⟨b', oo', hk2, rfl, hc2⟩ := LiI.get H2.out hlt2
        have d1 := hc1 _ HB.out
        have d2 := hc2 _ HB.out
        obtain ⟨p, hp⟩ : ∃ p, p = xs[k] := ⟨_, rfl⟩
        obtain ⟨q, hq⟩ : ∃ q, q = ys[k] := ⟨_, rfl⟩
        rw [← hp] at d1
        rw [← hq] at d2
        have i0 : (0 : Int) ≤ (k : Int) := by omega
        have i1 : (k : Int) < (n1 : Int) := by omega
        have i2 : (k : Int) < (n2 : Int) := by omega
        have HPQ := Lib.hid (And.intro hp hq)
        by_cases hpq : p = q
        · have HK2 : Hid (Pre xs ys (k + 1)) := Lib.hid (HK.out.snoc hk1 hk2 (by rw [← HPQ.out.1, ← HPQ.out.2]; exact hpq))
          clear HPQ hp hq hc1 hc2 hk1 hk2 HT
          go_wp2_with fail
          go_quiet (fail)
          go_wp2_with fail
          go_roundw
          case rel => exact ⟨k + 1, by omega, by go_num, HK2, Lib.hid (below_drewN HB.out _)⟩
          case measure => simp [intOf]; omega
        · have hf : Hid (t = false) := Lib.hid (bool_not HT.out (ne_at hk1 hk2 (by rw [← HPQ.out.1, ← HPQ.out.2]; exact hpq)))
          clear HPQ hp hq hc1 hc2 hk1 hk2 HT HK
          go_wp2_with fail
          go_quiet (fail)
          go_wp2_with fail
          go_ret
          exact ⟨by rw [hf.out]; rfl, below_drewN HB.out _⟩
      · have hf : Hid (t = true) := Lib.hid (HT.out.2 (HK.out.all (by have := HL.out; have := Q.out; omega) (by have := HL.out; omega)))
        have i1 : ¬ (k : Int) < (n1 : Int) := by omega
        have i2 : ¬ (k : Int) < (n2 : Int) := by have := Q.out; omega
        go_wp2_with fail
        go_ret
        exact ⟨by rw [hf.out]; rfl, HB.out⟩
  · have q3 : ¬ (n1 : Int) = (n2 : Int) := by omega
    have hf : Hid (t = false) := Lib.hid (bool_not HT.out fun e => q (by have := HL.out; rw [e] at this; omega))
    go_enter Try.func18, Try.ntmps18
    go_wp2_with fail
    go_ret
    exact ⟨by rw [hf.out]; rfl, Below.refl _ _⟩

set_option maxRecDepth 100000 in
set_option maxHeartbeats 4000000 in
theorem eqStr (A1 A2 : Option Addr) (n1 n2 c1 c2 : Nat) (xs ys : List ByteArray) (w : World) (h1 : LiN w w.heap.size A1 n1 c1 xs) (h2 : LiN w w.heap.size A2 n2 c2 ys) (t : Bool) (ht : t = true ↔ xs = ys) :
    Calls Try.prog 16 #[.slice A1 n1 c1, .slice A2 n2 c2] w fun e w' => e = .returned (.bool t) ∧ Below w.heap.size w w' := by
  have H1 := Lib.hid h1
  have H2 := Lib.hid h2
  have HT := Lib.hid ht
  have m1 : n1 ≤ 9223372036854775807 := Nat.le_trans h1.nc h1.cm
  have m2 : n2 ≤ 9223372036854775807 := Nat.le_trans h2.nc h2.cm
  have HL := Lib.hid (And.intro h1.len h2.len)
  clear h1 h2 ht
  by_cases q : n1 = n2
  · have q3 : (n1 : Int) = (n2 : Int) := by omega
    have Q := Lib.hid q
    clear q
    go_enter Try.func16, Try.ntmps16
    go_wp2_with fail
    clear q3
    go_loopw [13] (fun i wr => ∃ k : Nat, k ≤ n1 ∧ i = .int .i64 k ∧ Hid (Pre xs ys k) ∧ Hid (Below w.heap.size w wr)) (fun i _ => n1 - (intOf i).toNat)
    case atStart => exact ⟨0, Nat.zero_le _, rfl, Lib.hid fun _ _ _ h => by omega, Lib.hid (Below.refl _ _)⟩
    case round =>
      obtain ⟨k, hk, rfl, HK, HB⟩ := hrel
      by_cases hlt : k < n1
      · have hlt2 : k < n2 := by have := Q.out; omega
        obtain ⟨b, oo, hk1, rfl, hc1⟩ := getN H1.out hlt
        obtain ⟨b', oo', hk2, rfl, hc2⟩ := getN H2.out hlt2
        have d1 := hc1 _ HB.out
        have d2 := hc2 _ HB.out
        obtain ⟨p, hp⟩ : ∃ p, p = xs[k] := ⟨_, rfl⟩
        obtain ⟨q, hq⟩ : ∃ q, q = ys[k] := ⟨_, rfl⟩
        rw [← hp] at d1
        rw [← hq] at d2
        have i0 : (0 : Int) ≤ (k : Int) := by omega
        have i1 : (k : Int) < (n1 : Int) := by omega
        have i2 : (k : Int) < (n2 : Int) := by omega
        have HPQ := Lib.hid (And.intro hp hq)
        by_cases hpq : p = q
        · have HK2 : Hid (Pre xs ys (k + 1)) := Lib.hid (HK.out.snoc hk1 hk2 (by rw [← HPQ.out.1, ← HPQ.out.2]; exact hpq))
          have hb : (p.toList == q.toList) = true := by rw [hpq]; exact beq_self_eq_true _
          clear HPQ hp hq hc1 hc2 hk1 hk2 HT hpq
          go_wp2_with fail
          go_quiet (fail)
          go_wp2_with fail
          go_roundw
          case rel => exact ⟨k + 1, by omega, by go_num, HK2, Lib.hid (below_drewN HB.out _)⟩
          case measure => simp [intOf]; omega
        · have hf : Hid (t = false) := Lib.hid (bool_not HT.out (ne_at hk1 hk2 (by rw [← HPQ.out.1, ← HPQ.out.2]; exact hpq)))
          have hb : (p.toList == q.toList) = false := by rw [beq_eq_false_iff_ne]; exact fun e => hpq (bytes_eqS e)
          clear HPQ hp hq hc1 hc2 hk1 hk2 HT HK hpq
          go_wp2_with fail
          go_quiet (fail)
          go_wp2_with fail
          go_ret
          exact ⟨by rw [hf.out]; rfl, below_drewN HB.out _⟩
      · have hf : Hid (t = true) := Lib.hid (HT.out.2 (HK.out.all (by have := HL.out; have := Q.out; omega) (by have := HL.out; omega)))
        have i1 : ¬ (k : Int) < (n1 : Int) := by omega
        have i2 : ¬ (k : Int) < (n2 : Int) := by have := Q.out; omega
        go_wp2_with fail
        go_ret
        exact ⟨by rw [hf.out]; rfl, HB.out⟩
  · have q3 : ¬ (n1 : Int) = (n2 : Int) := by omega
    have hf : Hid (t = false) := Lib.hid (bool_not HT.out fun e => q (by have := HL.out; rw [e] at this; omega))
    go_enter Try.func16, Try.ntmps16
    go_wp2_with fail
    go_ret
    exact ⟨by rw [hf.out]; rfl, Below.refl _ _⟩

set_option maxRecDepth 100000 in
set_option maxHeartbeats 4000000 in
theorem eqDut (A1 A2 : Option Addr) (n1 n2 c1 c2 : Nat) (xs ys : List D) (w : World) (h1 : LiD w w.heap.size A1 n1 c1 xs) (h2 : LiD w w.heap.size A2 n2 c2 ys) (t : Bool) (ht : t = true ↔ xs = ys) :
    Calls Try.prog 17 #[.slice A1 n1 c1, .slice A2 n2 c2] w fun e w' => e = .returned (.bool t) ∧ Below w.heap.size w w' := by
  have H1 := Lib.hid h1
  have H2 := Lib.hid h2
  have HT := Lib.hid ht
  have m1 : n1 ≤ 9223372036854775807 := Nat.le_trans h1.nc h1.cm
  have m2 : n2 ≤ 9223372036854775807 := Nat.le_trans h2.nc h2.cm
  have HL := Lib.hid (And.intro h1.len h2.len)
  clear h1 h2 ht
  by_cases q : n1 = n2
  · have q3 : (n1 : Int) = (n2 : Int) := by omega
    have Q := Lib.hid q
    clear q
    go_enter Try.func17, Try.ntmps17
    go_wp2_with fail
    clear q3
    go_loopw [13] (fun i wr => ∃ k : Nat, k ≤ n1 ∧ i = .int .i64 k ∧ Hid (Pre xs ys k) ∧ Hid (Below w.heap.size w wr)) (fun i _ => n1 - (intOf i).toNat)
    case atStart => exact ⟨0, Nat.zero_le _, rfl, Lib.hid fun _ _ _ h => by omega, Lib.hid (Below.refl _ _)⟩
    case round =>
      obtain ⟨k, hk, rfl, HK, HB⟩ := hrel
      by_cases hlt : k < n1
      · have hlt2 : k < n2 := by have := Q.out; omega
        obtain ⟨b, oo, hk1, rfl, hB1, hc1⟩ := LiD.get H1.out hlt
        obtain ⟨b', oo', hk2, rfl, hB2, hc2⟩ := LiD.get H2.out hlt2
        have d1 := hc1 _ HB.out
        have d2 := hc2 _ HB.out
        obtain ⟨p, hp⟩ : ∃ p, p = xs[k] := ⟨_, rfl⟩
        obtain ⟨q, hq⟩ : ∃ q, q = ys[k] := ⟨_, rfl⟩
        rw [← hp] at d1
        rw [← hq] at d2
        have i0 : (0 : Int) ≤ (k : Int) := by omega
        have i1 : (k : Int) < (n1 : Int) := by omega
        have i2 : (k : Int) < (n2 : Int) := by omega
        have HPQ := Lib.hid (And.intro hp hq)
        by_cases hpq : p = q
        · have HK2 : Hid (Pre xs ys (k + 1)) := Lib.hid (HK.out.snoc hk1 hk2 (by rw [← HPQ.out.1, ← HPQ.out.2]; exact hpq))
          obtain ⟨x0, x1, x2, x3⟩ := d4 d1
          obtain ⟨y0, y1, y2, y3⟩ := d4 d2
          have g1 : p.cl = q.cl := by rw [hpq]
          have g2 : p.since = q.since := by rw [hpq]
          have g3 : p.due = q.due := by rw [hpq]
          have g4 : p.st = q.st := by rw [hpq]
          clear d1 d2
          clear HPQ hp hq hc1 hc2 hk1 hk2 HT hpq
          go_wp2_with fail
          go_quiet (fail)
          go_wp2_with fail
          go_roundw
          case rel => exact ⟨k + 1, by omega, by go_num, HK2, Lib.hid (below_drewN HB.out _)⟩
          case measure => simp [intOf]; omega
        · have hf : Hid (t = false) := Lib.hid (bool_not HT.out (ne_at hk1 hk2 (by rw [← HPQ.out.1, ← HPQ.out.2]; exact hpq)))
          obtain ⟨x0, x1, x2, x3⟩ := d4 d1
          obtain ⟨y0, y1, y2, y3⟩ := d4 d2
          clear d1 d2
          obtain ⟨p1, p2, p3, p4⟩ := p
          obtain ⟨r1, r2, r3, r4⟩ := q
          simp only at x0 x1 x2 x3 y0 y1 y2 y3
          have hne : ¬ (p1 = r1 ∧ p2 = r2 ∧ p3 = r3 ∧ p4 = r4) := fun h => hpq (by rw [h.1, h.2.1, h.2.2.1, h.2.2.2])
          clear HPQ hp hq hc1 hc2 hk1 hk2 HT HK hpq
          by_cases e1 : p1 = r1
          · by_cases e2 : p2 = r2
            · by_cases e3 : p3 = r3
              · have e4 : ¬ p4 = r4 := fun e => hne ⟨e1, e2, e3, e⟩
                clear hne
                go_wp2_with fail
                go_quiet (fail)
                go_wp2_with fail
                go_ret
                exact ⟨by rw [hf.out]; rfl, below_drewN HB.out _⟩
              · clear hne
                go_wp2_with fail
                go_quiet (fail)
                go_wp2_with fail
                go_ret
                exact ⟨by rw [hf.out]; rfl, below_drewN HB.out _⟩
            · clear hne
              go_wp2_with fail
              go_quiet (fail)
              go_wp2_with fail
              go_ret
              exact ⟨by rw [hf.out]; rfl, below_drewN HB.out _⟩
          · clear hne
            go_wp2_with fail
            go_quiet (fail)
            go_wp2_with fail
            go_ret
            exact ⟨by rw [hf.out]; rfl, below_drewN HB.out _⟩
      · have hf : Hid (t = true) := Lib.hid (HT.out.2 (HK.out.all (by have := HL.out; have := Q.out; omega) (by have := HL.out; omega)))
        have i1 : ¬ (k : Int) < (n1 : Int) := by omega
        have i2 : ¬ (k : Int) < (n2 : Int) := by have := Q.out; omega
        go_wp2_with fail
        go_ret
        exact ⟨by rw [hf.out]; rfl, HB.out⟩
  · have q3 : ¬ (n1 : Int) = (n2 : Int) := by omega
    have hf : Hid (t = false) := Lib.hid (bool_not HT.out fun e => q (by have := HL.out; rw [e] at this; omega))
    go_enter Try.func17, Try.ntmps17
    go_wp2_with fail
    go_ret
    exact ⟨by rw [hf.out]; rfl, Below.refl _ _⟩

end Go.Proofs.Ythdjdjgilnpmkaa.Sta
