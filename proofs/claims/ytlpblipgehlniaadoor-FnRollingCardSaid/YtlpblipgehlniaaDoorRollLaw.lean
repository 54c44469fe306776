/-
  The walk of the law FnRolling.
-/
import Derived.Test.YtlpblipgehlniaaDoorRollS
import Derived.Test.YtlpblipgehlniaaDoorDraw4R
namespace Go.Proofs.YtlpblipgehlniaaDoor.RollLaw
open Go.RowKit Go.Proofs.YtlpblipgehlniaaDoor.IRow Go.Proofs.YtlpblipgehlniaaDoor.Cal Go.Proofs.YtlpblipgehlniaaDoor.Biz Go.Proofs.YtlpblipgehlniaaDoor.Wd Go.Proofs.YtlpblipgehlniaaDoor.Asc Go.Proofs.YtlpblipgehlniaaDoor.CalLaw Go.Proofs.YtlpblipgehlniaaDoor.Opn Go.Proofs.YtlpblipgehlniaaDoor.IsBiz Go.Proofs.YtlpblipgehlniaaDoor.SeekS Go.Proofs.YtlpblipgehlniaaDoor.RollI Go.Proofs.YtlpblipgehlniaaDoor.CurDay
set_option linter.unusedVariables false

theorem cnt_zero {p : Int → Bool} {a : Int} : ∀ k : Nat, (∀ i : Nat, i < k → p (a + i) = false) → cnt p a k = 0 := by
  intro k
  induction k with
  | zero => intro _; rfl
  | succ k ih =>
    intro h
    rw [cnt_no (h k (by omega))]
    exact ih fun i hi => h i (by omega)

/-- No wanted day lies between a day and the one it is rolled to. -/
def Near (p : Int → Bool) (d x : Int) : Prop := (d < x → ∀ y, d ≤ y → y < x → p y = false) ∧ (x < d → ∀ y, x < y → y ≤ d → p y = false)

theorem near_up {p : Int → Bool} {d x : Int} {k : Nat} (h : seek p 1 k d = some x) : Near p d x := by
  obtain ⟨j, j1, j2, _, j4⟩ := seek_some h
  refine ⟨fun _ y y0 y1 => ?_, fun hh => by omega⟩
  have := j4 (y - d).toNat (by omega)
  rwa [show d + 1 * ((y - d).toNat : Int) = y by omega] at this
theorem near_dn {p : Int → Bool} {d x : Int} {k : Nat} (h : seek p (-1) k d = some x) : Near p d x := by
  obtain ⟨j, j1, j2, _, j4⟩ := seek_some h
  refine ⟨fun hh => by omega, fun _ y y0 y1 => ?_⟩
  have := j4 (d - y).toNat (by omega)
  rwa [show d + -1 * ((d - y).toNat : Int) = y by omega] at this
theorem orr_some {a b : Option Int} {x : Int} (h : orr a b = some x) : a = some x ∨ b = some x := by
  cases a with
  | none => exact .inr h
  | some y => exact .inl h
theorem hit {p : Int → Bool} {s d x : Int} {k : Nat} (h : seek p s k d = some x) : p x = true := by
  obtain ⟨j, _, _, h3, _⟩ := seek_some h
  exact h3

theorem roll_near {p : Int → Bool} {d c x : Int} (hc0 : 1 ≤ c) (hc1 : c ≤ 4) (h : rollT p d c = some x) : Near p d x ∧ p x = true := by
  have HC : c = 1 ∨ c = 2 ∨ c = 3 ∨ c = 4 := by omega
  rcases HC with rfl | rfl | rfl | rfl
  · exact ⟨near_up h, hit h⟩
  · rcases orr_some (show orr (seek p 1 (lastD d - d + 1).toNat d) (lst p d) = some x from h) with h | h
    · exact ⟨near_up h, hit h⟩
    · exact ⟨near_dn h, hit h⟩
  · exact ⟨near_dn h, hit h⟩
  · rcases orr_some (show orr (seek p (-1) (d - fst d + 1).toNat d) (nxt p d) = some x from h) with h | h
    · exact ⟨near_dn h, hit h⟩
    · exact ⟨near_up h, hit h⟩

/-- What is so where a day is rolled. -/
structure Rl (we ho : List Int) (d x : Int) : Prop where
  good : GoodC we ho
  day : Day d
  dayx : Day x
  opnx : opn we ho x = true
  near : Near (opn we ho) d x

theorem rolled {we ho : List Int} {d c : Int} (h : rollF we ho d c = true) : Rl we ho d (rollV we ho d c) := by
  unfold rollF at h
  unfold rollV
  unfold rollO at *
  by_cases hk : RollOk we ho d c
  · rw [if_pos hk] at h ⊢
    obtain ⟨hg, hd, c0, c1⟩ := hk
    cases hx : rollT (opn we ho) d c with
    | none => rw [hx] at h; cases h
    | some x =>
      have hn := roll_near c0 c1 hx
      exact ⟨hg, hd, RollS.roll_day hd c0 c1 hx, hn.2, hn.1⟩
  · rw [if_neg hk] at h; cases h

theorem Rl.biz {we ho : List Int} {d x : Int} (h : Rl we ho d x) : bizB we ho x = true ∧ bizF we ho x = true := by
  unfold bizB bizF
  rw [decide_eq_true ⟨h.good, h.dayx⟩, h.opnx]
  exact ⟨rfl, rfl⟩
theorem Rl.up {we ho : List Int} {d x : Int} (h : Rl we ho d x) (hl : d < x) : cntV we ho d x = 0 ∧ cntF we ho d x = true := by
  have ok : CntOk we ho d x := ⟨h.good, h.day, h.dayx, by omega⟩
  unfold cntV cntF
  rw [if_pos ok, decide_eq_true ok]
  exact ⟨cnt_zero _ fun i hi => h.near.1 hl _ (by omega) (by omega), rfl⟩
theorem Rl.dn {we ho : List Int} {d x : Int} (h : Rl we ho d x) (hl : x < d) : cntV we ho (x + 1) d = 0 ∧ cntF we ho (x + 1) d = true := by
  have ok : CntOk we ho (x + 1) d := ⟨h.good, ⟨by have := h.dayx.1; omega, by have := h.day.2; omega⟩, h.day, by omega⟩
  unfold cntV cntF
  rw [if_pos ok, decide_eq_true ok]
  exact ⟨cnt_zero _ fun i hi => h.near.2 hl _ (by omega) (by omega), rfl⟩

theorem beqNe {a b : Int} (h : a ≠ b) : (a == b) = false := by simp [h]

set_option maxRecDepth 100000 in
set_option maxHeartbeats 4000000 in
theorem walkNo (A : Option Addr) (n cap : Nat) (w : World) (hT : Tab.Tab w) (hn : n ≤ 65536) (hA : Cur.Bytes w w.heap.size A n) :
    Calls Tryd.prog 3 #[.slice A n cap] w fun e w' => e = .returned (.bool true) ∧ Below w.heap.size w w' := by
  have HT := Lib.hid hT
  have HD := Lib.hid (Draw4R.draw A n cap w (by omega) hA)
  clear hT hA
  go_enter Tryd.func3, Tryd.ntmps3
  go_wp2_with (first
    | (go_at_call 8; refine (vBigNo A n cap _ hn).mono ?_; rintro e w' ⟨rfl, rfl⟩)
    | (go_at_call 9; refine HD.out.mono ?_; rintro e w1 ⟨A1, _, c1, A2, _, c2, D1, D2, d, z, rfl, rfl, rfl, l1, l2, hd, hz, hr, hb⟩; refine Hid.out ?_))
  refine Lib.hid ?_
  obtain ⟨d0, d1⟩ := hd
  have C0 : Hid (Cl (w1.alloc (.cells #[.slice A1 D1.length c1, .slice A2 D2.length c2] 26)) (w1.alloc (.cells #[.slice A1 D1.length c1, .slice A2 D2.length c2] 26)).heap.size A1 D1.length A2 D2.length D1 D2) := Lib.hid ((Draw4D.R2.cl hr rfl rfl l1 l2).on (below1 _ _))
  have B0 : Hid (Below w.heap.size w (w1.alloc (.cells #[.slice A1 D1.length c1, .slice A2 D2.length c2] 26))) := Lib.hid (hb.alloc hb.size _)
  have X0 := Lib.hid (Bx.new w1 (.slice A1 D1.length c1) (.slice A2 D2.length c2) 26)
  clear hr hb l1 l2 hz HD
  have HI := Lib.hid fun w hT h => rollI A1 A2 D1.length c1 D2.length c2 D1 D2 d z w hT h
  have HS := Lib.hid fun w h => RollS.rollS A1 A2 D1.length c1 D2.length c2 D1 D2 d z w h
  have HR : Hid (rollF D1 D2 d z = true → Rl D1 D2 d (rollV D1 D2 d z)) := Lib.hid rolled
  generalize rollV D1 D2 d z = v at *
  generalize rollF D1 D2 d z = f at *
  go_wp2_with (go_at_call 10; refine (HI.out _ (HT.out.below B0.out) C0.out).mono ?_; rintro e w2 ⟨rfl, hb2⟩; refine Hid.out ?_)
  refine Lib.hid ?_
  have C2 := Lib.hid (C0.out.on hb2)
  have B2 := Lib.hid (B0.out.trans (hb2.mono B0.out.size))
  have X2 := Lib.hid (X0.out.on hb2)
  clear hb2 C0 B0 X0 HI
  obtain ⟨_, x0, x1, _, _⟩ := X2.out
  go_wp2_with (go_at_call 11; refine (HS.out _ C2.out).mono ?_; rintro e w3 ⟨rfl, hb3⟩; refine Hid.out ?_)
  refine Lib.hid ?_
  have C3 := Lib.hid (C2.out.on hb3)
  have B3 := Lib.hid (B2.out.trans (hb3.mono B2.out.size))
  have X3 := Lib.hid (X2.out.on hb3)
  clear hb3 C2 B2 X2 HS x0 x1
  cases f
  · go_wp2_with fail
    go_ret
    exact ⟨rfl, B3.out⟩
  · have R := Lib.hid (HR.out rfl)
    have v0 := R.out.dayx.1
    have v1 := R.out.dayx.2
    have HZ : Hid (∀ w, Cl w w.heap.size A1 D1.length A2 D2.length D1 D2 → Calls Tryd.prog 12 #[.agg #[.slice A1 D1.length c1, .slice A2 D2.length c2], .int .i64 v] w fun e w' => e = .returned (.tuple #[.bool true, .bool true]) ∧ Below w.heap.size w w') := Lib.hid fun w h => by
      have := bizI A1 A2 D1.length c1 D2.length c2 D1 D2 v w h
      rwa [R.out.biz.1, R.out.biz.2] at this
    clear HR
    obtain ⟨_, x0, x1, _, _⟩ := X3.out
    go_wp2_with (go_at_call 12; refine (HZ.out _ C3.out).mono ?_; rintro e w4 ⟨rfl, hb4⟩; refine Hid.out ?_)
    refine Lib.hid ?_
    have C4 := Lib.hid (C3.out.on hb4)
    have B4 := Lib.hid (B3.out.trans (hb4.mono B3.out.size))
    have X4 := Lib.hid (X3.out.on hb4)
    clear hb4 C3 B3 X3 HZ x0 x1
    by_cases hvd : v = d
    · subst hvd
      go_wp2_with fail
      go_ret
      exact ⟨rfl, B4.out⟩
    · have qe : (v == d) = false := beqNe hvd
      obtain ⟨_, x0, x1, _, _⟩ := X4.out
      by_cases hlt : d < v
      · have HC : Hid (∀ w, Cl w w.heap.size A1 D1.length A2 D2.length D1 D2 → Calls Tryd.prog 13 #[.agg #[.slice A1 D1.length c1, .slice A2 D2.length c2], .int .i64 d, .int .i64 v] w fun e w' => e = .returned (.tuple #[.int .i64 0, .bool true]) ∧ Below w.heap.size w w') := Lib.hid fun w h => by
          have := cntI A1 A2 D1.length c1 D2.length c2 D1 D2 d v w h
          rwa [(R.out.up hlt).1, (R.out.up hlt).2] at this
        clear hvd
        go_wp2_with (go_at_call 13; refine (HC.out _ C4.out).mono ?_; rintro e w5 ⟨rfl, hb5⟩; refine Hid.out ?_)
        refine Lib.hid ?_
        have B5 := Lib.hid (B4.out.trans (hb5.mono B4.out.size))
        clear hb5
        go_wp2_with fail
        go_ret
        exact ⟨rfl, B5.out⟩
      · have hgt : v < d := by omega
        have HC : Hid (∀ w, Cl w w.heap.size A1 D1.length A2 D2.length D1 D2 → Calls Tryd.prog 13 #[.agg #[.slice A1 D1.length c1, .slice A2 D2.length c2], .int .i64 (v + 1), .int .i64 d] w fun e w' => e = .returned (.tuple #[.int .i64 0, .bool true]) ∧ Below w.heap.size w w') := Lib.hid fun w h => by
          have := cntI A1 A2 D1.length c1 D2.length c2 D1 D2 (v + 1) d w h
          rwa [(R.out.dn hgt).1, (R.out.dn hgt).2] at this
        clear hvd
        go_wp2_with (go_at_call 13; refine (HC.out _ C4.out).mono ?_; rintro e w5 ⟨rfl, hb5⟩; refine Hid.out ?_)
        refine Lib.hid ?_
        have B5 := Lib.hid (B4.out.trans (hb5.mono B4.out.size))
        clear hb5
        go_wp2_with fail
        go_ret
        exact ⟨rfl, B5.out⟩

theorem walk (A : Option Addr) (n cap : Nat) (w : World) (hT : Tab.Tab w) (hm : n ≤ maxLen) (hA : Cur.Bytes w w.heap.size A n) :
    Calls Tryd.prog 3 #[.slice A n cap] w fun e w' => e = .returned (.bool true) ∧ Below w.heap.size w w' := by
  by_cases hn : n ≤ 65536
  · exact walkNo A n cap w hT hn hA
  · clear hA hT
    go_enter Tryd.func3, Tryd.ntmps3
    go_wp2_with (go_at_call 8; refine (vBigYes A n cap _ (by omega) hm).mono ?_; rintro e w' ⟨rfl, rfl⟩)
    go_ret
    exact ⟨rfl, Below.refl _ _⟩

end Go.Proofs.YtlpblipgehlniaaDoor.RollLaw
