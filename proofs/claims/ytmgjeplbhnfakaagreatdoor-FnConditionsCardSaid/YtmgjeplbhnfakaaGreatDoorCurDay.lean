/-
  What the cursor draws of days return, whatever the code.
-/
import Derived.Test.YtmgjeplbhnfakaaGreatDoorCurInt
import Derived.Test.YtmgjeplbhnfakaaGreatDoorCal
namespace Go.Proofs.YtmgjeplbhnfakaaGreatDoor.CurDay
open Go.RowKit Go.Proofs.YtmgjeplbhnfakaaGreatDoor.Cur Go.Proofs.YtmgjeplbhnfakaaGreatDoor.Cal
set_option linter.unusedVariables false

/-- An int with P is drawn, by at most c bytes of the code. -/
def pAns (P : Int → Prop) (c g : Nat) (A : Option Addr) (n cap k B : Nat) (w : World) (e : Ending) (w' : World) : Prop :=
  ∃ (z : Int) (k' : Nat), e = .returned (.int .i64 z) ∧ P z ∧ k' ≤ k + c ∧ Ok w' g A n cap k' B ∧ w.grownBy w' (some g)

set_option maxHeartbeats 1000000 in
theorem amongP (P : Int → Prop) (L : Nat) (cs : Array Value) (m : Nat) (hm : m = cs.size) (h1 : 1 ≤ m) (h2 : m ≤ 1000) (g : Nat) (A : Option Addr) (n cap k B : Nat) (w : World)
    (h : Ok w g A n cap k B) (hk : k ≤ 999999) (hL : w.heap[L]? = some (.cells cs 3 (0, 0))) (hne : L ≠ g) (hs : ∀ v ∈ cs.toList, ∃ z : Int, v = .int .i64 z ∧ P z) :
    Calls Tryz.prog 15 #[.pointer (some ⟨g, 0, none⟩), .slice (some ⟨L, 0, none⟩) m m] w (pAns P 2 g A n cap k B w) := by
  have HH := Lib.hid h
  have HM := Lib.hid hm
  have HS := Lib.hid hs
  have HL := Lib.hid hL
  clear h hm hs hL
  go_enter Tryz.func15, Tryz.ntmps15
  go_wp2_with (go_at_call 30; refine (pick (m : Int) (by omega) (by omega) g A n cap k B _ HH.out hk).mono ?_; rintro e w1 ⟨r, k', rfl, hr, hk', hok, hg⟩; refine Hid.out ?_)
  refine Lib.hid ?_
  have hr' : r < cs.size := by have := HM.out; omega
  obtain ⟨z, hs1, hs2⟩ := HS.out (cs[r]) (by simp)
  have HP := Lib.hid hs2
  have hLl : L < w.heap.size := (Array.getElem?_eq_some_iff.1 HL.out).1
  have hL1 : w1.heap[L]? = some (.cells cs 3 (0, 0)) := (hg.block L hLl (fun e => by injection e with e; exact hne e)).trans HL.out
  have hcell : w1.cell? ⟨L, r, none⟩ = some (.int .i64 z) := by
    rw [cell_of_row w1 L r cs _ (0, 0) hL1, Array.getElem?_eq_getElem hr', hs1]
  have i0 : (0 : Int) ≤ (r : Int) := by omega
  have HG := Lib.hid (And.intro hok hg)
  clear hL1 hok hg hs2
  go_wp2_with fail
  go_ret
  exact ⟨z, k', rfl, HP.out, hk', HG.out.1, HG.out.2⟩

set_option maxHeartbeats 2000000 in
theorem day (g : Nat) (A : Option Addr) (n cap k B : Nat) (w : World) (h : Ok w g A n cap k B) (hk : k ≤ 999990) :
    Calls Tryz.prog 59 #[.pointer (some ⟨g, 0, none⟩)] w (pAns Day 4 g A n cap k B w) := by
  have HH := Lib.hid h
  clear h
  go_enter Tryz.func59, Tryz.ntmps59
  go_wp2_with (go_at_call 30; refine (pick 6 (by omega) (by omega) g A n cap k B _ HH.out (by omega)).mono ?_; rintro e w1 ⟨r1, k1, rfl, hr1, hk1, hok1, hg1⟩; refine Hid.out ?_)
  refine Lib.hid ?_
  have H1 := Lib.hid (And.intro hok1 hg1)
  have N1 : Hid (w1.heap.size ≠ g) := Lib.hid (by have := hok1.lt; omega)
  clear hok1 hg1
  by_cases h0 : r1 = 0
  · have q0 : ((r1 : Int) == 0) = true := by simp <;> omega
    clear h0
    go_wp2_with (go_at_call 15; refine (amongP Day w1.heap.size _ 11 rfl (by omega) (by omega) g A n cap k1 B _ (H1.out.1.alloc _) (by omega) (heap_alloc_new w1 _) N1.out (by intro v hv; simp at hv; rcases hv with h | h | h | h | h | h | h | h | h | h | h <;> exact ⟨_, h, by decide⟩)).mono ?_; rintro e w2 ⟨z2, k2, rfl, hz2, hk2, hok2, hg2⟩)
    go_ret
    exact ⟨z2, k2, rfl, hz2, by omega, hok2, grow2 H1.out.2 (grow2 (World.grownBy_alloc w1 _ _) hg2)⟩
  · have q0 : ((r1 : Int) == 0) = false := by simp <;> omega
    by_cases h1 : r1 = 1
    · have q1 : ((r1 : Int) == 1) = true := by simp <;> omega
      clear h0 h1
      go_wp2_with (go_at_call 30; refine (pick 36525 (by omega) (by omega) g A n cap k1 B w1 H1.out.1 (by omega)).mono ?_; rintro e w2 ⟨r2, k2, rfl, hr2, hk2, hok2, hg2⟩)
      go_ret
      exact ⟨(r2 : Int), k2, rfl, ⟨by omega, by omega⟩, by omega, hok2, grow2 H1.out.2 hg2⟩
    · have q1 : ((r1 : Int) == 1) = false := by simp <;> omega
      clear h0 h1
      go_wp2_with (go_at_call 30; refine (pick 1500 (by omega) (by omega) g A n cap k1 B w1 H1.out.1 (by omega)).mono ?_; rintro e w2 ⟨r2, k2, rfl, hr2, hk2, hok2, hg2⟩)
      go_ret
      exact ⟨(r2 : Int), k2, rfl, ⟨by omega, by omega⟩, by omega, hok2, grow2 H1.out.2 hg2⟩

/-- What may be drawn for a day. -/
def AnyDay (z : Int) : Prop := -1 ≤ z ∧ z ≤ 1099511627776
instance (z : Int) : Decidable (AnyDay z) := inferInstanceAs (Decidable (_ ∧ _))

set_option maxHeartbeats 2000000 in
theorem anyDay (g : Nat) (A : Option Addr) (n cap k B : Nat) (w : World) (h : Ok w g A n cap k B) (hk : k ≤ 999980) :
    Calls Tryz.prog 32 #[.pointer (some ⟨g, 0, none⟩)] w (pAns AnyDay 6 g A n cap k B w) := by
  have HH := Lib.hid h
  clear h
  go_enter Tryz.func32, Tryz.ntmps32
  go_wp2_with (go_at_call 58; refine (one 16 (by omega) (by omega) g A n cap k B _ HH.out (by omega)).mono ?_; rintro e w1 ⟨f, k1, rfl, hk1, hok1, hg1⟩; refine Hid.out ?_)
  refine Lib.hid ?_
  have H1 := Lib.hid (And.intro hok1 hg1)
  have N1 : Hid (w1.heap.size ≠ g) := Lib.hid (by have := hok1.lt; omega)
  clear hok1 hg1
  cases f
  · go_wp2_with (go_at_call 59; refine (day g A n cap k1 B w1 H1.out.1 (by omega)).mono ?_; rintro e w2 ⟨z2, k2, rfl, hz2, hk2, hok2, hg2⟩)
    go_ret
    exact ⟨z2, k2, rfl, ⟨by have := hz2.1; omega, by have := hz2.2; omega⟩, by omega, hok2, grow2 H1.out.2 hg2⟩
  · go_wp2_with (go_at_call 15; refine (amongP AnyDay w1.heap.size _ 4 rfl (by omega) (by omega) g A n cap k1 B _ (H1.out.1.alloc _) (by omega) (heap_alloc_new w1 _) N1.out (by intro v hv; simp at hv; rcases hv with h | h | h | h <;> exact ⟨_, h, by decide⟩)).mono ?_; rintro e w2 ⟨z2, k2, rfl, hz2, hk2, hok2, hg2⟩)
    go_ret
    exact ⟨z2, k2, rfl, hz2, by omega, hok2, grow2 H1.out.2 (grow2 (World.grownBy_alloc w1 _ _) hg2)⟩

theorem vBigNo (A : Option Addr) (n cap : Nat) (w : World) (h : n ≤ 65536) :
    Calls Tryz.prog 4 #[.slice A n cap] w fun e w' => e = .returned (.bool false) ∧ w = w' := by
  go_enter Tryz.func4, Tryz.ntmps4
  go_wp2
  go_ret
  exact ⟨by simp; omega, rfl⟩

theorem vBigYes (A : Option Addr) (n cap : Nat) (w : World) (h : 65536 < n) (hm : n ≤ maxLen) :
    Calls Tryz.prog 4 #[.slice A n cap] w fun e w' => e = .returned (.bool true) ∧ w = w' := by
  unfold maxLen at hm
  go_enter Tryz.func4, Tryz.ntmps4
  go_wp2
  go_ret
  exact ⟨by simp; omega, rfl⟩

end Go.Proofs.YtmgjeplbhnfakaaGreatDoor.CurDay
