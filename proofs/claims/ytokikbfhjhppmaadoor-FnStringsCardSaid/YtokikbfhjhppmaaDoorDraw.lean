/-
  What the draws of chapter 1 return, whatever the code: a number or a text within bounds.
-/
import Derived.Test.YtokikbfhjhppmaaDoorCurOf
import Derived.Test.YtokikbfhjhppmaaDoorNum
namespace Go.Proofs.YtokikbfhjhppmaaDoor.Draw
open Go.RowKit Go.Proofs.YtokikbfhjhppmaaDoor.Plain Go.Proofs.YtokikbfhjhppmaaDoor.Cur Go.Proofs.YtokikbfhjhppmaaDoor.Num

set_option maxHeartbeats 1000000 in
theorem drawInt (A : Option Addr) (n cap : Nat) (w : World) (hn : n ≤ 1000000) (hA : Bytes w w.heap.size A n) :
    Calls Tryd.prog 9 #[.slice A n cap] w fun e w' => ∃ z : Int, e = .returned (.int .i64 z) ∧ -1000000 ≤ z ∧ z ≤ 1000000 ∧ Below w.heap.size w w' := by
  have HO := Lib.hid (Ok.new w A n cap hn hA)
  clear hA
  go_enter Tryd.func9, Tryd.ntmps9
  go_wp2_with (go_at_call 22; refine (pick 1000 (by omega) (by omega) w.heap.size A n cap 0 w.heap.size _ HO.out (by omega)).mono ?_; rintro e w1 ⟨r, k', rfl, hr, hk', hok, hg⟩; refine Hid.out ?_)
  refine Lib.hid ?_
  have H1 := Lib.hid (And.intro hok hg)
  have HN : Hid (w1.heap.size ≠ w.heap.size) := Lib.hid (by have := hok.lt; omega)
  clear hok hg
  go_wp2_with (go_at_call 21; refine (among w1.heap.size _ 1000000 9 rfl (by omega) (by omega) w.heap.size A n cap k' w.heap.size _ (H1.out.1.alloc _) (by omega) (heap_alloc_new w1 _) HN.out (by intro v hv; simp at hv; rcases hv with h | h | h | h | h | h | h | h | h <;> exact ⟨_, h, by omega, by omega⟩)).mono ?_; rintro e w2 ⟨z, k2, rfl, hz0, hz1, hk2, hok2, hg2⟩)
  go_ret
  exact ⟨z, rfl, hz0, hz1, below_cur (grow2 H1.out.2 (grow2 (World.grownBy_alloc w1 _ _) hg2))⟩

set_option maxHeartbeats 1000000 in
theorem drawParse (A : Option Addr) (n cap : Nat) (w : World) (hn : n ≤ 1000000) (hA : Bytes w w.heap.size A n) :
    Calls Tryd.prog 12 #[.slice A n cap] w fun e w' => ∃ s : ByteArray, e = .returned (.string s) ∧ s.size ≤ 100 ∧ Below w.heap.size w w' := by
  have HO := Lib.hid (Ok.new w A n cap hn hA)
  clear hA
  go_enter Tryd.func12, Tryd.ntmps12
  go_wp2_with (go_at_call 26; refine (one 2 (by omega) (by omega) w.heap.size A n cap 0 w.heap.size _ HO.out (by omega)).mono ?_; rintro e w1 ⟨f, k', rfl, hk', hok, hg⟩; refine Hid.out ?_)
  refine Lib.hid ?_
  have H1 := Lib.hid (And.intro hok hg)
  have HN : Hid (w1.heap.size ≠ w.heap.size) := Lib.hid (by have := hok.lt; omega)
  clear hok hg
  cases f with
  | true =>
    go_wp2_with (go_at_call 27; refine (of_ w1.heap.size _ 20 11 rfl (by omega) (by omega) w.heap.size A n cap k' w.heap.size _ (H1.out.1.alloc _) (by omega) (heap_alloc_new w1 _) HN.out (by intro v hv; simp at hv; rcases hv with h | h | h | h | h | h | h | h | h | h | h <;> exact ⟨_, h, by decide⟩)).mono ?_; rintro e w2 ⟨s, k2, rfl, hs, hk2, hok2, hg2⟩)
    go_ret
    exact ⟨s, rfl, by omega, below_cur (grow2 H1.out.2 (grow2 (World.grownBy_alloc w1 _ _) hg2))⟩
  | false =>
    go_wp2_with (first
      | (go_at_call 22; refine (pick 2000 (by omega) (by omega) w.heap.size A n cap k' w.heap.size _ H1.out.1 (by omega)).mono ?_; rintro e w2 ⟨r, k2, rfl, hr, hk2, hok2, hg2⟩)
      | (go_at_call 25; refine (l1Num ((r : Int) - 1000) _ (by omega) (by omega)).mono ?_; rintro e w3 ⟨rfl, q, rfl⟩))
    go_ret
    refine ⟨_, rfl, ?_, below_drewN (below_cur (grow2 H1.out.2 hg2)) q⟩
    show (Lib.itoa ((r : Int) - 1000)).toArray.size ≤ 100
    rw [List.size_toArray]
    unfold Lib.itoa
    split
    · have := decDigits_le ((r : Int) - 1000).natAbs (by omega); simp; omega
    · have := decDigits_le ((r : Int) - 1000).toNat (by omega); omega

theorem vBigNo (A : Option Addr) (n cap : Nat) (w : World) (h : n ≤ 65536) :
    Calls Tryd.prog 8 #[.slice A n cap] w fun e w' => e = .returned (.bool false) ∧ w = w' := by
  go_enter Tryd.func8, Tryd.ntmps8
  go_wp2_with fail
  go_ret
  exact ⟨by simp; omega, rfl⟩

theorem vBigYes (A : Option Addr) (n cap : Nat) (w : World) (h : 65536 < n) (hm : n ≤ maxLen) :
    Calls Tryd.prog 8 #[.slice A n cap] w fun e w' => e = .returned (.bool true) ∧ w = w' := by
  unfold maxLen at hm
  go_enter Tryd.func8, Tryd.ntmps8
  go_wp2_with fail
  go_ret
  exact ⟨by simp; omega, rfl⟩

theorem vAt (A : Option Addr) (n cap : Nat) (i : Nat) (w : World) (B : Nat) (hi : i ≤ 1000) (h : n ≤ 65536) (hA : Bytes w B A n) :
    Calls Tryd.prog 19 #[.slice A n cap, .int .i64 (i : Int)] w fun e w' => ∃ z : Int, e = .returned (.int .i64 z) ∧ 0 ≤ z ∧ z ≤ 255 ∧ w = w' := by
  by_cases hlt : i < n
  · obtain ⟨ad, rfl, hb, hc⟩ := hA (by omega)
    obtain ⟨z, hz, hz0, hz1⟩ := hc i hlt
    clear hc hA
    go_enter Tryd.func19, Tryd.ntmps19
    go_wp2_with fail
    go_ret
    exact ⟨z, rfl, hz0, hz1, rfl⟩
  · have HA := Lib.hid hA
    clear hA
    go_enter Tryd.func19, Tryd.ntmps19
    go_wp2_with fail
    go_ret
    exact ⟨_, rfl, by omega, by omega, rfl⟩

end Go.Proofs.YtokikbfhjhppmaaDoor.Draw
