/-
  What the draw of some strings and a separator returns, whatever the code.
-/
import Derived.Test.YtokikbfhjhppmaaDrawSJ
namespace Go.Proofs.Ytokikbfhjhppmaa.DrawSJ
open Go.RowKit Go.Proofs.Ytokikbfhjhppmaa.Plain Go.Proofs.Ytokikbfhjhppmaa.Cur Go.Proofs.Ytokikbfhjhppmaa.Split
set_option linter.unusedVariables false

theorem Pair.made {w wr w' : World} {A : Option Addr} {n cap k : Nat} {v : Value} {D : List ByteArray} (h : Pair w wr A n cap k v D) (hg : wr.grownBy w' none) : Pair w w' A n cap k v D := by
  refine ⟨Ok.kept h.ok hg (fun j hj => by cases hj), h.row.kept hg ?_, h.bel.grown hg h.bel.size (fun j hj => by cases hj), h.len, h.szs⟩
  by_cases e : v.ownBlock = none
  · exact .inl e
  · exact .inr e

/-- The answer. -/
def JAns (w : World) (e : Ending) (w' : World) : Prop :=
  ∃ (v : Value) (sign : ByteArray) (D : List ByteArray), e = .returned (.tuple #[v, .string sign]) ∧ w'.ownsRow w.heap.size 9 1 v D.length (D.map Value.string) ∧ D.length ≤ 100 ∧ (∀ p ∈ D, p.size ≤ 5000) ∧ sign.size ≤ 10 ∧ Below w.heap.size w w'

theorem Pair.ans {w wr : World} {A : Option Addr} {n cap k : Nat} {v : Value} {D : List ByteArray} {sign : ByteArray} (h : Pair w wr A n cap k v D) (hs : sign.size ≤ 10) : JAns w (.returned (.tuple #[v, .string sign])) wr := by
  refine ⟨v, sign, D, rfl, ⟨h.row.1, ?_⟩, h.len, h.szs, hs, h.bel⟩
  rcases h.row.2 with h1 | ⟨g, c, cur, h1, h2, h3⟩
  · exact .inl h1
  · exact .inr ⟨g, c, cur, h1, by omega, h3⟩

set_option maxHeartbeats 2000000 in
theorem drawJoin (A : Option Addr) (n cap : Nat) (w : World) (hn : n ≤ 1000000) (hA : Bytes w w.heap.size A n) :
    Calls Try.prog 11 #[.slice A n cap] w (JAns w) := by
  have HP := Lib.hid (Pair.start w A n cap hn hA)
  clear hA
  obtain ⟨i0, hi, hz0, hz1, hz2⟩ := info_parts infoStr
  have HZ := Lib.hid (And.intro hi (And.intro hz0 (And.intro hz1 hz2)))
  obtain ⟨i1, hj, hy0, hy1, hy2⟩ := info_parts infoByte
  have HY := Lib.hid (And.intro hj (And.intro hy0 (And.intro hy1 hy2)))
  clear hi hz0 hz1 hz2 hj hy0 hy1 hy2
  go_enter Try.func11, Try.ntmps11
  go_wp2_with (go_at_call 29; refine (pick 4 (by omega) (by omega) w.heap.size A n cap 0 w.heap.size _ HP.out.ok (by omega)).mono ?_; rintro e w1 ⟨r, k', rfl, hr, hk', hok, hg⟩; refine Hid.out ?_)
  refine Lib.hid ?_
  have P1 := Lib.hid (HP.out.cur hok hg)
  clear hok hg
  go_wp2_with fail
  go_loopw [5, 7] (fun l i wr => ∃ (j k : Nat) (D : List ByteArray), j ≤ r ∧ i = .int .i64 j ∧ D.length = j ∧ k ≤ 2 + 2 * j ∧ Hid (Pair w wr A n cap k l D)) (fun _ i _ => r - (intOf i).toNat)
  case atStart => exact ⟨0, k', [], Nat.zero_le _, rfl, rfl, by omega, Lib.hid P1.out⟩
  case round =>
    obtain ⟨j, k, D, hjr, rfl, hD, hk, HQ⟩ := hrel
    by_cases hlt : j < r
    · go_wp2_with (go_at_call 25; refine (any1 w.heap.size A n cap k w.heap.size _ HQ.out.ok (by omega)).mono ?_; rintro e w2 ⟨s, k2, rfl, hs, hk2, hok2, hg2⟩; refine Hid.out ?_)
      refine Lib.hid ?_
      have P2 := Lib.hid (HQ.out.cur hok2 hg2)
      have hz := P2.out.bel.size
      clear hok2 hg2
      go_wp2_with (at_builtin; refine wpList_append_own _ rfl _ _ 26 rfl (w.heap.size + 1) 9 i0 (.string ByteArray.empty) 1 16 Try.underlying26 HZ.out.1 HZ.out.2.1 HZ.out.2.2.1 HZ.out.2.2.2 rfl (by decide) _ _ _ rfl (P2.out.row.alloc _) ⟨w2.heap.size, 0, none⟩ 1 1 [.string s] rfl rfl (cell_one_new _ _ _) (one_str _) (by unfold maxLen; omega) (by omega) (by simp; omega) ?_; intro v' w3 hown' hgrow _; refine Hid.out ?_)
      refine Lib.hid ?_
      have P3 := Lib.hid (P2.out.app (q := s) (by omega) (by omega) hown' hgrow)
      clear hown' hgrow
      go_wp2_with fail
      go_roundw
      case rel => exact ⟨j + 1, k2, D ++ [s], by omega, by go_num, by simp; omega, by omega, Lib.hid P3.out⟩
      case measure => simp [intOf]; omega
    · go_wp2_with (go_at_call 30; refine (one 20 (by omega) (by omega) w.heap.size A n cap k w.heap.size _ HQ.out.ok (by omega)).mono ?_; rintro e w2 ⟨f, k2, rfl, hk2, hok2, hg2⟩; refine Hid.out ?_)
      refine Lib.hid ?_
      have P2 := Lib.hid (HQ.out.cur hok2 hg2)
      clear hok2 hg2
      cases f with
      | false =>
        have HN : Hid (w2.heap.size ≠ w.heap.size) := Lib.hid (by have := P2.out.ok.lt; omega)
        go_wp2_with (go_at_call 26; refine (of_ w2.heap.size _ 10 5 rfl (by omega) (by omega) w.heap.size A n cap k2 w.heap.size _ (P2.out.ok.alloc _) (by omega) (heap_alloc_new w2 _) HN.out (by intro v hv; simp at hv; rcases hv with h | h | h | h <;> exact ⟨_, h, by decide⟩)).mono ?_; rintro e w3 ⟨t, k3, rfl, ht, hk3, hok3, hg3⟩)
        go_ret2
        exact ((P2.out.made (World.grownBy_alloc w2 _ _)).cur hok3 hg3).ans ht
      | true =>
        go_wp2_with (go_at_call 29; refine (pick 20 (by omega) (by omega) w.heap.size A n cap k2 w.heap.size _ P2.out.ok (by omega)).mono ?_; rintro e w3 ⟨x, k3, rfl, hx, hk3, hok3, hg3⟩; refine Hid.out ?_)
        refine Lib.hid ?_
        have P3 := Lib.hid (P2.out.cur hok3 hg3)
        clear hok3 hg3
        go_wp2_with (at_make; refine wpList_make_full _ rfl _ _ 22 rfl w3.heap.size 5 i1 (.int .u8 0) 1 Try.underlying22 HY.out.1 HY.out.2.1 HY.out.2.2.1 .i64 .i64 _ _ (3990 + x) rfl rfl (by omega) (by omega) (by rw [HY.out.2.2.2]; omega) (by unfold maxLen; omega) (Nat.le_refl _) ?_; intro w4 hown hgrow; refine Hid.out ?_)
        refine Lib.hid ?_
        rw [zeros] at hown
        have hconv := textOf hown
        have P4 := Lib.hid (P3.out.made hgrow)
        obtain ⟨s, hs⟩ : ∃ s : ByteArray, s = ⟨(List.replicate (3990 + x) (0 : UInt8)).toArray⟩ := ⟨_, rfl⟩
        rw [← hs] at hconv
        have hsz : s.size ≤ 5000 := by
          rw [hs]
          show (List.replicate (3990 + x) (0 : UInt8)).toArray.size ≤ 5000
          rw [List.size_toArray, List.length_replicate]; omega
        have hz := P4.out.bel.size
        clear hown hgrow hs
        go_wp2_with (at_builtin; refine wpList_append_own _ rfl _ _ 26 rfl (w.heap.size + 1) 9 i0 (.string ByteArray.empty) 1 16 Try.underlying26 HZ.out.1 HZ.out.2.1 HZ.out.2.2.1 HZ.out.2.2.2 rfl (by decide) _ _ _ rfl (P4.out.row.alloc _) ⟨w4.heap.size, 0, none⟩ 1 1 [.string s] rfl rfl (cell_one_new _ _ _) (one_str _) (by unfold maxLen; omega) (by omega) (by simp; omega) ?_; intro v' w5 hown' hgrow _; refine Hid.out ?_)
        refine Lib.hid ?_
        have P5 := Lib.hid (P4.out.app (q := s) (by omega) (by omega) hown' hgrow)
        clear hown' hgrow hconv
        have HN : Hid (w5.heap.size ≠ w.heap.size) := Lib.hid (by have := P5.out.ok.lt; omega)
        go_wp2_with (go_at_call 26; refine (of_ w5.heap.size _ 10 5 rfl (by omega) (by omega) w.heap.size A n cap k3 w.heap.size _ (P5.out.ok.alloc _) (by omega) (heap_alloc_new w5 _) HN.out (by intro v hv; simp at hv; rcases hv with h | h | h | h <;> exact ⟨_, h, by decide⟩)).mono ?_; rintro e w6 ⟨t, k4, rfl, ht, hk4, hok4, hg4⟩)
        go_ret2
        exact ((P5.out.made (World.grownBy_alloc w5 _ _)).cur hok4 hg4).ans ht

end Go.Proofs.Ytokikbfhjhppmaa.DrawSJ
