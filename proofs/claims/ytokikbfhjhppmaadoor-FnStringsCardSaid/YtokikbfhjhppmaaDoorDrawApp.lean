/-
  What the draw of a text to be given a checksum returns, whatever the code: a text of at most 5000 letters.
-/
import Derived.Test.YtokikbfhjhppmaaDoorDraw
import Derived.Laws.IdiomStrings
namespace Go.Proofs.YtokikbfhjhppmaaDoor.Draw
open Go.RowKit Go.Proofs.YtokikbfhjhppmaaDoor.Plain Go.Proofs.YtokikbfhjhppmaaDoor.Cur Go.Proofs.YtokikbfhjhppmaaDoor.Num

theorem infoByte : (Tryd.prog.info? 5).map (fun i => (i.zero, i.size, i.bytes)) = some (some (.int .u8 0), 1, 1) := by kernel_rfl

theorem zeros (n : Nat) : (madeCells (Value.int .u8 0).cells (n * 1)).toList = List.replicate n (.int .u8 0) := by
  rw [show (Value.int .u8 0).cells = #[.int .u8 0] from rfl, Nat.mul_one, toList_madeCells_one]

theorem textOf {w : World} {base g n : Nat} (h : w.ownsRow base 5 1 (.slice (some ⟨g, 0, none⟩) n n) n (List.replicate n (.int .u8 0))) :
    (convert 22 9 (.slice (some ⟨g, 0, none⟩) n n)).run Tryd.prog w = .ok (.string ⟨(List.replicate n (0 : UInt8)).toArray⟩) w := by
  have h1 := run_convert_bytes_back (P := Tryd.prog) w 22 9 5 ⟨g, 0, none⟩ n (List.replicate n (0 : UInt8)) Tryd.underlying22 Tryd.underlying5 Tryd.underlying9 (fun j hj => by
    have hj' : j < n := by simpa using hj
    have h2 := h.cells (g := g) rfl j (.int .u8 0) (by simp [hj'])
    rw [h2]; simp)
  rw [List.length_replicate] at h1
  exact h1

set_option maxHeartbeats 1000000 in
theorem drawAppend (A : Option Addr) (n cap : Nat) (w : World) (hn : n ≤ 1000000) (hA : Bytes w w.heap.size A n) :
    Calls Tryd.prog 15 #[.slice A n cap] w fun e w' => ∃ s : ByteArray, e = .returned (.string s) ∧ s.size ≤ 5000 ∧ Below w.heap.size w w' := by
  have HO := Lib.hid (Ok.new w A n cap hn hA)
  clear hA
  obtain ⟨i0, hi, hz0, hz1, hz2⟩ := info_parts infoByte
  have HZ := Lib.hid hz2
  clear hz2
  go_enter Tryd.func15, Tryd.ntmps15
  go_wp2_with (go_at_call 26; refine (one 20 (by omega) (by omega) w.heap.size A n cap 0 w.heap.size _ HO.out (by omega)).mono ?_; rintro e w1 ⟨f, k', rfl, hk', hok, hg⟩; refine Hid.out ?_)
  refine Lib.hid ?_
  have H1 := Lib.hid (And.intro hok hg)
  clear hok hg
  cases f with
  | true =>
    go_wp2_with (go_at_call 22; refine (pick 10 (by omega) (by omega) w.heap.size A n cap k' w.heap.size _ H1.out.1 (by omega)).mono ?_; rintro e w2 ⟨r, k2, rfl, hr, hk2, hok2, hg2⟩; refine Hid.out ?_)
    refine Lib.hid ?_
    have H2 := Lib.hid (grow2 H1.out.2 hg2)
    clear hok2 hg2
    go_wp2_with (at_make; refine wpList_make_full _ rfl _ _ 22 rfl w2.heap.size 5 i0 (.int .u8 0) 1 Tryd.underlying22 hi hz0 hz1 .i64 .i64 _ _ (3990 + r) rfl rfl (by omega) (by omega) (by rw [HZ.out]; omega) (by unfold maxLen; omega) (Nat.le_refl _) ?_; intro w3 hown hgrow; refine Hid.out ?_)
    refine Lib.hid ?_
    rw [zeros] at hown
    have hconv := textOf hown
    have hb : Below w.heap.size w w3 := (below_cur H2.out).trans ((Below.refl w.heap.size w2).grown hgrow (below_cur H2.out).size (fun k hk => by cases hk))
    obtain ⟨s, hs⟩ : ∃ s : ByteArray, s = ⟨(List.replicate (3990 + r) (0 : UInt8)).toArray⟩ := ⟨_, rfl⟩
    rw [← hs] at hconv
    have hsz : s.size ≤ 5000 := by
      rw [hs]
      show (List.replicate (3990 + r) (0 : UInt8)).toArray.size ≤ 5000
      rw [List.size_toArray, List.length_replicate]; omega
    have HB := Lib.hid hb
    clear hown hgrow hs hb
    go_wp2_with fail
    go_ret
    exact ⟨s, rfl, hsz, HB.out⟩
  | false =>
    go_wp2_with (go_at_call 30; refine (any1 w.heap.size A n cap k' w.heap.size _ H1.out.1 (by omega)).mono ?_; rintro e w2 ⟨s, k2, rfl, hs, hk2, hok2, hg2⟩)
    go_ret
    exact ⟨s, rfl, by omega, below_cur (grow2 H1.out.2 hg2)⟩

end Go.Proofs.YtokikbfhjhppmaaDoor.Draw
