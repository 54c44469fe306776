/-
  What the draws for the law of splitting and joining return, whatever the code.
-/
import Derived.Test.YtokikbfhjhppmaaCurOf
import Derived.Test.YtokikbfhjhppmaaSplit
import Derived.Test.YtokikbfhjhppmaaRow
import Derived.Laws.IdiomStrings
namespace Go.Proofs.Ytokikbfhjhppmaa.DrawSJ
open Go.RowKit Go.Proofs.Ytokikbfhjhppmaa.Plain Go.Proofs.Ytokikbfhjhppmaa.Cur
set_option linter.unusedVariables false

theorem vBigNo (A : Option Addr) (n cap : Nat) (w : World) (h : n ≤ 65536) :
    Calls Try.prog 8 #[.slice A n cap] w fun e w' => e = .returned (.bool false) ∧ w = w' := by
  go_enter Try.func8, Try.ntmps8
  go_wp2_with fail
  go_ret
  exact ⟨by simp; omega, rfl⟩

theorem vBigYes (A : Option Addr) (n cap : Nat) (w : World) (h : 65536 < n) (hm : n ≤ maxLen) :
    Calls Try.prog 8 #[.slice A n cap] w fun e w' => e = .returned (.bool true) ∧ w = w' := by
  unfold maxLen at hm
  go_enter Try.func8, Try.ntmps8
  go_wp2_with fail
  go_ret
  exact ⟨by simp; omega, rfl⟩

set_option maxHeartbeats 1000000 in
theorem drawLess (A : Option Addr) (n cap : Nat) (w : World) (hn : n ≤ 1000000) (hA : Bytes w w.heap.size A n) :
    Calls Try.prog 14 #[.slice A n cap] w fun e w' => ∃ s t : ByteArray, e = .returned (.tuple #[.string s, .string t]) ∧ Below w.heap.size w w' := by
  have HO := Lib.hid (Ok.new w A n cap hn hA)
  clear hA
  go_enter Try.func14, Try.ntmps14
  go_wp2_with (go_at_call 25; refine (any1 w.heap.size A n cap 0 w.heap.size _ HO.out (by omega)).mono ?_; rintro e w2 ⟨s, k2, rfl, hs, hk2, hok2, hg2⟩; refine Hid.out ?_)
  refine Lib.hid ?_
  have H1 := Lib.hid (And.intro hok2 hg2)
  clear hok2 hg2
  go_wp2_with (go_at_call 25; refine (any1 w.heap.size A n cap k2 w.heap.size _ H1.out.1 (by omega)).mono ?_; rintro e w3 ⟨t, k3, rfl, ht, hk3, hok3, hg3⟩)
  go_ret2
  exact ⟨s, t, rfl, below_cur (grow2 H1.out.2 hg3)⟩

set_option maxHeartbeats 1000000 in
theorem drawSplit (A : Option Addr) (n cap : Nat) (w : World) (hn : n ≤ 1000000) (hA : Bytes w w.heap.size A n) :
    Calls Try.prog 9 #[.slice A n cap] w fun e w' => ∃ s t : ByteArray, e = .returned (.tuple #[.string s, .string t]) ∧ s.size ≤ 10 ∧ t.size ≤ 10 ∧ Below w.heap.size w w' := by
  have HO := Lib.hid (Ok.new w A n cap hn hA)
  clear hA
  go_enter Try.func9, Try.ntmps9
  go_wp2_with (go_at_call 25; refine (any1 w.heap.size A n cap 0 w.heap.size _ HO.out (by omega)).mono ?_; rintro e w2 ⟨s, k2, rfl, hs, hk2, hok2, hg2⟩; refine Hid.out ?_)
  refine Lib.hid ?_
  have H1 := Lib.hid (And.intro hok2 hg2)
  have HN : Hid (w2.heap.size ≠ w.heap.size) := Lib.hid (by have := hok2.lt; omega)
  clear hok2 hg2
  go_wp2_with (go_at_call 26; refine (of_ w2.heap.size _ 10 5 rfl (by omega) (by omega) w.heap.size A n cap k2 w.heap.size _ (H1.out.1.alloc _) (by omega) (heap_alloc_new w2 _) HN.out (by intro v hv; simp at hv; rcases hv with h | h | h | h <;> exact ⟨_, h, by decide⟩)).mono ?_; rintro e w3 ⟨t, k3, rfl, ht, hk3, hok3, hg3⟩)
  go_ret2
  exact ⟨s, t, rfl, hs, ht, below_cur (grow2 H1.out.2 (grow2 (World.grownBy_alloc w2 _ _) hg3))⟩

theorem infoByte : (Try.prog.info? 5).map (fun i => (i.zero, i.size, i.bytes)) = some (some (.int .u8 0), 1, 1) := by kernel_rfl

theorem zeros (n : Nat) : (madeCells (Value.int .u8 0).cells (n * 1)).toList = List.replicate n (.int .u8 0) := by
  rw [show (Value.int .u8 0).cells = #[.int .u8 0] from rfl, Nat.mul_one, toList_madeCells_one]

theorem textOf {w : World} {base g n : Nat} (h : w.ownsRow base 5 1 (.slice (some ⟨g, 0, none⟩) n n) n (List.replicate n (.int .u8 0))) :
    (convert 22 9 (.slice (some ⟨g, 0, none⟩) n n)).run Try.prog w = .ok (.string ⟨(List.replicate n (0 : UInt8)).toArray⟩) w := by
  have h1 := run_convert_bytes_back (P := Try.prog) w 22 9 5 ⟨g, 0, none⟩ n (List.replicate n (0 : UInt8)) Try.underlying22 Try.underlying5 Try.underlying9 (fun j hj => by
    have hj' : j < n := by simpa using hj
    have h2 := h.cells (g := g) rfl j (.int .u8 0) (by simp [hj'])
    rw [h2]; simp)
  rw [List.length_replicate] at h1
  exact h1

/-- The cursor and the row beside it. -/
structure Pair (w wr : World) (A : Option Addr) (n cap k : Nat) (v : Value) (D : List ByteArray) : Prop where
  ok : Ok wr w.heap.size A n cap k w.heap.size
  row : wr.ownsRow (w.heap.size + 1) 9 1 v D.length (D.map Value.string)
  bel : Below w.heap.size w wr
  len : D.length ≤ 100
  szs : ∀ p ∈ D, p.size ≤ 5000

theorem Ok.kept {w w' : World} {g : Nat} {A : Option Addr} {n cap k B : Nat} {row : Option Nat} (h : Ok w g A n cap k B) (hg : w.grownBy w' row) (hr : ∀ j, row = some j → g < j) : Ok w' g A n cap k B := by
  obtain ⟨sd, hat⟩ := h.at_
  refine ⟨⟨sd, (hg.block g hat.lt (fun e => by have := hr g e.symm; omega)).trans hat⟩, fun hp => ?_, h.small, h.old⟩
  obtain ⟨ad, e, hb, hc⟩ := h.bytes hp
  refine ⟨ad, e, hb, fun j hj => ?_⟩
  obtain ⟨z, hz, h0, h1⟩ := hc j hj
  exact ⟨z, hg.cell hz (by rw [Cur.block_add]; intro e2; have h3 := hr _ e2.symm; have := h.old; omega), h0, h1⟩

theorem Pair.cur {w wr w' : World} {A : Option Addr} {n cap k k' : Nat} {v : Value} {D : List ByteArray} (h : Pair w wr A n cap k v D) (hok : Ok w' w.heap.size A n cap k' w.heap.size) (hg : wr.grownBy w' (some w.heap.size)) : Pair w w' A n cap k' v D := by
  refine ⟨hok, h.row.kept hg ?_, h.bel.grown hg h.bel.size (fun j hj => by injection hj with hj; omega), h.len, h.szs⟩
  rcases h.row.2 with ⟨rfl, _⟩ | ⟨g, c, cur, rfl, hb, _⟩
  · exact .inl rfl
  · refine .inr fun e => ?_
    simp only [Value.ownBlock, Option.some.injEq] at e
    omega

theorem Pair.app {w wr w1 : World} {A : Option Addr} {n cap k : Nat} {v v' : Value} {D : List ByteArray} {q : ByteArray} {o : Obj} (h : Pair w wr A n cap k v D) (hq : q.size ≤ 5000) (hl : D.length < 100)
    (hown' : w1.ownsRow (w.heap.size + 1) 9 1 v' (D.length + 1) (D.map Value.string ++ [.string q])) (hg : (wr.alloc o).grownBy w1 v.ownBlock) : Pair w w1 A n cap k v' (D ++ [q]) := by
  have hb : ∀ j, v.ownBlock = some j → w.heap.size < j := fun j hj => by have := (h.row.lt j hj).1; omega
  refine ⟨Ok.kept (h.ok.alloc o) hg hb, by simpa using hown', (h.bel.alloc h.bel.size o).grown hg (by have := h.bel.size; simp; omega) (fun j hj => Nat.le_of_lt (hb j hj)), by simp; omega, fun p hp => ?_⟩
  rcases List.mem_append.1 hp with hp | hp
  · exact h.szs p hp
  · rw [List.mem_singleton.1 hp]; exact hq

theorem Pair.start (w : World) (A : Option Addr) (n cap : Nat) (hn : n ≤ 1000000) (hA : Bytes w w.heap.size A n) :
    Pair w ((w.alloc (.cells #[.slice A n cap, .int .i64 0, .int .u64 0] 44)).alloc (.cells #[] 9)) A n cap 0 (.slice (some ⟨w.heap.size + 1, 0, none⟩) 0 0) [] := by
  refine ⟨(Ok.new w A n cap hn hA).alloc _, ?_, ((Below.refl _ _).alloc (Nat.le_refl _) _).alloc (by simp) _, by simp, fun p hp => by simp at hp⟩
  have h := World.ownsRow_made (w.alloc (.cells #[.slice A n cap, .int .i64 0, .int .u64 0] 44)) (base := w.heap.size + 1) (e := 9) (size := 1) #[] 0 (by simp) (by unfold maxLen; omega) rfl
  rw [World.size_alloc] at h
  exact h

end Go.Proofs.Ytokikbfhjhppmaa.DrawSJ
