/-
  skip and take of the program's reader.
-/
import Derived.Test.YtlaogladhadliaaGreatDoorPcR
import Derived.Test.YtlaogladhadliaaGreatDoorShelfCut
import Derived.Test.YtlaogladhadliaaGreatDoorNmI
namespace Go.Proofs.YtlaogladhadliaaGreatDoor.Cond
open Go.RowKit
set_option linter.unusedVariables false
set_option linter.unusedSimpArgs false

/-- A reader: the rest of its text, and the conditions that may still begin. -/
structure Rr (b : Nat) (w : World) (l : List UInt8) (L : Nat) : Prop where
  lt : b < w.heap.size
  c0 : w.cell? ⟨b, 0, none⟩ = some (.string (ba l))
  c1 : w.cell? ⟨b, 1, none⟩ = some (.int .i64 (L : Int))
  fz : ∀ o, w.frozen? ⟨b, o, none⟩ = false
theorem Rr.alike {b : Nat} {w w' : World} {l : List UInt8} {L : Nat} (h : Rr b w l L) (hb : w'.heap[b]? = w.heap[b]?) (hs : w.heap.size ≤ w'.heap.size) : Rr b w' l L :=
  ⟨Nat.lt_of_lt_of_le h.lt hs, (World.cell?_of_block (a := ⟨b, 0, none⟩) hb).trans h.c0, (World.cell?_of_block (a := ⟨b, 1, none⟩) hb).trans h.c1, fun o => (World.frozen?_of_block (a := ⟨b, o, none⟩) hb).trans (h.fz o)⟩
theorem Rr.on {b : Nat} {w w' : World} {l : List UInt8} {L : Nat} (h : Rr b w l L) (hb : Below w.heap.size w w') : Rr b w' l L := h.alike (hb.block b h.lt) hb.size
theorem Rr.set0 {b : Nat} {w : World} {l : List UInt8} {L : Nat} (h : Rr b w l L) (l' : List UInt8) : Rr b (w.setCell ⟨b, 0, none⟩ (.string (ba l'))) l' L :=
  ⟨by simpa using h.lt, by simp [go_sem, h.c0, h.fz], by simp [go_sem, h.c1], fun o => by simp [go_sem, h.fz]⟩
theorem Rr.set1 {b : Nat} {w : World} {l : List UInt8} {L : Nat} (h : Rr b w l L) (L' : Nat) : Rr b (w.setCell ⟨b, 1, none⟩ (.int .i64 (L' : Int))) l L' :=
  ⟨by simpa using h.lt, by simp [go_sem, h.c0], by simp [go_sem, h.c1, h.fz], fun o => by simp [go_sem, h.fz]⟩
theorem mv_set (b o : Nat) (w : World) (x : Value) : Mv (· = b) (· = b) w (w.setCell ⟨b, o, none⟩ x) :=
  ⟨rfl, rfl, rfl, by simp, fun i hi hn => Below.heap_setCell w _ x i hn, fun i hi => .inl hi⟩

/-- What is left behind p. -/
def trim (p l : List UInt8) : List UInt8 := if st p l then l.drop p.length else l
theorem st_prefix (p l : List UInt8) : Lib.hasPrefix l p = st p l := by
  unfold Lib.hasPrefix st
  rw [Bool.eq_iff_iff, List.isPrefixOf_iff_prefix, decide_eq_true_eq, List.prefix_iff_eq_take]
  exact eq_comm
theorem trim_prefix (p l : List UInt8) : Lib.trimPrefix l p = trim p l := by
  unfold Lib.trimPrefix trim
  rw [st_prefix]

theorem skip (b L : Nat) (l : List UInt8) (p : ByteArray) (w : World) (h : Rr b w l L) :
    Calls Tryz.prog 50 #[.pointer (some ⟨b, 0, none⟩), .string p] w fun e w' => e = .returned (.bool (st p.data.toList l)) ∧ w.setCell ⟨b, 0, none⟩ (.string (ba (trim p.data.toList l))) = w' := by
  have HC := Lib.hid (Tryz.strings_CutPrefix (ba l) p w)
  rw [trim_prefix, st_prefix] at HC
  have c0 := h.c0
  have f0 := h.fz 0
  clear h
  go_enter Tryz.func50, Tryz.ntmps50
  go_wp2_with (go_at_call 68; refine HC.out.mono ?_; rintro e w' ⟨rfl, rfl⟩)
  go_ret
  exact ⟨rfl, rfl⟩

theorem take_ (b L n : Nat) (l : List UInt8) (w : World) (h : Rr b w l L) (hl : l.length ≤ 2000000) (hn : n ≤ 2000000) :
    Calls Tryz.prog 52 #[.pointer (some ⟨b, 0, none⟩), .int .i64 (n : Int)] w fun e w' => e = .returned (.string (ba (l.take n))) ∧ w.setCell ⟨b, 0, none⟩ (.string (ba (l.drop n))) = w' := by
  have hsz : (ba l).size = l.length := by simp [ByteArray.size]
  obtain ⟨s, hs⟩ : ∃ s, s = ba l := ⟨_, rfl⟩
  obtain ⟨m, hm⟩ : ∃ m, m = min n l.length := ⟨_, rfl⟩
  have hml : m ≤ s.size := by rw [hs, hsz]; omega
  have s1 : ∀ w, (Instr.slice 9 (.string s) none (some (.int .i64 (m : Int))) none).run Tryz.prog w = .ok (.string (ba (l.take n))) w := fun w => by
    have e : s.extract 0 m = ba (l.take n) := ext_of (by rw [hs]; simp [hm])
    rw [← e, run_slice_string_h w 9 s Tryz.underlying9 .i64 (m : Int) (by omega) (by omega), Int.toNat_natCast]
  have s2 : ∀ w, (Instr.slice 9 (.string s) (some (.int .i64 (m : Int))) none none).run Tryz.prog w = .ok (.string (ba (l.drop n))) w := fun w => by
    have e : s.extract m s.size = ba (l.drop n) := ext_of (by
      have h1 : s.data.toList = l := by rw [hs]
      have h2 : s.size = l.length := by rw [hs, hsz]
      rw [h1, List.take_of_length_le (by rw [List.length_drop]; omega)]
      by_cases hc : n ≤ l.length
      · rw [show m = n by omega]
      · rw [List.drop_of_length_le (by omega), List.drop_of_length_le (by omega)])
    rw [← e, run_slice_string_l w 9 s Tryz.underlying9 .i64 (m : Int) (by omega) (by omega), Int.toNat_natCast]
  have c0 := h.c0
  have f0 := h.fz 0
  rw [← hs] at c0
  have hmin : min (n : Int) (s.size : Int) = (m : Int) := by rw [hs, hsz, hm]; omega
  have hm0 : (0 : Int) ≤ (m : Int) := by omega
  have HN := Lib.hid hn
  clear h hs hm hsz hn
  go_enter Tryz.func52, Tryz.ntmps52
  go_wp2_with fail
  go_ret
  exact ⟨rfl, rfl⟩

end Go.Proofs.YtlaogladhadliaaGreatDoor.Cond
