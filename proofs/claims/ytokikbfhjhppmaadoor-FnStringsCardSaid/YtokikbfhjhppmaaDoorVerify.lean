/-
  What VerifyChecksum returns, of the model and of the program, at every string of at most two million letters.
-/
import Derived.Test.YtokikbfhjhppmaaDoorAppend
import Derived.Test.YtokikbfhjhppmaaDoorSplit
import Derived.Deep.QuietTactic
import Derived.BigQuiet
namespace Go.Proofs.YtokikbfhjhppmaaDoor.Verify
open Go.RowKit Go.Proofs.YtokikbfhjhppmaaDoor.Plain Go.Proofs.YtokikbfhjhppmaaDoor.Num Go.Proofs.YtokikbfhjhppmaaDoor.Fmt Go.Proofs.YtokikbfhjhppmaaDoor.Sum Go.Proofs.YtokikbfhjhppmaaDoor.Seal Go.Proofs.YtokikbfhjhppmaaDoor.Pieces

/-- The candidate. -/
def cand (s : ByteArray) : ByteArray := ⟨(frontOf 35 s.data.toList).toArray⟩

theorem cand_le (s : ByteArray) : (cand s).size ≤ s.size := by
  rw [size_len, size_len]
  exact (List.takeWhile_sublist _).length_le

theorem cand_free (s : ByteArray) : ¬ In 35 (cand s) := by
  rw [in_iff]
  intro h
  have := List.all_takeWhile (p := (· != (35 : UInt8))) (l := s.data.toList)
  rw [List.all_eq_true] at this
  have := this 35 h
  simp at this

def Opens (s : ByteArray) : Prop := s.size ≤ 4000 ∧ sealS (cand s) = s

theorem opens_fits {s : ByteArray} (h : Opens s) : Fits (cand s) := by
  refine ⟨cand_free s, ?_⟩
  rw [← sealS_size, h.2]
  exact h.1

theorem indexOne (s : ByteArray) (o : Nat) (ho : Lib.indexByte s.data.toList 35 = o) (w : World) :
    Calls Tryd.prog 52 #[.string s, .string ⟨#[35]⟩] w fun e w' => e = .returned (.int .i64 (o : Int)) ∧ w = w' :=
  (Tryd.stringslite_Index_one s 35 w).mono fun e w' ⟨he, hw⟩ => ⟨by rw [he, ho], hw.symm⟩

theorem indexNone (s : ByteArray) (ho : Lib.indexByte s.data.toList 35 = -1) (w : World) :
    Calls Tryd.prog 52 #[.string s, .string ⟨#[35]⟩] w fun e w' => e = .returned (.int .i64 (-1)) ∧ w = w' :=
  (Tryd.stringslite_Index_one s 35 w).mono fun e w' ⟨he, hw⟩ => ⟨by rw [he, ho], hw.symm⟩

theorem cutAt (s : ByteArray) (hs : s.size ≤ 2000000) (o : Nat) (ho : Lib.indexByte s.data.toList 35 = o) (w : World) :
    Calls Tryd.prog 44 #[.string s, .string ⟨#[35]⟩] w fun e w' =>
      ∃ x, e = .returned (.tuple #[.string (cand s), .string x, .bool true]) ∧ ∃ n, w' = w.drewN n := by
  obtain ⟨h1, h2⟩ := Lib.indexByte_some ho
  have hlt : o < s.size := by
    rw [size_len]
    exact (List.getElem?_eq_some_iff.1 h1).1
  have HC : Hid (cand s = s.extract 0 o) := Lib.hid (by rw [extract_piece, cand, ahead_at h1 h2]; simp)
  obtain ⟨q, hq⟩ : ∃ q, q = cand s := ⟨_, rfl⟩
  have HQ := Lib.hid hq
  obtain ⟨x, hx⟩ : ∃ x, x = s.extract (o + 1) s.size := ⟨_, rfl⟩
  have HX := Lib.hid hx
  have hs1 : ∀ w, (Instr.slice 9 (.string s) none (some (.int .i64 (o : Int))) none).run Tryd.prog w = .ok (.string q) w := fun w => by
    rw [HQ.out, HC.out]; simp [go_sem, Tryd.underlying9]; omega
  have hs2 : ∀ w, (Instr.slice 9 (.string s) (some (.int .i64 ((o : Int) + 1))) none none).run Tryd.prog w = .ok (.string x) w := fun w => by
    rw [HX.out]; simp [go_sem, Tryd.underlying9]; omega
  have HO := Lib.hid ho
  clear h1 h2 hq hx ho
  have e1 : IntKind.i64.wrap ((o : Int) + 1) = (o : Int) + 1 := IntWalk.i64_in _ (by omega)
  go_enter Tryd.func44, Tryd.ntmps44
  go_wp2_with (go_at_call 52; refine (indexOne s o HO.out _).mono ?_; rintro e w' ⟨rfl, rfl⟩)
  go_quiet (fail)
  clear e1
  go_wp2
  go_ret3
  exact ⟨x, by rw [← HQ.out]; rfl, _, rfl⟩

theorem cutNone (s : ByteArray) (ho : Lib.indexByte s.data.toList 35 = -1) (w : World) :
    Calls Tryd.prog 44 #[.string s, .string ⟨#[35]⟩] w fun e w' =>
      ∃ x, e = .returned (.tuple #[.string (cand s), .string x, .bool false]) ∧ ∃ n, w' = w.drewN n := by
  have HC : Hid (cand s = s) := Lib.hid (by
    have h : (35 : UInt8) ∉ s.data.toList := by
      rw [← in_iff, ← indexByte_iff]; omega
    rw [cand, ahead_none h])
  have HO := Lib.hid ho
  clear ho
  go_enter Tryd.func44, Tryd.ntmps44
  go_wp2_with (go_at_call 52; refine (indexNone s HO.out _).mono ?_; rintro e w' ⟨rfl, rfl⟩)
  go_ret3
  exact ⟨_, by rw [HC.out]; rfl, 0, rfl⟩

/-- strings.Cut at the mark: the text ahead of the first mark. -/
theorem cut (s : ByteArray) (hs : s.size ≤ 2000000) (w : World) :
    Calls Tryd.prog 35 #[.string s, .string ⟨#[35]⟩] w fun e w' =>
      ∃ x d, e = .returned (.tuple #[.string (cand s), .string x, .bool d]) ∧ ∃ n, w' = w.drewN n := by
  have key : ∀ w, Calls Tryd.prog 44 #[.string s, .string ⟨#[35]⟩] w fun e w' =>
      ∃ x d, e = .returned (.tuple #[.string (cand s), .string x, .bool d]) ∧ ∃ n, w' = w.drewN n := fun w => by
    have h1 := Lib.indexByte_ge s.data.toList 35
    by_cases h : Lib.indexByte s.data.toList 35 = -1
    · exact (cutNone s h w).mono fun e w' ⟨x, he, hw⟩ => ⟨x, false, he, hw⟩
    · exact (cutAt s hs (Lib.indexByte s.data.toList 35).toNat (by omega) w).mono fun e w' ⟨x, he, hw⟩ => ⟨x, true, he, hw⟩
  go_enter Tryd.func35, Tryd.ntmps35
  go_wp2_with (go_at_call 44; refine (key _).mono ?_; rintro e w' ⟨x, d, rfl, n, rfl⟩)
  go_ret3
  exact ⟨x, d, rfl, n, rfl⟩

theorem clone (s : ByteArray) (hs : s.size ≤ 2000000) (w : World) :
    Calls Tryd.prog 36 #[.string s] w fun e w' => e = .returned (.string s) ∧ Below w.heap.size w w' := by
  go_enter Tryd.func36, Tryd.ntmps36
  go_wp2_with (go_at_call 45; refine (Tryd.stringslite_Clone s _ (by omega)).mono ?_; rintro e w' ⟨rfl, hb⟩)
  go_ret
  exact ⟨rfl, hb⟩

/-- The first piece, where it lies. -/
theorem splitAt0 (s : ByteArray) (w : World) (hs : s.size ≤ 2000000) :
    Calls Tryd.prog 37 #[.string s, .int .u8 35] w fun e w' =>
      ∃ g n cap, 1 ≤ n ∧ n ≤ 3000000 ∧ e = .returned (.slice (some ⟨g, 0, none⟩) n cap) ∧ w'.cell? ⟨g, 0, none⟩ = some (.string (cand s)) ∧ Below w.heap.size w w' :=
  (Split.l1Split s 35 35 rfl w hs).mono fun e w' ⟨v, he, hown, hb⟩ => by
    obtain ⟨rest, hsp⟩ := split_head 35 s.data.toList
    have hlen : (split 35 s.data.toList).length ≤ s.size + 1 := by
      have h1 := st_len 35 s.data.toList
      have h2 := size_len s
      unfold split
      rw [List.length_append, List.length_singleton]; omega
    have hpos : 0 < (split 35 s.data.toList).length := by rw [hsp]; simp
    obtain ⟨g, cap, rfl⟩ : ∃ g cap, v = .slice (some ⟨g, 0, none⟩) (split 35 s.data.toList).length cap := by
      rcases hown.2 with ⟨_, h0⟩ | ⟨g, cap, _, hv, _⟩
      · omega
      · exact ⟨g, cap, hv⟩
    refine ⟨g, _, cap, hpos, by omega, he, ?_, hb⟩
    rw [hown.cellAt 0 (by omega), hsp]
    rfl

theorem specYes (s : ByteArray) (h : Opens s) (w : World) (hs : s.size ≤ maxLen) :
    Calls Tryd.prog 20 #[.string s] w fun e w' => e = .returned (.tuple #[.string (cand s), .bool true]) ∧ Below w.heap.size w w' := by
  unfold maxLen at hs
  have hl := h.1
  have hc := cand_le s
  have hq : (!(sealS (cand s)).toList == s.toList) = false := by rw [h.2]; simp
  have HH := Lib.hid h
  clear h
  go_enter Tryd.func20, Tryd.ntmps20
  go_wp2_with (first
    | (go_at_call 37; refine (splitAt0 s _ (by omega)).mono ?_; rintro e w' ⟨g, n, cap, h1, hn, rfl, hcell, hb⟩)
    | (go_at_call 34; refine (l1Seal (cand s) (by omega) _).mono ?_; rintro e w2 ⟨rfl, q, rfl⟩))
  all_goals go_ret2
  all_goals exact ⟨rfl, below_drewN hb _⟩

theorem specNo (s : ByteArray) (h : ¬ Opens s) (w : World) (hs : s.size ≤ maxLen) :
    Calls Tryd.prog 20 #[.string s] w fun e w' => e = .returned (.tuple #[.string ⟨#[]⟩, .bool false]) ∧ Below w.heap.size w w' := by
  unfold maxLen at hs
  by_cases hl : 4000 < s.size
  · go_enter Tryd.func20, Tryd.ntmps20
    go_wp2_with fail
    go_ret2
    exact ⟨rfl, Below.refl _ _⟩
  · have hc := cand_le s
    have hq : (!(sealS (cand s)).toList == s.toList) = true := by
      rw [Bool.not_eq_true', beq_eq_false_iff_ne, ByteArray.toList_eq, ByteArray.toList_eq]
      intro e
      exact h ⟨by omega, ByteArray.ext (Array.ext' e)⟩
    have HH := Lib.hid h
    clear h
    go_enter Tryd.func20, Tryd.ntmps20
    go_wp2_with (first
      | (go_at_call 37; refine (splitAt0 s _ (by omega)).mono ?_; rintro e w' ⟨g, n, cap, h1, hn, rfl, hcell, hb⟩)
      | (go_at_call 34; refine (l1Seal (cand s) (by omega) _).mono ?_; rintro e w2 ⟨rfl, q, rfl⟩))
    all_goals go_ret2
    all_goals exact ⟨rfl, below_drewN hb _⟩

theorem implYes (s : ByteArray) (h : Opens s) (w : World) (hs : s.size ≤ 1048576) (ht0 : Lib.TabIs Tryd.prog w "internal/strconv.uint64pow10" .u64 Lib.pow10Tab) :
    Calls Tryd.prog 18 #[.string s] w fun e w' => e = .returned (.tuple #[.string (cand s), .bool true]) ∧ Below w.heap.size w w' := by
  have hc := cand_le s
  have hm : (cand s).size ≤ maxLen := by unfold maxLen; omega
  have HM := Lib.hid hm
  clear hm
  have hq : (!(sealS (cand s)).toList == s.toList) = false := by rw [h.2]; simp
  have HF := Lib.hid (opens_fits h)
  have HT : ∀ m, Hid (Lib.TabIs Tryd.prog (w.drewN m) "internal/strconv.uint64pow10" .u64 Lib.pow10Tab) := fun m => Lib.hid (Laid.table_below (below_drewN (Below.refl _ _) m) ht0)
  clear h ht0
  go_enter Tryd.func18, Tryd.ntmps18
  go_wp2_with (first
    | (go_at_call 35; refine (cut s (by omega) _).mono ?_; rintro e w1 ⟨x, d, rfl, m, rfl⟩)
    | (go_at_call 16; refine (Seal.implYes (cand s) HF.out _ HM.out (HT m).out).mono ?_; rintro e w2 ⟨rfl, hb⟩)
    | (go_at_call 36; refine (clone (cand s) (by omega) _).mono ?_; rintro e w3 ⟨rfl, hb3⟩))
  all_goals go_ret2
  all_goals exact ⟨rfl, ((below_drewN (Below.refl _ _) m).trans hb).trans (hb3.mono hb.size)⟩

theorem implNo (s : ByteArray) (h : ¬ Opens s) (w : World) (hs : s.size ≤ 1048576) (ht0 : Lib.TabIs Tryd.prog w "internal/strconv.uint64pow10" .u64 Lib.pow10Tab) :
    Calls Tryd.prog 18 #[.string s] w fun e w' => e = .returned (.tuple #[.string ⟨#[]⟩, .bool false]) ∧ Below w.heap.size w w' := by
  have hc := cand_le s
  have hm : (cand s).size ≤ maxLen := by unfold maxLen; omega
  have HM := Lib.hid hm
  clear hm
  have HT : ∀ m, Hid (Lib.TabIs Tryd.prog (w.drewN m) "internal/strconv.uint64pow10" .u64 Lib.pow10Tab) := fun m => Lib.hid (Laid.table_below (below_drewN (Below.refl _ _) m) ht0)
  clear ht0
  by_cases hf : Fits (cand s)
  · have hq : (!(sealS (cand s)).toList == s.toList) = true := by
      rw [Bool.not_eq_true', beq_eq_false_iff_ne, ByteArray.toList_eq, ByteArray.toList_eq]
      intro e
      have e2 : sealS (cand s) = s := ByteArray.ext (Array.ext' e)
      exact h ⟨by rw [← e2, sealS_size]; exact hf.2, e2⟩
    have HF := Lib.hid hf
    clear h hf
    go_enter Tryd.func18, Tryd.ntmps18
    go_wp2_with (first
      | (go_at_call 35; refine (cut s (by omega) _).mono ?_; rintro e w1 ⟨x, d, rfl, m, rfl⟩)
      | (go_at_call 16; refine (Seal.implYes (cand s) HF.out _ HM.out (HT m).out).mono ?_; rintro e w2 ⟨rfl, hb⟩))
    all_goals go_ret2
    all_goals exact ⟨rfl, (below_drewN (Below.refl _ _) m).trans hb⟩
  · have HF := Lib.hid hf
    clear h hf
    go_enter Tryd.func18, Tryd.ntmps18
    go_wp2_with (first
      | (go_at_call 35; refine (cut s (by omega) _).mono ?_; rintro e w1 ⟨x, d, rfl, m, rfl⟩)
      | (go_at_call 16; refine (Seal.implNo (cand s) HF.out _ HM.out (HT m).out).mono ?_; rintro e w2 ⟨rfl, hb⟩))
    all_goals go_ret2
    all_goals exact ⟨rfl, (below_drewN (Below.refl _ _) m).trans hb⟩

end Go.Proofs.YtokikbfhjhppmaaDoor.Verify
