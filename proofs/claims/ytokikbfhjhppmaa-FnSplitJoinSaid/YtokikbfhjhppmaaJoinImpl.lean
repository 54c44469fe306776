/-
  What the program's JoinStrings returns, at every slice of at most a million letters.
-/
import Derived.Test.YtokikbfhjhppmaaJoinParts
import Derived.Test.YtokikbfhjhppmaaBuilder
import Derived.Test.YtokikbfhjhppmaaShelf
namespace Go.Proofs.Ytokikbfhjhppmaa.Join
open Go.RowKit Go.Proofs.Ytokikbfhjhppmaa.Plain Go.Proofs.Ytokikbfhjhppmaa.Seal Go.Proofs.Ytokikbfhjhppmaa.Row
set_option linter.unusedVariables false

theorem specBad (A : Option Addr) (n cap : Nat) (sep : ByteArray) (w : World) (hne : sep.size ≠ 1) (hs : sep.size ≤ maxLen) (hm : n ≤ maxLen) :
    Calls Try.prog 13 #[.slice A n cap, .string sep] w fun e w' => e = .returned (.tuple #[.string ⟨#[]⟩, .bool false]) ∧ w = w' := by
  unfold maxLen at hs hm
  have h1 : ((sep.size : Int) == 1) = false := by rw [beq_eq_false_iff_ne]; omega
  have h1' : ((sep.size : Int) != 1) = true := by rw [bne_iff_ne]; omega
  clear hne
  go_enter Try.func13, Try.ntmps13
  go_wp2_with fail
  go_ret2
  exact ⟨rfl, rfl⟩

theorem specNone (A : Option Addr) (n cap : Nat) (sep : ByteArray) (w : World) (h0 : n < 1) (hsep : sep.size = 1) (hs : sep.size ≤ maxLen) (hm : n ≤ maxLen) :
    Calls Try.prog 13 #[.slice A n cap, .string sep] w fun e w' => e = .returned (.tuple #[.string ⟨#[]⟩, .bool false]) ∧ w = w' := by
  unfold maxLen at hs hm
  have h2 : ((n : Int) == 0) = true := by rw [beq_iff_eq]; omega
  have h3 : sep.size ≤ 1 := by omega
  have h4 : 1 ≤ sep.size := by omega
  clear hsep
  go_enter Try.func13, Try.ntmps13
  go_wp2_with fail
  go_ret2
  exact ⟨rfl, rfl⟩

theorem implNone (A : Option Addr) (n cap : Nat) (sep : ByteArray) (w : World) (h0 : n < 1) (hs : sep.size ≤ maxLen) (hm : n ≤ maxLen) :
    Calls Try.prog 12 #[.slice A n cap, .string sep] w fun e w' => e = .returned (.tuple #[.string ⟨#[]⟩, .bool false]) ∧ w = w' := by
  unfold maxLen at hs hm
  have h2 : ((n : Int) == 0) = true := by rw [beq_iff_eq]; omega
  go_enter Try.func12, Try.ntmps12
  go_wp2_with fail
  go_ret2
  exact ⟨rfl, rfl⟩

theorem implBad (A : Option Addr) (n cap : Nat) (sep : ByteArray) (w : World) (h0 : 1 ≤ n) (hne : sep.size ≠ 1) (hs : sep.size ≤ maxLen) (hm : n ≤ maxLen) :
    Calls Try.prog 12 #[.slice A n cap, .string sep] w fun e w' => e = .returned (.tuple #[.string ⟨#[]⟩, .bool false]) ∧ w = w' := by
  unfold maxLen at hs hm
  have h1 : ((sep.size : Int) == 1) = false := by rw [beq_eq_false_iff_ne]; omega
  have h1' : ((sep.size : Int) != 1) = true := by rw [bne_iff_ne]; omega
  clear hne
  have h2 : ((n : Int) == 0) = false := by rw [beq_eq_false_iff_ne]; omega
  go_enter Try.func12, Try.ntmps12
  go_wp2_with fail
  go_ret2
  exact ⟨rfl, rfl⟩

theorem fitsYes (A : Option Addr) (n cap B : Nat) (ss : List ByteArray) (h : sizes ss + ss.length ≤ 4001) (w : World) (hn : n = ss.length) (hpos : 0 < n) (hm : n ≤ 1048576) (hA : Is w B A ss) (hs : ∀ p ∈ ss, p.size ≤ 1048576) :
    Calls Try.prog 31 #[.slice A n cap] w fun e w' => e = .returned (.bool true) ∧ w = w' :=
  (fits A n cap B ss w hn hpos hm hA hs).mono fun e w' ⟨hw, hh⟩ => by
    rcases hh with ⟨_, rfl⟩ | ⟨h2, _⟩
    · exact ⟨rfl, hw⟩
    · omega

theorem fitsNo (A : Option Addr) (n cap B : Nat) (ss : List ByteArray) (h : 4001 < sizes ss + ss.length) (w : World) (hn : n = ss.length) (hpos : 0 < n) (hm : n ≤ 1048576) (hA : Is w B A ss) (hs : ∀ p ∈ ss, p.size ≤ 1048576) :
    Calls Try.prog 31 #[.slice A n cap] w fun e w' => e = .returned (.bool false) ∧ w = w' :=
  (fits A n cap B ss w hn hpos hm hA hs).mono fun e w' ⟨hw, hh⟩ => by
    rcases hh with ⟨h2, _⟩ | ⟨_, rfl⟩
    · omega
    · exact ⟨rfl, hw⟩

theorem holdsYes (A : Option Addr) (n cap B : Nat) (ss : List ByteArray) (b : UInt8) (c : Int) (hcb : c = (b.toNat : Int)) (h : ∃ p ∈ ss, In b p) (w : World) (hn : n = ss.length) (hm : n ≤ 1048576) (hA : Is w B A ss) (hs : ∀ p ∈ ss, p.size ≤ 1048576) :
    Calls Try.prog 32 #[.slice A n cap, .int .u8 c] w fun e w' => e = .returned (.bool true) ∧ w = w' :=
  (holdsByte A n cap B ss b c hcb w hn hm hA hs).mono fun e w' ⟨hw, hh⟩ => by
    rcases hh with ⟨_, rfl⟩ | ⟨h2, _⟩
    · exact ⟨rfl, hw⟩
    · obtain ⟨p, hp, hi⟩ := h; exact absurd hi (h2 p hp)

theorem holdsNo (A : Option Addr) (n cap B : Nat) (ss : List ByteArray) (b : UInt8) (c : Int) (hcb : c = (b.toNat : Int)) (h : ∀ p ∈ ss, ¬ In b p) (w : World) (hn : n = ss.length) (hm : n ≤ 1048576) (hA : Is w B A ss) (hs : ∀ p ∈ ss, p.size ≤ 1048576) :
    Calls Try.prog 32 #[.slice A n cap, .int .u8 c] w fun e w' => e = .returned (.bool false) ∧ w = w' :=
  (holdsByte A n cap B ss b c hcb w hn hm hA hs).mono fun e w' ⟨hw, hh⟩ => by
    rcases hh with ⟨h2, _⟩ | ⟨_, rfl⟩
    · obtain ⟨p, hp, hi⟩ := h2; exact absurd hi (h p hp)
    · exact ⟨rfl, hw⟩

theorem bytes_more (l : List UInt8) (p : ByteArray) : Lib.byteCells l ++ Lib.strCells p = Lib.byteCells (l ++ p.data.toList) := by
  rw [Lib.byteCells_append]; rfl

set_option maxHeartbeats 2000000 in
theorem implYes (A : Option Addr) (n cap : Nat) (ss : List ByteArray) (sep : ByteArray) (b : UInt8) (hsep : Sep sep b) (w : World) (hn : n = ss.length) (hm : n ≤ 1048576) (hA : Is w w.heap.size A ss) (hs : ∀ p ∈ ss, p.size ≤ 1048576) (hj : Joins b ss) :
    Calls Try.prog 12 #[.slice A n cap, .string sep] w fun e w' => e = .returned (.tuple #[.string ⟨(joinL b ss).toArray⟩, .bool true]) ∧ Below w.heap.size w w' := by
  have hpos : 0 < n := by have := List.length_pos_iff.2 hj.1; omega
  have HN := Lib.hid hn
  clear hn
  have hidx := sep_index hsep
  have h1a : sep.size ≤ 1 := by have := hsep.size; omega
  have h1b : 1 ≤ sep.size := by have := hsep.size; omega
  have HP := Lib.hid hsep
  clear hsep
  obtain ⟨c, hc⟩ : ∃ c : Int, c = (b.toNat : Int) := ⟨_, rfl⟩
  rw [← hc] at hidx
  have HC := Lib.hid hc
  clear hc
  have HJ := Lib.hid hj
  have HZ : Hid (sizes ss + ss.length ≤ 4001) := Lib.hid (by have h2 := joinL_len b ss hj.1; have h3 := hj.2.2; omega)
  clear hj
  have hn0 : ((n : Int) == 0) = false := by rw [beq_eq_false_iff_ne]; omega
  go_enter Try.func12, Try.ntmps12
  go_wp2_with (first
    | (go_at_call 31; refine (fitsYes A n cap w.heap.size ss HZ.out _ HN.out hpos hm hA hs).mono ?_; rintro e w' ⟨rfl, rfl⟩)
    | (go_at_call 32; refine (holdsNo A n cap w.heap.size ss b c HC.out HJ.out.2.1 _ HN.out hm hA hs).mono ?_; rintro e w' ⟨rfl, rfl⟩))
  go_loopw [28] (fun i wr => ∃ (k : Nat) (l : List UInt8), k ≤ n ∧ i = .int .i64 k ∧ Lib.IsBuilder 57 5 w.heap.size w.heap.size (Lib.byteCells l) wr ∧ Hid (l = joinL b (ss.take k)) ∧ l.length ≤ 4000 ∧ Below w.heap.size w wr) (fun i _ => n - (intOf i).toNat)
  case atStart => exact ⟨0, [], Nat.zero_le _, rfl, Lib.fresh_isBuilder 57 5 w, Lib.hid rfl, Nat.zero_le _, (Below.refl _ _).alloc (Nat.le_refl _) _⟩
  case round =>
    obtain ⟨k, l, hk, rfl, hI, HL, hll, hb⟩ := hrel
    have hbs := hb.size
    by_cases hlt : k < n
    · have hk' : k < ss.length := by have := HN.out; omega
      obtain ⟨ad, rfl, hB, hcs⟩ := hA (by omega)
      obtain ⟨p, hp⟩ : ∃ p, p = ss[k] := ⟨_, rfl⟩
      have hcell : wr.cell? (ad.add k) = some (.string p) := by rw [hp]; exact (hb.cell (by rw [block_add]; exact hB)).trans (hcs k hk')
      have hps : p.size ≤ 1048576 := hs p (by rw [hp]; exact List.getElem_mem hk')
      have HE := Lib.hid hp
      clear hp hcs
      have HLE : Hid ((joinL b (ss.take (k + 1))).length ≤ 4000) := Lib.hid (by have h3 := HJ.out.2.2; have h4 := joinL_le b ss (k + 1) (by omega) (by omega); omega)
      by_cases hk0 : k < 1
      · have HL2 : Hid (l ++ p.data.toList = joinL b (ss.take (k + 1))) := Lib.hid (by
          have e : k = 0 := by omega
          rw [HL.out]
          subst e
          rw [joinL_first b ss (by omega), ← HE.out]; simp [joinL])
        go_wp2_with (go_at_call 33; refine (Builder.writeString w.heap.size w.heap.size (Lib.byteCells l) p _ hI (by rw [Lib.byteCells_length]; omega) hbs).mono ?_; rintro e w2 ⟨rfl, hI2, hb2⟩)
        go_roundw
        case rel => exact ⟨k + 1, l ++ p.data.toList, by omega, by go_num, by rw [← bytes_more]; exact hI2, Lib.hid HL2.out, by rw [HL2.out]; exact HLE.out, hb.trans hb2⟩
        case measure => simp [intOf]; omega
      · have HL2 : Hid (l ++ [b] ++ p.data.toList = joinL b (ss.take (k + 1))) := Lib.hid (by
          rw [HL.out, joinL_step b ss k hk' (by omega), ← HE.out])
        have HS : Hid (Lib.byteCells l ++ Lib.strCells sep = Lib.byteCells (l ++ [b])) := Lib.hid (by
          rw [bytes_more]; have e := HP.out; unfold Sep at e; rw [e])
        go_wp2_with (first
          | (go_at_call 33; (with_reducible refine (Builder.writeString w.heap.size w.heap.size (Lib.byteCells l) sep _ hI (by rw [Lib.byteCells_length]; omega) hbs).mono ?_); rintro e w2 ⟨rfl, hI2, hb2⟩; rw [HS.out] at hI2; have hbs2 := hb2.size; have hcell2 : w2.cell? (ad.add k) = some (.string p) := (hb2.cell (by rw [block_add]; exact hB)).trans hcell)
          | (go_at_call 33; (with_reducible refine (Builder.writeString w.heap.size w.heap.size (Lib.byteCells (l ++ [b])) p _ hI2 (by rw [Lib.byteCells_length]; simp; omega) (by omega)).mono ?_); rintro e w3 ⟨rfl, hI3, hb3⟩))
        go_roundw
        case rel => exact ⟨k + 1, l ++ [b] ++ p.data.toList, by omega, by go_num, by rw [← bytes_more]; exact hI3, Lib.hid HL2.out, by rw [HL2.out]; exact HLE.out, (hb.trans hb2).trans hb3⟩
        case measure => simp [intOf]; omega
    · have HE : Hid (ss.take k = ss) := Lib.hid (List.take_of_length_le (by have := HN.out; omega))
      go_wp2_with (go_at_call 34; refine (Try.Builder_String_any w.heap.size w.heap.size l _ hI hbs).mono ?_; rintro e w2 ⟨rfl, hb2⟩)
      go_ret2
      exact ⟨by rw [← HE.out, ← HL.out]; rfl, hb.trans hb2⟩

set_option maxHeartbeats 1000000 in
theorem implNo (A : Option Addr) (n cap : Nat) (ss : List ByteArray) (sep : ByteArray) (b : UInt8) (hsep : Sep sep b) (w : World) (hn : n = ss.length) (hpos : 0 < n) (hm : n ≤ 1048576) (hA : Is w w.heap.size A ss) (hs : ∀ p ∈ ss, p.size ≤ 1048576) (hj : ¬ Joins b ss) :
    Calls Try.prog 12 #[.slice A n cap, .string sep] w fun e w' => e = .returned (.tuple #[.string ⟨#[]⟩, .bool false]) ∧ w = w' := by
  have hne : ss ≠ [] := by intro e; rw [e] at hn; simp at hn; omega
  have hidx := sep_index hsep
  have h1a : sep.size ≤ 1 := by have := hsep.size; omega
  have h1b : 1 ≤ sep.size := by have := hsep.size; omega
  clear hsep
  obtain ⟨c, hc⟩ : ∃ c : Int, c = (b.toNat : Int) := ⟨_, rfl⟩
  rw [← hc] at hidx
  have HC := Lib.hid hc
  clear hc
  have hn0 : ((n : Int) == 0) = false := by rw [beq_eq_false_iff_ne]; omega
  by_cases hz : sizes ss + ss.length ≤ 4001
  · have HZ := Lib.hid hz
    have HI : Hid (∃ p ∈ ss, In b p) := Lib.hid (by
      apply Classical.byContradiction
      intro hno
      exact hj ⟨hne, fun p hp hi => hno ⟨p, hp, hi⟩, by have h2 := joinL_len b ss hne; omega⟩)
    have HN := Lib.hid hn
    clear hn hj hne hz
    go_enter Try.func12, Try.ntmps12
    go_wp2_with (first
      | (go_at_call 31; refine (fitsYes A n cap w.heap.size ss HZ.out _ HN.out hpos hm hA hs).mono ?_; rintro e w' ⟨rfl, rfl⟩)
      | (go_at_call 32; refine (holdsYes A n cap w.heap.size ss b c HC.out HI.out _ HN.out hm hA hs).mono ?_; rintro e w' ⟨rfl, rfl⟩))
    go_ret2
    exact ⟨rfl, rfl⟩
  · have HZ : Hid (4001 < sizes ss + ss.length) := Lib.hid (by omega)
    have HN := Lib.hid hn
    clear hn hj hne hz
    go_enter Try.func12, Try.ntmps12
    go_wp2_with (go_at_call 31; refine (fitsNo A n cap w.heap.size ss HZ.out _ HN.out hpos hm hA hs).mono ?_; rintro e w' ⟨rfl, rfl⟩)
    go_ret2
    exact ⟨rfl, rfl⟩

end Go.Proofs.Ytokikbfhjhppmaa.Join
