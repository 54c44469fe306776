/-
  What AppendChecksum returns, of the model and of the program, at every string.
-/
import Derived.Test.YtokikbfhjhppmaaDoorStands
import Derived.Test.YtokikbfhjhppmaaDoorFmt
import Derived.Test.YtokikbfhjhppmaaDoorSum
import Derived.Test.YtokikbfhjhppmaaDoorIntText
import Derived.Test.YtokikbfhjhppmaaDoorLaid
import Derived.Lib.IndexLaws
namespace Go.Proofs.YtokikbfhjhppmaaDoor.Seal
open Go.RowKit Go.Proofs.YtokikbfhjhppmaaDoor.Plain Go.Proofs.YtokikbfhjhppmaaDoor.Num Go.Proofs.YtokikbfhjhppmaaDoor.Fmt Go.Proofs.YtokikbfhjhppmaaDoor.Sum Go.Proofs.YtokikbfhjhppmaaDoor.IntText

theorem indexByte_iff (s : ByteArray) (b : UInt8) : 0 ≤ Lib.indexByte s.data.toList b ↔ In b s := by
  rw [in_iff]
  constructor
  · intro h
    obtain ⟨o, ho⟩ : ∃ o : Nat, Lib.indexByte s.data.toList b = o := ⟨(Lib.indexByte s.data.toList b).toNat, by omega⟩
    exact List.mem_of_getElem? (Lib.indexByte_some ho).1
  · intro h
    have h1 := Lib.indexByte_ge s.data.toList b
    by_cases e : Lib.indexByte s.data.toList b = -1
    · obtain ⟨k, hk, e2⟩ := List.getElem_of_mem h
      exact absurd (by rw [List.getElem?_eq_getElem hk, e2]) (Lib.indexByte_none e k)
    · omega

theorem containsYes (s : ByteArray) (b : UInt8) (h : In b s) (w : World) :
    Calls Tryd.prog 32 #[.string s, .string ⟨#[b]⟩] w fun e w' => e = .returned (.bool true) ∧ w = w' :=
  (Tryd.strings_Contains_one s b w).mono fun e w' ⟨he, hw⟩ => ⟨by rw [he, decide_eq_true ((indexByte_iff s b).2 h)], hw.symm⟩

theorem containsNo (s : ByteArray) (b : UInt8) (h : ¬ In b s) (w : World) :
    Calls Tryd.prog 32 #[.string s, .string ⟨#[b]⟩] w fun e w' => e = .returned (.bool false) ∧ w = w' :=
  (Tryd.strings_Contains_one s b w).mono fun e w' ⟨he, hw⟩ => ⟨by rw [he, decide_eq_false (fun x => h ((indexByte_iff s b).1 x))], hw.symm⟩

/-- The text with its checksum. -/
def sealS (s : ByteArray) : ByteArray := s ++ ⟨#[35]⟩ ++ ⟨(Lib.itoa (sumL s.data.toList)).toArray⟩

theorem sum_le (s : ByteArray) : -999999 ≤ sumL s.data.toList ∧ sumL s.data.toList ≤ 999999 := by
  have := sumL_bd s.data.toList; omega

theorem digits_bd (s : ByteArray) : (Lib.itoa (sumL s.data.toList)).length ≤ 7 := itoa_le _ (sum_le s).1 (sum_le s).2

theorem sealS_size (s : ByteArray) : (sealS s).size = s.size + 1 + (Lib.itoa (sumL s.data.toList)).length := by
  unfold sealS
  rw [ByteArray.size_append, ByteArray.size_append]
  rfl

theorem addMark (s : ByteArray) (hs : s.size ≤ 2000000) (w : World) : (Op.stringOp .add s ⟨#[35]⟩).run Tryd.prog w = .ok (.string (s ++ ⟨#[35]⟩)) w :=
  run_string_add_sum w _ _ (by show s.size + 1 ≤ _; omega)

theorem addSum (s : ByteArray) (hs : s.size ≤ 2000000) (w : World) :
    (Op.stringOp .add (s ++ ⟨#[35]⟩) ⟨(Lib.itoa (sumL s.data.toList)).toArray⟩).run Tryd.prog w = .ok (.string (sealS s)) w :=
  run_string_add_sum w _ _ (by
    have h := digits_bd s
    rw [ByteArray.size_append]
    show s.size + 1 + (Lib.itoa (sumL s.data.toList)).toArray.size ≤ _
    rw [List.size_toArray]; omega)

theorem l1Seal (s : ByteArray) (hs : s.size ≤ 2000000) (w : World) :
    Calls Tryd.prog 34 #[.string s] w fun e w' => e = .returned (.string (sealS s)) ∧ ∃ m, w' = w.drewN m := by
  have h1 := addMark s hs
  have h2 := addSum s hs
  have hb := sum_le s
  have hm : s.size ≤ maxLen := by unfold maxLen; omega
  have HM := Lib.hid hm
  clear hm
  obtain ⟨hb0, hb1⟩ := hb
  go_enter Tryd.func34, Tryd.ntmps34
  go_wp2_with (first
    | (go_at_call 43; refine (l1Sum s _ HM.out).mono ?_; rintro e w' ⟨rfl, rfl⟩)
    | (go_at_call 25; refine (l1Num _ _ (by omega) (by omega)).mono ?_; rintro e w' ⟨rfl, q, rfl⟩))
  go_ret
  exact ⟨rfl, _, rfl⟩

/-- s can be given a checksum. -/
def Fits (s : ByteArray) : Prop := ¬ In 35 s ∧ s.size + 1 + (Lib.itoa (sumL s.data.toList)).length ≤ 4000

end Go.Proofs.YtokikbfhjhppmaaDoor.Seal
