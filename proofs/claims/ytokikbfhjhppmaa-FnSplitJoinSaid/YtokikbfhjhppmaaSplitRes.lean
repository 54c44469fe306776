/-
  What SplitString returns, the program's and the model's, at every two texts.
-/
import Derived.Test.YtokikbfhjhppmaaSplitImpl
namespace Go.Proofs.Ytokikbfhjhppmaa.SplitRes
open Go.RowKit Go.Proofs.Ytokikbfhjhppmaa.Plain Go.Proofs.Ytokikbfhjhppmaa.Pieces Go.Proofs.Ytokikbfhjhppmaa.Split Go.Proofs.Ytokikbfhjhppmaa.SplitImpl Go.Proofs.Ytokikbfhjhppmaa.Join
set_option linter.unusedVariables false

def strOf (l : List UInt8) : ByteArray := ⟨l.toArray⟩

/-- What the document asks for. -/
def Out (s sep : ByteArray) (ss : List ByteArray) (f : Bool) : Prop :=
  (∃ b, Sep sep b ∧ s.size ≤ 4000 ∧ ss = (split b s.data.toList).map strOf ∧ f = true) ∨ ((4000 < s.size ∨ sep.size ≠ 1) ∧ ss = [] ∧ f = false)

theorem out_is (s sep : ByteArray) : ∃ ss f, Out s sep ss f := by
  by_cases h1 : s.size ≤ 4000
  · by_cases h2 : sep.size = 1
    · obtain ⟨b, hb⟩ := sep_of h2
      exact ⟨_, _, .inl ⟨b, hb, h1, rfl, rfl⟩⟩
    · exact ⟨_, _, .inr ⟨.inr h2, rfl, rfl⟩⟩
  · exact ⟨_, _, .inr ⟨.inl (by omega), rfl, rfl⟩⟩

theorem Out.len {s sep : ByteArray} {ss : List ByteArray} {f : Bool} (h : Out s sep ss f) : ss.length ≤ 4001 := by
  rcases h with ⟨b, _, hs, rfl, _⟩ | ⟨_, rfl, _⟩
  · have h1 := st_len b s.data.toList
    have h2 : s.size = s.data.toList.length := (Array.length_toList (xs := s.data)).symm
    rw [List.length_map]
    unfold split
    rw [List.length_append, List.length_singleton]
    omega
  · simp

/-- The answer: a slice that owns ss, and f. -/
def Ans (w : World) (ss : List ByteArray) (f : Bool) (e : Ending) (w' : World) : Prop :=
  ∃ A cap, e = .returned (.tuple #[.slice A ss.length cap, .bool f]) ∧ w'.ownsRow w.heap.size 9 1 (.slice A ss.length cap) ss.length (ss.map Value.string) ∧ Below w.heap.size w w'

theorem ans_of {w w' : World} {b : UInt8} {l : List UInt8} {v : Value} (h : w'.ownsRow w.heap.size 9 1 v (split b l).length ((split b l).map strV)) (hb : Below w.heap.size w w') :
    Ans w ((split b l).map strOf) true (.returned (.tuple #[v, .bool true])) w' := by
  have e1 : ((split b l).map strOf).length = (split b l).length := by simp
  have e2 : ((split b l).map strOf).map Value.string = (split b l).map strV := by rw [List.map_map]; rfl
  unfold Ans
  rw [e1, e2]
  have hf : ∃ A cap, v = .slice A (split b l).length cap := by
    rcases h.2 with ⟨hv, h0⟩ | ⟨g, c, cur, hv, _⟩
    · exact ⟨none, 0, by rw [hv, h0]⟩
    · exact ⟨_, _, hv⟩
  obtain ⟨A, cap, rfl⟩ := hf
  exact ⟨A, cap, rfl, h, hb⟩

theorem ans_none (w : World) : Ans w [] false (.returned (.tuple #[.slice (some ⟨w.heap.size, 0, none⟩) 0 0, .bool false])) (w.alloc (.cells #[] 9)) :=
  ⟨some ⟨w.heap.size, 0, none⟩, 0, rfl, World.ownsRow_made w #[] 0 (Nat.le_refl _) (by unfold maxLen; omega) rfl, (Below.refl _ _).alloc (Nat.le_refl _) _⟩

set_option maxHeartbeats 1000000 in
theorem implNo (s sep : ByteArray) (w : World) (hs : s.size ≤ maxLen) (hq : sep.size ≤ maxLen) (h : 4000 < s.size ∨ sep.size ≠ 1) :
    Calls Try.prog 10 #[.string s, .string sep] w (Ans w [] false) := by
  unfold maxLen at hs hq
  by_cases h1 : 4000 < s.size
  · clear h
    go_enter Try.func10, Try.ntmps10
    go_wp2_with fail
    go_ret2
    exact ans_none w
  · have h2 : ((sep.size : Int) != 1) = true := by rw [bne_iff_ne]; omega
    clear h
    go_enter Try.func10, Try.ntmps10
    go_wp2_with fail
    go_ret2
    exact ans_none w

set_option maxHeartbeats 1000000 in
theorem specNo (s sep : ByteArray) (w : World) (hs : s.size ≤ maxLen) (hq : sep.size ≤ maxLen) (h : 4000 < s.size ∨ sep.size ≠ 1) :
    Calls Try.prog 17 #[.string s, .string sep] w (Ans w [] false) := by
  unfold maxLen at hs hq
  by_cases h1 : sep.size = 1
  · have h2 : ((sep.size : Int) != 1) = false := by rw [bne_eq_false_iff_eq]; omega
    have h3 : 4000 < s.size := by omega
    clear h h1
    go_enter Try.func17, Try.ntmps17
    go_wp2_with fail
    go_ret2
    exact ans_none w
  · have h2 : ((sep.size : Int) != 1) = true := by rw [bne_iff_ne]; omega
    clear h h1
    go_enter Try.func17, Try.ntmps17
    go_wp2_with fail
    go_ret2
    exact ans_none w

set_option maxHeartbeats 1000000 in
theorem specYes (s sep : ByteArray) (b : UInt8) (hsep : Sep sep b) (hs : s.size ≤ 4000) (w : World) :
    Calls Try.prog 17 #[.string s, .string sep] w (Ans w ((split b s.data.toList).map strOf) true) := by
  have hidx := sep_index hsep
  have h1a : sep.size ≤ 1 := by have := hsep.size; omega
  have h1b : 1 ≤ sep.size := by have := hsep.size; omega
  have hq1 : ((sep.size : Int) != 1) = false := by rw [bne_eq_false_iff_eq]; omega
  clear hsep
  obtain ⟨c, hc⟩ : ∃ c : Int, c = (b.toNat : Int) := ⟨_, rfl⟩
  rw [← hc] at hidx
  have HC := Lib.hid hc
  clear hc
  go_enter Try.func17, Try.ntmps17
  go_wp2_with (go_at_call 36; refine (l1Split s b c HC.out w (by omega)).mono ?_; rintro e w' ⟨v, rfl, hown, hb⟩)
  go_ret2
  exact ans_of hown hb

theorem implRes (s sep : ByteArray) (ss : List ByteArray) (f : Bool) (h : Out s sep ss f) (w : World) (hs : s.size ≤ maxLen) (hq : sep.size ≤ maxLen) :
    Calls Try.prog 10 #[.string s, .string sep] w (Ans w ss f) := by
  rcases h with ⟨b, hb, h1, rfl, rfl⟩ | ⟨h1, rfl, rfl⟩
  · refine ((callsIn_wide (n := 4)).1 (yes_in 4 (Nat.le_refl _) s sep b hb h1 w)).mono ?_
    rintro e w' ⟨v, rfl, hown, hbl⟩
    exact ans_of hown hbl
  · exact implNo s sep w hs hq h1

theorem specRes (s sep : ByteArray) (ss : List ByteArray) (f : Bool) (h : Out s sep ss f) (w : World) (hs : s.size ≤ maxLen) (hq : sep.size ≤ maxLen) :
    Calls Try.prog 17 #[.string s, .string sep] w (Ans w ss f) := by
  rcases h with ⟨b, hb, h1, rfl, rfl⟩ | ⟨h1, rfl, rfl⟩
  · exact specYes s sep b hb h1 w
  · exact specNo s sep w hs hq h1

end Go.Proofs.Ytokikbfhjhppmaa.SplitRes
