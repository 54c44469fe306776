/-
  What JoinStrings returns, of the model and of the program alike.
-/
import Derived.Test.YtokikbfhjhppmaaJoinImpl
namespace Go.Proofs.Ytokikbfhjhppmaa.Join
open Go.RowKit Go.Proofs.Ytokikbfhjhppmaa.Plain Go.Proofs.Ytokikbfhjhppmaa.Seal Go.Proofs.Ytokikbfhjhppmaa.Row

/-- What the two functions return: the text R and the bool f. -/
def Res (ss : List ByteArray) (sep R : ByteArray) (f : Bool) : Prop :=
  (sep.size ≠ 1 ∧ R = ⟨#[]⟩ ∧ f = false) ∨ (sep.size = 1 ∧ ss = [] ∧ R = ⟨#[]⟩ ∧ f = false) ∨
  (∃ b, Sep sep b ∧ Joins b ss ∧ R = ⟨(joinL b ss).toArray⟩ ∧ f = true) ∨ (∃ b, Sep sep b ∧ ss ≠ [] ∧ ¬ Joins b ss ∧ R = ⟨#[]⟩ ∧ f = false)

theorem res_is (ss : List ByteArray) (sep : ByteArray) : ∃ R f, Res ss sep R f := by
  by_cases h1 : sep.size = 1
  · by_cases h2 : ss = []
    · exact ⟨_, _, .inr (.inl ⟨h1, h2, rfl, rfl⟩)⟩
    · obtain ⟨b, hb⟩ := sep_of h1
      by_cases h3 : Joins b ss
      · exact ⟨_, _, .inr (.inr (.inl ⟨b, hb, h3, rfl, rfl⟩))⟩
      · exact ⟨_, _, .inr (.inr (.inr ⟨b, hb, h2, h3, rfl, rfl⟩))⟩
  · exact ⟨_, _, .inl ⟨h1, rfl, rfl⟩⟩

theorem specRes (A : Option Addr) (n cap B : Nat) (ss : List ByteArray) (sep R : ByteArray) (f : Bool) (hr : Res ss sep R f) (w : World) (hn : n = ss.length) (hm : n ≤ 1048576) (hA : Is w B A ss) (hs : ∀ p ∈ ss, p.size ≤ 1048576) (hq : sep.size ≤ 1048576) :
    Calls Try.prog 13 #[.slice A n cap, .string sep] w fun e w' => e = .returned (.tuple #[.string R, .bool f]) ∧ ∃ m, w' = w.drewN m := by
  have hq' : sep.size ≤ maxLen := by unfold maxLen; omega
  have hm' : n ≤ maxLen := by unfold maxLen; omega
  rcases hr with ⟨h1, rfl, rfl⟩ | ⟨h1, h2, rfl, rfl⟩ | ⟨b, hb, hj, rfl, rfl⟩ | ⟨b, hb, h2, hj, rfl, rfl⟩
  · exact (specBad A n cap sep w h1 hq' hm').mono fun e w' ⟨he, hw⟩ => ⟨he, 0, hw.symm⟩
  · exact (specNone A n cap sep w (by rw [hn, h2]; simp) h1 hq' hm').mono fun e w' ⟨he, hw⟩ => ⟨he, 0, hw.symm⟩
  · refine (specJoin A n cap B ss sep b hb w hn (by have := List.length_pos_iff.2 hj.1; omega) hm hA hs).mono fun e w' h => ?_
    rcases h with ⟨hw, ⟨_, he⟩ | ⟨hno, _⟩⟩
    · exact ⟨he, hw⟩
    · exact absurd hj hno
  · refine (specJoin A n cap B ss sep b hb w hn (by have := List.length_pos_iff.2 h2; omega) hm hA hs).mono fun e w' h => ?_
    rcases h with ⟨hw, ⟨hyes, _⟩ | ⟨_, he⟩⟩
    · exact absurd hyes hj
    · exact ⟨he, hw⟩

theorem implRes (A : Option Addr) (n cap : Nat) (ss : List ByteArray) (sep R : ByteArray) (f : Bool) (hr : Res ss sep R f) (w : World) (hn : n = ss.length) (hm : n ≤ 1048576) (hA : Is w w.heap.size A ss) (hs : ∀ p ∈ ss, p.size ≤ 1048576) (hq : sep.size ≤ 1048576) :
    Calls Try.prog 12 #[.slice A n cap, .string sep] w fun e w' => e = .returned (.tuple #[.string R, .bool f]) ∧ Below w.heap.size w w' := by
  have hq' : sep.size ≤ maxLen := by unfold maxLen; omega
  have hm' : n ≤ maxLen := by unfold maxLen; omega
  rcases hr with ⟨h1, rfl, rfl⟩ | ⟨h1, h2, rfl, rfl⟩ | ⟨b, hb, hj, rfl, rfl⟩ | ⟨b, hb, h2, hj, rfl, rfl⟩
  · by_cases h0 : n < 1
    · exact (implNone A n cap sep w h0 hq' hm').mono fun e w' ⟨he, hw⟩ => ⟨he, by rw [← hw]; exact Below.refl _ _⟩
    · exact (implBad A n cap sep w (by omega) h1 hq' hm').mono fun e w' ⟨he, hw⟩ => ⟨he, by rw [← hw]; exact Below.refl _ _⟩
  · exact (implNone A n cap sep w (by rw [hn, h2]; simp) hq' hm').mono fun e w' ⟨he, hw⟩ => ⟨he, by rw [← hw]; exact Below.refl _ _⟩
  · exact implYes A n cap ss sep b hb w hn hm hA hs hj
  · exact (implNo A n cap ss sep b hb w hn (by have := List.length_pos_iff.2 h2; omega) hm hA hs hj).mono fun e w' ⟨he, hw⟩ => ⟨he, by rw [← hw]; exact Below.refl _ _⟩

end Go.Proofs.Ytokikbfhjhppmaa.Join
