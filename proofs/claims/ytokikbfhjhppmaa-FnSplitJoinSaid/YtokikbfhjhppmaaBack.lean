/-
  The pieces of a text, joined again, are the text; and no piece holds the separator.
-/
import Derived.Test.YtokikbfhjhppmaaSplitRes
import Derived.Test.YtokikbfhjhppmaaJoinRes
namespace Go.Proofs.Ytokikbfhjhppmaa.Back
open Go Go.Proofs.Ytokikbfhjhppmaa.Plain Go.Proofs.Ytokikbfhjhppmaa.Pieces Go.Proofs.Ytokikbfhjhppmaa.Seal Go.Proofs.Ytokikbfhjhppmaa.Join Go.Proofs.Ytokikbfhjhppmaa.SplitRes

theorem str_list (l : List UInt8) : (strOf l).data.toList = l := by simp [strOf]

theorem back_snoc (l : List UInt8) (b c : UInt8) (h : joinL b ((split b l).map strOf) = l) : joinL b ((split b (l ++ [c])).map strOf) = l ++ [c] := by
  unfold split at h ⊢
  rw [st_snoc]
  by_cases hc : c = b
  · have e : Pieces.step b (st b l) c = ((st b l).1 ++ [(st b l).2], []) := by unfold Pieces.step; rw [if_pos hc]
    rw [e, List.map_append, List.map_cons, List.map_nil, joinL_snoc _ _ _ (by simp), h, str_list, hc]
    simp
  · have e : Pieces.step b (st b l) c = ((st b l).1, (st b l).2 ++ [c]) := by unfold Pieces.step; rw [if_neg hc]
    rw [e]
    simp only [List.map_append, List.map_cons, List.map_nil] at h ⊢
    by_cases hD : (st b l).1 = []
    · rw [hD] at h ⊢
      simp only [List.map_nil, List.nil_append, joinL, List.flatten_nil, List.append_nil, str_list] at h ⊢
      rw [h]
    · have hne : (st b l).1.map strOf ≠ [] := by simpa using hD
      rw [joinL_snoc _ _ _ hne, str_list] at h ⊢
      rw [← List.append_assoc, h]

theorem back (b : UInt8) (l : List UInt8) : joinL b ((split b l).map strOf) = l := by
  have key : ∀ n (l : List UInt8), l.length = n → joinL b ((split b l).map strOf) = l := by
    intro n
    induction n with
    | zero =>
      intro l hl
      have : l = [] := List.length_eq_zero_iff.1 hl
      subst this
      simp [split, st_nil, joinL, str_list]
    | succ n ih =>
      intro l hl
      have hne : l ≠ [] := by intro e; rw [e] at hl; simp at hl
      have e := List.dropLast_concat_getLast hne
      rw [← e]
      exact back_snoc _ b _ (ih _ (by simp [hl]))
  exact key _ l rfl

theorem clean_st (b : UInt8) (l : List UInt8) : (∀ p ∈ (st b l).1, b ∉ p) ∧ b ∉ (st b l).2 := by
  have key : ∀ (l : List UInt8) (p : List (List UInt8) × List UInt8), ((∀ q ∈ p.1, b ∉ q) ∧ b ∉ p.2) → (∀ q ∈ (l.foldl (Pieces.step b) p).1, b ∉ q) ∧ b ∉ (l.foldl (Pieces.step b) p).2 := by
    intro l
    induction l with
    | nil => intro p h; exact h
    | cons c l ih =>
      intro p h
      rw [List.foldl_cons]
      refine ih _ ?_
      unfold Pieces.step
      split
      · refine ⟨fun q hq => ?_, by simp⟩
        rcases List.mem_append.1 hq with hq | hq
        · exact h.1 q hq
        · rw [List.mem_singleton.1 hq]; exact h.2
      · rename_i hc
        refine ⟨h.1, fun hq => ?_⟩
        rcases List.mem_append.1 hq with hq | hq
        · exact h.2 hq
        · exact hc (List.mem_singleton.1 hq).symm
  exact key l ([], []) ⟨by simp, by simp⟩

theorem clean (b : UInt8) (l : List UInt8) : ∀ p ∈ (split b l).map strOf, ¬ In b p := by
  intro p hp hin
  rw [in_iff] at hin
  obtain ⟨q, hq, rfl⟩ := List.mem_map.1 hp
  rw [str_list] at hin
  unfold split at hq
  rcases List.mem_append.1 hq with hq | hq
  · exact (clean_st b l).1 q hq hin
  · rw [List.mem_singleton.1 hq] at hin; exact (clean_st b l).2 hin

theorem text_eta (s : ByteArray) : (⟨s.data.toList.toArray⟩ : ByteArray) = s := rfl

/-- The pieces of a short text can be joined, and give the text. -/
theorem res_back {s sep : ByteArray} {b : UInt8} (hsep : Sep sep b) (hs : s.size ≤ 4000) : Res ((split b s.data.toList).map strOf) sep s true := by
  refine .inr (.inr (.inl ⟨b, hsep, ⟨?_, clean b _, ?_⟩, ?_, rfl⟩))
  · unfold split; simp
  · rw [back]; have := size_len s; omega
  · rw [back]

/-- Each piece is as short as the text. -/
theorem piece_le (b : UInt8) (s : ByteArray) (hs : s.size ≤ 4000) : ∀ p ∈ (split b s.data.toList).map strOf, p.size ≤ 1048576 := by
  intro p hp
  have h1 := joinL_len b ((split b s.data.toList).map strOf) (by unfold split; simp)
  rw [back] at h1
  have h2 : p.size ≤ Row.sizes ((split b s.data.toList).map strOf) := by
    generalize (split b s.data.toList).map strOf = ss at *
    clear h1
    induction ss with
    | nil => simp at hp
    | cons q r ih =>
      have h1 : Row.sizes (q :: r) = q.size + Row.sizes r := by simp [Row.sizes]
      rcases List.mem_cons.1 hp with rfl | hp
      · omega
      · have := ih hp; omega
  have h3 : ((split b s.data.toList).map strOf).length ≠ 0 := by unfold split; simp
  have := size_len s
  omega

end Go.Proofs.Ytokikbfhjhppmaa.Back
