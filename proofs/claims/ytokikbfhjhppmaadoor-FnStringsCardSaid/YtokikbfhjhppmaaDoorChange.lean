/-
  Plain facts: a text with its checksum, one byte of which is changed, is no text with its checksum. No program stands in it.
-/
import Derived.Test.YtokikbfhjhppmaaDoorVerify
namespace Go.Proofs.YtokikbfhjhppmaaDoor.Change
open Go Go.Proofs.YtokikbfhjhppmaaDoor.Plain Go.Proofs.YtokikbfhjhppmaaDoor.Seal Go.Proofs.YtokikbfhjhppmaaDoor.Pieces Go.Proofs.YtokikbfhjhppmaaDoor.Verify Go.Proofs.YtokikbfhjhppmaaDoor.IntText

def stepS (h : Int) (c : UInt8) : Int := (41 * h + (c.toNat : Int) + 1) % 999979

theorem fold_inj (r : List UInt8) : ∀ h1 h2 : Int, 0 ≤ h1 → h1 < 999979 → 0 ≤ h2 → h2 < 999979 → r.foldl stepS h1 = r.foldl stepS h2 → h1 = h2 := by
  induction r with
  | nil => intro h1 h2 _ _ _ _ e; exact e
  | cons c r ih =>
    intro h1 h2 a1 b1 a2 b2 e
    simp only [List.foldl_cons] at e
    have h := ih (stepS h1 c) (stepS h2 c) (by unfold stepS; omega) (by unfold stepS; omega) (by unfold stepS; omega) (by unfold stepS; omega) e
    unfold stepS at h
    omega

theorem sum_fold (l : List UInt8) : sumL l = l.foldl stepS 7 := rfl

theorem sum_change (a r : List UInt8) (c d : UInt8) (h : c ≠ d) : sumL (a ++ c :: r) ≠ sumL (a ++ d :: r) := by
  intro e
  rw [sum_fold, sum_fold, List.foldl_append, List.foldl_append, List.foldl_cons, List.foldl_cons] at e
  have hb := sumL_bd a
  rw [sum_fold] at hb
  have hc := UInt8.toNat_lt c
  have hd := UInt8.toNat_lt d
  have h1 := fold_inj r _ _ (by unfold stepS; omega) (by unfold stepS; omega) (by unfold stepS; omega) (by unfold stepS; omega) e
  unfold stepS at h1
  apply h
  apply UInt8.toNat_inj.1
  omega

theorem decFrom_all (l : List UInt8) : ∀ (acc n : Nat), Lib.decFrom acc l = some n → ∀ b ∈ l, 48 ≤ b.toNat ∧ b.toNat ≤ 57 := by
  induction l with
  | nil => intro _ _ _ b hb; simp at hb
  | cons a t ih =>
    intro acc n h b hb
    rcases List.mem_cons.1 hb with rfl | hb
    · exact decFrom_head _ t acc n h
    · simp only [Lib.decFrom] at h
      cases hd : Lib.digitVal a with
      | none => rw [hd] at h; cases h
      | some d => rw [hd] at h; exact ih _ _ h b hb

theorem digits_free (l : List UInt8) : (35 : UInt8) ∉ Lib.itoa (sumL l) := by
  have hb := sumL_bd l
  unfold Lib.itoa
  rw [if_neg (by omega)]
  intro h
  have := decFrom_all _ 0 _ (decFrom_digits (sumL l).toNat) 35 h
  exact absurd this.1 (by decide)

theorem seal_list (s : ByteArray) : (sealS s).data.toList = s.data.toList ++ 35 :: Lib.itoa (sumL s.data.toList) := by
  unfold sealS
  rw [ByteArray.data_append, ByteArray.data_append]
  simp

/-- In X, the mark, D there is one mark. -/
theorem mark_at {X D : List UInt8} (hX : (35 : UInt8) ∉ X) (hD : (35 : UInt8) ∉ D) (i : Nat) : (X ++ 35 :: D)[i]? = some 35 ↔ i = X.length := by
  constructor
  · intro h
    rcases Nat.lt_trichotomy i X.length with hl | he | hg
    · rw [List.getElem?_append_left hl] at h
      exact absurd (List.mem_of_getElem? h) hX
    · exact he
    · rw [List.getElem?_append_right (by omega), show i - X.length = (i - X.length - 1) + 1 by omega, List.getElem?_cons_succ] at h
      exact absurd (List.mem_of_getElem? h) hD
  · rintro rfl
    simp

theorem cand_seal {x : ByteArray} (hx : ¬ In 35 x) : cand (sealS x) = x := by
  rw [in_iff] at hx
  unfold cand
  rw [seal_list, ahead_at (o := x.data.toList.length) (by simp) (fun k hk => by
    rw [List.getElem?_append_left hk]
    intro h
    exact hx (List.mem_of_getElem? h)), List.take_left]

theorem opens_seal {x : ByteArray} (h : Fits x) : Opens (sealS x) :=
  ⟨by rw [sealS_size]; exact h.2, by rw [cand_seal h.1]⟩

theorem detect {x y' : ByteArray} (hf : Fits x) (k : Nat) (c : UInt8) (hk : k < (sealS x).size) (hc : (sealS x).data.toList[k]? ≠ some c) (hy : y'.data.toList = (sealS x).data.toList.set k c) : ¬ Opens y' := by
  intro ho
  have hX : (35 : UInt8) ∉ x.data.toList := by have := hf.1; rwa [in_iff] at this
  have hX' : (35 : UInt8) ∉ (cand y').data.toList := by have := cand_free y'; rwa [in_iff] at this
  have e' : y'.data.toList = (cand y').data.toList ++ 35 :: Lib.itoa (sumL (cand y').data.toList) := by
    have := seal_list (cand y'); rwa [ho.2] at this
  have e := seal_list x
  rw [size_len, e] at hk
  rw [e] at hc hy
  rw [e'] at hy
  generalize x.data.toList = X at *
  generalize (cand y').data.toList = X' at *
  have hD := digits_free X
  have hD' := digits_free X'
  have m := mark_at hX hD
  have m' := mark_at hX' hD'
  have hset : ∀ i, (X' ++ 35 :: Lib.itoa (sumL X'))[i]? = if i = k then some c else (X ++ 35 :: Lib.itoa (sumL X))[i]? := by
    intro i
    rw [hy, List.getElem?_set]
    by_cases h : k = i
    · subst h; rw [if_pos rfl, if_pos hk, if_pos rfl]
    · simp [h, Ne.symm h]
  have hlen : X'.length + 1 + (Lib.itoa (sumL X')).length = X.length + 1 + (Lib.itoa (sumL X)).length := by
    have := congrArg List.length hy
    simp at this; omega
  by_cases hp : X'.length = X.length
  · have hkp : k ≠ X.length := by
      intro h
      have h1 := (m' X.length).2 hp.symm
      rw [hset, if_pos h.symm] at h1
      exact hc (by rw [(m k).2 h]; exact h1.symm)
    rcases Nat.lt_or_gt_of_ne hkp with hl | hg
    · -- in the text: the sums differ, the digits are the same
      rw [List.set_append_left _ _ hl] at hy
      have hs := List.append_inj hy (by simp; omega)
      have h2 : Lib.itoa (sumL X') = Lib.itoa (sumL X) := by simpa using hs.2
      have h3 : sumL X' = sumL X := by
        have a := atoi_itoa (sumL X'); rw [h2, atoi_itoa] at a; injection a with a; exact a.symm
      rw [hs.1] at h3
      have h4 : X = X.take k ++ X[k] :: X.drop (k + 1) := by rw [List.getElem_cons_drop, List.take_append_drop]
      have h5 : X.set k c = X.take k ++ c :: X.drop (k + 1) := by rw [List.set_eq_take_append_cons_drop, if_pos hl]
      rw [h5] at h3
      conv at h3 => rhs; rw [h4]
      refine sum_change _ _ _ _ ?_ h3
      intro h
      exact hc (by rw [List.getElem?_append_left hl, List.getElem?_eq_getElem hl, h])
    · -- in the digits: the text is the same, so are the digits
      rw [List.set_append_right _ _ (by omega)] at hy
      have hs := List.append_inj hy hp
      have h1 : Lib.itoa (sumL X') = Lib.itoa (sumL X) := by rw [hs.1]
      have h6 := hset k
      rw [if_pos rfl, h1, hs.1] at h6
      exact hc h6
  · -- the mark stands elsewhere
    have h1 := (m' X'.length).2 rfl
    have hk1 : X'.length = k := by
      apply Classical.byContradiction
      intro h
      rw [hset, if_neg h] at h1
      exact hp ((m _).1 h1)
    have h2 := (m X.length).2 rfl
    have h3 : (X' ++ 35 :: Lib.itoa (sumL X'))[X.length]? = some 35 := by rw [hset, if_neg (by omega)]; exact h2
    exact hp ((m' _).1 h3).symm

end Go.Proofs.YtokikbfhjhppmaaDoor.Change
