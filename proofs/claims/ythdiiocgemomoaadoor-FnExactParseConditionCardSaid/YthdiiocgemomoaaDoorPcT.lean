/-
  read of the program's reader gives what rd says.
-/
import Derived.Test.YthdiiocgemomoaaDoorPcQ
namespace Go.Proofs.YthdiiocgemomoaaDoor.Cond
open Go.RowKit
set_option linter.unusedVariables false

theorem nnot {l : List UInt8} (h : word l ≠ [110, 111, 116]) : st wNot l = false := by
  cases h1 : st wNot l with
  | false => rfl
  | true => exact absurd (word_not h1) h
theorem nfrom {l : List UInt8} (h : word l ≠ [102, 114, 111, 109]) : st wFrom l = false := by
  cases h1 : st wFrom l with
  | false => rfl
  | true => exact absurd (word_from h1) h

theorem sub_all {dt : List UInt8 → Option Int} (hdt : Dt dt) {b : Nat} {W : World} (hT : Tab.Tab W) (hLi : LiesD.Lies W) (hbW : W.heap.size ≤ b) : ∀ n, n ≤ 1100000 → Sub dt n b W := by
  intro n
  induction n with
  | zero => intro _; exact ⟨fun l L q r v h => (by cases h), fun l L v _ _ h => (by omega)⟩
  | succ n ih =>
    intro hn
    have hS := ih (by omega)
    refine ⟨fun l L q r v hrd hq hL hl hR hW => ?_, fun l L v hb hL hl hR hW => ?_⟩
    · obtain ⟨M, rfl⟩ : ∃ M, L = M + 1 := ⟨L - 1, by have := q.size_pos; omega⟩
      cases hP : st wPar l with
      | true =>
        have hw := word_par hP
        have hlp := st_len hP
        simp only [wPar, List.length_cons, List.length_nil] at hlp
        rw [rd_par (nnot (by rw [hw]; decide)) (nfrom (by rw [hw]; decide)) hP] at hrd
        exact rPairG hbW l M v (by omega) (by omega) hR hW hP q r (M + 1 - q.size) (fun v' hR' hW' => (pair_all hdt hS hbW (l.drop 1) M v' (by omega) (by rw [List.length_drop]; omega) hR' hW').1 q r hrd hq)
      | false =>
        by_cases hf : word l = [102, 114, 111, 109]
        · have h1 : st wNot l = false := nnot (by rw [hf]; decide)
          cases hs : st [32] (l.drop 4) with
          | false =>
            rw [rd_word h1 (by rw [st_from hf, hs]) hP, if_neg (by rw [hf]; decide), hf, nm_from] at hrd
            simp at hrd
          | true =>
            rw [rd_from h1 (by rw [st_from hf, hs])] at hrd
            cases hd : dt ((l.drop 5).take 10) with
            | none => rw [hd] at hrd; cases hrd
            | some d =>
              rw [hd] at hrd
              simp only [Option.some.injEq, Prod.mk.injEq] at hrd
              obtain ⟨rfl, rfl⟩ := hrd
              refine rFromG hbW l M v (by omega) (by omega) hR hW hP hf (.frm d) (l.drop 15) (M + 1 - (Q.frm d).size) (fun v' hR' hW' => ?_)
              rw [hf] at hR'
              have := fromGood hdt hT hLi hbW (l.drop 4) M v' hs d (by rw [List.drop_drop]; exact hd) (by rw [List.length_drop]; omega) hR' hW'
              rw [List.drop_drop] at this
              have e : M + 1 - (Q.frm d).size = M := by simp only [Q.size]; omega
              rw [e]; exact this
        by_cases hnt : word l = [110, 111, 116]
        · have h2 : st wFrom l = false := nfrom hf
          cases hs : st [32] (l.drop 3) with
          | false =>
            rw [rd_word (by rw [st_not hnt, hs]) h2 hP, if_neg (by rw [hnt]; decide), hnt, nm_not] at hrd
            simp at hrd
          | true =>
            have hlp := st_len hs
            simp only [List.length_cons, List.length_nil, List.length_drop] at hlp
            rw [rd_not (by rw [st_not hnt, hs])] at hrd
            cases hd : rd dt n (l.drop 4) with
            | none => rw [hd] at hrd; cases hrd
            | some p =>
              obtain ⟨q', r'⟩ := p
              rw [hd] at hrd
              simp only [Option.some.injEq, Prod.mk.injEq] at hrd
              obtain ⟨rfl, rfl⟩ := hrd
              simp only [Q.size] at hq
              refine rNotG hbW l M v (by omega) (by omega) hR hW hP hnt (.neg q') r' (M + 1 - (Q.neg q').size) (fun v' hR' hW' => ?_)
              rw [hnt] at hR'
              have := notGood hS hbW (l.drop 3) M q' r' v' hs (by rw [List.drop_drop]; exact hd) (by omega) (by omega) (by rw [List.length_drop]; omega) hR' hW'
              have e : M + 1 - (Q.neg q').size = M - q'.size := by simp only [Q.size]; omega
              rw [e]; exact this
        rw [rd_word (nnot hnt) (nfrom hf) hP] at hrd
        by_cases htr : word l = wTrue
        · rw [if_pos htr] at hrd
          simp only [Option.some.injEq, Prod.mk.injEq] at hrd
          obtain ⟨rfl, rfl⟩ := hrd
          exact rTrue hbW l M v (by omega) (by omega) hR hW hP htr
        · rw [if_neg htr] at hrd
          cases hg : isNm (ba (word l)) with
          | false => rw [hg] at hrd; simp at hrd
          | true =>
            rw [hg, if_pos rfl] at hrd
            simp only [Option.some.injEq, Prod.mk.injEq] at hrd
            obtain ⟨rfl, rfl⟩ := hrd
            exact rFactG hbW l M v (by omega) (by omega) hR hW hP htr hf hnt hg
    · cases L with
      | zero => exact rZero l v hR
      | succ M =>
        cases hP : st wPar l with
        | true =>
          have hw := word_par hP
          have hlp := st_len hP
          simp only [wPar, List.length_cons, List.length_nil] at hlp
          refine rPairB hbW l M v (by omega) (by omega) hR hW hP (fun v' hR' hW' => (pair_all hdt hS hbW (l.drop 1) M v' (by omega) (by rw [List.length_drop]; omega) hR' hW').2 fun q r h => hb q r ?_)
          rw [rd_par (nnot (by rw [hw]; decide)) (nfrom (by rw [hw]; decide)) hP]
          exact h
        | false =>
          by_cases hf : word l = [102, 114, 111, 109]
          · have h1 : st wNot l = false := nnot (by rw [hf]; decide)
            refine rFromB hbW l M v (by omega) (by omega) hR hW hP hf (fun v' hR' hW' => ?_)
            rw [hf] at hR'
            cases hs : st [32] (l.drop 4) with
            | false => exact fromNo hbW (l.drop 4) M v' hs hR' hW'
            | true =>
              cases hd : dt ((l.drop 5).take 10) with
              | none => exact fromBad hdt hT hLi hbW (l.drop 4) M v' hs (by rw [List.drop_drop]; exact hd) (by rw [List.length_drop]; omega) hR' hW'
              | some d =>
                have := hb (.frm d) (l.drop 15) (by rw [rd_from h1 (by rw [st_from hf, hs]), hd])
                simp only [Q.size] at this
                omega
          by_cases hnt : word l = [110, 111, 116]
          · refine rNotB hbW l M v (by omega) (by omega) hR hW hP hnt (fun v' hR' hW' => ?_)
            rw [hnt] at hR'
            cases hs : st [32] (l.drop 3) with
            | false => exact notNo hbW (l.drop 3) M v' hs hR' hW'
            | true =>
              refine notBad hS hbW (l.drop 3) M v' hs (fun q r h => ?_) (by omega) (by rw [List.length_drop]; omega) hR' hW'
              rw [List.drop_drop] at h
              have := hb (.neg q) r (by rw [rd_not (by rw [st_not hnt, hs])]; show (match rd dt n (l.drop 4) with | some (q, r) => some (Q.neg q, r) | none => none) = _; rw [h])
              simp only [Q.size] at this
              omega
          by_cases htr : word l = wTrue
          · have := hb .tru (l.drop 4) (by rw [rd_word (nnot hnt) (nfrom hf) hP, if_pos htr])
            simp only [Q.size] at this
            omega
          · cases hg : isNm (ba (word l)) with
            | false => exact rFactB hbW l M v (by omega) (by omega) hR hW hP htr hf hnt hg
            | true =>
              have := hb (.fact (ba (word l))) (l.drop (word l).length) (by rw [rd_word (nnot hnt) (nfrom hf) hP, if_neg htr, if_pos hg])
              simp only [Q.size] at this
              omega

end Go.Proofs.YthdiiocgemomoaaDoor.Cond
