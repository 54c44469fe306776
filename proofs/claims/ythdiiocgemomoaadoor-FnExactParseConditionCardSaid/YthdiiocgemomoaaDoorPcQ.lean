/-
  read of the program's reader, whole.
-/
import Derived.Test.YthdiiocgemomoaaDoorPcO
import Derived.Test.YthdiiocgemomoaaDoorPcP
namespace Go.Proofs.YthdiiocgemomoaaDoor.Cond
open Go.RowKit
set_option linter.unusedVariables false

/-- What readPair reads. -/
def pr (dt : List UInt8 → Option Int) (n : Nat) (l : List UInt8) : Option (Q × List UInt8) :=
  match rd dt n l with
  | none => none
  | some (a, r) =>
    if st wOr r then (match rd dt n (r.drop 4) with | none => none | some (b, r2) => if st wEnd r2 then some (.or a b, r2.drop 1) else none)
    else if st wAnd r then (match rd dt n (r.drop 5) with | none => none | some (b, r2) => if st wEnd r2 then some (.and a b, r2.drop 1) else none)
    else none

theorem pair_all {dt : List UInt8 → Option Int} (hdt : Dt dt) {n b : Nat} {W : World} (hS : Sub dt n b W) (hbW : W.heap.size ≤ b) (l : List UInt8) (L : Nat) (w : World) (hL : L ≤ 15) (hl : l.length < n) (h : Rr b w l L) (hW : Below W.heap.size W w) :
    (∀ q r, pr dt n l = some (q, r) → q.size ≤ L + 1 → Calls Tryd.prog 22 #[.pointer (some ⟨b, 0, none⟩)] w (PG b q r (L + 1 - q.size) w)) ∧
    ((∀ q r, pr dt n l = some (q, r) → L + 1 < q.size) → Calls Tryd.prog 22 #[.pointer (some ⟨b, 0, none⟩)] w (PB b w)) := by
  cases h1 : rd dt n l with
  | none =>
    refine ⟨fun q r hp => ?_, fun _ => pairNone hS hbW l L w (fun q r e => by rw [h1] at e; cases e) hL hl h hW⟩
    rw [pr, h1] at hp; cases hp
  | some p =>
    obtain ⟨qa, r1⟩ := p
    have hi1 := rd_is hdt n l qa r1 h1
    by_cases hqa : qa.size ≤ L
    · have hr1 := hi1.len
      cases hA : st wAnd r1 with
      | true =>
        have hO := or_and hA
        have hpr : pr dt n l = match rd dt n (r1.drop 5) with | none => none | some (b, r2) => if st wEnd r2 then some (.and qa b, r2.drop 1) else none := by
          rw [pr, h1]; simp only [hO, hA, if_true, if_false, Bool.false_eq_true]
        cases h2 : rd dt n (r1.drop 5) with
        | none =>
          rw [h2] at hpr
          exact ⟨fun q r hp => (by rw [hpr] at hp; cases hp), fun _ => andBad hS hbW l L w qa r1 h1 hqa hr1 hA (fun q r e => by rw [h2] at e; cases e) hL hl h hW⟩
        | some p2 =>
          obtain ⟨qb, r2⟩ := p2
          rw [h2] at hpr
          by_cases hqb : qb.size ≤ L - qa.size
          · cases hE : st wEnd r2 with
            | true =>
              simp only [hE, if_true] at hpr
              refine ⟨fun q r hp hq => ?_, fun hb => ?_⟩
              · rw [hpr] at hp
                simp only [Option.some.injEq, Prod.mk.injEq] at hp
                obtain ⟨rfl, rfl⟩ := hp
                have := andGood hS hbW l L w qa r1 h1 hqa hr1 hA qb r2 h2 hqb hE hL hl h hW
                have e : L + 1 - (Q.and qa qb).size = L - qa.size - qb.size := by simp only [Q.size]; omega
                rw [e]; exact this
              · have := hb _ _ hpr
                simp only [Q.size] at this
                omega
            | false =>
              simp only [hE, if_false, Bool.false_eq_true] at hpr
              exact ⟨fun q r hp => (by rw [hpr] at hp; cases hp), fun _ => andOpen hS hbW l L w qa r1 h1 hqa hr1 hA qb r2 h2 hqb hE hL hl h hW⟩
          · refine ⟨fun q r hp hq => ?_, fun _ => andBad hS hbW l L w qa r1 h1 hqa hr1 hA (fun q r e => by rw [h2] at e; simp only [Option.some.injEq, Prod.mk.injEq] at e; obtain ⟨rfl, rfl⟩ := e; omega) hL hl h hW⟩
            rw [hpr] at hp
            simp only at hp
            split at hp
            · simp only [Option.some.injEq, Prod.mk.injEq] at hp
              obtain ⟨rfl, rfl⟩ := hp
              simp only [Q.size] at hq
              omega
            · cases hp
      | false =>
        cases hO : st wOr r1 with
        | false =>
          have hpr : pr dt n l = none := by
            rw [pr, h1]; simp only [hO, hA, if_false, Bool.false_eq_true]
          exact ⟨fun q r hp => (by rw [hpr] at hp; cases hp), fun _ => pairNo hS hbW l L w qa r1 h1 hqa hr1 hA hO hL hl h hW⟩
        | true =>
          have hpr : pr dt n l = match rd dt n (r1.drop 4) with | none => none | some (b, r2) => if st wEnd r2 then some (.or qa b, r2.drop 1) else none := by
            rw [pr, h1]; simp only [hO, if_true]
          cases h2 : rd dt n (r1.drop 4) with
          | none =>
            rw [h2] at hpr
            exact ⟨fun q r hp => (by rw [hpr] at hp; cases hp), fun _ => orBad hS hbW l L w qa r1 h1 hqa hr1 hA hO (fun q r e => by rw [h2] at e; cases e) hL hl h hW⟩
          | some p2 =>
            obtain ⟨qb, r2⟩ := p2
            rw [h2] at hpr
            by_cases hqb : qb.size ≤ L - qa.size
            · cases hE : st wEnd r2 with
              | true =>
                simp only [hE, if_true] at hpr
                refine ⟨fun q r hp hq => ?_, fun hb => ?_⟩
                · rw [hpr] at hp
                  simp only [Option.some.injEq, Prod.mk.injEq] at hp
                  obtain ⟨rfl, rfl⟩ := hp
                  have := orGood hS hbW l L w qa r1 h1 hqa hr1 hA hO qb r2 h2 hqb hE hL hl h hW
                  have e : L + 1 - (Q.or qa qb).size = L - qa.size - qb.size := by simp only [Q.size]; omega
                  rw [e]; exact this
                · have := hb _ _ hpr
                  simp only [Q.size] at this
                  omega
              | false =>
                simp only [hE, if_false, Bool.false_eq_true] at hpr
                exact ⟨fun q r hp => (by rw [hpr] at hp; cases hp), fun _ => orOpen hS hbW l L w qa r1 h1 hqa hr1 hA hO qb r2 h2 hqb hE hL hl h hW⟩
            · refine ⟨fun q r hp hq => ?_, fun _ => orBad hS hbW l L w qa r1 h1 hqa hr1 hA hO (fun q r e => by rw [h2] at e; simp only [Option.some.injEq, Prod.mk.injEq] at e; obtain ⟨rfl, rfl⟩ := e; omega) hL hl h hW⟩
              rw [hpr] at hp
              simp only at hp
              split at hp
              · simp only [Option.some.injEq, Prod.mk.injEq] at hp
                obtain ⟨rfl, rfl⟩ := hp
                simp only [Q.size] at hq
                omega
              · cases hp
    · refine ⟨fun q r hp hq => ?_, fun _ => pairNone hS hbW l L w (fun q r e => by rw [h1] at e; simp only [Option.some.injEq, Prod.mk.injEq] at e; obtain ⟨rfl, rfl⟩ := e; omega) hL hl h hW⟩
      exfalso
      have hpos : ∀ b : Q, 1 ≤ b.size := Q.size_pos
      rw [pr, h1] at hp
      simp only at hp
      split at hp
      · cases h2 : rd dt n (r1.drop 4) with
        | none => rw [h2] at hp; cases hp
        | some p2 =>
          obtain ⟨qb, r2⟩ := p2
          rw [h2] at hp
          simp only at hp
          split at hp
          · simp only [Option.some.injEq, Prod.mk.injEq] at hp
            obtain ⟨rfl, rfl⟩ := hp
            have := hpos qb
            simp only [Q.size] at hq
            omega
          · cases hp
      split at hp
      · cases h2 : rd dt n (r1.drop 5) with
        | none => rw [h2] at hp; cases hp
        | some p2 =>
          obtain ⟨qb, r2⟩ := p2
          rw [h2] at hp
          simp only at hp
          split at hp
          · simp only [Option.some.injEq, Prod.mk.injEq] at hp
            obtain ⟨rfl, rfl⟩ := hp
            have := hpos qb
            simp only [Q.size] at hq
            omega
          · cases hp
      · cases hp

end Go.Proofs.YthdiiocgemomoaaDoor.Cond
