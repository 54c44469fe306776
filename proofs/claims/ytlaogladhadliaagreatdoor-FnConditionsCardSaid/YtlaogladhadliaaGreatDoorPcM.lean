/-
  Reading a condition from a text, in plain facts.
-/
import Derived.Test.YtlaogladhadliaaGreatDoorCondQ
import Derived.Test.YtlaogladhadliaaGreatDoorDPlain
namespace Go.Proofs.YtlaogladhadliaaGreatDoor.Cond
open Go.RowKit
set_option linter.unusedVariables false

/-- l begins with p. -/
def st (p l : List UInt8) : Bool := decide (l.take p.length = p)
theorem st_len {p l : List UInt8} (h : st p l = true) : p.length ≤ l.length := by
  have h1 : l.take p.length = p := by simpa [st] using h
  have := congrArg List.length h1
  rw [List.length_take] at this
  omega
def wNot : List UInt8 := [110, 111, 116, 32]
def wFrom : List UInt8 := [102, 114, 111, 109, 32]
def wPar : List UInt8 := [40]
def wOr : List UInt8 := [32, 111, 114, 32]
def wAnd : List UInt8 := [32, 97, 110, 100, 32]
def wEnd : List UInt8 := [41]
def wTrue : List UInt8 := [116, 114, 117, 101]
def word (l : List UInt8) : List UInt8 := l.takeWhile fun b => sgn b.toNat
abbrev ba (l : List UInt8) : ByteArray := ⟨l.toArray⟩

def rd (dt : List UInt8 → Option Int) : Nat → List UInt8 → Option (Q × List UInt8)
  | 0, _ => none
  | n + 1, l =>
    if st wNot l then (match rd dt n (l.drop 4) with | some (q, r) => some (.neg q, r) | none => none)
    else if st wFrom l then (match dt ((l.drop 5).take 10) with | some x => some (.frm x, l.drop 15) | none => none)
    else if st wPar l then
      (match rd dt n (l.drop 1) with
       | none => none
       | some (a, r) =>
         if st wOr r then (match rd dt n (r.drop 4) with | none => none | some (b, r2) => if st wEnd r2 then some (.or a b, r2.drop 1) else none)
         else if st wAnd r then (match rd dt n (r.drop 5) with | none => none | some (b, r2) => if st wEnd r2 then some (.and a b, r2.drop 1) else none)
         else none)
    else if word l = wTrue then some (.tru, l.drop 4)
    else if isNm (ba (word l)) then some (.fact (ba (word l)), l.drop (word l).length)
    else none

/-- What is known of dt. -/
def Dt (dt : List UInt8 → Option Int) : Prop := ∀ l x, dt l = some x ↔ DPlain.Is l x
theorem dt_is : ∃ dt, Dt dt := by
  classical
  refine ⟨fun l => if h : ∃ x, DPlain.Is l x then some h.choose else none, fun l x => ?_⟩
  by_cases h : ∃ x, DPlain.Is l x
  · simp only [h, dif_pos, Option.some.injEq]
    constructor
    · intro e; rw [← e]; exact h.choose_spec
    · intro e; exact h.choose_spec.uniq e
  · simp only [h, dif_neg, not_false_eq_true]
    constructor
    · intro e; cases e
    · intro e; exact absurd ⟨x, e⟩ h

theorem word_len (l : List UInt8) : (word l).length ≤ l.length := by
  unfold word
  exact (List.takeWhile_prefix _).length_le
theorem Q.size_pos (q : Q) : 1 ≤ q.size := by cases q <;> simp [Q.size] <;> omega

/-- What a reading gives. -/
structure RdIs (l : List UInt8) (q : Q) (r : List UInt8) : Prop where
  ok : q.ok
  len : r.length < l.length
  wt : q.c.wt + r.length ≤ l.length
  up : l.length ≤ r.length + 15 * q.size
  dr : r = l.drop (l.length - r.length)
theorem drop_dr {l : List UInt8} (k : Nat) (hk : k ≤ l.length) : l.drop k = l.drop (l.length - (l.drop k).length) := by
  congr 1; simp; omega
theorem RdIs.after {l : List UInt8} {k : Nat} {q : Q} {r : List UInt8} (h : RdIs (l.drop k) q r) (hk : k ≤ l.length) : r = l.drop (l.length - r.length) := by
  have h1 := h.dr
  have h2 := h.len
  rw [List.drop_drop] at h1
  rw [List.length_drop] at h1 h2
  have e : k + (l.length - k - r.length) = l.length - r.length := by omega
  rw [e] at h1
  exact h1
theorem isNm_len {l : List UInt8} (h : isNm (ba l) = true) : 1 ≤ l.length ∧ l.length ≤ 8 := by
  simp only [isNm, Bool.and_eq_true, decide_eq_true_eq] at h
  have h1 := h.1.1.1.1.1
  have h2 := h.1.1.1.1.2
  simp only [ByteArray.size, List.size_toArray] at h1 h2
  exact ⟨h1, h2⟩

theorem rd_is {dt : List UInt8 → Option Int} (hdt : Dt dt) : ∀ (n : Nat) (l : List UInt8) (q : Q) (r : List UInt8), rd dt n l = some (q, r) → RdIs l q r := by
  intro n
  induction n with
  | zero => intro l q r h; cases h
  | succ n ih =>
    intro l q r h
    unfold rd at h
    split at h
    · rename_i hs
      have hl := st_len hs
      cases hr : rd dt n (l.drop 4) with
      | none => rw [hr] at h; cases h
      | some p =>
        obtain ⟨a, r'⟩ := p
        rw [hr] at h
        simp only [Option.some.injEq, Prod.mk.injEq] at h
        obtain ⟨rfl, rfl⟩ := h
        have hi := ih _ _ _ hr
        have h1 := hi.len
        have h2 := hi.wt
        have h3 := hi.up
        rw [List.length_drop] at h1 h2 h3
        simp only [wNot, List.length_cons, List.length_nil] at hl
        refine ⟨hi.ok, by omega, ?_, ?_, hi.after (by omega)⟩
        · simp only [Q.c, C.wt, wts]; simp; omega
        · simp only [Q.size]; omega
    split at h
    · rename_i _ hs
      have hl := st_len hs
      cases hd : dt ((l.drop 5).take 10) with
      | none => rw [hd] at h; cases h
      | some x =>
        rw [hd] at h
        simp only [Option.some.injEq, Prod.mk.injEq] at h
        obtain ⟨rfl, rfl⟩ := h
        have hI := (hdt _ _).1 hd
        have h10 := hI.len
        rw [List.length_take, List.length_drop] at h10
        have hD := hI.1
        refine ⟨?_, ?_, ?_, ?_, drop_dr _ (by omega)⟩
        · simp only [Q.ok, isDy, Bool.and_eq_true, decide_eq_true_eq]
          exact ⟨hD.1, hD.2⟩
        · rw [List.length_drop]; omega
        · simp only [Q.c, C.wt, wts, List.length_drop]; simp
        · simp only [Q.size, List.length_drop]; omega
    split at h
    · rename_i _ _ hs
      have hl := st_len hs
      simp only [wPar, List.length_cons, List.length_nil] at hl
      cases hr : rd dt n (l.drop 1) with
      | none => rw [hr] at h; cases h
      | some p =>
        obtain ⟨a, r1⟩ := p
        rw [hr] at h
        have hi := ih _ _ _ hr
        have a1 := hi.len
        have a2 := hi.wt
        have a3 := hi.up
        have a4 := hi.after (by omega)
        rw [List.length_drop] at a1 a2 a3
        have key : ∀ (k : Nat) (b : Q) (r2 : List UInt8), 1 ≤ k → k ≤ 5 → 4 ≤ k → k ≤ r1.length → RdIs (r1.drop k) b r2 → st wEnd r2 = true → (r2.drop 1).length < l.length ∧ a.c.wt + b.c.wt + 2 + (r2.drop 1).length ≤ l.length ∧ l.length ≤ (r2.drop 1).length + 15 * (1 + (a.size + b.size)) ∧ r2.drop 1 = l.drop (l.length - (r2.drop 1).length) := by
          intro k b r2 k1 k5 k4 kl hb he
          have e := st_len he
          simp only [wEnd, List.length_cons, List.length_nil] at e
          have b1 := hb.len
          have b2 := hb.wt
          have b3 := hb.up
          have b4 := hb.after kl
          rw [List.length_drop] at b1 b2 b3
          refine ⟨by rw [List.length_drop]; omega, by rw [List.length_drop]; omega, by rw [List.length_drop]; omega, ?_⟩
          have c1 : r2 = l.drop (l.length - r2.length) := by
            rw [a4, List.drop_drop] at b4
            rw [List.length_drop] at b4
            have e2 : l.length - r1.length + (l.length - (l.length - r1.length) - r2.length) = l.length - r2.length := by omega
            rw [e2] at b4
            exact b4
          have c2 : r2.drop 1 = l.drop (l.length - r2.length + 1) := by
            conv => lhs; rw [c1]
            rw [List.drop_drop]
          rw [c2, List.length_drop]
          congr 1; omega
        simp only at h
        split at h
        · rename_i ho
          have hol := st_len ho
          simp only [wOr, List.length_cons, List.length_nil] at hol
          cases hb : rd dt n (r1.drop 4) with
          | none => rw [hb] at h; cases h
          | some p =>
            obtain ⟨b, r2⟩ := p
            rw [hb] at h
            simp only at h
            split at h
            · rename_i he
              simp only [Option.some.injEq, Prod.mk.injEq] at h
              obtain ⟨rfl, rfl⟩ := h
              have hbi := ih _ _ _ hb
              obtain ⟨k1, k2, k3, k4⟩ := key 4 b r2 (by omega) (by omega) (by omega) (by omega) hbi he
              exact ⟨⟨hi.ok, hbi.ok⟩, k1, by rw [List.length_drop] at k2; simp only [Q.c, C.wt, wts]; simp; omega, by simp only [Q.size]; omega, k4⟩
            · cases h
        split at h
        · rename_i _ ho
          have hol := st_len ho
          simp only [wAnd, List.length_cons, List.length_nil] at hol
          cases hb : rd dt n (r1.drop 5) with
          | none => rw [hb] at h; cases h
          | some p =>
            obtain ⟨b, r2⟩ := p
            rw [hb] at h
            simp only at h
            split at h
            · rename_i he
              simp only [Option.some.injEq, Prod.mk.injEq] at h
              obtain ⟨rfl, rfl⟩ := h
              have hbi := ih _ _ _ hb
              obtain ⟨k1, k2, k3, k4⟩ := key 5 b r2 (by omega) (by omega) (by omega) (by omega) hbi he
              exact ⟨⟨hi.ok, hbi.ok⟩, k1, by rw [List.length_drop] at k2; simp only [Q.c, C.wt, wts]; simp; omega, by simp only [Q.size]; omega, k4⟩
            · cases h
        · cases h
    have hwl := word_len l
    split at h
    · rename_i hw
      simp only [Option.some.injEq, Prod.mk.injEq] at h
      obtain ⟨rfl, rfl⟩ := h
      rw [hw] at hwl
      simp only [wTrue, List.length_cons, List.length_nil] at hwl
      exact ⟨trivial, by rw [List.length_drop]; omega, by simp only [Q.c, C.wt, wts, List.length_drop]; simp, by simp only [Q.size, List.length_drop]; omega, drop_dr _ (by omega)⟩
    split at h
    · rename_i _ hw
      simp only [Option.some.injEq, Prod.mk.injEq] at h
      obtain ⟨rfl, rfl⟩ := h
      obtain ⟨h1, h8⟩ := isNm_len hw
      refine ⟨hw, by rw [List.length_drop]; omega, ?_, by simp only [Q.size, List.length_drop]; omega, drop_dr _ hwl⟩
      simp only [Q.c, C.wt, wts, List.length_drop, ByteArray.size, List.size_toArray]; omega
    · cases h

end Go.Proofs.YtlaogladhadliaaGreatDoor.Cond
