/-
  Implication in plain facts: subsets of a list of names by the bits of a number; what ImpliesCondition answers.
-/
import Derived.Test.YthdiiocgemomoaaKnF
namespace Go.Proofs.Ythdiiocgemomoaa.Cond
open Go.RowKit Go.Proofs.Ythdiiocgemomoaa.NdI Go.Proofs.Ythdiiocgemomoaa.NdS
set_option linter.unusedVariables false

/-- The names whose bits are set. -/
def sub (N : List (List UInt8)) (m : Nat) : Nat → List (List UInt8)
  | 0 => []
  | k + 1 => sub N m k ++ (if m.testBit k then [N.getD k []] else [])
theorem mem_sub (N : List (List UInt8)) (m : Nat) (x : List UInt8) : ∀ k, x ∈ sub N m k ↔ ∃ i, i < k ∧ m.testBit i = true ∧ N.getD i [] = x
  | 0 => by simp [sub]
  | k + 1 => by
    rw [sub, List.mem_append, mem_sub N m x k]
    constructor
    · rintro (⟨i, h1, h2, h3⟩ | h)
      · exact ⟨i, by omega, h2, h3⟩
      · split at h
        · rename_i hb
          exact ⟨k, by omega, hb, (List.mem_singleton.1 h).symm⟩
        · cases h
    · rintro ⟨i, h1, h2, h3⟩
      by_cases e : i = k
      · subst e
        rw [h2, if_pos rfl]
        exact .inr (List.mem_singleton.2 h3.symm)
      · exact .inl ⟨i, by omega, h2, h3⟩
theorem sub_len (N : List (List UInt8)) (m : Nat) : ∀ k, (sub N m k).length ≤ k
  | 0 => by simp [sub]
  | k + 1 => by
    have := sub_len N m k
    rw [sub, List.length_append]
    split <;> simp <;> omega
theorem has_bit {N : List (List UInt8)} (hs : N.Pairwise (· < ·)) {i : Nat} (hi : i < N.length) (x : ByteArray) (hx : x.toList = N[i]) (m : Nat) : has (UniT.strs (sub N m N.length)) x = m.testBit i := by
  rw [Bool.eq_iff_iff, has, List.any_eq_true]
  have hp := List.pairwise_iff_getElem.1 hs
  constructor
  · rintro ⟨p, hp1, hp2⟩
    obtain ⟨l, hl, rfl⟩ := List.mem_map.1 hp1
    rw [decide_eq_true_eq, Go.ByteArray.toList_eq, hx] at hp2
    obtain ⟨j, hj, hb, he⟩ := (mem_sub N m l N.length).1 hl
    have he' : N[j] = N[i] := by
      have : N.getD j [] = N[j] := by simp [List.getD, hj]
      rw [← this, he]; simpa using hp2
    have : j = i := by
      rcases Nat.lt_trichotomy j i with h | h | h
      · exact absurd (he' ▸ hp j i hj hi h) (UniTM.irr _)
      · exact h
      · exact absurd (he' ▸ hp i j hi hj h) (UniTM.irr _)
    rw [← this]; exact hb
  · intro hb
    refine ⟨⟨N[i].toArray⟩, List.mem_map.2 ⟨N[i], (mem_sub N m _ _).2 ⟨i, hi, hb, by simp [List.getD, hi]⟩, rfl⟩, ?_⟩
    rw [decide_eq_true_eq, Go.ByteArray.toList_eq, hx]

/-- The value of a condition for a set of names on a day. -/
def hv (N : List (List UInt8)) (m : Nat) (q : Q) (d : Int) : Bool := q.holds (has (UniT.strs (sub N m N.length))) d
def imp (qa qb : Q) (N : List (List UInt8)) (Ds : List Int) : Bool := (List.range (2 ^ N.length)).all fun m => Ds.all fun d => !(hv N m qa d && !hv N m qb d)
theorem imp_no {qa qb : Q} {N : List (List UInt8)} {Ds : List Int} {m : Nat} {d : Int} (hm : m < 2 ^ N.length) (hd : d ∈ Ds) (ha : hv N m qa d = true) (hb : hv N m qb d = false) : imp qa qb N Ds = false := by
  cases h : imp qa qb N Ds with
  | false => rfl
  | true =>
    have := List.all_eq_true.1 (List.all_eq_true.1 h m (List.mem_range.2 hm)) d hd
    rw [ha, hb] at this
    cases this
def okAt (qa qb : Q) (N : List (List UInt8)) (m : Nat) (d : Int) : Prop := hv N m qa d = true → hv N m qb d = true
theorem imp_yes {qa qb : Q} {N : List (List UInt8)} {Ds : List Int} (h : ∀ m, m < 2 ^ N.length → ∀ d ∈ Ds, okAt qa qb N m d) : imp qa qb N Ds = true := by
  unfold imp
  rw [List.all_eq_true]
  intro m hm
  rw [List.all_eq_true]
  intro d hd
  have := h m (List.mem_range.1 hm) d hd
  unfold okAt at this
  cases ha : hv N m qa d
  · rfl
  · rw [this ha]; rfl
theorem imp_mem {qa qb : Q} {N : List (List UInt8)} {Ds Ds' : List Int} (h : ∀ d, d ∈ Ds ↔ d ∈ Ds') : imp qa qb N Ds = imp qa qb N Ds' := by
  unfold imp
  congr 1
  funext m
  rw [Bool.eq_iff_iff, List.all_eq_true, List.all_eq_true]
  exact ⟨fun k d hd => k d ((h d).2 hd), fun k d hd => k d ((h d).1 hd)⟩

theorem facts_nms : ∀ q : Q, nms q.c = q.facts.map (·.toList)
  | .tru => by simp [Q.c, nms, nmsL, Q.facts]
  | .fact s => by simp [Q.c, nms, Q.facts]
  | .frm d => by simp [Q.c, nms, nmsL, Q.facts]
  | .neg a => by simp [Q.c, nms, nmsL, Q.facts, facts_nms a]
  | .and a b => by simp [Q.c, nms, nmsL, Q.facts, facts_nms a, facts_nms b]
  | .or a b => by simp [Q.c, nms, nmsL, Q.facts, facts_nms a, facts_nms b]

abbrev NN (a b : C) : List (List UInt8) := UniTM.uni [] (nms a ++ nms b)
abbrev DD (a b : C) : List Int := 0 :: (dys a ++ dys b)
theorem NN_pair (a b : C) : (NN a b).Pairwise (· < ·) := UniTM.pair_uni _ List.Pairwise.nil
theorem NN_two (a b : C) : UniTM.uni (UniTM.uni [] (nms a)) (nms b) = NN a b := by simp [NN, UniTM.uni]
theorem NN_len (a b : C) : (NN a b).length ≤ a.size + b.size := by
  have h := UniTM.length_uni (nms a ++ nms b) []
  have h1 := nms_len a
  have h2 := nms_len b
  simp at h
  show (UniTM.uni [] (nms a ++ nms b)).length ≤ _
  omega

/-- What ImpliesCondition answers. -/
structure ImIs (a b : C) (x y : Bool) : Prop where
  no : (a.good && b.good) = false → x = false ∧ y = false
  big : a.good = true → b.good = true → 10 < (NN a b).length → x = false ∧ y = false
  yes : ∀ qa qb : Q, a.good = true → b.good = true → (NN a b).length ≤ 10 → a = qa.c → b = qb.c → x = imp qa qb (NN a b) (DD a b) ∧ y = true
theorem qc_inj : ∀ {a b : Q}, a.c = b.c → a = b := by
  intro a
  induction a with
  | tru => intro b h; cases b <;> simp_all [Q.c]
  | fact s => intro b h; cases b <;> simp_all [Q.c]
  | frm d => intro b h; cases b <;> simp_all [Q.c]
  | neg a ih => intro b h; cases b <;> simp [Q.c] at h; rw [ih h]
  | and a c iha ihc => intro b h; cases b <;> simp [Q.c] at h; rw [iha h.1, ihc h.2]
  | or a c iha ihc => intro b h; cases b <;> simp [Q.c] at h; rw [iha h.1, ihc h.2]
theorem im_is (a b : C) : ∃ x y, ImIs a b x y := by
  cases ha : a.good with
  | false => exact ⟨false, false, ⟨fun _ => ⟨rfl, rfl⟩, fun h => (by rw [ha] at h; cases h), fun _ _ h => (by rw [ha] at h; cases h)⟩⟩
  | true =>
    cases hb : b.good with
    | false => exact ⟨false, false, ⟨fun _ => ⟨rfl, rfl⟩, fun _ h => (by rw [hb] at h; cases h), fun _ _ _ h => (by rw [hb] at h; cases h)⟩⟩
    | true =>
      obtain ⟨qa, h1, _, _⟩ := good_q ha
      obtain ⟨qb, h2, _, _⟩ := good_q hb
      by_cases hl : (NN a b).length ≤ 10
      · exact ⟨imp qa qb (NN a b) (DD a b), true, ⟨fun h => (by rw [ha, hb] at h; cases h), fun _ _ h => (by omega), fun qa' qb' _ _ _ e1 e2 => ⟨by rw [qc_inj (h1.symm.trans e1), qc_inj (h2.symm.trans e2)], rfl⟩⟩⟩
      · exact ⟨false, false, ⟨fun _ => ⟨rfl, rfl⟩, fun _ _ _ => ⟨rfl, rfl⟩, fun _ _ _ _ h => absurd h hl⟩⟩

end Go.Proofs.Ythdiiocgemomoaa.Cond
