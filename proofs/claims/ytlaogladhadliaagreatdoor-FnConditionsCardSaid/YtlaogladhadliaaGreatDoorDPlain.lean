/-
  Plain facts on reading the text of a date back. No program stands in it.
-/
import Derived.Test.YtlaogladhadliaaGreatDoorCal
import Derived.Test.YtlaogladhadliaaGreatDoorFmtPlain
import Derived.Test.YtlaogladhadliaaGreatDoorIntText
namespace Go.Proofs.YtlaogladhadliaaGreatDoor.DPlain
open Go Go.Lib Go.Proofs.YtlaogladhadliaaGreatDoor.Cal Go.Proofs.YtlaogladhadliaaGreatDoor.FmtPlain Go.Proofs.YtlaogladhadliaaGreatDoor.IntText

/-- The text of a date. -/
def text (y m d : Int) : List UInt8 := Lib.decDigits y.toNat ++ [45] ++ two m.toNat ++ [45] ++ two d.toNat

theorem dec_year (k : Nat) (h : k < 100) : decDigits (2000 + k) = 50 :: 48 :: two k := by
  rw [decDigits.eq_def, dif_neg (by omega), decDigits.eq_def ((2000 + k) / 10), dif_neg (by omega), dec_two ((2000 + k) / 10 / 10) (by omega) (by omega)]
  have e1 : (2000 + k) / 10 / 10 / 10 = 2 := by omega
  have e2 : (2000 + k) / 10 / 10 % 10 = 0 := by omega
  have e3 : (2000 + k) / 10 % 10 = k / 10 := by omega
  have e4 : (2000 + k) % 10 = k % 10 := by omega
  simp only [two, e1, e2, e3, e4]
  rfl

theorem atoi_two : ∀ i : Fin 100, atoiAll (two i.val) = .ok (i.val : Int) := by decide +kernel

theorem atoi_year (y : Int) (h : InY y) : atoiAll (decDigits y.toNat) = .ok y := by
  have h1 := atoiAll_itoa y (by have := h.1; omega) (by have := h.2; omega)
  rwa [show itoa y = decDigits y.toNat by unfold itoa; rw [if_neg (by have := h.1; omega)]] at h1

theorem atoi_small (n : Int) (h0 : 0 ≤ n) (h1 : n < 100) : atoiAll (two n.toNat) = .ok n := by
  have := atoi_two ⟨n.toNat, by omega⟩
  rw [this]; congr 1; simp; omega

theorem text_len {y m d : Int} (h : InY y) : (text y m d).length = 10 := by
  obtain ⟨k, hk, e⟩ : ∃ k : Nat, k < 100 ∧ y.toNat = 2000 + k := ⟨y.toNat - 2000, by have := h.2; omega, by have := h.1; omega⟩
  unfold text; rw [e, dec_year k hk]; rfl

/-- The parts of a text. -/
theorem parts {y m d : Int} {a0 a1 a2 a3 a4 a5 a6 a7 a8 a9 : UInt8} (hy : InY y) (h : [a0, a1, a2, a3, a4, a5, a6, a7, a8, a9] = text y m d) :
    [a0, a1, a2, a3] = decDigits y.toNat ∧ a4 = 45 ∧ [a5, a6] = two m.toNat ∧ a7 = 45 ∧ [a8, a9] = two d.toNat := by
  obtain ⟨k, hk, e⟩ : ∃ k : Nat, k < 100 ∧ y.toNat = 2000 + k := ⟨y.toNat - 2000, by have := hy.2; omega, by have := hy.1; omega⟩
  unfold text at h
  rw [e, dec_year k hk] at h ⊢
  simp only [two, List.cons_append, List.nil_append, List.cons.injEq, and_true] at h ⊢
  obtain ⟨h0, h1, h2, h3, h4, h5, h6, h7, h8, h9⟩ := h
  exact ⟨⟨h0, h1, h2, h3⟩, h4, ⟨h5, h6⟩, h7, ⟨h8, h9⟩⟩

/-- Which day a text names. -/
def Is (l : List UInt8) (n : Int) : Prop := Day n ∧ l = text (yr n) (mo n) (da n)

theorem Is.read {a0 a1 a2 a3 a4 a5 a6 a7 a8 a9 : UInt8} {n : Int} (h : Is [a0, a1, a2, a3, a4, a5, a6, a7, a8, a9] n) :
    atoiAll [a0, a1, a2, a3] = .ok (yr n) ∧ atoiAll [a5, a6] = .ok (mo n) ∧ atoiAll [a8, a9] = .ok (da n) := by
  obtain ⟨hy, hm, d1, d2⟩ := (date_is h.1).1
  obtain ⟨p1, -, p2, -, p3⟩ := parts hy h.2
  have hl := len_bd (yr n) (mo n)
  have := hm.1
  have := hm.2
  rw [p1, p2, p3]
  exact ⟨atoi_year _ hy, atoi_small _ (by omega) (by omega), atoi_small _ (by omega) (by omega)⟩

theorem Is.len {l : List UInt8} {n : Int} (h : Is l n) : l.length = 10 := by rw [h.2]; exact text_len (date_is h.1).1.1

theorem Is.num {y m d : Int} (h : Vld y m d) : Is (text y m d) (num y m d) := by
  obtain ⟨e1, e2, e3⟩ := date_of h
  exact ⟨num_day h, by rw [← e1, ← e2, ← e3]⟩

/-- A text whose parts read as a date that is not valid, or whose date has another text, names no day. -/
theorem none_of {a0 a1 a2 a3 a4 a5 a6 a7 a8 a9 : UInt8} {y m d : Int} (r1 : atoiAll [a0, a1, a2, a3] = .ok y) (r2 : atoiAll [a5, a6] = .ok m) (r3 : atoiAll [a8, a9] = .ok d)
    (h : ¬ Vld y m d ∨ [a0, a1, a2, a3, a4, a5, a6, a7, a8, a9] ≠ text y m d) (n : Int) : ¬ Is [a0, a1, a2, a3, a4, a5, a6, a7, a8, a9] n := by
  intro hi
  obtain ⟨q1, q2, q3⟩ := hi.read
  rw [r1] at q1; rw [r2] at q2; rw [r3] at q3
  injection q1 with q1; injection q2 with q2; injection q3 with q3
  subst q1 q2 q3
  rcases h with h | h
  · exact h (date_is hi.1).1
  · exact h hi.2

theorem none_1 {a0 a1 a2 a3 a4 a5 a6 a7 a8 a9 : UInt8} (r : ∀ v, atoiAll [a0, a1, a2, a3] ≠ .ok v) (n : Int) : ¬ Is [a0, a1, a2, a3, a4, a5, a6, a7, a8, a9] n := fun h => r _ h.read.1
theorem none_2 {a0 a1 a2 a3 a4 a5 a6 a7 a8 a9 : UInt8} (r : ∀ v, atoiAll [a5, a6] ≠ .ok v) (n : Int) : ¬ Is [a0, a1, a2, a3, a4, a5, a6, a7, a8, a9] n := fun h => r _ h.read.2.1
theorem none_3 {a0 a1 a2 a3 a4 a5 a6 a7 a8 a9 : UInt8} (r : ∀ v, atoiAll [a8, a9] ≠ .ok v) (n : Int) : ¬ Is [a0, a1, a2, a3, a4, a5, a6, a7, a8, a9] n := fun h => r _ h.read.2.2

theorem Is.uniq {l : List UInt8} {n k : Int} (h : Is l n) (g : Is l k) : n = k := by
  have hl := h.len
  match l, hl with
  | [a0, a1, a2, a3, a4, a5, a6, a7, a8, a9], _ =>
    obtain ⟨q1, q2, q3⟩ := h.read
    obtain ⟨p1, p2, p3⟩ := g.read
    rw [q1] at p1; rw [q2] at p2; rw [q3] at p3
    injection p1 with p1; injection p2 with p2; injection p3 with p3
    have e1 := (date_is h.1).2
    have e2 := (date_is g.1).2
    rw [p1, p2, p3, e2] at e1
    exact e1.symm

/-- Digits read back. -/
theorem dig_val {a : UInt8} {d : Nat} (h : digitVal a = some d) : a = UInt8.ofNat (48 + d) ∧ d < 10 := by
  unfold digitVal at h
  split at h
  · rename_i hd
    injection h with h
    subst h
    refine ⟨?_, by omega⟩
    have : 48 + (a.toNat - 48) = a.toNat := by omega
    rw [this]; simp
  · cases h

theorem two_of {a b : UInt8} {n : Nat} (h : decFrom 0 [a, b] = some n) : [a, b] = two n := by
  simp only [decFrom] at h
  cases ha : digitVal a with
  | none => rw [ha] at h; cases h
  | some x =>
    cases hb : digitVal b with
    | none => rw [ha, hb] at h; cases h
    | some y =>
      rw [ha, hb] at h
      simp only [Option.some.injEq] at h
      obtain ⟨e1, l1⟩ := dig_val ha
      obtain ⟨e2, l2⟩ := dig_val hb
      subst h
      rw [e1, e2]; unfold two
      rw [show (0 * 10 + x) * 10 + y = x * 10 + y by omega, show (x * 10 + y) / 10 = x by omega, show (x * 10 + y) % 10 = y by omega]

theorem year_of {a b c d : UInt8} {n : Nat} (h : decFrom 0 [a, b, c, d] = some n) (h1 : 2000 ≤ n) (h2 : n ≤ 2099) : [a, b, c, d] = decDigits n := by
  simp only [decFrom] at h
  cases ha : digitVal a with
  | none => rw [ha] at h; cases h
  | some x =>
    cases hb : digitVal b with
    | none => rw [ha, hb] at h; cases h
    | some y =>
      cases hc : digitVal c with
      | none => rw [ha, hb, hc] at h; cases h
      | some z =>
        cases hd : digitVal d with
        | none => rw [ha, hb, hc, hd] at h; cases h
        | some u =>
          rw [ha, hb, hc, hd] at h
          simp only [Option.some.injEq] at h
          obtain ⟨e1, l1⟩ := dig_val ha
          obtain ⟨e2, l2⟩ := dig_val hb
          obtain ⟨e3, l3⟩ := dig_val hc
          obtain ⟨e4, l4⟩ := dig_val hd
          have hx : x = 2 := by omega
          have hy : y = 0 := by omega
          have e := dec_year (n - 2000) (by omega)
          rw [show 2000 + (n - 2000) = n by omega] at e
          rw [e, e1, e2, e3, e4]
          unfold two
          rw [show (n - 2000) / 10 = z by omega, show (n - 2000) % 10 = u by omega, hx, hy]
          rfl

/-- What the model reads: the number, or -1. -/
def dig (l : List UInt8) : Int := match decFrom 0 l with | some n => n | none => -1

theorem dig_nat {l : List UInt8} {n : Int} (h : dig l = n) (h0 : 0 ≤ n) : decFrom 0 l = some n.toNat := by
  unfold dig at h
  cases e : decFrom 0 l with
  | none => rw [e] at h; simp at h; omega
  | some k => rw [e] at h; simp at h; subst h; simp

theorem text_of {a0 a1 a2 a3 a5 a6 a8 a9 : UInt8} (h : Vld (dig [a0, a1, a2, a3]) (dig [a5, a6]) (dig [a8, a9])) :
    [a0, a1, a2, a3, 45, a5, a6, 45, a8, a9] = text (dig [a0, a1, a2, a3]) (dig [a5, a6]) (dig [a8, a9]) := by
  obtain ⟨hy, hm, d1, d2⟩ := h
  have e1 := year_of (dig_nat (l := [a0, a1, a2, a3]) rfl (by have := hy.1; omega)) (by have := hy.1; omega) (by have := hy.2; omega)
  have e2 := two_of (dig_nat (l := [a5, a6]) rfl (by have := hm.1; omega))
  have e3 := two_of (dig_nat (l := [a8, a9]) rfl (by omega))
  unfold text
  rw [← e1, ← e2, ← e3]; rfl

theorem dig_text {y m d : Int} {a0 a1 a2 a3 a4 a5 a6 a7 a8 a9 : UInt8} (h : Vld y m d) (e : [a0, a1, a2, a3, a4, a5, a6, a7, a8, a9] = text y m d) :
    dig [a0, a1, a2, a3] = y ∧ dig [a5, a6] = m ∧ dig [a8, a9] = d ∧ a4 = 45 ∧ a7 = 45 := by
  obtain ⟨hy, hm, d1, d2⟩ := h
  obtain ⟨p1, p2, p3, p4, p5⟩ := parts hy e
  have hl := len_bd y m
  have tw : ∀ i : Fin 100, dig (two i.val) = i.val := by decide +kernel
  have m1 := hm.1
  have m2 := hm.2
  have y1 := hy.1
  refine ⟨?_, ?_, ?_, p2, p4⟩
  · rw [p1]; unfold dig; rw [decFrom_digits]; simp; omega
  · rw [p3]; have := tw ⟨m.toNat, by omega⟩; rw [this]; simp; omega
  · rw [p5]; have := tw ⟨d.toNat, by omega⟩; rw [this]; simp; omega

end Go.Proofs.YtlaogladhadliaaGreatDoor.DPlain
