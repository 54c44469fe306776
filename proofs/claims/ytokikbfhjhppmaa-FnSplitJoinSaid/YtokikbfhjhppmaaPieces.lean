/-
  Plain facts on the pieces of a text between separators. No program stands in it.
-/
import Derived.Test.YtokikbfhjhppmaaPlain
namespace Go.Proofs.Ytokikbfhjhppmaa.Pieces
open Go Go.Proofs.Ytokikbfhjhppmaa.Plain

/-- One letter more: the pieces that are complete, and the one that is open. -/
def step (b : UInt8) (p : List (List UInt8) × List UInt8) (c : UInt8) : List (List UInt8) × List UInt8 :=
  if c = b then (p.1 ++ [p.2], []) else (p.1, p.2 ++ [c])

def st (b : UInt8) (l : List UInt8) : List (List UInt8) × List UInt8 := l.foldl (step b) ([], [])

/-- The pieces of l between the bytes b. -/
def split (b : UInt8) (l : List UInt8) : List (List UInt8) := (st b l).1 ++ [(st b l).2]

def strV (l : List UInt8) : Value := .string ⟨l.toArray⟩

theorem st_nil (b : UInt8) : st b [] = ([], []) := rfl

theorem st_snoc (b c : UInt8) (l : List UInt8) : st b (l ++ [c]) = step b (st b l) c := by
  simp [st, List.foldl_append]

theorem st_len (b : UInt8) (l : List UInt8) : (st b l).1.length ≤ l.length := by
  have key : ∀ (l : List UInt8) (p : List (List UInt8) × List UInt8), (l.foldl (step b) p).1.length ≤ p.1.length + l.length := by
    intro l
    induction l with
    | nil => intro p; simp
    | cons c l ih =>
      intro p
      simp only [List.foldl_cons, List.length_cons]
      have h := ih (step b p c)
      have h2 : (step b p c).1.length ≤ p.1.length + 1 := by
        unfold step; split <;> simp
      omega
  have h := key l ([], [])
  simpa [st] using h

theorem st_hit {s : ByteArray} {b : UInt8} {k : Nat} (hk : k < s.size) (h : s[k] = b) :
    st b (s.data.toList.take (k + 1)) = ((st b (s.data.toList.take k)).1 ++ [(st b (s.data.toList.take k)).2], []) := by
  rw [take_snoc s k hk, st_snoc, h]; simp [step]

theorem st_miss {s : ByteArray} {b : UInt8} {k : Nat} (hk : k < s.size) (h : s[k] ≠ b) :
    st b (s.data.toList.take (k + 1)) = ((st b (s.data.toList.take k)).1, (st b (s.data.toList.take k)).2 ++ [s[k]]) := by
  rw [take_snoc s k hk, st_snoc]; simp [step, h]

theorem drop_snoc {s : ByteArray} {f k : Nat} (hk : k < s.size) (hf : f ≤ k) :
    (s.data.toList.take (k + 1)).drop f = (s.data.toList.take k).drop f ++ [s[k]] := by
  rw [take_snoc s k hk, List.drop_append_of_le_length]
  simp; omega

theorem extract_piece (s : ByteArray) (f k : Nat) : s.extract f k = ⟨((s.data.toList.take k).drop f).toArray⟩ := by
  apply ByteArray.ext
  rw [ByteArray.data_extract]
  apply Array.ext'
  simp [Array.toList_extract, List.drop_take]

theorem split_all (b : UInt8) (s : ByteArray) (k : Nat) (h : s.size ≤ k) : st b (s.data.toList.take k) = st b s.data.toList := by rw [take_all s k h]

theorem st_none (b : UInt8) (l : List UInt8) (h : ∀ c ∈ l, c ≠ b) : ∀ D cur, l.foldl (step b) (D, cur) = (D, cur ++ l) := by
  induction l with
  | nil => intro D cur; simp
  | cons c l ih =>
    intro D cur
    rw [List.foldl_cons, show step b (D, cur) c = (D, cur ++ [c]) by unfold step; rw [if_neg (h c (by simp))], ih (fun x hx => h x (by simp [hx]))]
    simp

theorem st_grows (b : UInt8) (l : List UInt8) : ∀ D cur, ∃ E, (l.foldl (step b) (D, cur)).1 = D ++ E := by
  induction l with
  | nil => intro D cur; exact ⟨[], by simp⟩
  | cons c l ih =>
    intro D cur
    rw [List.foldl_cons]
    by_cases hc : c = b
    · rw [show step b (D, cur) c = (D ++ [cur], []) by unfold step; rw [if_pos hc]]
      obtain ⟨E, h⟩ := ih (D ++ [cur]) []
      exact ⟨cur :: E, by rw [h]; simp⟩
    · rw [show step b (D, cur) c = (D, cur ++ [c]) by unfold step; rw [if_neg hc]]
      exact ih D _

/-- The text ahead of the first byte b. -/
def frontOf (b : UInt8) (l : List UInt8) : List UInt8 := l.takeWhile (· != b)

theorem split_head (b : UInt8) (l : List UInt8) : ∃ rest, split b l = frontOf b l :: rest := by
  have hall : ∀ c ∈ frontOf b l, c ≠ b := by
    intro c hc
    have := List.all_takeWhile (p := (· != b)) (l := l)
    rw [List.all_eq_true] at this
    simpa using this c hc
  have e := List.takeWhile_append_dropWhile (p := (· != b)) (l := l)
  cases hd : l.dropWhile (· != b) with
  | nil =>
    rw [hd, List.append_nil] at e
    refine ⟨[], ?_⟩
    unfold split st
    have h1 : frontOf b l = l := e
    rw [h1] at hall
    rw [st_none b l hall, h1]; simp
  | cons c r =>
    have hc : c = b := by
      have := List.head_dropWhile_not (p := (· != b)) (l := l) (by rw [hd]; simp)
      simpa [hd] using this
    have e2 : l = frontOf b l ++ c :: r := by rw [← hd]; exact e.symm
    unfold split st
    rw [show l.foldl (step b) ([], []) = (frontOf b l ++ c :: r).foldl (step b) ([], []) by rw [← e2], List.foldl_append, st_none b _ hall, List.foldl_cons,
      show step b ([], [] ++ frontOf b l) c = ([frontOf b l], []) by unfold step; rw [if_pos hc]; simp]
    obtain ⟨E, h⟩ := st_grows b r [frontOf b l] []
    exact ⟨_, by rw [h]; simp; rfl⟩

theorem ahead_none {b : UInt8} {l : List UInt8} (h : b ∉ l) : frontOf b l = l := by
  induction l with
  | nil => rfl
  | cons c l ih =>
    have hc : (c != b) = true := by
      simp only [bne_iff_ne, ne_eq]; rintro rfl; exact h (by simp)
    have := ih (fun hm => h (by simp [hm]))
    simp only [frontOf, List.takeWhile_cons, hc, if_true]
    rw [show l.takeWhile (fun x => x != b) = l from this]

theorem ahead_at {b : UInt8} {l : List UInt8} {o : Nat} (h : l[o]? = some b) (hn : ∀ k, k < o → l[k]? ≠ some b) : frontOf b l = l.take o := by
  induction l generalizing o with
  | nil => simp at h
  | cons c l ih =>
    cases o with
    | zero =>
      simp at h
      subst h
      simp [frontOf]
    | succ o =>
      have hc : (c != b) = true := by
        have := hn 0 (by omega)
        simpa using this
      have := ih (o := o) (by simpa using h) (fun k hk => by have := hn (k + 1) (by omega); simpa using this)
      simp only [frontOf, List.takeWhile_cons, hc, if_true, List.take_succ_cons]
      rw [← this]; rfl

end Go.Proofs.Ytokikbfhjhppmaa.Pieces
