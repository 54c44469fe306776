/-
  A condition is visited, its parts behind it, whatever the function that is called keeps.
-/
import Derived.Test.YtomloodakabcbaaGoodS
namespace Go.Proofs.Ytomloodakabcbaa.Cond
open Go.RowKit

/-- What a call may have done: blocks that it does not own stand as they were; what it owns now it owned, or it is new. -/
structure Mv (own own' : Nat → Prop) (w w' : World) : Prop where
  os : w'.os = w.os
  tape : w'.tape = w.tape
  output : w'.output = w.output
  size : w.heap.size ≤ w'.heap.size
  block : ∀ b, b < w.heap.size → ¬ own b → w'.heap[b]? = w.heap[b]?
  new : ∀ b, own' b → own b ∨ w.heap.size ≤ b
theorem Mv.trans {o1 o2 o3 : Nat → Prop} {a b c : World} (h : Mv o1 o2 a b) (k : Mv o2 o3 b c) : Mv o1 o3 a c :=
  ⟨k.os.trans h.os, k.tape.trans h.tape, k.output.trans h.output, Nat.le_trans h.size k.size,
   fun i hi hn => (k.block i (Nat.lt_of_lt_of_le hi h.size) (fun h2 => (h.new i h2).elim hn (fun h3 => by omega))).trans (h.block i hi hn),
   fun i h3 => (k.new i h3).elim (fun h2 => h.new i h2) (fun h2 => .inr (Nat.le_trans h.size h2))⟩
theorem Mv.of_below {o : Nat → Prop} {w w' : World} (h : Below w.heap.size w w') : Mv o o w w' := ⟨h.os, h.tape, h.output, h.size, fun b hb _ => h.block b hb, fun _ h => .inl h⟩
theorem Mv.below {o o' : Nat → Prop} {B : Nat} {w w' : World} (h : Mv o o' w w') (ho : ∀ b, o b → B ≤ b) (hB : B ≤ w.heap.size) : Below B w w' :=
  ⟨h.os, h.tape, h.output, h.size, fun b hb => h.block b (by omega) (fun hh => by have := ho b hh; omega)⟩
theorem B4.alike {k : Nat} {w w' : World} {a b c d : Value} (h : B4 k w a b c d) (hb : w'.heap[k]? = w.heap[k]?) (hs : w.heap.size ≤ w'.heap.size) : B4 k w' a b c d :=
  ⟨Nat.lt_of_lt_of_le h.lt hs, (World.cell?_of_block (a := ⟨k, 0, none⟩) hb).trans h.c0, (World.cell?_of_block (a := ⟨k, 1, none⟩) hb).trans h.c1, (World.cell?_of_block (a := ⟨k, 2, none⟩) hb).trans h.c2, (World.cell?_of_block (a := ⟨k, 3, none⟩) hb).trans h.c3, fun o => (World.frozen?_of_block (a := ⟨k, o, none⟩) hb).trans (h.fz o)⟩

mutual
/-- The visit in plain facts: ok tells whether it goes on, nxt what is kept. -/
def vis {σ : Type} (ok : σ → C → Bool) (nxt : σ → C → σ) : C → σ → Bool × σ
  | .mk op nm day ps, s => if ok s (.mk op nm day ps) then visL ok nxt ps (nxt s (.mk op nm day ps)) else (false, nxt s (.mk op nm day ps))
def visL {σ : Type} (ok : σ → C → Bool) (nxt : σ → C → σ) : List C → σ → Bool × σ
  | [], s => (true, s)
  | p :: ps, s => if (vis ok nxt p s).1 then visL ok nxt ps (vis ok nxt p s).2 else (false, (vis ok nxt p s).2)
end

theorem visL_append {σ : Type} (ok : σ → C → Bool) (nxt : σ → C → σ) (a b : List C) : ∀ s, visL ok nxt (a ++ b) s = if (visL ok nxt a s).1 then visL ok nxt b (visL ok nxt a s).2 else visL ok nxt a s := by
  induction a with
  | nil => intro s; simp [visL]
  | cons p a ih =>
    intro s
    simp only [List.cons_append, visL]
    by_cases h : (vis ok nxt p s).1 = true
    · simp only [h, if_true, ih]
    · simp [h]
theorem visL_yes {σ : Type} {ok : σ → C → Bool} {nxt : σ → C → σ} {ps : List C} {i : Nat} (hi : i < ps.length) {s t : σ} (h : visL ok nxt (ps.take i) s = (true, t)) (h2 : (vis ok nxt ps[i] t).1 = true) :
    visL ok nxt (ps.take (i + 1)) s = (true, (vis ok nxt ps[i] t).2) := by
  rw [List.take_succ_eq_append_getElem hi, visL_append, h]
  simp [visL, h2]
theorem visL_no {σ : Type} {ok : σ → C → Bool} {nxt : σ → C → σ} {ps : List C} {i : Nat} (hi : i < ps.length) {s t : σ} (h : visL ok nxt (ps.take i) s = (true, t)) (h2 : (vis ok nxt ps[i] t).1 = false) :
    visL ok nxt ps s = (false, (vis ok nxt ps[i] t).2) := by
  have e : ps = ps.take i ++ ps[i] :: ps.drop (i + 1) := by simp
  have h3 : visL ok nxt (ps.take i ++ ps[i] :: ps.drop (i + 1)) s = (false, (vis ok nxt ps[i] t).2) := by
    rw [visL_append, h]
    simp [visL, h2]
  rwa [← e] at h3

/-- What the function that is called keeps in its state s, in the blocks that it owns; fit s m: it can be called m times more. -/
structure Sees {σ : Type} (B : Nat) (ok : σ → C → Bool) (nxt : σ → C → σ) (St : σ → (Nat → Prop) → World → Prop) (fit : σ → Nat → Prop) : Prop where
  lt : ∀ s own v, St s own v → ∀ b, own b → B ≤ b ∧ b < v.heap.size
  fr : ∀ s own v v', St s own v → (∀ b, own b → v'.heap[b]? = v.heap[b]?) → St s own v'
  less : ∀ s m m', fit s m → m' ≤ m → fit s m'
  fits : ∀ s m c, fit s (m + 1) → fit (nxt s c) m

section
variable {σ : Type} {B : Nat} {ok : σ → C → Bool} {nxt : σ → C → σ} {St : σ → (Nat → Prop) → World → Prop} {fit : σ → Nat → Prop}
mutual
theorem Sees.vis (h : Sees B ok nxt St fit) : ∀ (c : C) (s : σ) (m : Nat), fit s (c.size + m) → (vis ok nxt c s).1 = true → fit (vis ok nxt c s).2 m
  | .mk op nm day ps, s, m, hf, hv => by
    unfold Cond.vis at hv ⊢
    split at hv
    · rename_i ho
      rw [if_pos ho]
      exact Sees.visL h ps _ m (h.fits s _ _ (by simp only [C.size] at hf; rw [show sizes ps + m + 1 = 1 + sizes ps + m by omega]; exact hf)) hv
    · cases hv
theorem Sees.visL (h : Sees B ok nxt St fit) : ∀ (ps : List C) (s : σ) (m : Nat), fit s (sizes ps + m) → (visL ok nxt ps s).1 = true → fit (visL ok nxt ps s).2 m
  | [], s, m, hf, _ => by simpa [Cond.visL, sizes] using hf
  | p :: ps, s, m, hf, hv => by
    unfold Cond.visL at hv ⊢
    split at hv
    · rename_i ho
      rw [if_pos ho]
      exact Sees.visL h ps _ m (Sees.vis h p s (sizes ps + m) (by simp only [sizes] at hf; rw [show p.size + (sizes ps + m) = p.size + sizes ps + m by omega]; exact hf) ho) hv
    · cases hv
end
end

end Go.Proofs.Ytomloodakabcbaa.Cond
