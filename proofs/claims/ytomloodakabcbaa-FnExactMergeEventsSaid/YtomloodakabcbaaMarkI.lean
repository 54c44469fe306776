/-
  The marks that the laws write into a slice of ints, and read back: markIntS and heldIntS.
-/
import Derived.Test.YtomloodakabcbaaIRow
namespace Go.Proofs.Ytomloodakabcbaa.MarkI
open Go.RowKit Go.Proofs.Ytomloodakabcbaa.IRow
set_option linter.unusedVariables false

theorem own_addr {w : World} {base e n cap : Nat} {A : Option Addr} {xs : List Value} (h : w.ownsRow base e 1 (.slice A n cap) n xs) (h0 : 0 < n) : ∃ g, A = some ⟨g, 0, none⟩ ∧ base ≤ g := by
  rcases h.2 with ⟨_, h2⟩ | ⟨g, c, cur, hv, hb, _⟩
  · omega
  · injection hv with h1 h2 h3
    exact ⟨g, h1, hb⟩

/-- A row of our own is a slice. -/
theorem own_slice {w : World} {base e n : Nat} {v : Value} {xs : List Value} (h : w.ownsRow base e 1 v n xs) : ∃ A cap, v = .slice A n cap := by
  rcases h.2 with ⟨hv, h2⟩ | ⟨g, c, cur, hv, hb, _⟩
  · subst h2; exact ⟨none, 0, hv⟩
  · exact ⟨_, _, hv⟩

/-- The first k elements are the marks from 1 on. -/
def Marked (k : Nat) (xs : List Value) : Prop := ∀ j, j < k → xs[j]? = some (.int .i64 ((1 + j : Nat) : Int))

theorem Marked.set {k : Nat} {xs : List Value} (h : Marked k xs) (hk : k < xs.length) : Marked (k + 1) (xs.set k (.int .i64 ((1 + k : Nat) : Int))) := fun j hj => by
  by_cases e : j = k
  · subst e; rw [List.getElem?_set_self hk]
  · rw [List.getElem?_set_ne (by omega)]; exact h j (by omega)

/-- Only the block that the slice begins in has changed. -/
def Only (A : Option Addr) (w w' : World) : Prop := w.heap.size ≤ w'.heap.size ∧ w'.os = w.os ∧ w'.tape = w.tape ∧ w'.output = w.output ∧ ∀ k, (∀ ad, A = some ad → k ≠ ad.block) → w'.heap[k]? = w.heap[k]?

theorem Only.refl (A : Option Addr) (w : World) : Only A w w := ⟨Nat.le_refl _, rfl, rfl, rfl, fun _ _ => rfl⟩
theorem Only.set {g : Nat} {w w' : World} (h : Only (some ⟨g, 0, none⟩) w w') (k : Nat) (u : Value) : Only (some ⟨g, 0, none⟩) w (w'.setCell ⟨g, k, none⟩ u) :=
  ⟨by simpa using h.1, h.2.1, h.2.2.1, h.2.2.2.1, fun j hj => (Below.heap_setCell w' ⟨g, k, none⟩ u j (hj ⟨g, 0, none⟩ rfl)).trans (h.2.2.2.2 j hj)⟩
theorem Only.below {A : Option Addr} {w w' : World} (h : Only A w w') {B : Nat} (hB : ∀ ad, A = some ad → B ≤ ad.block) : Below B w w' :=
  ⟨h.2.1, h.2.2.1, h.2.2.2.1, h.1, fun k hk => h.2.2.2.2 k (fun ad e => by have := hB ad e; omega)⟩

end Go.Proofs.Ytomloodakabcbaa.MarkI
