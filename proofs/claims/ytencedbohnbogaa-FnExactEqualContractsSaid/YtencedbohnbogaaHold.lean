/-
  The value of a condition: l5Holds of the model, holds of the program.
-/
import Derived.Test.YtencedbohnbogaaGoodI
import Derived.Test.YtencedbohnbogaaFc
import Derived.Test.YtencedbohnbogaaShelfNm
import Derived.Test.YtencedbohnbogaaOpC
import Derived.Lib.SlicesS
namespace Go.Proofs.Ytencedbohnbogaa.Cond
open Go.RowKit

def Q.holds (kn : ByteArray → Bool) (d : Int) : Q → Bool
  | .tru => true
  | .fact s => kn s
  | .frm x => decide (x ≤ d)
  | .neg a => !a.holds kn d
  | .and a b => a.holds kn d && b.holds kn d
  | .or a b => a.holds kn d || b.holds kn d

theorem tl_inj {a b : ByteArray} (h : a.toList = b.toList) : a = b := by
  rw [Go.ByteArray.toList_eq, Go.ByteArray.toList_eq] at h
  cases a; cases b
  simpa [Array.toList_inj] using h

def has (ss : List ByteArray) (x : ByteArray) : Bool := ss.any fun p => decide (p.toList = x.toList)

theorem contains_has (ss : List ByteArray) (x : ByteArray) : Lib.containsS ss x = has ss x := by
  rw [Bool.eq_iff_iff, Lib.containsS_iff, has, List.any_eq_true]
  constructor
  · intro h
    exact ⟨x, h, by simp⟩
  · rintro ⟨p, hp, he⟩
    rw [← tl_inj (of_decide_eq_true he)]; exact hp

theorem has_no {ss : List ByteArray} {k : Nat} (hk : ss.length ≤ k) {x : ByteArray} (h : ∀ j, ∀ hj : j < ss.length, j < k → ¬ ss[j].toList = x.toList) : has ss x = false := by
  unfold has
  rw [List.any_eq_false]
  intro p hp
  obtain ⟨j, hj, rfl⟩ := List.mem_iff_getElem.1 hp
  simpa using h j hj (by omega)
theorem has_yes {ss : List ByteArray} {k : Nat} (hk : k < ss.length) {x : ByteArray} (h : ss[k].toList = x.toList) : has ss x = true := by
  unfold has
  rw [List.any_eq_true]
  exact ⟨ss[k], List.getElem_mem hk, by simpa using h⟩

theorem One {w : World} {B : Nat} {op : Int} {nm : ByteArray} {day : Int} {A : Option Addr} {cap : Nat} {p : K} (h : Lies w B (.mk op nm day A cap [p])) : ∃ b o, A = some ⟨b, o, none⟩ ∧ b < B ∧ El w b o p := by
  obtain ⟨b, o, rfl, hb, he⟩ := h.at (by simp)
  exact ⟨b, o, rfl, hb, by simpa using he 0 (by simp)⟩
theorem Two {w : World} {B : Nat} {op : Int} {nm : ByteArray} {day : Int} {A : Option Addr} {cap : Nat} {p q : K} (h : Lies w B (.mk op nm day A cap [p, q])) : ∃ b o, A = some ⟨b, o, none⟩ ∧ b < B ∧ El w b o p ∧ El w b (o + 4) q := by
  obtain ⟨b, o, rfl, hb, he⟩ := h.at (by simp)
  exact ⟨b, o, rfl, hb, by simpa using he 0 (by simp), by simpa using he 1 (by simp)⟩

end Go.Proofs.Ytencedbohnbogaa.Cond
