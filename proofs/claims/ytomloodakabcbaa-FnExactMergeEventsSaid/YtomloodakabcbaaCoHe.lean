/-
  The marks of a condition read back: heldCondition; markCondition of the whole condition.
-/
import Derived.Test.YtomloodakabcbaaCoMk
import Derived.Deep.RegionWith
namespace Go.Proofs.Ytomloodakabcbaa.Cond
open Go.RowKit Go.Proofs.Ytomloodakabcbaa.Mark
set_option linter.unusedVariables false

/-- The parts at A bear their marks from m on. -/
def Held (w : World) (A : Option Addr) (cap : Nat) (ps : List K) (m : Nat) : Prop := Lies w w.heap.size (.mk 0 .empty 0 A cap (mkL ps m))
theorem lies_head {w : World} {B : Nat} {op op' : Int} {nm nm' : ByteArray} {day day' : Int} {A : Option Addr} {cap : Nat} {ps : List K} (h : Lies w B (.mk op nm day A cap ps)) (hn : nm'.size ≤ maxLen) : Lies w B (.mk op' nm' day' A cap ps) := by
  obtain ⟨⟨h1, ⟨_, h3, h4⟩, h5⟩, lt⟩ := h
  exact ⟨⟨h1, ⟨hn, h3, h4⟩, h5⟩, lt⟩
theorem Held.on {w w' : World} {A : Option Addr} {cap : Nat} {ps : List K} {m : Nat} (h : Held w A cap ps m) (hb : Below w.heap.size w w') : Held w' A cap ps m := Lies.on h hb

end Go.Proofs.Ytomloodakabcbaa.Cond
