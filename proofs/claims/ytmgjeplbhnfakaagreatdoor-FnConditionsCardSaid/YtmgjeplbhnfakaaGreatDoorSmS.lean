/-
  Simplification in plain facts; l5Never, l5Pair of the model.
-/
import Derived.Test.YtmgjeplbhnfakaaGreatDoorSmQ
namespace Go.Proofs.YtmgjeplbhnfakaaGreatDoor.Cond
open Go.RowKit
set_option linter.unusedVariables false
set_option linter.unusedSimpArgs false

def isTru : Q → Bool | .tru => true | _ => false
def isNev : Q → Bool | .neg .tru => true | _ => false
def pairQ (an : Bool) (a b : Q) : Q :=
  if an then (if isTru a then b else if isTru b then a else if isNev a then a else if isNev b then b else if sameC a.c b.c then a else .and a b)
  else (if isTru a then a else if isTru b then b else if isNev a then b else if isNev b then a else if sameC a.c b.c then a else .or a b)
def negQ : Q → Q | .neg b => b | q => .neg q
def smp : Q → Q
  | .tru => .tru
  | .fact s => .fact s
  | .frm d => if d = 0 then .tru else .frm d
  | .neg a => negQ (smp a)
  | .and a b => pairQ true (smp a) (smp b)
  | .or a b => pairQ false (smp a) (smp b)
def opQ : Q → Int | .tru => 1 | .fact _ => 2 | .frm _ => 3 | .neg _ => 4 | .and _ _ => 5 | .or _ _ => 6
theorem op_is {k : K} {q : Q} (h : k.cond = q.c) : k.op = opQ q := by
  cases k with
  | mk op nm day A cap ps =>
    cases q <;> simp only [K.cond, Q.c, C.mk.injEq] at h <;> exact h.1
theorem tru_op (q : Q) : (opQ q == 1) = isTru q := by cases q <;> rfl
/-- Two conditions have no block in common. -/
def Dj (a b : K) : Prop := ∀ x ∈ a.blocks, x ∉ b.blocks

theorem One' {w : World} {B : Nat} {op : Int} {nm : ByteArray} {day : Int} {A : Option Addr} {cap : Nat} {p : K} (h : Lies w B (.mk op nm day A cap [p])) : ∃ b o, A = some ⟨b, o, none⟩ ∧ b < B ∧ El w b o p := by
  obtain ⟨b, o, rfl, hb, he⟩ := h.at (by simp)
  exact ⟨b, o, rfl, hb, by simpa using he 0 (by simp)⟩

/-- An answer: a condition in memory of its own, from block S on. -/
def Res (S : Nat) (q : Q) (w : World) (e : Ending) (w' : World) : Prop :=
  ∃ r : K, e = .returned r.val ∧ r.cond = q.c ∧ Wr w' r ∧ (∀ x ∈ r.blocks, S ≤ x) ∧ Below w.heap.size w w'

theorem Wr.on {w w' : World} {k : K} (h : Wr w k) (hb : Below w.heap.size w w') : Wr w' k := h.same (fun b hb' => hb.block b (h.lt b hb')) hb.size

/-- A new condition of two parts. -/
theorem wr_two {w' : World} {a b : K} {g : Nat} {op : Int} (ha : Wr w' a) (hb : Wr w' b) (hd : Dj a b) (hg : Blk w' g 8) (e1 : El w' g 0 a) (e2 : El w' g 4 b) (hga : g ∉ a.blocks) (hgb : g ∉ b.blocks) : Wr w' (.mk op .empty 0 (some ⟨g, 0, none⟩) 2 [a, b]) := by
  have hbl : (K.mk op .empty 0 (some ⟨g, 0, none⟩) 2 [a, b]).blocks = g :: (a.blocks ++ b.blocks) := by simp [K.blocks, blocks]
  refine ⟨⟨fun _ => ⟨g, 0, rfl, fun i hi => ?_⟩, ⟨by simp [maxLen], by simp, by simp [maxLen]⟩, ins_mem.2 fun p hp => ?_⟩, fun x hx => ?_, ?_, fun x hx o => ?_⟩
  · match i, hi with
    | 0, _ => exact e1
    | 1, _ => exact e2
  · rcases List.mem_cons.1 hp with rfl | hp
    · exact ha.has
    · have : p = b := by simpa using hp
      subst this; exact hb.has
  · rw [hbl, List.mem_cons, List.mem_append] at hx
    rcases hx with rfl | hx | hx
    · exact hg.lt
    · exact ha.lt x hx
    · exact hb.lt x hx
  · rw [hbl, List.nodup_cons, List.mem_append]
    exact ⟨fun h => h.elim hga hgb, List.nodup_append.2 ⟨ha.nd, hb.nd, fun x hx y hy e => hd x hx (e ▸ hy)⟩⟩
  · rw [hbl, List.mem_cons, List.mem_append] at hx
    rcases hx with rfl | hx | hx
    · exact hg.frozen o
    · exact ha.fz x hx o
    · exact hb.fz x hx o
/-- A new condition of one part. -/
theorem wr_one {w' : World} {a : K} {g : Nat} {op : Int} (ha : Wr w' a) (hg : Blk w' g 4) (e1 : El w' g 0 a) (hga : g ∉ a.blocks) : Wr w' (.mk op .empty 0 (some ⟨g, 0, none⟩) 1 [a]) := by
  have hbl : (K.mk op .empty 0 (some ⟨g, 0, none⟩) 1 [a]).blocks = g :: a.blocks := by simp [K.blocks, blocks]
  refine ⟨⟨fun _ => ⟨g, 0, rfl, fun i hi => ?_⟩, ⟨by simp [maxLen], by simp, by simp [maxLen]⟩, ins_mem.2 fun p hp => ?_⟩, fun x hx => ?_, ?_, fun x hx o => ?_⟩
  · have : i = 0 := by simpa using hi
    subst this; exact e1
  · have : p = a := by simpa using hp
    subst this; exact ha.has
  · rw [hbl, List.mem_cons] at hx
    rcases hx with rfl | hx
    · exact hg.lt
    · exact ha.lt x hx
  · rw [hbl, List.nodup_cons]
    exact ⟨hga, ha.nd⟩
  · rw [hbl, List.mem_cons] at hx
    rcases hx with rfl | hx
    · exact hg.frozen o
    · exact ha.fz x hx o
theorem wr_none {w : World} (op : Int) (nm : ByteArray) (day : Int) (hn : nm.size ≤ maxLen) : Wr w (.mk op nm day none 0 []) :=
  ⟨⟨fun h => by simp at h, ⟨hn, by simp, by simp [maxLen]⟩, trivial⟩, fun b hb => by simp [K.blocks, blocks] at hb, by simp [K.blocks, blocks], fun b hb => by simp [K.blocks, blocks] at hb⟩
theorem blk_lit (w : World) (l : List Value) (T : TypeId) : Blk (w.alloc (.cells l.toArray T)) w.heap.size l.length := ⟨l.toArray, T, heap_alloc_new w _, by simp⟩

/-- The answer's block is stored; nothing else of S is touched. -/
theorem put_wr {w : World} {r : K} {kb : Nat} {a b c d : Value} (h : Wr w r) (hk : kb ∉ r.blocks) : Wr (put4 w kb 0 a b c d) r := h.same (fun x hx => put4_block (fun e => hk (e ▸ hx))) (by rw [put4_size]; exact Nat.le_refl _)

end Go.Proofs.YtmgjeplbhnfakaaGreatDoor.Cond
