/-
  The numbers of clauses by their Ids, as a map in memory.
-/
import Derived.Test.YtlionlbihmldlaaClV
import Derived.Maps.OwnSet
import Derived.Maps.OwnOps
namespace Go.Proofs.Ytlionlbihmldlaa.Cl
open Go.RowKit Go.Maps Go.Proofs.Ytlionlbihmldlaa.Cond Go.Proofs.Ytlionlbihmldlaa.Gx Go.Proofs.Ytlionlbihmldlaa.NdS
set_option linter.unusedVariables false

/-- An Id as a key. -/
def key (s : ByteArray) : Lit := .string s.data.toList
theorem key_ne {a b : ByteArray} (h : ¬ a.toList = b.toList) : key a ≠ key b := fun e => h (by
  injection e with e
  rw [ByteArray.toList_eq, ByteArray.toList_eq, e])
theorem key_eq {a b : ByteArray} (h : a.toList = b.toList) : key a = key b := by
  rw [ByteArray.toList_eq, ByteArray.toList_eq] at h
  unfold key
  rw [h]
theorem lawS : Keyed Try.prog 9 := string_keyed Try.underlying9
theorem zeroI (w : World) : (zeroValue 3).run Try.prog w = .ok (.int .i64 0) w := by kernel_rfl

/-- Whether a clause has this Id, and its number. -/
def numB (ls : List L) (id : ByteArray) : Bool := decide (fnd ls id < ls.length)
def numI (ls : List L) (id : ByteArray) : Int := if fnd ls id < ls.length then (fnd ls id : Int) else 0
theorem numB_yes {ls : List L} {id : ByteArray} (h : fnd ls id < ls.length) : numB ls id = true := decide_eq_true h
theorem numB_no {ls : List L} {id : ByteArray} (h : ¬ fnd ls id < ls.length) : numB ls id = false := decide_eq_false h
theorem numI_yes {ls : List L} {id : ByteArray} (h : fnd ls id < ls.length) : numI ls id = (fnd ls id : Int) := if_pos h
theorem numI_no {ls : List L} {id : ByteArray} (h : ¬ fnd ls id < ls.length) : numI ls id = 0 := if_neg h
theorem fnd_snoc (ls : List L) (x : L) (id : ByteArray) : fnd (ls ++ [x]) id = if fnd ls id < ls.length then fnd ls id else if hasId id x then ls.length else ls.length + 1 := by
  unfold fnd
  rw [List.findIdx_append]
  split
  · rfl
  · have : List.findIdx (hasId id) ls ≤ ls.length := List.findIdx_le_length
    simp only [List.findIdx_cons, List.findIdx_nil]
    cases hasId id x
    · simp only [cond_false, Bool.false_eq_true, if_false]; omega
    · simp only [cond_true, if_true]; omega

/-- What the map reads as: the numbers of the clauses. -/
structure IsNum (D : DataW Unit) (ls : List L) : Prop where
  map : IsMap D
  has : ∀ id, Maps.has D (key id) = numB ls id
  at_ : ∀ id, D.atKey (key id) (.lit (.int .i64 0)) = .lit (.int .i64 (numI ls id))
theorem isNum_nil : IsNum (.map []) [] :=
  ⟨isMap_empty, fun id => by simp [Maps.has, numB], fun id => by
    have h : Maps.has (.map [] : DataW Unit) (key id) = false := by simp [Maps.has]
    rw [atKey_of_not_has h]; simp [numI]⟩
theorem isKey (s : ByteArray) : WideAt.IsKeyLit (key s) := trivial
theorem IsNum.snoc {D : DataW Unit} {ls : List L} (h : IsNum D ls) (x : L) (hx : ¬ fnd ls x.id < ls.length) : IsNum (D.put (key x.id) (.lit (.int .i64 (ls.length : Int)))) (ls ++ [x]) := by
  have hlen : (ls ++ [x]).length = ls.length + 1 := by simp
  refine ⟨h.map.put _ _, fun id => ?_, fun id => ?_⟩
  · by_cases e : x.id.toList = id.toList
    · rw [← key_eq e, has_put_same h.map (isKey _)]
      have h1 : hasId id x = true := decide_eq_true e
      refine (numB_yes ?_).symm
      rw [fnd_snoc, hlen, h1]
      split
      · omega
      · simp
    · rw [has_put_other (key_ne (fun e2 => e e2.symm)), h.has id]
      have h1 : hasId id x = false := decide_eq_false e
      unfold numB
      rw [fnd_snoc, hlen, h1]
      refine decide_eq_decide.2 ?_
      split
      · omega
      · simp; omega
  · by_cases e : x.id.toList = id.toList
    · rw [← key_eq e, atKey_put_same h.map (isKey _)]
      have h1 : hasId id x = true := decide_eq_true e
      have h2 : ¬ fnd ls id < ls.length := by
        have h3 : hasId id = hasId x.id := by funext y; unfold hasId; rw [e]
        have h4 : fnd ls id = fnd ls x.id := by unfold fnd; rw [h3]
        rw [h4]; exact hx
      have h3 : fnd (ls ++ [x]) id = ls.length := by rw [fnd_snoc, if_neg h2, h1]; rfl
      rw [numI_yes (by rw [h3, hlen]; omega), h3]
    · rw [atKey_put_other (key_ne (fun e2 => e e2.symm)), h.at_ id]
      have h1 : hasId id x = false := decide_eq_false e
      unfold numI
      rw [fnd_snoc, hlen, h1]
      by_cases hf : fnd ls id < ls.length
      · simp only [hf, if_true]; rw [if_pos (by omega)]
      · simp [hf]

/-- Block b holds the numbers of the clauses ls. -/
def Nums (w : World) (b n : Nat) (ls : List L) : Prop := ∃ D : DataW Unit, w.ownsMap Try.prog 9 (plainElem Try.prog 3) b n D ∧ IsNum D ls
theorem Nums.on {w w' : World} {b n : Nat} {ls : List L} (h : Nums w b n ls) (hb : Below w.heap.size w w') : Nums w' b n ls := by
  obtain ⟨D, h1, h2⟩ := h
  exact ⟨D, h1.kept (row := none) ⟨hb.os, hb.tape, hb.output, hb.size, fun i hi _ => hb.block i hi⟩ (by simp), h2⟩
theorem Nums.below {w w' : World} {b n B : Nat} {ls : List L} (h : Nums w b n ls) (hb : Below B w w') (hB : b < B) : Nums w' b n ls := by
  obtain ⟨D, ⟨es, clock, h1, h2, h3, h4⟩, h5⟩ := h
  exact ⟨D, ⟨es, clock, (hb.block b hB).trans h1, h2, h3, h4⟩, h5⟩
theorem Nums.lt {w : World} {b n : Nat} {ls : List L} (h : Nums w b n ls) : b < w.heap.size := let ⟨_, h1, _⟩ := h; h1.lt
theorem Nums.drew {w : World} {b n : Nat} {ls : List L} (h : Nums w b n ls) : Nums w.drew b n ls := let ⟨D, h1, h2⟩ := h; ⟨D, h1.drew, h2⟩
theorem Nums.more {w : World} {b n n' : Nat} {ls : List L} (h : Nums w b n ls) (hn : n ≤ n') : Nums w b n' ls := let ⟨D, h1, h2⟩ := h; ⟨D, h1.mono hn, h2⟩
theorem nums_new (w : World) : Nums (w.alloc (.map #[] 0)) w.heap.size 0 [] := ⟨.map [], World.ownsMap_made _ _ _ _, isNum_nil⟩

/-- A look-up of an Id. -/
theorem run_look {w : World} {b n : Nat} {ls : List L} (h : Nums w b n ls) {id : ByteArray} (hs : id.size ≤ maxLen) :
    (Instr.lookup 41 (.map (some b)) (.string id) true).run Try.prog w = .ok (.tuple #[.int .i64 (numI ls id), .bool (numB ls id)]) w := by
  obtain ⟨D, h1, h2⟩ := h
  have hk : keyOf Try.prog 9 (.string id) = some (key id) := WideMaps.keyOf_string_mk Try.underlying9 hs
  obtain ⟨v, ps, hrun, hv⟩ := h1.look_ok lawS Try.underlying41 (zeroI w) (plainElem_int Try.underlying3 (by decide)) hk
  obtain ⟨c, rfl, hc, _⟩ := plainElem_int_inv Try.underlying3 hv
  have h3 := (congrArg Prod.fst hc)
  rw [h2.at_ id] at h3
  have h4 := Lit.int.inj (DataW.lit.inj h3)
  rw [hrun, ← h4.2, h2.has id]
/-- A store of a new Id. -/
theorem run_store {w : World} {b n : Nat} {ls : List L} (h : Nums w b n ls) {x : L} (hs : x.id.size ≤ maxLen) (hn : n < maxLen) (hl : ls.length ≤ 5000) (hx : ¬ fnd ls x.id < ls.length) :
    ∃ w', (Instr.mapUpdate 41 (.map (some b)) (.string x.id) (.int .i64 (ls.length : Int))).run Try.prog w = .ok () w' ∧ Nums w' b (n + 1) (ls ++ [x]) ∧ w.grownBy w' (some b) := by
  obtain ⟨D, h1, h2⟩ := h
  have hk : keyOf Try.prog 9 (.string x.id) = some (key x.id) := WideMaps.keyOf_string_mk Try.underlying9 hs
  obtain ⟨w', hrun, ho, hg⟩ := h1.update lawS Try.underlying41 hn hk (plainElem_int Try.underlying3 (WalkArith.wf_i64 (n := (ls.length : Int)) ⟨by omega, by omega⟩))
  exact ⟨w', hrun, ⟨_, ho, h2.snoc x hx⟩, hg⟩

end Go.Proofs.Ytlionlbihmldlaa.Cl
