/-
  A map whose keys are pairs of addresses with a length.
-/
import Derived.Test.YtmgjeplbhnfakaaGreatDoorCond
import Derived.Maps.OwnOps
import Derived.WideKeyRuns
namespace Go.Proofs.YtmgjeplbhnfakaaGreatDoor.PtK
open Go.RowKit Go.MapKept Go.ChangeMaps
set_option linter.unusedVariables false
set_option linter.unusedSimpArgs false

abbrev pk (a b : Addr) (n : Int) : Value := .agg #[.pointer (some a), .pointer (some b), .int .i64 n]
theorem checkN (em : Bool) (d : Nat) (a b : Addr) (n : Int) (w : World) : (Instr.checkKey em (d + 2) 86 (pk a b n)).run Tryz.prog w = .ok () w := by
  simp [Instr.checkKey, run_underlying Tryz.underlying86, run_underlying Tryz.underlying84, run_underlying Tryz.underlying3, part, go_sem, Tryz.isAgg84, Tryz.isAgg3]
theorem check (em : Bool) (a b : Addr) (n : Int) (w : World) : (Instr.checkKey em 10000 86 (pk a b n)).run Tryz.prog w = .ok () w := checkN em 9998 a b n w

/-- A block of cells, none of them frozen. -/
structure Fre (w : World) (b : Nat) : Prop where
  has : ∃ arr T fz, w.heap[b]? = some (.cells arr T fz)
  fz : ∀ o, w.frozen? ⟨b, o, none⟩ = false
theorem Fre.same {w w' : World} {b : Nat} (h : Fre w b) (hb : w'.heap[b]? = w.heap[b]?) : Fre w' b := by
  obtain ⟨arr, T, fz, e⟩ := h.has
  exact ⟨⟨arr, T, fz, hb.trans e⟩, fun o => (World.frozen?_of_block (a := ⟨b, o, none⟩) hb).trans (h.fz o)⟩
theorem sameFree {b o b' o' : Nat} {w : World} (hbl : b ≠ b') (ha : Fre w b) (hb : Fre w b') : (sameAddr ⟨b, o, none⟩ ⟨b', o', none⟩).run Tryz.prog w = .ok false w := by
  obtain ⟨arr, T, fz, e⟩ := ha.has
  obtain ⟨arr', T', fz', e'⟩ := hb.has
  have f1 := ha.fz o
  have f2 := hb.fz o'
  have f3 := ha.fz arr.size
  have f4 := hb.fz arr'.size
  simp [sameAddr, hbl, noView, viewAt, World.shape?, mayBeOne, stringish, e, e', f1, f2, f3, f4]
theorem held : Tryz.prog.stoodInHeld 86 = false := by kernel_rfl
theorem differN (d : Nat) {b o b' o' : Nat} (c c' : Addr) (n n' : Int) (w : World) (h : b ≠ b') (ha : Fre w b) (hb : Fre w b') : (Op.equalIn (d + 2) 86 (pk ⟨b, o, none⟩ c n) (pk ⟨b', o', none⟩ c' n')).run Tryz.prog w = .ok false w := by
  simp [Op.equalIn, run_underlying Tryz.underlying86, run_underlying Tryz.underlying84, part, go_sem, held, Tryz.isAgg84, Tryz.sizeOf26, sameFree h ha hb]
theorem differ {b o b' o' : Nat} (c c' : Addr) (n n' : Int) (w : World) (h : b ≠ b') (ha : Fre w b) (hb : Fre w b') : (Op.equal 86 (pk ⟨b, o, none⟩ c n) (pk ⟨b', o', none⟩ c' n')).run Tryz.prog w = .ok false w := differN 9998 c c' n n' w h ha hb

/-- Block m is a map whose keys begin with addresses in the blocks V. -/
def PMap (w : World) (m s : Nat) (V : List Nat) : Prop :=
  ∃ es clock, w.heap[m]? = some (.map es clock) ∧ es.size = s ∧ ∀ e ∈ es.toList, ∃ b o c n, e.key = pk ⟨b, o, none⟩ c n ∧ b ∈ V
theorem PMap.same {w w' : World} {m s : Nat} {V : List Nat} (h : PMap w m s V) (hb : w'.heap[m]? = w.heap[m]?) : PMap w' m s V := by
  obtain ⟨es, clock, h1, h2, h3⟩ := h
  exact ⟨es, clock, hb.trans h1, h2, h3⟩
theorem PMap.lt {w : World} {m s : Nat} {V : List Nat} (h : PMap w m s V) : m < w.heap.size := by
  obtain ⟨es, clock, h1, _⟩ := h
  exact (Array.getElem?_eq_some_iff.1 h1).1
theorem pmap_new (w : World) : PMap (w.alloc (.map #[] 0)) w.heap.size 0 [] := ⟨#[], 0, (show (w.heap.push (Obj.map #[] 0))[w.heap.size]? = some (Obj.map #[] 0) by simp), rfl, by simp⟩
theorem asking {w : World} {V : List Nat} (hV : ∀ b ∈ V, Fre w b) {b0 o0 : Nat} (h0 : Fre w b0) (hn : b0 ∉ V) (c0 : Addr) (n0 : Int) :
    ∀ (es : List MapEntry) (i : Nat), (∀ e ∈ es, ∃ b o c n, e.key = pk ⟨b, o, none⟩ c n ∧ b ∈ V) → (Instr.findAsking 86 (pk ⟨b0, o0, none⟩ c0 n0) es i).run Tryz.prog w = .ok none w
  | [], i, _ => by simp [Instr.findAsking]
  | e :: es, i, h => by
    obtain ⟨b, o, c, n, hk, hb⟩ := h e (by simp)
    have h1 := differ (o := o0) (o' := o) c0 c n0 n w (fun e2 => hn (by rw [e2]; exact hb)) h0 (hV b hb)
    have h2 := asking hV (o0 := o0) h0 hn c0 n0 es (i + 1) (fun e he => h e (by simp [he]))
    simp [Instr.findAsking, hk, h1, h2]
theorem look {w : World} {m s : Nat} {V : List Nat} (h : PMap w m s V) (hV : ∀ b ∈ V, Fre w b) {b0 o0 : Nat} (h0 : Fre w b0) (hn : b0 ∉ V) (c0 : Addr) (n0 : Int) :
    (Instr.lookup 81 (.map (some m)) (pk ⟨b0, o0, none⟩ c0 n0) false).run Tryz.prog w = .ok (.bool false) w := by
  obtain ⟨es, clock, h1, _, h3⟩ := h
  have hf : (Instr.findKey 86 (pk ⟨b0, o0, none⟩ c0 n0) es.toList).run Tryz.prog w = .ok none w := by
    rw [run_findKey_eq w (by kernel_rfl)]
    exact asking hV h0 hn c0 n0 es.toList 0 h3
  have hz : (zeroValue 4).run Tryz.prog w = .ok (.bool false) w := by kernel_rfl
  simp [Instr.lookup, run_underlying Tryz.underlying81, MapKept.run_getObj_map h1, check, hf, hz, Result.andThen]
theorem store {w : World} {m s : Nat} {V : List Nat} (h : PMap w m s V) (hV : ∀ b ∈ V, Fre w b) {b0 o0 : Nat} (h0 : Fre w b0) (hn : b0 ∉ V) (c0 : Addr) (n0 : Int) :
    ∃ w', (Instr.mapUpdate 81 (.map (some m)) (pk ⟨b0, o0, none⟩ c0 n0) (.bool true)).run Tryz.prog w = .ok () w' ∧ PMap w' m (s + 1) (b0 :: V) ∧ w.grownBy w' (some m) := by
  obtain ⟨es, clock, h1, h2, h3⟩ := h
  have hf : (Instr.findKey 86 (pk ⟨b0, o0, none⟩ c0 n0) es.toList).run Tryz.prog w = .ok none w := by
    rw [run_findKey_eq w (by kernel_rfl)]
    exact asking hV h0 hn c0 n0 es.toList 0 h3
  refine ⟨setBlock w m (.map (es.push { key := pk ⟨b0, o0, none⟩ c0 n0, val := .bool true, born := clock }) (clock + 1)), ?_, ⟨_, _, heap_setBlock_same h1 _, by simp [h2], ?_⟩, ⟨rfl, rfl, rfl, by simp [setBlock], fun i _ hi => heap_setBlock_other h1 _ (fun e => hi (by rw [e]))⟩⟩
  · simp [Instr.mapUpdate, run_underlying Tryz.underlying81, MapKept.run_getObj_map h1, check, hf, Result.andThen]
    exact MapKept.run_setObj_map _ h1
  · intro e he
    rw [Array.toList_push] at he
    rcases List.mem_append.1 he with he | he
    · obtain ⟨b, o, c, n, hk, hb⟩ := h3 e he
      exact ⟨b, o, c, n, hk, by simp [hb]⟩
    · have : e = { key := pk ⟨b0, o0, none⟩ c0 n0, val := .bool true, born := clock } := by simpa using he
      subst this
      exact ⟨b0, o0, c0, n0, rfl, by simp⟩

end Go.Proofs.YtmgjeplbhnfakaaGreatDoor.PtK
