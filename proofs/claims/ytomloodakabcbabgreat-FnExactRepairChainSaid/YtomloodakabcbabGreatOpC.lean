/-
  A condition that came in lies in memory as a tree.
-/
import Derived.Test.YtomloodakabcbabGreatSz
import Derived.OpenShut
import Derived.ShutString
import Derived.ChangeSlices
import Derived.SliceStrings
import Derived.Carry
import Derived.Lib.SmallJoins
import Derived.Deep.Slices
namespace Go.Proofs.YtomloodakabcbabGreat.Cond
open Go.RowKit Go.ChangeShapes Go.WideShapes Go.ChangeAt Go.Joins Go.Deep

instance : Inhabited K := ⟨.mk 0 .empty 0 none 0 []⟩

theorem cellsLC : Tryz.prog.cellsOf 62 = 4 := by kernel_rfl

theorem add_none (b o n : Nat) : (⟨b, o, none⟩ : Addr).add n = ⟨b, o + n, none⟩ := by
  unfold Addr.add
  split
  · subst_vars; rfl
  · rfl
theorem four {w : World} {a : Addr} {cs : List Value} (h : w.cells? 0 a 4 = some cs) : ∃ x y z t, cs = [x, y, z, t] ∧ w.cell? (a.add 0) = some x ∧ w.cell? (a.add 1) = some y ∧ w.cell? (a.add 2) = some z ∧ w.cell? (a.add 3) = some t := by
  simp only [World.cells?, Nat.zero_le, if_true, show List.range 4 = [0, 1, 2, 3] from rfl] at h
  simp only [List.mapM_cons, List.mapM_nil, Option.bind_eq_bind, Option.bind_eq_some_iff, Option.pure_def, Option.some.injEq] at h
  obtain ⟨x, hx, _, ⟨y, hy, _, ⟨z, hz, _, ⟨t, ht, _, rfl, rfl⟩, rfl⟩, rfl⟩, rfl⟩ := h
  exact ⟨x, y, z, t, rfl, hx, hy, hz, ht⟩
theorem spot_none {w : World} {a : Addr} {v : Value} (h : w.cell? a = some v) : a = ⟨a.block, a.off, none⟩ := by
  cases a with
  | mk b o sp =>
    cases sp with
    | none => rfl
    | some s =>
      unfold World.cell? at h
      split at h <;> simp at h

set_option maxRecDepth 100000 in
theorem trodFour {H : Type} {enc : TypeId × Value → H} {W : World} {spare : Nat → Bool} {held : Bool} {fuel : Nat} {cs : List Value} {x : DataW H × List MemPlace} (h : DataW.trod enc Tryz.prog W 0 spare held fuel 62 cs = some x) :
    ∃ n c0 c1 c2 c3 y0 y1 y2 y3, fuel = n + 1 ∧ cs = [c0, c1, c2, c3] ∧ DataW.trod enc Tryz.prog W 0 spare held n 3 [c0] = some y0 ∧ DataW.trod enc Tryz.prog W 0 spare held n 9 [c1] = some y1 ∧ DataW.trod enc Tryz.prog W 0 spare held n 3 [c2] = some y2 ∧ DataW.trod enc Tryz.prog W 0 spare held n 60 [c3] = some y3 := by
  obtain ⟨xs, n, hfu, _, hl, hx, hfld⟩ := DataW.trod_struct Tryz.underlying62 h
  rw [cellsLC] at hl
  match cs, hl with
  | [c0, c1, c2, c3], _ =>
    have h0 := hfld 0 _ rfl
    have h1 := hfld 1 _ rfl
    have h2 := hfld 2 _ rfl
    have h3 := hfld 3 _ rfl
    have e0 : Tryz.prog.cellsOf 3 = 1 := by kernel_rfl
    have e1 : Tryz.prog.cellsOf 9 = 1 := by kernel_rfl
    have e3 : Tryz.prog.cellsOf 60 = 1 := by kernel_rfl
    have hx' : xs.length = 4 := hx
    refine ⟨n, c0, c1, c2, c3, xs[0], xs[1], xs[2], xs[3], hfu, rfl, ?_, ?_, ?_, ?_⟩
    · simpa [e0, List.getElem?_eq_getElem (show 0 < xs.length by omega)] using h0
    · simpa [e1, List.getElem?_eq_getElem (show 1 < xs.length by omega)] using h1
    · simpa [e0, List.getElem?_eq_getElem (show 2 < xs.length by omega)] using h2
    · simpa [e3, List.getElem?_eq_getElem (show 3 < xs.length by omega)] using h3

set_option maxRecDepth 100000 in
theorem openC {H : Type} {enc : TypeId × Value → H} {W : World} {spare : Nat → Bool} {held : Bool} : ∀ (fuel : Nat) (cs : List Value) (x : DataW H × List MemPlace), DataW.trod enc Tryz.prog W 0 spare held fuel 62 cs = some x →
    ∃ k : K, cs = [.int .i64 k.op, .string k.nm, .int .i64 k.day, .slice k.A k.ps.length k.cap] ∧ Lies W W.heap.size k := by
  intro fuel
  induction fuel using Nat.strongRecOn with
  | ind fuel ih =>
    intro cs x h
    obtain ⟨n, c0, c1, c2, c3, y0, y1, y2, y3, rfl, rfl, h0, h1, h2, h3⟩ := trodFour h
    obtain ⟨op, e0, _, _⟩ := DataW.trod_int Tryz.underlying3 h0
    obtain ⟨nm, e1, _, hn⟩ := DataW.trod_string Tryz.underlying9 h1
    obtain ⟨day, e2, _, _⟩ := DataW.trod_int Tryz.underlying3 h2
    simp at e0 e1 e2
    subst e0 e1 e2
    rcases DataW.trod_slice Tryz.underlying60 h3 with ⟨hc, _⟩ | ⟨a, len, cap, elems, rest, n', hn', hc, _, _, hl, hm, hel, hall, _, _⟩
    · simp at hc
      subst hc
      exact ⟨.mk op nm day none 0 [], rfl, ⟨fun h => by simp at h, ⟨hn, by simp, by unfold maxLen; omega⟩, trivial⟩, fun b hb => by simp [K.blocks, blocks] at hb⟩
    · simp at hc
      subst hc
      have key : ∀ i, i < len → ∃ k : K, W.cells? 0 (a.add (i * 4)) 4 = some [.int .i64 k.op, .string k.nm, .int .i64 k.day, .slice k.A k.ps.length k.cap] ∧ Lies W W.heap.size k := fun i hi => by
        have h1 := hall i hi
        rw [cellsLC, List.getElem?_eq_getElem (by omega)] at h1
        obtain ⟨cs', h2, h3⟩ := Option.bind_eq_some_iff.1 h1
        obtain ⟨k, rfl, hk⟩ := ih n' (by omega) cs' _ h3
        exact ⟨k, h2, hk⟩
      obtain ⟨f, hf⟩ := choose_lt key
      have hks : ((List.range len).map f).length = len := by simp
      have hget : ∀ i, ∀ h : i < ((List.range len).map f).length, ((List.range len).map f)[i] = f i := fun i h => by simp
      have hpos : 0 < len → ∃ b o, a = ⟨b, o, none⟩ ∧ b < W.heap.size := fun hp => by
        obtain ⟨x, y, z, t, _, g0, _⟩ := four (hf 0 hp).1
        rw [show (a.add (0 * 4)).add 0 = a by simp [Addr.add]] at g0
        exact ⟨a.block, a.off, spot_none g0, World.block_lt_of_cell? W a g0⟩
      refine ⟨.mk op nm day (some a) cap ((List.range len).map f), by simp [K.op, K.nm, K.day, K.A, K.cap, K.ps], ⟨⟨fun hp => ?_, ⟨hn, by omega, hm⟩, ins_mem.2 fun p hp => ?_⟩, fun b hb => ?_⟩⟩
      · obtain ⟨b, o, rfl, hb⟩ := hpos (by omega)
        refine ⟨b, o, rfl, fun i hi => ?_⟩
        obtain ⟨x, y, z, t, he, g0, g1, g2, g3⟩ := four (hf i (by omega)).1
        simp only [List.cons.injEq] at he
        obtain ⟨rfl, rfl, rfl, rfl, _⟩ := he
        rw [add_none, add_none] at g0 g1 g2 g3
        rw [hget i hi]
        exact ⟨g0, g1, g2, g3⟩
      · obtain ⟨i, hi, rfl⟩ := List.mem_map.1 hp
        exact (hf i (by simpa using hi)).2.has
      · simp only [K.blocks, List.mem_append] at hb
        rcases hb with hb | hb
        · have h0 : 0 < len := by
            rcases Nat.eq_zero_or_pos len with e | e
            · subst e; simp at hb
            · exact e
          obtain ⟨b', o, rfl, hb'⟩ := hpos h0
          have : b = b' := by
            split at hb
            · rename_i e _
              simp at e hb
              rw [hb, ← e]
            · simp at hb
          omega
        · obtain ⟨p, hp, hb'⟩ := blocks_mem.1 hb
          obtain ⟨i, hi, rfl⟩ := List.mem_map.1 hp
          exact (hf i (by simpa using hi)).2.lt b hb'

set_option maxRecDepth 100000 in
theorem openCond {H : Type} {enc : TypeId × Value → H} {W : World} {spare : Nat → Bool} {held : Bool} {r : Reach} {b0 : Nat} {v : Value} {d : DataW H} {p : List MemPlace} (hv : Value.okWide Tryz.prog W r b0 62 v) (h : DataW.Trod enc Tryz.prog W 0 spare held 62 v d p) :
    ∃ k : K, v = k.val ∧ Lies W W.heap.size k := by
  obtain ⟨cs, rfl, hsz⟩ := okWide_struct Tryz.underlying62 hv
  obtain ⟨fuel, hf⟩ := h
  obtain ⟨k, hk, hl⟩ := openC fuel _ _ hf
  refine ⟨k, ?_, hl⟩
  have : cs = #[.int .i64 k.op, .string k.nm, .int .i64 k.day, .slice k.A k.ps.length k.cap] := by
    apply Array.toList_inj.1
    simpa [Value.cells] using hk
  rw [this]

end Go.Proofs.YtomloodakabcbabGreat.Cond
