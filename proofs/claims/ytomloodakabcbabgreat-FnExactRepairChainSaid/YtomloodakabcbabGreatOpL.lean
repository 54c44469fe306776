/-
  A clause and a contract that came in: how they lie in memory.
-/
import Derived.Test.YtomloodakabcbabGreatOpC
import Derived.Test.YtomloodakabcbabGreatCl
import Derived.Test.YtomloodakabcbabGreatClTo
namespace Go.Proofs.YtomloodakabcbabGreat.Cl
open Go.RowKit Go.ChangeShapes Go.WideShapes Go.ChangeAt Go.Joins Go.Deep Go.Proofs.YtomloodakabcbabGreat.Cond Go.Proofs.YtomloodakabcbabGreat.Gx
set_option linter.unusedVariables false

instance : Inhabited M := ⟨⟨.empty, 0, 0, .empty, 0, 0, default, 0, .empty⟩⟩
theorem cellsLL : Tryz.prog.cellsOf 64 = 12 := by kernel_rfl
theorem cellsCtr : Tryz.prog.cellsOf 25 = 2 := by kernel_rfl

set_option maxRecDepth 100000 in
theorem openM {H : Type} {enc : TypeId × Value → H} {W : World} {spare : Nat → Bool} {held : Bool} {fuel : Nat} {cs : List Value} {x : DataW H × List MemPlace} (h : DataW.trod enc Tryz.prog W 0 spare held fuel 64 cs = some x) :
    ∃ m : M, cs = m.cells ∧ LiM W W.heap.size m := by
  obtain ⟨xs, n, hfu, _, hl, hx, hfld⟩ := DataW.trod_struct Tryz.underlying64 h
  rw [cellsLL] at hl
  match cs, hl with
  | [c0, c1, c2, c3, c4, c5, c6, c7, c8, c9, c10, c11], _ =>
    have h0 := hfld 0 _ rfl
    have h1 := hfld 1 _ rfl
    have h2 := hfld 2 _ rfl
    have h3 := hfld 3 _ rfl
    have h4 := hfld 4 _ rfl
    have h5 := hfld 5 _ rfl
    have h6 := hfld 6 _ rfl
    have h7 := hfld 7 _ rfl
    have h8 := hfld 8 _ rfl
    have e0 : Tryz.prog.cellsOf 3 = 1 := by kernel_rfl
    have e1 : Tryz.prog.cellsOf 9 = 1 := by kernel_rfl
    have e2 : Tryz.prog.cellsOf 62 = 4 := by kernel_rfl
    have hx' : xs.length = 9 := hx
    have g0 : DataW.trod enc Tryz.prog W 0 spare held n 9 [c0] = some xs[0] := by simpa [e1, List.getElem?_eq_getElem (show 0 < xs.length by omega)] using h0
    have g1 : DataW.trod enc Tryz.prog W 0 spare held n 3 [c1] = some xs[1] := by simpa [e0, List.getElem?_eq_getElem (show 1 < xs.length by omega)] using h1
    have g2 : DataW.trod enc Tryz.prog W 0 spare held n 3 [c2] = some xs[2] := by simpa [e0, List.getElem?_eq_getElem (show 2 < xs.length by omega)] using h2
    have g3 : DataW.trod enc Tryz.prog W 0 spare held n 9 [c3] = some xs[3] := by simpa [e1, List.getElem?_eq_getElem (show 3 < xs.length by omega)] using h3
    have g4 : DataW.trod enc Tryz.prog W 0 spare held n 3 [c4] = some xs[4] := by simpa [e0, List.getElem?_eq_getElem (show 4 < xs.length by omega)] using h4
    have g5 : DataW.trod enc Tryz.prog W 0 spare held n 3 [c5] = some xs[5] := by simpa [e0, List.getElem?_eq_getElem (show 5 < xs.length by omega)] using h5
    have g6 : DataW.trod enc Tryz.prog W 0 spare held n 62 [c6, c7, c8, c9] = some xs[6] := by simpa [e2, List.getElem?_eq_getElem (show 6 < xs.length by omega)] using h6
    have g7 : DataW.trod enc Tryz.prog W 0 spare held n 3 [c10] = some xs[7] := by simpa [e0, List.getElem?_eq_getElem (show 7 < xs.length by omega)] using h7
    have g8 : DataW.trod enc Tryz.prog W 0 spare held n 9 [c11] = some xs[8] := by simpa [e1, List.getElem?_eq_getElem (show 8 < xs.length by omega)] using h8
    obtain ⟨a0, q0, _, s0⟩ := DataW.trod_string Tryz.underlying9 g0
    obtain ⟨a1, q1, _, _⟩ := DataW.trod_int Tryz.underlying3 g1
    obtain ⟨a2, q2, _, _⟩ := DataW.trod_int Tryz.underlying3 g2
    obtain ⟨a3, q3, _, s3⟩ := DataW.trod_string Tryz.underlying9 g3
    obtain ⟨a4, q4, _, _⟩ := DataW.trod_int Tryz.underlying3 g4
    obtain ⟨a5, q5, _, _⟩ := DataW.trod_int Tryz.underlying3 g5
    obtain ⟨k, q6, hk⟩ := openC n _ _ g6
    obtain ⟨a7, q7, _, _⟩ := DataW.trod_int Tryz.underlying3 g7
    obtain ⟨a8, q8, _, s8⟩ := DataW.trod_string Tryz.underlying9 g8
    simp only [List.cons.injEq, and_true] at q0 q1 q2 q3 q4 q5 q6 q7 q8
    obtain ⟨rfl, rfl, rfl, rfl⟩ := q6
    subst q0 q1 q2 q3 q4 q5 q7 q8
    exact ⟨⟨a0, a1, a2, a3, a4, a5, k, a7, a8⟩, rfl, hk, s0, s3, s8⟩

theorem cellsR {w : World} {a : Addr} : ∀ {n : Nat} {cs : List Value}, w.cells? 0 a n = some cs → cs.length = n ∧ ∀ i, ∀ h : i < cs.length, w.cell? (a.add i) = some cs[i] := by
  intro n cs h
  simp only [World.cells?, Nat.zero_le, if_true] at h
  have key : ∀ (l : List Nat) (cs : List Value), (l.mapM fun i => w.cell? (a.add i)) = some cs → cs.length = l.length ∧ ∀ i, ∀ h : i < cs.length, ∀ h2 : i < l.length, w.cell? (a.add l[i]) = some cs[i] := by
    intro l
    induction l with
    | nil => intro cs h; simp at h; subst h; simp
    | cons x l ih =>
      intro cs h
      simp only [List.mapM_cons, Option.bind_eq_bind, Option.bind_eq_some_iff, Option.pure_def, Option.some.injEq] at h
      obtain ⟨v, hv, vs, hvs, rfl⟩ := h
      obtain ⟨h1, h2⟩ := ih vs hvs
      refine ⟨by simp [h1], fun i hi hi2 => ?_⟩
      cases i with
      | zero => exact hv
      | succ i => exact h2 i (by simpa using hi) (by simpa using hi2)
  obtain ⟨h1, h2⟩ := key _ _ h
  rw [List.length_range] at h1
  refine ⟨h1, fun i hi => ?_⟩
  have := h2 i hi (by rw [List.length_range]; omega)
  simpa using this

set_option maxRecDepth 100000 in
theorem openMS {H : Type} {enc : TypeId × Value → H} {W : World} {spare : Nat → Bool} {held : Bool} {fuel : Nat} {c0 : Value} {x : DataW H × List MemPlace} (h : DataW.trod enc Tryz.prog W 0 spare held fuel 23 [c0] = some x) :
    ∃ (A : Option Addr) (n cap : Nat) (ms : List M), c0 = .slice A n cap ∧ LiR W W.heap.size A n cap ms := by
  rcases DataW.trod_slice Tryz.underlying23 h with ⟨hc, _⟩ | ⟨a, len, cap, elems, rest, n', hn', hc, _, _, hl, hm, hel, hall, _, _⟩
  · simp at hc
    exact ⟨none, 0, 0, [], hc, fun h => by simp at h, fun m hm => by simp at hm, rfl, Nat.le_refl _, by unfold maxLen; omega⟩
  · simp at hc
    have key : ∀ i, i < len → ∃ m : M, W.cells? 0 (a.add (i * 12)) 12 = some m.cells ∧ LiM W W.heap.size m := fun i hi => by
      have h1 := hall i hi
      rw [cellsLL, List.getElem?_eq_getElem (by omega)] at h1
      obtain ⟨cs', h2, h3⟩ := Option.bind_eq_some_iff.1 h1
      obtain ⟨m, rfl, hk⟩ := openM h3
      exact ⟨m, h2, hk⟩
    obtain ⟨f, hf⟩ := choose_lt key
    have hget : ∀ i, ∀ h : i < ((List.range len).map f).length, ((List.range len).map f)[i] = f i := fun i h => by simp
    refine ⟨some a, len, cap, (List.range len).map f, hc, fun hp => ?_, fun m hm => ?_, by simp, by omega, hm⟩
    · have hp' : 0 < len := by simpa using hp
      have g0 := (cellsR (hf 0 hp').1).2 0 (by rw [M.len]; omega)
      rw [show (a.add (0 * 12)).add 0 = a by simp [Addr.add]] at g0
      have hsp := spot_none g0
      refine ⟨a.block, a.off, by rw [← hsp], World.block_lt_of_cell? W a g0, fun i hi j hj => ?_⟩
      have hi' : i < len := by simpa using hi
      have h1 := (cellsR (hf i hi').1).2 j (by rw [hget i hi] at hj; exact hj)
      rw [hsp, add_none, add_none] at h1
      simp only [hget i hi]
      exact h1
    · obtain ⟨i, hi, rfl⟩ := List.mem_map.1 hm
      exact (hf i (by simpa using hi)).2

theorem openN {H : Type} {enc : TypeId × Value → H} {W : World} {spare : Nat → Bool} {held : Bool} {fuel : Nat} {c0 : Value} {x : DataW H × List MemPlace} (h : DataW.trod enc Tryz.prog W 0 spare held fuel 22 [c0] = some x) :
    ∃ (A : Option Addr) (n cap : Nat) (ss : List ByteArray), c0 = .slice A n cap ∧ LiN W W.heap.size A n cap ss := by
  rcases open_strings Tryz.underlying22 Tryz.underlying9 (by kernel_rfl) h with ⟨hcs, _⟩ | ⟨x, l, c, ss, hcs, _, hl, hm, hz, _, hcell, hws⟩
  · simp at hcs
    exact ⟨none, 0, 0, [], hcs, fun h => by simp at h, rfl, Nat.le_refl _, by unfold maxLen; omega, fun p hp => by simp at hp, fun ad e => by cases e⟩
  · simp at hcs
    have hz' : l ≤ ss.length := by rw [hz]; split <;> omega
    refine ⟨some x, l, c, ss.take l, hcs, fun hp => ?_, by simp; omega, hl, hm, fun p hp => hws p (List.mem_of_mem_take hp), fun ad e h0 => ?_⟩
    · have hl0 : 0 < ss.length := by simp at hp; omega
      refine ⟨x, rfl, ?_, fun j hj => ?_⟩
      · have h2 := World.block_lt_of_cell? W _ (hcell 0 hl0)
        rwa [Row.block_add] at h2
      · have hj' : j < ss.length := by simp at hj; omega
        rw [hcell j hj']
        simp [List.getD, hj']
    · injection e with e
      subst e
      have h2 := hcell 0 (by omega)
      rw [show x.add 0 = x by simp [Addr.add]] at h2
      exact spot_none h2

set_option maxRecDepth 100000 in
theorem openCt {H : Type} {enc : TypeId × Value → H} {W : World} {spare : Nat → Bool} {held : Bool} {r : Reach} {b0 : Nat} {v : Value} {d : DataW H} {p : List MemPlace} (hv : Value.okWide Tryz.prog W r b0 25 v) (h : DataW.Trod enc Tryz.prog W 0 spare held 25 v d p) :
    ∃ x : Kt, v = x.val ∧ LiC W W.heap.size x := by
  obtain ⟨c0, c1, y0, y1, f, rfl, rfl, rfl, hy0, hy1⟩ := open_agg2 Tryz.underlying25 (by kernel_rfl) cellsCtr hv h
  obtain ⟨A1, n1, c1', ss, rfl, hn⟩ := openN hy0
  obtain ⟨A2, n2, c2, ms, rfl, hm⟩ := openMS hy1
  exact ⟨⟨A1, n1, c1', ss, A2, n2, c2, ms⟩, rfl, hn, hm⟩

set_option maxRecDepth 100000 in
theorem openCl {H : Type} {enc : TypeId × Value → H} {W : World} {spare : Nat → Bool} {held : Bool} {r : Reach} {b0 : Nat} {v : Value} {d : DataW H} {p : List MemPlace} (hv : Value.okWide Tryz.prog W r b0 64 v) (h : DataW.Trod enc Tryz.prog W 0 spare held 64 v d p) :
    ∃ m : M, v = m.val ∧ LiM W W.heap.size m := by
  obtain ⟨cs, rfl, hsz⟩ := okWide_struct Tryz.underlying64 hv
  obtain ⟨fuel, hf⟩ := h
  obtain ⟨m, hm, hl⟩ := openM hf
  refine ⟨m, ?_, hl⟩
  have : cs = m.cells.toArray := by
    apply Array.toList_inj.1
    simpa [Value.cells] using hm
  rw [this]
  rfl

end Go.Proofs.YtomloodakabcbabGreat.Cl
