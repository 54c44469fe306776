/-
  A row of events that is sorted in place: its state, Less and Swap.
-/
import Derived.Test.YtomloodakabcbaaEtL
import Derived.Test.YtomloodakabcbaaEtR
import Derived.Test.YtomloodakabcbaaOpE
import Derived.Sort.WalkA
import Derived.Sort.Lot0
import Derived.RegionTactic
import Derived.Deep.QuietTactic
namespace Go.Proofs.Ytomloodakabcbaa.Et
open Go.RowKit Go.Proofs.Ytomloodakabcbaa.Cond Go.Proofs.Ytomloodakabcbaa.Gx
set_option linter.unusedVariables false
set_option linter.unusedSimpArgs false

/-- All but block g stands. -/
structure Oth (g : Nat) (w w' : World) : Prop where
  os : w'.os = w.os
  tape : w'.tape = w.tape
  output : w'.output = w.output
  size : w.heap.size ≤ w'.heap.size
  blk : ∀ k, k < w.heap.size → k ≠ g → w'.heap[k]? = w.heap[k]?
theorem Oth.refl (g : Nat) (w : World) : Oth g w w := ⟨rfl, rfl, rfl, Nat.le_refl _, fun _ _ _ => rfl⟩
theorem Oth.trans {g : Nat} {a b c : World} (h : Oth g a b) (k : Oth g b c) : Oth g a c :=
  ⟨k.os.trans h.os, k.tape.trans h.tape, k.output.trans h.output, Nat.le_trans h.size k.size, fun x hx hg => (k.blk x (Nat.lt_of_lt_of_le hx h.size) hg).trans (h.blk x hx hg)⟩
theorem Oth.of {g : Nat} {a b : World} (h : Below a.heap.size a b) : Oth g a b := ⟨h.os, h.tape, h.output, h.size, fun k hk _ => h.block k hk⟩
theorem Oth.below {g B : Nat} {a b : World} (h : Oth g a b) (hB : B ≤ g) (hs : B ≤ a.heap.size) : Below B a b := ⟨h.os, h.tape, h.output, h.size, fun k hk => h.blk k (by omega) (by omega)⟩
theorem Oth.set {g : Nat} (w : World) (o : Nat) (v : Value) : Oth g w (w.setCell ⟨g, o, none⟩ v) :=
  ⟨rfl, rfl, rfl, by simp [World.setCell], fun k _ hg => Below.heap_setCell w _ _ _ hg⟩
theorem Oth.own {g k o : Nat} {w0 w : World} {v : Value} (h : Oth g w0 w) (hk : w0.heap.size ≤ k) : Oth g w0 (w.setCell ⟨k, o, none⟩ v) :=
  ⟨h.os, h.tape, h.output, by have := h.size; simpa [World.setCell] using this, fun x hx hg => (Below.heap_setCell w ⟨k, o, none⟩ v x (by simp only; omega)).trans (h.blk x hx hg)⟩

/-- The row of block g holds d; all else is as in w0. -/
structure Sw (g n : Nat) (w0 : World) (d : Array E) (w : World) : Prop where
  siz : d.size = n
  rw : RwE w g n d.toList
  oth : Oth g w0 w
theorem Sw.start {g n : Nat} {w : World} {d : Array E} (h : RwE w g n d.toList) (hs : d.size = n) : Sw g n w d w := ⟨hs, h, Oth.refl _ _⟩
theorem Sw.on {g n : Nat} {w0 w w' : World} {d : Array E} (h : Sw g n w0 d w) (hb : Below w.heap.size w w') : Sw g n w0 d w' := ⟨h.siz, h.rw.on hb, h.oth.trans (Oth.of hb)⟩
theorem Sw.drew {g n : Nat} {w0 w : World} {d : Array E} (h : Sw g n w0 d w) : Sw g n w0 d w.drew := h.on (Below.refl _ _).drew
theorem Sw.drewN {g n : Nat} {w0 w : World} {d : Array E} (h : Sw g n w0 d w) (q : Nat) : Sw g n w0 d (w.drewN q) := h.on (below_drewN (Below.refl _ _) q)
theorem Sw.to {g n : Nat} {w0 w w' : World} {d d' : Array E} (h : Sw g n w0 d w) (k : Sw g n w d' w') : Sw g n w0 d' w' := ⟨k.siz, k.rw, h.oth.trans k.oth⟩
theorem Sw.re {g n : Nat} {w0 w : World} {d : Array E} (h : Sw g n w0 d w) : Sw g n w d w := Sw.start h.rw h.siz
theorem Sw.own {g n k o : Nat} {w0 w : World} {d : Array E} {v : Value} (h : Sw g n w0 d w) (hk : w0.heap.size ≤ k) (hg : k ≠ g) : Sw g n w0 d (w.setCell ⟨k, o, none⟩ v) :=
  ⟨h.siz, h.rw.alike (Below.heap_setCell w _ _ _ (fun e => hg e.symm)), h.oth.own hk⟩
theorem Sw.lt {g n : Nat} {w0 w : World} {d : Array E} (h : Sw g n w0 d w) : g < w.heap.size := h.rw.blk.lt

/-- Before. -/
def ltE (a b : E) : Bool := decide (cE a b < 0)
theorem getE {d : Array E} {i : Nat} (h : i < d.toList.length) : d[i]! = d.toList[i] := by
  have h' : i < d.size := by simpa using h
  rw [getElem!_pos d i h']
  simp
theorem lessA {g n : Nat} {w0 w : World} {d : Array E} (h : Sw g n w0 d w) (hn : n ≤ 40) (i j : Nat) (hi : i < n) (hj : j < n) :
    Calls Try.prog 82 #[.slice (some ⟨g, 0, none⟩) n n, .int .i64 (i : Int), .int .i64 (j : Int)] w fun e w' => e = .returned (.bool (ltE d[i]! d[j]!)) ∧ Sw g n w0 d w' := by
  have hl : d.toList.length = n := by simpa using h.siz
  have h1 : i < d.toList.length := by omega
  have h2 : j < d.toList.length := by omega
  have := lessE (some ⟨g, 0, none⟩) n n d.toList i j h1 h2 w (h.rw.lie hl (by unfold maxLen; omega))
  refine this.mono fun e w' ⟨he, hb⟩ => ⟨?_, h.on hb⟩
  rw [he, getE h1, getE h2]
  rfl
theorem reachSwap (A : Option Addr) (n cap : Nat) (w : World) : Sem.run Try.prog (method 211 44 (.slice A n cap) "Swap") w = .ok (83, .slice A n cap) w := by kernel_rfl

theorem farL {w : World} {b k j : Nat} {vs us : List Value} (h : El w b (k * 4) vs) (hv : vs.length = 4) (hu : us.length = 4) (hk : k ≠ j) : El (putL w b (j * 4) us) b (k * 4) vs :=
  fun t ht => (putL_other us w (j * 4) (by omega)).trans (h t ht)
theorem putSw {g n : Nat} {w : World} {d : Array E} {i j : Nat} (h : RwE w g n d.toList) (hs : d.size = n) (hi : i < n) (hj : j < n) :
    RwE (putL (putL w g (i * 4) d[j]!.cells) g (j * 4) d[i]!.cells) g n (Sort.swp d i j).toList := by
  have b1 := putL_blk (b := g) d[j]!.cells (i * 4) h.blk
  have b2 := putL_blk (b := g) d[i]!.cells (j * 4) b1
  have mi : d[i]! ∈ d.toList := by rw [getElem!_pos d i (by omega)]; simp
  have mj : d[j]! ∈ d.toList := by rw [getElem!_pos d j (by omega)]; simp
  refine ⟨b2, fun k hk => ?_, fun m hm => ?_⟩
  · have hk' : k < n := by simp [Sort.swp] at hk; omega
    by_cases e : k = j
    · subst e
      have : (Sort.swp d i k).toList[k] = d[i]! := by simp [Sort.swp, List.getElem_set]
      rw [this]
      exact putL_el _ _ b1 (by have := E.len d[i]!; omega)
    · by_cases e2 : k = i
      · subst e2
        have : (Sort.swp d k j).toList[k] = d[j]! := by simp [Sort.swp, List.getElem_set, Ne.symm e]
        rw [this]
        exact farL (putL_el _ _ h.blk (by have := E.len d[j]!; omega)) (E.len _) (E.len _) e
      · have hk2 : k < d.toList.length := by simp; omega
        have : (Sort.swp d i j).toList[k] = d.toList[k] := by simp [Sort.swp, List.getElem_set, Ne.symm e, Ne.symm e2]
        rw [this]
        exact farL (farL (h.el k hk2) (E.len _) (E.len _) e2) (E.len _) (E.len _) e
  · obtain ⟨k, hk, rfl⟩ := List.mem_iff_getElem.1 hm
    have hk' : k < n := by simp [Sort.swp] at hk; omega
    by_cases e : k = j
    · subst e
      have : (Sort.swp d i k).toList[k] = d[i]! := by simp [Sort.swp, List.getElem_set]
      rw [this]
      exact h.asz _ mi
    · by_cases e2 : k = i
      · subst e2
        have : (Sort.swp d k j).toList[k] = d[j]! := by simp [Sort.swp, List.getElem_set, Ne.symm e]
        rw [this]
        exact h.asz _ mj
      · have hk2 : k < d.toList.length := by simp; omega
        have : (Sort.swp d i j).toList[k] = d.toList[k] := by simp [Sort.swp, List.getElem_set, Ne.symm e, Ne.symm e2]
        rw [this]
        exact h.asz _ (List.getElem_mem hk2)
theorem Oth.putL {g : Nat} {w0 : World} : ∀ (vs : List Value) {w : World} (o : Nat), Oth g w0 w → Oth g w0 (putL w g o vs)
  | [], w, o, h => h
  | v :: vs, w, o, h => Oth.putL vs (o + 1) (h.trans (Oth.set w o v))

set_option maxRecDepth 100000 in
set_option maxHeartbeats 4000000 in
theorem swapA {g n : Nat} {w0 w : World} {d : Array E} (h : Sw g n w0 d w) (hn : n ≤ 40) (i j : Nat) (hi : i < n) (hj : j < n) :
    Calls Try.prog 83 #[.slice (some ⟨g, 0, none⟩) n n, .int .i64 (i : Int), .int .i64 (j : Int)] w fun e w' => e = .returned (.tuple #[]) ∧ Sw g n w0 (Sort.swp d i j) w' := by
  have HP : Hid (Sw g n w0 (Sort.swp d i j) (putL (putL w g (i * 4) d[j]!.cells) g (j * 4) d[i]!.cells)) := Lib.hid ⟨by simp [Sort.swp]; exact h.siz, putSw h.rw h.siz hi hj, (h.oth.putL _ _).putL _ _⟩
  have hl : d.toList.length = n := by simpa using h.siz
  have ei := h.rw.el i (by omega)
  have ej := h.rw.el j (by omega)
  rw [← getE (by omega)] at ei ej
  have fz := fun o => h.rw.blk.frozen o
  obtain ⟨a, ha⟩ : ∃ a, a = d[i]! := ⟨_, rfl⟩
  obtain ⟨b, hb⟩ : ∃ b, b = d[j]! := ⟨_, rfl⟩
  rw [← ha, ← hb] at HP
  rw [← ha] at ei
  rw [← hb] at ej
  obtain ⟨c0, c1, c2, c3⟩ := e4 ei
  obtain ⟨d0, d1, d2, d3⟩ := e4 ej
  have i0 : (0 : Int) ≤ (i : Int) := by omega
  have i1 : (i : Int) < (n : Int) := by omega
  have k0 : (0 : Int) ≤ (j : Int) := by omega
  have k1 : (j : Int) < (n : Int) := by omega
  have hblk := h.rw.blk
  have q0 := ((((hblk.set ⟨g, i * 4, none⟩ (.int .i64 b.day)).set ⟨g, i * 4 + 1, none⟩ (.int .i64 b.party)).set ⟨g, i * 4 + 2, none⟩ (.string b.act)).set ⟨g, i * 4 + 3, none⟩ (.int .i64 b.amt))
  obtain ⟨y0, hy0⟩ := q0.cell (o := j * 4) (by omega)
  obtain ⟨y1, hy1⟩ := q0.cell (o := j * 4 + 1) (by omega)
  obtain ⟨y2, hy2⟩ := q0.cell (o := j * 4 + 2) (by omega)
  obtain ⟨y3, hy3⟩ := q0.cell (o := j * 4 + 3) (by omega)
  have f0 := fz (i * 4)
  have f1 := fz (i * 4 + 1)
  have f2 := fz (i * 4 + 2)
  have f3 := fz (i * 4 + 3)
  have g0 := fz (j * 4)
  have g1 := fz (j * 4 + 1)
  have g2 := fz (j * 4 + 2)
  have g3 := fz (j * 4 + 3)
  clear h hl ei ej ha hb hblk q0 fz
  go_enter Try.func83, Try.ntmps83
  go_wp2_with fail
  go_region
  all_goals (try go_wp2)
  all_goals go_end0
  all_goals exact ⟨rfl, HP.out.drew⟩

end Go.Proofs.Ytomloodakabcbaa.Et
