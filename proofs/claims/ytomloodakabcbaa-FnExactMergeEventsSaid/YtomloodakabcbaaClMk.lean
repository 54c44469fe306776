/-
  The marks that the laws write into clauses: markClauseS.
-/
import Derived.Test.YtomloodakabcbaaClTo
import Derived.Test.YtomloodakabcbaaCoHe
namespace Go.Proofs.Ytomloodakabcbaa.Cl
open Go.RowKit Go.Proofs.Ytomloodakabcbaa.Cond Go.Proofs.Ytomloodakabcbaa.Gx Go.Proofs.Ytomloodakabcbaa.Mark
set_option linter.unusedVariables false

/-- A clause with marks from t on. -/
def mkM (m : M) (t : Nat) : M := ⟨mt t, ((t + 1 : Nat) : Int), ((t + 2 : Nat) : Int), mt (t + 3), ((t + 4 : Nat) : Int), ((t + 5 : Nat) : Int), mkK m.k (t + 6), ((t + 6 + 3 * m.k.cond.size : Nat) : Int), mt (t + 7 + 3 * m.k.cond.size)⟩
/-- How many marks clauses bear. -/
def nMk : List M → Nat
  | [] => 0
  | m :: ms => 8 + 3 * m.k.cond.size + nMk ms
def mkR : List M → Nat → List M
  | [], _ => []
  | m :: ms, t => mkM m t :: mkR ms (t + (8 + 3 * m.k.cond.size))
theorem nMk_step {ms : List M} {i : Nat} (hi : i < ms.length) : nMk (ms.take (i + 1)) = nMk (ms.take i) + (8 + 3 * ms[i].k.cond.size) := by
  induction ms generalizing i with
  | nil => simp at hi
  | cons x xs ih =>
    cases i with
    | zero => simp [nMk]
    | succ i =>
      have := ih (i := i) (by simpa using hi)
      simp only [List.take_succ_cons, nMk, List.getElem_cons_succ]
      omega
theorem nMk_take_le (ms : List M) (i : Nat) : nMk (ms.take i) ≤ nMk ms := by
  induction ms generalizing i with
  | nil => simp [nMk]
  | cons x xs ih =>
    cases i with
    | zero => simp [nMk]
    | succ i => have := ih i; simp only [List.take_succ_cons, nMk]; omega
theorem mkR_length : ∀ (ms : List M) (t : Nat), (mkR ms t).length = ms.length
  | [], _ => rfl
  | m :: ms, t => by simp [mkR, mkR_length ms]
theorem mkR_get : ∀ (ms : List M) (t i : Nat) (h : i < ms.length), (mkR ms t)[i]'(by rw [mkR_length]; exact h) = mkM ms[i] (t + nMk (ms.take i))
  | m :: ms, t, 0, h => by simp [mkR, nMk]
  | m :: ms, t, i + 1, h => by
    have := mkR_get ms (t + (8 + 3 * m.k.cond.size)) i (by simpa using h)
    simp only [mkR, List.getElem_cons_succ, this, List.take_succ_cons, nMk]
    congr 1; omega
theorem mkR_blocks : ∀ (ms : List M) (t : Nat), Cond.blocks ((mkR ms t).map M.k) = Cond.blocks (ms.map M.k)
  | [], _ => rfl
  | m :: ms, t => by simp only [mkR, List.map_cons, Cond.blocks, mkR_blocks ms, mkM, mkK_blocks]

/-- Stores at o in block b: these values lie there now; all else but the blocks of S stands as it was. -/
structure Up (S : Nat → Prop) (b o : Nat) (w w' : World) (vs : List Value) : Prop where
  el : El w' b o vs
  far : ∀ x, (x < o ∨ o + vs.length ≤ x) → w'.cell? ⟨b, x, none⟩ = w.cell? ⟨b, x, none⟩
  fb : ∀ x, w'.frozen? ⟨b, x, none⟩ = w.frozen? ⟨b, x, none⟩
  lb : b < w.heap.size
  mv : Mv (fun x => x = b ∨ S x) (fun x => x = b ∨ S x) w w'
theorem Up.start {S : Nat → Prop} {b o : Nat} {w : World} {vs : List Value} (h : El w b o vs) (lb : b < w.heap.size) : Up S b o w w vs :=
  ⟨h, fun _ _ => rfl, fun _ => rfl, lb, ⟨rfl, rfl, rfl, Nat.le_refl _, fun _ _ _ => rfl, fun _ h => .inl h⟩⟩
theorem Up.lb' {S : Nat → Prop} {b o : Nat} {w w' : World} {vs : List Value} (h : Up S b o w w' vs) : b < w'.heap.size := Nat.lt_of_lt_of_le h.lb h.mv.size
theorem Up.set {S : Nat → Prop} {b o : Nat} {w w' : World} {vs : List Value} (h : Up S b o w w' vs) (i : Nat) (hi : i < vs.length) (v : Value) : Up S b o w (w'.setCell ⟨b, o + i, none⟩ v) (vs.set i v) := by
  have hb := (Below.refl b w').setCell (p := ⟨b, o + i, none⟩) (Nat.le_refl b) v
  refine ⟨fun j hj => ?_, fun x hx => ?_, fun x => ?_, h.lb, h.mv.trans ⟨hb.os, hb.tape, hb.output, hb.size, fun x _ hx => Below.heap_setCell w' ⟨b, o + i, none⟩ v x (fun e => hx (.inl e)), fun _ h => .inl h⟩⟩
  · have hj' : j < vs.length := by simpa using hj
    by_cases e : j = i
    · subst e
      rw [List.getElem_set_self]
      exact World.cell?_setCell_same _ _ _ (h.el j hj')
    · rw [List.getElem_set_ne (fun e2 => e e2.symm)]
      exact (World.cell?_setCell_other _ _ _ _ (fun e2 => by injection e2 with _ e2 _; omega)).trans (h.el j hj')
  · rw [List.length_set] at hx
    exact (World.cell?_setCell_other _ _ _ _ (fun e2 => by injection e2 with _ e2 _; omega)).trans (h.far x hx)
  · simp [h.fb x]
theorem Up.below {S : Nat → Prop} {b o : Nat} {w w' w2 : World} {vs : List Value} (h : Up S b o w w' vs) (hb : Below w'.heap.size w' w2) : Up S b o w w2 vs :=
  ⟨h.el.alike (hb.block b h.lb'), fun x hx => (World.cell?_of_block (a := ⟨b, x, none⟩) (hb.block b h.lb')).trans (h.far x hx), fun x => (World.frozen?_of_block (a := ⟨b, x, none⟩) (hb.block b h.lb')).trans (h.fb x), h.lb, h.mv.trans (Mv.of_below hb)⟩
theorem Up.weak {S S' : Nat → Prop} {b o : Nat} {w w' : World} {vs : List Value} (h : Up S b o w w' vs) (hs : ∀ x, S x → S' x) : Up S' b o w w' vs :=
  ⟨h.el, h.far, h.fb, h.lb, ⟨h.mv.os, h.mv.tape, h.mv.output, h.mv.size, fun x hx hn => h.mv.block x hx (fun hh => hn (hh.elim .inl fun h => .inr (hs x h))), fun _ h => .inl h⟩⟩
theorem Up.mvS {S : Nat → Prop} {b o : Nat} {w w' w2 : World} {vs : List Value} (h : Up S b o w w' vs) (hm : Mv S S w' w2) (hS : ¬ S b) : Up S b o w w2 vs :=
  have e := hm.block b h.lb' hS
  ⟨h.el.alike e, fun x hx => (World.cell?_of_block (a := ⟨b, x, none⟩) e).trans (h.far x hx), fun x => (World.frozen?_of_block (a := ⟨b, x, none⟩) e).trans (h.fb x), h.lb,
   h.mv.trans ⟨hm.os, hm.tape, hm.output, hm.size, fun x hx hn => hm.block x hx (fun hh => hn (.inr hh)), fun _ h => .inl h⟩⟩
theorem Up.trans {S : Nat → Prop} {b o : Nat} {w w1 w2 : World} {vs us : List Value} (h : Up S b o w w1 vs) (k : Up S b o w1 w2 us) (hl : us.length = vs.length) : Up S b o w w2 us :=
  ⟨k.el, fun x hx => (k.far x hx).trans (h.far x (by rw [hl] at hx; exact hx)), fun x => (k.fb x).trans (h.fb x), h.lb, h.mv.trans k.mv⟩

/-- The first i clauses of a row at b, o bear their marks; the others stand as they were. -/
structure MidM (w0 w : World) (b o t : Nat) (ms : List M) (i : Nat) : Prop where
  nb : b ∉ Cond.blocks (ms.map M.k)
  nd : (Cond.blocks (ms.map M.k)).Nodup
  lb : b < w.heap.size
  fb : ∀ x, w.frozen? ⟨b, x, none⟩ = false
  e1 : ∀ j, ∀ h : j < ms.length, j < i → El w b (o + j * 12) (mkM ms[j] (t + nMk (ms.take j))).cells ∧ (mkM ms[j] (t + nMk (ms.take j))).k.In w
  e2 : ∀ j, ∀ h : j < ms.length, i ≤ j → El w b (o + j * 12) ms[j].cells ∧ Wr w ms[j].k
  mv : Mv (fun x => x = b ∨ x ∈ Cond.blocks (ms.map M.k)) (fun x => x = b ∨ x ∈ Cond.blocks (ms.map M.k)) w0 w

theorem ks_get {ms : List M} {i : Nat} (hi : i < ms.length) : (ms.map M.k)[i]'(by rw [List.length_map]; exact hi) = ms[i].k := by simp
theorem MidM.step {w0 wr w5 : World} {b o t : Nat} {ms : List M} {i : Nat} (h : MidM w0 wr b o t ms i) (hi : i < ms.length)
    (hu : Up (· ∈ ms[i].k.blocks) b (o + i * 12) wr w5 (mkM ms[i] (t + nMk (ms.take i))).cells) (hin : (mkM ms[i] (t + nMk (ms.take i))).k.In w5) : MidM w0 w5 b o t ms (i + 1) := by
  have sz5 := hu.mv.size
  have ob : ∀ x, x < wr.heap.size → x ≠ b → x ∉ ms[i].k.blocks → w5.heap[x]? = wr.heap[x]? := fun x hx hne hnp => hu.mv.block x hx (fun hh => hh.elim hne hnp)
  have farEl : ∀ (j : Nat) (q : M), j ≠ i → El wr b (o + j * 12) q.cells → El w5 b (o + j * 12) q.cells := fun j q hne hq => fun p hp => by
    have hp' : p < 12 := by rw [M.len] at hp; exact hp
    exact (hu.far (o + j * 12 + p) (by rw [M.len]; omega)).trans (hq p hp)
  have disj : ∀ j, ∀ hj : j < ms.length, j ≠ i → ∀ x ∈ ms[j].k.blocks, x ∈ ms[i].k.blocks → False := fun j hj hne x h1 h2 => by
    refine blocks_disj h.nd (i := j) (j := i) (by rw [List.length_map]; exact hj) (by rw [List.length_map]; exact hi) hne (b := x) ?_ ?_
    · rw [ks_get hj]; exact h1
    · rw [ks_get hi]; exact h2
  have keepIn : ∀ (q : K), q.In wr → (∀ x ∈ q.blocks, x < wr.heap.size ∧ x ≠ b ∧ x ∉ ms[i].k.blocks) → q.In w5 := fun q hq hh => hq.alike fun x hx => ob x (hh x hx).1 (hh x hx).2.1 (hh x hx).2.2
  refine ⟨h.nb, h.nd, Nat.lt_of_lt_of_le h.lb sz5, fun x => (hu.fb x).trans (h.fb x), fun j hj hji => ?_, fun j hj hij => ?_, h.mv.trans ?_⟩
  · by_cases e : j = i
    · subst e
      exact ⟨hu.el, hin⟩
    · obtain ⟨f1, f2⟩ := h.e1 j hj (by omega)
      refine ⟨farEl j _ e f1, keepIn _ f2 fun x hx => ?_⟩
      have hlt := In_lt f2 x hx
      simp only [mkM, mkK_blocks] at hx
      exact ⟨hlt, fun e2 => h.nb (e2 ▸ mk_mem (List.getElem_mem hj) hx), fun h2 => disj j hj e x hx h2⟩
  · obtain ⟨f1, f2⟩ := h.e2 j hj (by omega)
    have hne : j ≠ i := by omega
    exact ⟨farEl j _ hne f1, f2.same (fun x hx => ob x (f2.lt x hx) (fun e2 => h.nb (e2 ▸ mk_mem (List.getElem_mem hj) hx)) (fun h2 => disj j hj hne x hx h2)) sz5⟩
  · exact ⟨hu.mv.os, hu.mv.tape, hu.mv.output, hu.mv.size, fun x hx hn => ob x hx (fun e => hn (.inl e)) (fun h2 => hn (.inr (mk_mem (List.getElem_mem hi) h2))), fun x hx => .inl hx⟩

/-- A row of clauses that may be written. -/
structure WrR (w : World) (A : Option Addr) (n cap : Nat) (ms : List M) : Prop where
  has : LiR w w.heap.size A n cap ms
  nd : (frontN A n ++ Cond.blocks (ms.map M.k)).Nodup
  fz : ∀ b ∈ frontN A n ++ Cond.blocks (ms.map M.k), ∀ o, w.frozen? ⟨b, o, none⟩ = false
theorem WrC.row {w : World} {x : Kt} (h : WrC w x) : WrR w x.A2 x.n2 x.c2 x.ms :=
  ⟨h.has.c, (List.nodup_append.1 h.nd).2.1, fun b hb => h.fz b (by simp only [Kt.blocks, List.mem_append] at hb ⊢; exact .inr hb)⟩
theorem WrR.wr {w : World} {A : Option Addr} {n cap : Nat} {ms : List M} (h : WrR w A n cap ms) {i : Nat} (hi : i < ms.length) : Wr w ms[i].k := by
  have hm := List.getElem_mem hi
  refine ⟨(h.has.all _ hm).k.has, fun b hb => (h.has.all _ hm).k.lt b hb, ?_, fun b hb => h.fz b (List.mem_append.2 (.inr (mk_mem hm hb)))⟩
  have := part_nodup (List.nodup_append.1 h.nd).2.1 (i := i) (by rw [List.length_map]; exact hi)
  rw [ks_get hi] at this
  exact this

end Go.Proofs.Ytomloodakabcbaa.Cl
