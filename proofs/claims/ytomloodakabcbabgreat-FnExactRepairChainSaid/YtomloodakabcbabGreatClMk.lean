/-
  The marks that the laws write into clauses: markClauseS.
-/
import Derived.Test.YtomloodakabcbabGreatClTo
import Derived.Test.YtomloodakabcbabGreatCoHe
namespace Go.Proofs.YtomloodakabcbabGreat.Cl
open Go.RowKit Go.Proofs.YtomloodakabcbabGreat.Cond Go.Proofs.YtomloodakabcbabGreat.Gx Go.Proofs.YtomloodakabcbabGreat.Mark
set_option linter.unusedVariables false

/-- A clause with marks from t on. -/
def mkM (m : M) (t : Nat) : M := ⟨mt t, ((t + 1 : Nat) : Int), ((t + 2 : Nat) : Int), mt (t + 3), ((t + 4 : Nat) : Int), ((t + 5 : Nat) : Int), mkK m.k (t + 6), ((t + 6 + 3 * m.k.cond.size : Nat) : Int), mt (t + 7 + 3 * m.k.cond.size)⟩
/-- How many marks clauses bear. -/
def nMk : List M → Nat
  | [] => 0
  | m :: ms => 8 + 3 * m.k.cond.size + nMk ms
def mkR : List M → Nat → List M
  | [], _ => []
  | m :: ms, t => mkM m t :: mkR ms (t + (8 + 3 * m.k.cond.size))
theorem nMk_step {ms : List M} {i : Nat} (hi : i < ms.length) : nMk (ms.take (i + 1)) = nMk (ms.take i) + (8 + 3 * ms[i].k.cond.size) := by
  induction ms generalizing i with
  | nil => simp at hi
  | cons x xs ih =>
    cases i with
    | zero => simp [nMk]
    | succ i =>
      have := ih (i := i) (by simpa using hi)
      simp only [List.take_succ_cons, nMk, List.getElem_cons_succ]
      omega
theorem nMk_take_le (ms : List M) (i : Nat) : nMk (ms.take i) ≤ nMk ms := by
  induction ms generalizing i with
  | nil => simp [nMk]
  | cons x xs ih =>
    cases i with
    | zero => simp [nMk]
    | succ i => have := ih i; simp only [List.take_succ_cons, nMk]; omega
theorem mkR_length : ∀ (ms : List M) (t : Nat), (mkR ms t).length = ms.length
  | [], _ => rfl
  | m :: ms, t => by simp [mkR, mkR_length ms]
theorem mkR_get : ∀ (ms : List M) (t i : Nat) (h : i < ms.length), (mkR ms t)[i]'(by rw [mkR_length]; exact h) = mkM ms[i] (t + nMk (ms.take i))
  | m :: ms, t, 0, h => by simp [mkR, nMk]
  | m :: ms, t, i + 1, h => by
    have := mkR_get ms (t + (8 + 3 * m.k.cond.size)) i (by simpa using h)
    simp only [mkR, List.getElem_cons_succ, this, List.take_succ_cons, nMk]
    congr 1; omega
theorem mkR_blocks : ∀ (ms : List M) (t : Nat), Cond.blocks ((mkR ms t).map M.k) = Cond.blocks (ms.map M.k)
  | [], _ => rfl
  | m :: ms, t => by simp only [mkR, List.map_cons, Cond.blocks, mkR_blocks ms, mkM, mkK_blocks]

/-- Stores at o in block b: these values lie there now; all else but the blocks of S stands as it was. -/
structure Up (S : Nat → Prop) (b o : Nat) (w w' : World) (vs : List Value) : Prop where
  el : El w' b o vs
  far : ∀ x, (x < o ∨ o + vs.length ≤ x) → w'.cell? ⟨b, x, none⟩ = w.cell? ⟨b, x, none⟩
  fb : ∀ x, w'.frozen? ⟨b, x, none⟩ = w.frozen? ⟨b, x, none⟩
  lb : b < w.heap.size
  mv : Mv (fun x => x = b ∨ S x) (fun x => x = b ∨ S x) w w'
theorem Up.start {S : Nat → Prop} {b o : Nat} {w : World} {vs : List Value} (h : El w b o vs) (lb : b < w.heap.size) : Up S b o w w vs :=
  ⟨h, fun _ _ => rfl, fun _ => rfl, lb, ⟨rfl, rfl, rfl, Nat.le_refl _, fun _ _ _ => rfl, fun _ h => .inl h⟩⟩
theorem Up.lb' {S : Nat → Prop} {b o : Nat} {w w' : World} {vs : List Value} (h : Up S b o w w' vs) : b < w'.heap.size := Nat.lt_of_lt_of_le h.lb h.mv.size
theorem Up.set {S : Nat → Prop} {b o : Nat} {w w' : World} {vs : List Value} (h : Up S b o w w' vs) (i : Nat) (hi : i < vs.length) (v : Value) : Up S b o w (w'.setCell ⟨b, o + i, none⟩ v) (vs.set i v) := by
  have hb := (Below.refl b w').setCell (p := ⟨b, o + i, none⟩) (Nat.le_refl b) v
  refine ⟨fun j hj => ?_, fun x hx => ?_, fun x => ?_, h.lb, h.mv.trans ⟨hb.os, hb.tape, hb.output, hb.size, fun x _ hx => Below.heap_setCell w' ⟨b, o + i, none⟩ v x (fun e => hx (.inl e)), fun _ h => .inl h⟩⟩
  · have hj' : j < vs.length := by simpa using hj
    by_cases e : j = i
    · subst e
      rw [List.getElem_set_self]
      exact World.cell?_setCell_same _ _ _ (h.el j hj')
    · rw [List.getElem_set_ne (fun e2 => e e2.symm)]
      exact (World.cell?_setCell_other _ _ _ _ (fun e2 => by injection e2 with _ e2 _; omega)).trans (h.el j hj')
  · rw [List.length_set] at hx
    exact (World.cell?_setCell_other _ _ _ _ (fun e2 => by injection e2 with _ e2 _; omega)).trans (h.far x hx)
  · simp [h.fb x]
theorem Up.below {S : Nat → Prop} {b o : Nat} {w w' w2 : World} {vs : List Value} (h : Up S b o w w' vs) (hb : Below w'.heap.size w' w2) : Up S b o w w2 vs :=
  ⟨h.el.alike (hb.block b h.lb'), fun x hx => (World.cell?_of_block (a := ⟨b, x, none⟩) (hb.block b h.lb')).trans (h.far x hx), fun x => (World.frozen?_of_block (a := ⟨b, x, none⟩) (hb.block b h.lb')).trans (h.fb x), h.lb, h.mv.trans (Mv.of_below hb)⟩
theorem Up.weak {S S' : Nat → Prop} {b o : Nat} {w w' : World} {vs : List Value} (h : Up S b o w w' vs) (hs : ∀ x, S x → S' x) : Up S' b o w w' vs :=
  ⟨h.el, h.far, h.fb, h.lb, ⟨h.mv.os, h.mv.tape, h.mv.output, h.mv.size, fun x hx hn => h.mv.block x hx (fun hh => hn (hh.elim .inl fun h => .inr (hs x h))), fun _ h => .inl h⟩⟩
theorem Up.mvS {S : Nat → Prop} {b o : Nat} {w w' w2 : World} {vs : List Value} (h : Up S b o w w' vs) (hm : Mv S S w' w2) (hS : ¬ S b) : Up S b o w w2 vs :=
  have e := hm.block b h.lb' hS
  ⟨h.el.alike e, fun x hx => (World.cell?_of_block (a := ⟨b, x, none⟩) e).trans (h.far x hx), fun x => (World.frozen?_of_block (a := ⟨b, x, none⟩) e).trans (h.fb x), h.lb,
   h.mv.trans ⟨hm.os, hm.tape, hm.output, hm.size, fun x hx hn => hm.block x hx (fun hh => hn (.inr hh)), fun _ h => .inl h⟩⟩
theorem Up.trans {S : Nat → Prop} {b o : Nat} {w w1 w2 : World} {vs us : List Value} (h : Up S b o w w1 vs) (k : Up S b o w1 w2 us) (hl : us.length = vs.length) : Up S b o w w2 us :=
  ⟨k.el, fun x hx => (k.far x hx).trans (h.far x (by rw [hl] at hx; exact hx)), fun x => (k.fb x).trans (h.fb x), h.lb, h.mv.trans k.mv⟩

/-- The first i clauses of a row at b, o bear their marks; the others stand as they were. -/
structure MidM (w0 w : World) (b o t : Nat) (ms : List M) (i : Nat) : Prop where
  nb : b ∉ Cond.blocks (ms.map M.k)
  nd : (Cond.blocks (ms.map M.k)).Nodup
  lb : b < w.heap.size
  fb : ∀ x, w.frozen? ⟨b, x, none⟩ = false
  e1 : ∀ j, ∀ h : j < ms.length, j < i → El w b (o + j * 12) (mkM ms[j] (t + nMk (ms.take j))).cells ∧ (mkM ms[j] (t + nMk (ms.take j))).k.In w
  e2 : ∀ j, ∀ h : j < ms.length, i ≤ j → El w b (o + j * 12) ms[j].cells ∧ Wr w ms[j].k
  mv : Mv (fun x => x = b ∨ x ∈ Cond.blocks (ms.map M.k)) (fun x => x = b ∨ x ∈ Cond.blocks (ms.map M.k)) w0 w

theorem ks_get {ms : List M} {i : Nat} (hi : i < ms.length) : (ms.map M.k)[i]'(by rw [List.length_map]; exact hi) = ms[i].k := by simp
theorem MidM.step {w0 wr w5 : World} {b o t : Nat} {ms : List M} {i : Nat} (h : MidM w0 wr b o t ms i) (hi : i < ms.length)
    (hu : Up (· ∈ ms[i].k.blocks) b (o + i * 12) wr w5 (mkM ms[i] (t + nMk (ms.take i))).cells) (hin : (mkM ms[i] (t + nMk (ms.take i))).k.In w5) : MidM w0 w5 b o t ms (i + 1) := by
  have sz5 := hu.mv.size
  have ob : ∀ x, x < wr.heap.size → x ≠ b → x ∉ ms[i].k.blocks → w5.heap[x]? = wr.heap[x]? := fun x hx hne hnp => hu.mv.block x hx (fun hh => hh.elim hne hnp)
  have farEl : ∀ (j : Nat) (q : M), j ≠ i → El wr b (o + j * 12) q.cells → El w5 b (o + j * 12) q.cells := fun j q hne hq => fun p hp => by
    have hp' : p < 12 := by rw [M.len] at hp; exact hp
    exact (hu.far (o + j * 12 + p) (by rw [M.len]; omega)).trans (hq p hp)
  have disj : ∀ j, ∀ hj : j < ms.length, j ≠ i → ∀ x ∈ ms[j].k.blocks, x ∈ ms[i].k.blocks → False := fun j hj hne x h1 h2 => by
    refine blocks_disj h.nd (i := j) (j := i) (by rw [List.length_map]; exact hj) (by rw [List.length_map]; exact hi) hne (b := x) ?_ ?_
    · rw [ks_get hj]; exact h1
    · rw [ks_get hi]; exact h2
  have keepIn : ∀ (q : K), q.In wr → (∀ x ∈ q.blocks, x < wr.heap.size ∧ x ≠ b ∧ x ∉ ms[i].k.blocks) → q.In w5 := fun q hq hh => hq.alike fun x hx => ob x (hh x hx).1 (hh x hx).2.1 (hh x hx).2.2
  refine ⟨h.nb, h.nd, Nat.lt_of_lt_of_le h.lb sz5, fun x => (hu.fb x).trans (h.fb x), fun j hj hji => ?_, fun j hj hij => ?_, h.mv.trans ?_⟩
  · by_cases e : j = i
    · subst e
      exact ⟨hu.el, hin⟩
    · obtain ⟨f1, f2⟩ := h.e1 j hj (by omega)
      refine ⟨farEl j _ e f1, keepIn _ f2 fun x hx => ?_⟩
      have hlt := In_lt f2 x hx
      simp only [mkM, mkK_blocks] at hx
      exact ⟨hlt, fun e2 => h.nb (e2 ▸ mk_mem (List.getElem_mem hj) hx), fun h2 => disj j hj e x hx h2⟩
  · obtain ⟨f1, f2⟩ := h.e2 j hj (by omega)
    have hne : j ≠ i := by omega
    exact ⟨farEl j _ hne f1, f2.same (fun x hx => ob x (f2.lt x hx) (fun e2 => h.nb (e2 ▸ mk_mem (List.getElem_mem hj) hx)) (fun h2 => disj j hj hne x hx h2)) sz5⟩
  · exact ⟨hu.mv.os, hu.mv.tape, hu.mv.output, hu.mv.size, fun x hx hn => ob x hx (fun e => hn (.inl e)) (fun h2 => hn (.inr (mk_mem (List.getElem_mem hi) h2))), fun x hx => .inl hx⟩

/-- A row of clauses that may be written. -/
structure WrR (w : World) (A : Option Addr) (n cap : Nat) (ms : List M) : Prop where
  has : LiR w w.heap.size A n cap ms
  nd : (frontN A n ++ Cond.blocks (ms.map M.k)).Nodup
  fz : ∀ b ∈ frontN A n ++ Cond.blocks (ms.map M.k), ∀ o, w.frozen? ⟨b, o, none⟩ = false
theorem WrC.row {w : World} {x : Kt} (h : WrC w x) : WrR w x.A2 x.n2 x.c2 x.ms :=
  ⟨h.has.c, (List.nodup_append.1 h.nd).2.1, fun b hb => h.fz b (by simp only [Kt.blocks, List.mem_append] at hb ⊢; exact .inr hb)⟩
theorem WrR.wr {w : World} {A : Option Addr} {n cap : Nat} {ms : List M} (h : WrR w A n cap ms) {i : Nat} (hi : i < ms.length) : Wr w ms[i].k := by
  have hm := List.getElem_mem hi
  refine ⟨(h.has.all _ hm).k.has, fun b hb => (h.has.all _ hm).k.lt b hb, ?_, fun b hb => h.fz b (List.mem_append.2 (.inr (mk_mem hm hb)))⟩
  have := part_nodup (List.nodup_append.1 h.nd).2.1 (i := i) (by rw [List.length_map]; exact hi)
  rw [ks_get hi] at this
  exact this

set_option maxHeartbeats 8000000 in
set_option maxRecDepth 100000 in
theorem markMS (A : Option Addr) (n cap : Nat) (ms : List M) (t0 : Nat) (w : World) (ht0 : 1 ≤ t0) (hm : t0 + nMk ms ≤ 90000000) (hw : WrR w A n cap ms) :
    Calls Tryz.prog 27 #[.slice A n cap, .int .i64 (t0 : Int)] w fun e w' => e = .returned (.int .i64 ((t0 + nMk ms : Nat) : Int)) ∧ LiR w' w'.heap.size A n cap (mkR ms t0) ∧ Mv (· ∈ frontN A n ++ Cond.blocks (ms.map M.k)) (· ∈ frontN A n ++ Cond.blocks (ms.map M.k)) w w' := by
  have hlen := hw.has.len
  have hnc := hw.has.nc
  have hcm := hw.has.cm
  by_cases hp : 0 < n
  · obtain ⟨b, o, rfl, hbB, he⟩ := hw.has.at_ (by omega)
    have hfr : frontN (some ⟨b, o, none⟩) n = [b] := by
      obtain ⟨n', rfl⟩ : ∃ n', n = n' + 1 := ⟨n - 1, by omega⟩
      rfl
    have HFR := Lib.hid hfr
    have HM0 : Hid (MidM w w b o t0 ms 0) := Lib.hid (by
      have hnd := hw.nd
      have hfz := hw.fz
      rw [hfr] at hnd hfz
      obtain ⟨n1, n2⟩ := List.nodup_cons.1 hnd
      exact ⟨n1, n2, hbB, fun x => hfz b (by simp) x, fun j hj hji => by omega, fun j hj _ => ⟨he j hj, hw.wr hj⟩, ⟨rfl, rfl, rfl, Nat.le_refl _, fun _ _ _ => rfl, fun _ h => .inl h⟩⟩)
    have HN := Lib.hid hlen
    have HSZ := Lib.hid (And.intro hnc hcm)
    have HSM := Lib.hid hm
    unfold maxLen at hcm
    clear hw hlen he hfr hm hbB
    go_enter Tryz.func27, Tryz.ntmps27
    go_wp2_with fail
    go_loopw [1, 5] (fun v i wr => ∃ (j : Nat) (t : Nat), j ≤ n ∧ i = .int .i64 j ∧ v = .int .i64 (t : Int) ∧ Hid (t = t0 + nMk (ms.take j)) ∧ Hid (MidM w wr b o t0 ms j)) (fun _ i _ => n - (intOf i).toNat)
    case atStart => exact ⟨0, t0, Nat.zero_le _, rfl, rfl, Lib.hid (by simp [nMk]), HM0⟩
    case round =>
      clear HM0
      obtain ⟨j, t, hj, rfl, rfl, HT, HM⟩ := hrel
      by_cases hlt : j < n
      · have hj' : j < ms.length := by have := HN.out; omega
        obtain ⟨p, hpp⟩ : ∃ p, p = ms[j] := ⟨_, rfl⟩
        have hst := nMk_step hj'
        have hle := nMk_take_le ms (j + 1)
        have ht1 : 1 ≤ t := by rw [HT.out]; omega
        have HT2 : Hid (t + 8 + 3 * p.k.cond.size ≤ 90000000) := Lib.hid (by rw [HT.out, hpp]; have := HSM.out; omega)
        have HPC : Hid (p.k.cond.size = 1 + sizes (conds p.k.ps)) := Lib.hid (by cases p.k with | mk op' nm' day' A' cap' qs => simp only [K.ps, K.cond, C.size])
        obtain ⟨hE, hWp⟩ := HM.out.e2 j hj' (Nat.le_refl _)
        rw [← hpp] at hE hWp
        have HW := Lib.hid hWp
        have HPP := Lib.hid hpp
        have HNB : Hid (b ∉ p.k.blocks) := Lib.hid fun hh => HM.out.nb (mk_mem (List.getElem_mem hj') (by rw [← hpp]; exact hh))
        have HMT : Hid (∀ (q : Nat) (z : Int) (v : World), z = (q : Int) → t ≤ q → q ≤ 90000000 → Calls Tryz.prog 41 #[.int .i64 z] v fun e w' => e = .returned (.string (mt q)) ∧ Below v.heap.size v w') := Lib.hid fun q z v hz h1 h2 => by
          rw [hz]; exact markText q (by omega) (by omega) v
        have U0 : Hid (Up (fun _ => False) b (o + j * 12) wr wr p.cells) := Lib.hid (Up.start hE HM.out.lb)
        have FB : Hid (∀ x, wr.frozen? ⟨b, x, none⟩ = false) := Lib.hid HM.out.fb
        have ht3 : t + 20 ≤ 90000020 := by have := HT2.out; omega
        have HTR : Hid (t + 11 ≤ 90000000) := Lib.hid (by have := HT2.out; have := HPC.out; omega)
        clear hE hWp hpp hst hle
        go_wp2_with (go_at_call 41; refine (HMT.out t _ _ rfl (Nat.le_refl _) (by have := HTR.out; omega)).mono ?_; rintro e w1 ⟨rfl, hb1⟩; refine Hid.out ?_)
        refine Lib.hid ?_
        have U1 := Lib.hid (U0.out.below hb1)
        have G1 : Hid (∀ x, w1.frozen? ⟨b, x, none⟩ = false) := Lib.hid fun x => (U1.out.fb x).trans (FB.out x)
        obtain ⟨s1, hs1⟩ : ∃ s, s = mt t := ⟨_, rfl⟩
        rw [← hs1]
        have HS1 := Lib.hid hs1
        clear hs1 hb1 U0
        obtain ⟨x0, c0⟩ : ∃ x, w1.cell? ⟨b, o + j * 12, none⟩ = some x := ⟨_, U1.out.el 0 (by simp [M.len])⟩
        have f0 := G1.out (o + j * 12)
        obtain ⟨x1, c1⟩ : ∃ x, w1.cell? ⟨b, o + j * 12 + 1, none⟩ = some x := ⟨_, U1.out.el 1 (by simp [M.len])⟩
        have f1 := G1.out (o + j * 12 + 1)
        obtain ⟨x2, c2⟩ : ∃ x, w1.cell? ⟨b, o + j * 12 + 2, none⟩ = some x := ⟨_, U1.out.el 2 (by simp [M.len])⟩
        have f2 := G1.out (o + j * 12 + 2)
        go_wp2_with (go_at_call 41; refine (HMT.out (t + 3) _ _ (by omega) (by omega) (by have := HTR.out; omega)).mono ?_; rintro e w2 ⟨rfl, hb2⟩; refine Hid.out ?_)
        refine Lib.hid ?_
        have U2 := Lib.hid ((((U1.out.set 0 (by simp [M.len]) (.string s1)).set 1 (by simp [M.len]) (.int .i64 ((t : Int) + 1))).set 2 (by simp [M.len]) (.int .i64 ((t : Int) + 1 + 1))).below hb2)
        have G2 : Hid (∀ x, w2.frozen? ⟨b, x, none⟩ = false) := Lib.hid fun x => (U2.out.fb x).trans (FB.out x)
        obtain ⟨s2, hs2⟩ : ∃ s, s = mt (t + 3) := ⟨_, rfl⟩
        rw [← hs2]
        have HS2 := Lib.hid hs2
        clear hs2 hb2 U1 G1 c0 f0 c1 f1 c2 f2
        obtain ⟨x3, c3⟩ : ∃ x, w2.cell? ⟨b, o + j * 12 + 3, none⟩ = some x := ⟨_, U2.out.el 3 (by simp [M.len])⟩
        have f3 := G2.out (o + j * 12 + 3)
        obtain ⟨x4, c4⟩ : ∃ x, w2.cell? ⟨b, o + j * 12 + 4, none⟩ = some x := ⟨_, U2.out.el 4 (by simp [M.len])⟩
        have f4 := G2.out (o + j * 12 + 4)
        obtain ⟨x5, c5⟩ : ∃ x, w2.cell? ⟨b, o + j * 12 + 5, none⟩ = some x := ⟨_, U2.out.el 5 (by simp [M.len])⟩
        have f5 := G2.out (o + j * 12 + 5)
        obtain ⟨x6, c6⟩ : ∃ x, w2.cell? ⟨b, o + j * 12 + 6, none⟩ = some x := ⟨_, U2.out.el 6 (by simp [M.len])⟩
        have f6 := G2.out (o + j * 12 + 6)
        go_wp2_with (go_at_call 41; refine (HMT.out (t + 7) _ _ (by omega) (by omega) (by have := HTR.out; omega)).mono ?_; rintro e w3 ⟨rfl, hb3⟩; refine Hid.out ?_)
        refine Lib.hid ?_
        have U3 := Lib.hid (((((U2.out.set 3 (by simp [M.len]) (.string s2)).set 4 (by simp [M.len]) (.int .i64 ((t : Int) + 1 + 1 + 1 + 1))).set 5 (by simp [M.len]) (.int .i64 ((t : Int) + 1 + 1 + 1 + 1 + 1))).set 6 (by simp [M.len]) (.int .i64 ((t : Int) + 1 + 1 + 1 + 1 + 1 + 1))).below hb3)
        have G3 : Hid (∀ x, w3.frozen? ⟨b, x, none⟩ = false) := Lib.hid fun x => (U3.out.fb x).trans (FB.out x)
        obtain ⟨s3, hs3⟩ : ∃ s, s = mt (t + 7) := ⟨_, rfl⟩
        rw [← hs3]
        have HS3 := Lib.hid hs3
        clear hs3 hb3 U2 G2 c3 f3 c4 f4 c5 f5 c6 f6
        obtain ⟨x7, c7⟩ : ∃ x, w3.cell? ⟨b, o + j * 12 + 7, none⟩ = some x := ⟨_, U3.out.el 7 (by simp [M.len])⟩
        have f7 := G3.out (o + j * 12 + 7)
        obtain ⟨x8, c8⟩ : ∃ x, w3.cell? ⟨b, o + j * 12 + 8, none⟩ = some x := ⟨_, U3.out.el 8 (by simp [M.len])⟩
        have f8 := G3.out (o + j * 12 + 8)
        have c9 : w3.cell? ⟨b, o + j * 12 + 9, none⟩ = some (.slice p.k.A p.k.ps.length p.k.cap) := U3.out.el 9 (by simp [M.len])
        have U4 := Lib.hid ((U3.out.set 7 (by simp [M.len]) (.string s3)).set 8 (by simp [M.len]) (.int .i64 ((t : Int) + 1 + 1 + 1 + 1 + 1 + 1 + 1 + 1)))
        obtain ⟨X, hX⟩ : ∃ X, X = (w3.setCell ⟨b, o + j * 12 + 7, none⟩ (.string s3)).setCell ⟨b, o + j * 12 + 8, none⟩ (.int .i64 ((t : Int) + 1 + 1 + 1 + 1 + 1 + 1 + 1 + 1)) := ⟨_, rfl⟩
        rw [← hX] at U4
        have HX := Lib.hid hX
        have HR : Hid (Calls Tryz.prog 42 #[.slice p.k.A p.k.ps.length p.k.cap, .int .i64 ((t : Int) + 1 + 1 + 1 + 1 + 1 + 1 + 1 + 1 + 1)] X fun e w' => e = .returned (.int .i64 ((t + 9 + 3 * sizes (conds p.k.ps) : Nat) : Int)) ∧ (K.mk p.k.op p.k.nm p.k.day p.k.A p.k.cap (mkL p.k.ps (t + 9))).In w' ∧ Mv (· ∈ p.k.blocks) (· ∈ p.k.blocks) X w') := Lib.hid (by
          have := markS p.k (t + 9) X (by omega) (by have := HT2.out; have := HPC.out; omega) (HW.out.same (fun x hx => U4.out.mv.block x (HW.out.lt x hx) (fun hh => hh.elim (fun e => HNB.out (e ▸ hx)) id)) U4.out.mv.size)
          rw [show ((t + 9 : Nat) : Int) = (t : Int) + 1 + 1 + 1 + 1 + 1 + 1 + 1 + 1 + 1 by omega] at this
          exact this)
        obtain ⟨t2, ht2⟩ : ∃ t2, t2 = t + 9 + 3 * sizes (conds p.k.ps) := ⟨_, rfl⟩
        rw [← ht2] at HR
        have HTT := Lib.hid ht2
        have HT9 : Hid (t2 + 2 = t + 8 + 3 * p.k.cond.size) := Lib.hid (by rw [ht2, HPC.out]; omega)
        have ht4 : t2 + 2 ≤ 90000000 := by have := HT2.out; have := HT9.out; omega
        have ht5 : (0 : Int) ≤ (t2 : Int) := by omega
        have HTQ : Hid (t ≤ t2) := Lib.hid (by omega)
        clear hX ht2 U3
        go_wp2_with (go_at_call 42; (try rw [← HX.out]); refine HR.out.mono ?_; rintro e w4 ⟨rfl, hin4, hm4⟩; refine Hid.out ?_)
        refine Lib.hid ?_
        have U5 := Lib.hid ((U4.out.weak (S' := (· ∈ p.k.blocks)) (fun _ h => h.elim)).mvS hm4 HNB.out)
        have V5 : Hid (Up (fun _ => False) b (o + j * 12) w4 w4 _) := Lib.hid (Up.start U5.out.el U5.out.lb')
        have G5 : Hid (∀ x, w4.frozen? ⟨b, x, none⟩ = false) := Lib.hid fun x => (U5.out.fb x).trans (FB.out x)
        have HIN4 := Lib.hid hin4
        clear hin4 hm4 c9 U4 G3 HR c7 f7 c8 f8
        obtain ⟨x10, c10⟩ : ∃ x, w4.cell? ⟨b, o + j * 12 + 10, none⟩ = some x := ⟨_, V5.out.el 10 (by simp [M.len])⟩
        have f10 := G5.out (o + j * 12 + 10)
        go_wp2_with (go_at_call 41; refine (HMT.out (t2 + 1) _ _ (by omega) (by have := HTQ.out; omega) (by omega)).mono ?_; rintro e w5 ⟨rfl, hb5⟩; refine Hid.out ?_)
        refine Lib.hid ?_
        have V6 := Lib.hid ((V5.out.set 10 (by simp [M.len]) (.int .i64 (t2 : Int))).below hb5)
        have G6 : Hid (∀ x, w5.frozen? ⟨b, x, none⟩ = false) := Lib.hid fun x => (V6.out.fb x).trans (G5.out x)
        obtain ⟨s5, hs5⟩ : ∃ s, s = mt (t2 + 1) := ⟨_, rfl⟩
        rw [← hs5]
        have HS5 := Lib.hid hs5
        clear hs5 hb5 V5 G5 c10 f10
        obtain ⟨x11, c11⟩ : ∃ x, w5.cell? ⟨b, o + j * 12 + 11, none⟩ = some x := ⟨_, V6.out.el 11 (by simp [M.len])⟩
        have f11 := G6.out (o + j * 12 + 11)
        have V7 := Lib.hid (V6.out.set 11 (by simp [M.len]) (.string s5))
        have HNX : Hid (MidM w (w5.setCell ⟨b, o + j * 12 + 11, none⟩ (.string s5)) b o t0 ms (j + 1)) := Lib.hid (by
          have hin : (mkK p.k (t + 6)).In w4 := by
            have h4 := HIN4.out
            cases hk : p.k with
            | mk op' nm' day' A' cap' qs =>
              rw [hk] at h4
              obtain ⟨u1, ⟨u2, u3, u4⟩, u5⟩ := h4
              simp only [mkK]
              refine ⟨u1, ⟨?_, u3, u4⟩, u5⟩
              have := mt_size (t + 6 + 1)
              have := HTR.out
              unfold maxLen; omega
          refine HM.out.step hj' ?_ ?_
          · have hu := U5.out.trans (V7.out.weak (S' := (· ∈ p.k.blocks)) (fun _ h => h.elim)) (by simp [M.len])
            rw [← HT.out, ← HPP.out]
            have hc : (mkM p t).cells = (((((((((((p.cells.set 0 (.string s1)).set 1 (.int .i64 ((t : Int) + 1))).set 2 (.int .i64 ((t : Int) + 1 + 1))).set 3 (.string s2)).set 4 (.int .i64 ((t : Int) + 1 + 1 + 1 + 1))).set 5 (.int .i64 ((t : Int) + 1 + 1 + 1 + 1 + 1))).set 6 (.int .i64 ((t : Int) + 1 + 1 + 1 + 1 + 1 + 1))).set 7 (.string s3)).set 8 (.int .i64 ((t : Int) + 1 + 1 + 1 + 1 + 1 + 1 + 1 + 1))).set 10 (.int .i64 (t2 : Int))).set 11 (.string s5)) := by
              have e9 : t2 = t + 6 + 3 * p.k.cond.size := by have := HT9.out; omega
              rw [HS1.out, HS2.out, HS3.out, HS5.out, e9]
              show (mkM p t).cells = [.string (mt t), .int .i64 ((t : Int) + 1), .int .i64 ((t : Int) + 1 + 1), .string (mt (t + 3)), .int .i64 ((t : Int) + 1 + 1 + 1 + 1), .int .i64 ((t : Int) + 1 + 1 + 1 + 1 + 1), .int .i64 ((t : Int) + 1 + 1 + 1 + 1 + 1 + 1), .string (mt (t + 7)), .int .i64 ((t : Int) + 1 + 1 + 1 + 1 + 1 + 1 + 1 + 1), .slice p.k.A p.k.ps.length p.k.cap, .int .i64 ((t + 6 + 3 * p.k.cond.size : Nat) : Int), .string (mt (t + 6 + 3 * p.k.cond.size + 1))]
              rw [show t + 6 + 3 * p.k.cond.size + 1 = t + 7 + 3 * p.k.cond.size by omega, show (t : Int) + 1 + 1 = ((t + 2 : Nat) : Int) by omega, show ((t + 2 : Nat) : Int) + 1 + 1 = ((t + 4 : Nat) : Int) by omega, show ((t + 4 : Nat) : Int) + 1 = ((t + 5 : Nat) : Int) by omega, show ((t + 5 : Nat) : Int) + 1 = ((t + 6 : Nat) : Int) by omega, show ((t + 6 : Nat) : Int) + 1 + 1 = ((t + 8 : Nat) : Int) by omega]
              unfold M.cells mkM
              cases hk : p.k with
              | mk op' nm' day' A' cap' qs => simp only [mkK, K.op, K.nm, K.day, K.A, K.cap, K.ps, mkL_length]; rfl
            rw [hc]
            exact hu
          · rw [← HT.out, ← HPP.out]
            refine hin.alike fun x hx => V7.out.mv.block x (In_lt hin x hx) (fun hh => hh.elim (fun e => ?_) id)
            rw [mkK_blocks] at hx
            exact HNB.out (e ▸ hx))
        have HTN : Hid (t2 + 2 = t0 + nMk (ms.take (j + 1))) := Lib.hid (by have h1 := nMk_step hj'; rw [← HPP.out] at h1; have h2 := HT.out; have h3 := HT9.out; omega)
        clear V6 U5 V7 HIN4 HW HNB HS1 HS2 HS3 HS5
        go_wp2_with fail
        go_roundw
        case rel => exact ⟨j + 1, t2 + 2, by omega, by go_num, by go_num, HTN, HNX⟩
        case measure => simp [intOf]; omega
      · have HE : Hid (ms.take j = ms) := Lib.hid (List.take_of_length_le (by have := HN.out; omega))
        go_wp2_with fail
        go_ret
        refine ⟨?_, ⟨fun hp => ⟨b, o, rfl, HM.out.lb, fun i hi => ?_⟩, fun x hx => ?_, ?_, HSZ.out.1, HSZ.out.2⟩, ?_⟩
        · have := HT.out
          rw [HE.out] at this
          rw [← this]; rfl
        · have hi' : i < ms.length := by rw [mkR_length] at hi; exact hi
          rw [mkR_get ms t0 i hi']
          exact (HM.out.e1 i hi' (by have := HN.out; omega)).1
        · obtain ⟨i, hi, rfl⟩ := List.mem_iff_getElem.1 hx
          have hi' : i < ms.length := by rw [mkR_length] at hi; exact hi
          rw [mkR_get ms t0 i hi']
          have h2 := (HM.out.e1 i hi' (by have := HN.out; omega)).2
          have hs := nMk_step hi'
          have hl := nMk_take_le ms (i + 1)
          have hM := HSM.out
          have q1 := mt_size (t0 + nMk (ms.take i))
          have q2 := mt_size (t0 + nMk (ms.take i) + 3)
          have q3 := mt_size (t0 + nMk (ms.take i) + 7 + 3 * ms[i].k.cond.size)
          exact ⟨⟨h2, In_lt h2⟩, by unfold maxLen; simp only [mkM]; omega, by unfold maxLen; simp only [mkM]; omega, by unfold maxLen; simp only [mkM]; omega⟩
        · rw [mkR_length]; exact HN.out
        · have := HM.out.mv
          rw [HFR.out]
          simpa only [List.cons_append, List.nil_append, List.mem_cons] using this
  · have hn0 : n = 0 := by omega
    subst hn0
    have hnil : ms = [] := List.eq_nil_of_length_eq_zero (by omega)
    subst hnil
    have HH := Lib.hid hw.has
    clear hw hp hm hlen
    go_enter Tryz.func27, Tryz.ntmps27
    go_wp2_with fail
    go_loopw [1, 5] (fun v i wr => v = .int .i64 (t0 : Int) ∧ i = .int .i64 0 ∧ w = wr) (fun _ i _ => 0)
    case atStart => exact ⟨rfl, rfl, rfl⟩
    case round =>
      obtain ⟨rfl, rfl, rfl⟩ := hrel
      go_wp2_with fail
      go_ret
      exact ⟨rfl, HH.out, ⟨rfl, rfl, rfl, Nat.le_refl _, fun _ _ _ => rfl, fun _ h => .inl h⟩⟩

end Go.Proofs.YtomloodakabcbabGreat.Cl
