/-
  Duties, in plain facts and as they lie in memory; the laws' helpers szDutyS, toDuty, toDutyS, eqDuty, eqDutyS.
-/
import Derived.Test.YthdjdjgilnpmkaaGx
import Derived.Test.YthdjdjgilnpmkaaSz
namespace Go.Proofs.Ythdjdjgilnpmkaa.Dt
open Go.RowKit Go.Proofs.Ythdjdjgilnpmkaa.Cond Go.Proofs.Ythdjdjgilnpmkaa.Gx
set_option linter.unusedVariables false
set_option linter.unusedSimpArgs false

/-- A duty. -/
structure D where
  cl : Int
  since : Int
  due : Int
  st : Int
def D.cells (m : D) : List Value := [.int .i64 m.cl, .int .i64 m.since, .int .i64 m.due, .int .i64 m.st]
theorem D.len (m : D) : m.cells.length = 4 := rfl
abbrev D.val (m : D) : Value := .agg #[.int .i64 m.cl, .int .i64 m.since, .int .i64 m.due, .int .i64 m.st]
theorem d4 {w : World} {b o : Nat} {m : D} (h : El w b o m.cells) :
    w.cell? ⟨b, o, none⟩ = some (.int .i64 m.cl) ∧ w.cell? ⟨b, o + 1, none⟩ = some (.int .i64 m.since) ∧ w.cell? ⟨b, o + 2, none⟩ = some (.int .i64 m.due) ∧ w.cell? ⟨b, o + 3, none⟩ = some (.int .i64 m.st) :=
  have hl := D.len m
  ⟨h 0 (by omega), h 1 (by omega), h 2 (by omega), h 3 (by omega)⟩
theorem bd4 {w : World} {k : Nat} {m : D} (h : Bk k w m.cells) :
    w.cell? ⟨k, 0, none⟩ = some (.int .i64 m.cl) ∧ w.cell? ⟨k, 1, none⟩ = some (.int .i64 m.since) ∧ w.cell? ⟨k, 2, none⟩ = some (.int .i64 m.due) ∧ w.cell? ⟨k, 3, none⟩ = some (.int .i64 m.st) := by
  have := d4 h.el
  simpa only [Nat.zero_add] using this

/-- A row of duties lies below block B. -/
structure LiD (w : World) (B : Nat) (A : Option Addr) (n cap : Nat) (ms : List D) : Prop where
  at_ : AtR D.cells 4 w B A ms
  len : n = ms.length
  nc : n ≤ cap
  cm : cap ≤ maxLen
theorem LiD.below {w w' : World} {B : Nat} {A : Option Addr} {n cap : Nat} {ms : List D} (h : LiD w B A n cap ms) (hb : Below B w w') : LiD w' B A n cap ms := ⟨h.at_.below hb, h.len, h.nc, h.cm⟩
theorem LiD.more {w : World} {B B' : Nat} {A : Option Addr} {n cap : Nat} {ms : List D} (h : LiD w B A n cap ms) (hB : B ≤ B') : LiD w B' A n cap ms := ⟨h.at_.more hB, h.len, h.nc, h.cm⟩
theorem LiD.on {w w' : World} {A : Option Addr} {n cap : Nat} {ms : List D} (h : LiD w w.heap.size A n cap ms) (hb : Below w.heap.size w w') : LiD w' w'.heap.size A n cap ms := (h.below hb).more hb.size
theorem LiD.n1 {w : World} {B : Nat} {A : Option Addr} {n cap : Nat} {ms : List D} (h : LiD w B A n cap ms) : n ≤ 9223372036854775807 := Nat.le_trans h.nc h.cm
/-- An element of the row, in every later world. -/
theorem LiD.get {w : World} {B : Nat} {A : Option Addr} {n cap : Nat} {ms : List D} (h : LiD w B A n cap ms) {k : Nat} (hk : k < n) :
    ∃ b o, ∃ h' : k < ms.length, A = some ⟨b, o, none⟩ ∧ b < B ∧ ∀ v, Below B w v → El v b (o + k * 4) ms[k].cells := by
  have hk' : k < ms.length := by have := h.len; omega
  obtain ⟨b, o, e, hB, hc⟩ := h.at_ (by omega)
  exact ⟨b, o, hk', e, hB, fun v hv => (hc k hk').alike (hv.block b hB)⟩

theorem szRes_no {m t : Nat} (h : m < t) : szRes m t = -1 := if_pos h
theorem szRes_yes {m t : Nat} (h : ¬ m < t) : szRes m t = ((m - t : Nat) : Int) := if_neg h

set_option maxHeartbeats 4000000 in
theorem szDS (A : Option Addr) (n cap : Nat) (m : Nat) (hm : m ≤ 1048576) (w : World) (hl : n ≤ 9223372036854775807) :
    Calls Try.prog 10 #[.slice A n cap, .int .i64 m] w fun e w' => e = .returned (.int .i64 (szRes m n)) ∧ w = w' := by
  by_cases hbig : m < n
  · have g : (m : Int) < (n : Int) := by omega
    go_enter Try.func10, Try.ntmps10
    go_wp2
    go_ret
    refine ⟨?_, rfl⟩
    rw [szRes_no (by omega)]; rfl
  · have g : ¬ (m : Int) < (n : Int) := by omega
    go_enter Try.func10, Try.ntmps10
    go_wp2
    go_ret
    refine ⟨?_, rfl⟩
    rw [szRes_yes (by omega)]
    show Ending.returned (.int .i64 _) = _
    congr 2; omega

theorem al3 (w : World) (a b c : Obj) : Below w.heap.size w (((w.alloc a).alloc b).alloc c) := (((Below.refl _ _).alloc (Nat.le_refl _) _).alloc (by simp) _).alloc (by simp; omega) _

set_option maxHeartbeats 4000000 in
theorem toD (m : D) (w : World) :
    Calls Try.prog 23 #[m.val] w fun e w' => e = .returned m.val ∧ Below w.heap.size w w' := by
  go_enter Try.func23, Try.ntmps23
  go_wp2_with fail
  exact bodyPost_ret (v := m.val) (by simp [results, Try.results23, go_sem]) rfl ⟨rfl, al3 _ _ _ _⟩

/-- A row of duties in block g of its own, with room for n. -/
structure RwD (w : World) (g n : Nat) (ms : List D) : Prop where
  blk : Blk w g (n * 4)
  el : ∀ i, ∀ h : i < ms.length, El w g (i * 4) ms[i].cells
theorem RwD.alike {w w' : World} {g n : Nat} {ms : List D} (h : RwD w g n ms) (hg : w'.heap[g]? = w.heap[g]?) : RwD w' g n ms :=
  ⟨h.blk.alike hg, fun i hi => (h.el i hi).alike hg⟩
theorem RwD.below {w w' : World} {g n B : Nat} {ms : List D} (h : RwD w g n ms) (hb : Below B w w') (hg : g < B) : RwD w' g n ms := h.alike (hb.block g hg)
theorem RwD.on {w w' : World} {g n : Nat} {ms : List D} (h : RwD w g n ms) (hb : Below w.heap.size w w') : RwD w' g n ms := h.below hb h.blk.lt
/-- One duty more is stored. -/
theorem RwD.snoc {w : World} {g n : Nat} {ms : List D} {m : D} (h : RwD w g n ms) (hl : ms.length < n) :
    RwD (putL w g (ms.length * 4) m.cells) g n (ms ++ [m]) := by
  have hml := D.len m
  refine ⟨putL_blk _ _ h.blk, fun i hi => ?_⟩
  by_cases e : i = ms.length
  · subst e
    have e2 : (ms ++ [m])[ms.length]'hi = m := by simp
    rw [e2]
    exact putL_el _ _ h.blk (by rw [hml]; omega)
  · have hi' : i < ms.length := by simp at hi; omega
    have e2 : (ms ++ [m])[i]'hi = ms[i] := by simp [hi']
    rw [e2]
    exact putL_els (h.el i hi') (by rw [D.len]; omega)
theorem RwD.lie {w : World} {g n : Nat} {ms : List D} (h : RwD w g n ms) (hl : ms.length = n) (hm : n ≤ maxLen) : LiD w w.heap.size (some ⟨g, 0, none⟩) n n ms :=
  ⟨fun _ => ⟨g, 0, rfl, h.blk.lt, fun i hi => by rw [Nat.zero_add]; exact h.el i hi⟩, hl.symm, Nat.le_refl _, hm⟩

theorem infoDuty : (Try.prog.info? 43).map (fun i => (i.zero, i.size, i.bytes)) = some (some (.agg #[.int .i64 0, .int .i64 0, .int .i64 0, .int .i64 0]), 4, 32) := by kernel_rfl

set_option maxRecDepth 100000 in
set_option maxHeartbeats 4000000 in
theorem toDS (A : Option Addr) (n cap : Nat) (ms : List D) (w : World) (h : LiD w w.heap.size A n cap ms) (hl : n ≤ 1048576) :
    Calls Try.prog 14 #[.slice A n cap] w fun e w' => e = .returned (.slice (some ⟨w.heap.size, 0, none⟩) n n) ∧ RwD w' w.heap.size n ms ∧ Below w.heap.size w w' := by
  have HN := Lib.hid h.len
  have HL := Lib.hid h
  obtain ⟨i0, hi, hz0, hz1, hz2⟩ := info_parts infoDuty
  have HZ := Lib.hid hz2
  clear hz2 h
  go_enter Try.func14, Try.ntmps14
  go_wp2_with (at_make; refine wpList_make_full _ rfl _ _ 29 rfl w.heap.size 43 i0 (.agg #[.int .i64 0, .int .i64 0, .int .i64 0, .int .i64 0]) 4 Try.underlying29 hi hz0 hz1 .i64 .i64 _ _ n rfl rfl rfl rfl (by rw [HZ.out]; omega) (by unfold maxLen; omega) (Nat.le_refl _) ?_; intro w1 hown1 hgrow1; refine Hid.out ?_)
  refine Lib.hid ?_
  have hb1 : Below w.heap.size w w1 := (Below.refl _ _).grown hgrow1 (Nat.le_refl _) (fun k hk => by cases hk)
  have HR0 : Hid (RwD w1 w.heap.size n []) := Lib.hid ⟨Blk.of_own hown1, fun i hi => by simp at hi⟩
  have HB1 := Lib.hid hb1
  clear hown1 hgrow1 hb1
  go_wp2_with fail
  go_loopw [4] (fun i wr => ∃ (k : Nat) (ks : List D), k ≤ n ∧ i = .int .i64 k ∧ Hid (ks.length = k) ∧ Hid (ks = ms.take k) ∧ Hid (RwD wr w.heap.size n ks) ∧ Hid (Below w.heap.size w wr)) (fun i _ => n - (intOf i).toNat)
  case atStart => exact ⟨0, [], Nat.zero_le _, rfl, Lib.hid rfl, Lib.hid rfl, HR0, HB1⟩
  case round =>
    obtain ⟨k, ks, hk, rfl, HK, HS, HR, HB⟩ := hrel
    by_cases hlt : k < n
    · obtain ⟨b, o, hk', rfl, hB, hc⟩ := HL.out.get hlt
      obtain ⟨p, hp⟩ : ∃ p, p = ms[k] := ⟨_, rfl⟩
      have hE := hc wr HB.out
      rw [← hp] at hE
      obtain ⟨c0, c1, c2, c3⟩ := d4 hE
      have HT : Hid (ms.take (k + 1) = ms.take k ++ [p]) := Lib.hid (by rw [hp]; exact List.take_succ_eq_append_getElem hk')
      have IHp := Lib.hid (toD p wr)
      clear hp hc HR0 HB1 hE
      go_wp2_with (go_at_call 23; refine IHp.out.mono ?_; rintro e w2 ⟨rfl, hb2⟩; refine Hid.out ?_)
      refine Lib.hid ?_
      have HR2 := Lib.hid (HR.out.on hb2)
      have HW2 : Hid (RwD (putL w2 w.heap.size (ks.length * 4) p.cells) w.heap.size n (ks ++ [p])) := Lib.hid (HR2.out.snoc (by have := HK.out; omega))
      have HBB := Lib.hid (putL_below (Nat.le_refl _) p.cells (k * 4) (HB.out.trans (hb2.mono HB.out.size)))
      rw [HK.out] at HW2
      have hblk := HR2.out.blk
      obtain ⟨x0, d0⟩ := hblk.cell (o := k * 4) (by omega)
      have f0 := hblk.frozen (k * 4)
      obtain ⟨x1, d1⟩ := hblk.cell (o := k * 4 + 1) (by omega)
      have f1 := hblk.frozen (k * 4 + 1)
      obtain ⟨x2, d2⟩ := hblk.cell (o := k * 4 + 2) (by omega)
      have f2 := hblk.frozen (k * 4 + 2)
      obtain ⟨x3, d3⟩ := hblk.cell (o := k * 4 + 3) (by omega)
      have f3 := hblk.frozen (k * 4 + 3)
      clear hb2 hblk
      go_wp2_with fail
      go_roundw
      case rel =>
        have h8 := HW2.out
        have h9 := HBB.out
        simp only [putL, D.cells, Nat.add_assoc, Nat.reduceAdd] at h8 h9
        exact ⟨k + 1, ks ++ [p], by omega, by go_num, Lib.hid (by rw [List.length_append, HK.out]; rfl), Lib.hid (by rw [HT.out, HS.out]), Lib.hid h8, Lib.hid h9⟩
      case measure => simp [intOf]; omega
    · have HE : Hid (ms.take k = ms) := Lib.hid (List.take_of_length_le (by have := HN.out; omega))
      go_wp2_with fail
      go_ret
      exact ⟨rfl, by have h := HR.out; rw [HS.out, HE.out] at h; exact h, HB.out⟩

set_option maxHeartbeats 4000000 in
theorem eqD (m : D) (w : World) :
    Calls Try.prog 24 #[m.val, m.val] w fun e w' => e = .returned (.bool true) ∧ Below w.heap.size w w' := by
  go_enter Try.func24, Try.ntmps24
  go_wp2_with fail
  go_ret
  exact ⟨rfl, by (repeat (first | exact Below.refl _ _ | apply Below.drew | (refine Below.alloc ?_ (by first | omega | (simp; done) | (simp; omega)) _)))⟩

set_option maxHeartbeats 4000000 in
theorem eqDS (A1 A2 : Option Addr) (n c1 c2 : Nat) (ms : List D) (w : World) (hl : n ≤ 1048576) (h1 : LiD w w.heap.size A1 n c1 ms) (h2 : LiD w w.heap.size A2 n c2 ms) :
    Calls Try.prog 20 #[.slice A1 n c1, .slice A2 n c2] w fun e w' => e = .returned (.bool true) ∧ Below w.heap.size w w' := by
  have H1 := Lib.hid h1
  have H2 := Lib.hid h2
  clear h1 h2
  go_enter Try.func20, Try.ntmps20
  go_wp2_with fail
  go_loopw [5] (fun i wr => ∃ k : Nat, k ≤ n ∧ i = .int .i64 k ∧ Hid (Below w.heap.size w wr)) (fun i _ => n - (intOf i).toNat)
  case atStart => exact ⟨0, Nat.zero_le _, rfl, Lib.hid (Below.refl _ _)⟩
  case round =>
    obtain ⟨k, hk, rfl, HB⟩ := hrel
    by_cases hlt : k < n
    · obtain ⟨b, o, hk1, rfl, hB, hc⟩ := H1.out.get hlt
      obtain ⟨b', o', hk2, rfl, hB', hc'⟩ := H2.out.get hlt
      obtain ⟨p, hp⟩ : ∃ p, p = ms[k] := ⟨_, rfl⟩
      have hE := hc wr HB.out
      have hE' := hc' wr HB.out
      rw [← hp] at hE hE'
      obtain ⟨x0, x1, x2, x3⟩ := d4 hE
      obtain ⟨y0, y1, y2, y3⟩ := d4 hE'
      have IHp := Lib.hid (eqD p wr.drew)
      clear hp hc hc' hE hE'
      have i0 : (0 : Int) ≤ (k : Int) := by omega
      have i1 : (k : Int) < (n : Int) := by omega
      go_wp2_with fail
      go_region_with (go_at_call 24; refine IHp.out.mono ?_; rintro e w3 ⟨rfl, hb3⟩)
      all_goals go_wp2
      all_goals go_roundw
      all_goals first
        | exact ⟨k + 1, by omega, by go_num, Lib.hid (HB.out.trans ((below_of_drew hb3).mono HB.out.size))⟩
        | (simp [intOf]; omega)
    · go_wp2_with fail
      go_ret
      exact ⟨rfl, HB.out⟩

end Go.Proofs.Ythdjdjgilnpmkaa.Dt
