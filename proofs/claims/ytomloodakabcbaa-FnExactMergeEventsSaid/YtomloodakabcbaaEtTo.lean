/-
  What the laws' helpers toEvent and toEventS return: a copy in new memory; equal events by eqEvent, eqEventS.
-/
import Derived.Test.YtomloodakabcbaaEtB
namespace Go.Proofs.Ytomloodakabcbaa.Et
open Go.RowKit Go.Proofs.Ytomloodakabcbaa.Cond Go.Proofs.Ytomloodakabcbaa.Gx
set_option linter.unusedVariables false
set_option linter.unusedSimpArgs false

theorem al3 (w : World) (a b c : Obj) : Below w.heap.size w (((w.alloc a).alloc b).alloc c) := (((Below.refl _ _).alloc (Nat.le_refl _) _).alloc (by simp) _).alloc (by simp; omega) _

set_option maxHeartbeats 4000000 in
theorem toE (m : E) (w : World) :
    Calls Try.prog 17 #[m.val] w fun e w' => e = .returned m.val ∧ Below w.heap.size w w' := by
  go_enter Try.func17, Try.ntmps17
  go_wp2_with fail
  exact bodyPost_ret (v := m.val) (by simp [results, Try.results17, go_sem]) rfl ⟨rfl, al3 _ _ _ _⟩

/-- A row of events in block g of its own, with room for n. -/
structure RwE (w : World) (g n : Nat) (ms : List E) : Prop where
  blk : Blk w g (n * 4)
  el : ∀ i, ∀ h : i < ms.length, El w g (i * 4) ms[i].cells
  asz : ∀ m ∈ ms, m.act.size ≤ maxLen
theorem RwE.alike {w w' : World} {g n : Nat} {ms : List E} (h : RwE w g n ms) (hg : w'.heap[g]? = w.heap[g]?) : RwE w' g n ms :=
  ⟨h.blk.alike hg, fun i hi => (h.el i hi).alike hg, h.asz⟩
theorem RwE.below {w w' : World} {g n B : Nat} {ms : List E} (h : RwE w g n ms) (hb : Below B w w') (hg : g < B) : RwE w' g n ms := h.alike (hb.block g hg)
theorem RwE.on {w w' : World} {g n : Nat} {ms : List E} (h : RwE w g n ms) (hb : Below w.heap.size w w') : RwE w' g n ms := h.below hb h.blk.lt
/-- One event more is stored. -/
theorem RwE.snoc {w : World} {g n : Nat} {ms : List E} {m : E} (h : RwE w g n ms) (hs : m.act.size ≤ maxLen) (hl : ms.length < n) :
    RwE (putL w g (ms.length * 4) m.cells) g n (ms ++ [m]) := by
  have hml := E.len m
  refine ⟨putL_blk _ _ h.blk, fun i hi => ?_, fun x hx => ?_⟩
  · by_cases e : i = ms.length
    · subst e
      have e2 : (ms ++ [m])[ms.length]'hi = m := by simp
      rw [e2]
      exact putL_el _ _ h.blk (by rw [hml]; omega)
    · have hi' : i < ms.length := by simp at hi; omega
      have e2 : (ms ++ [m])[i]'hi = ms[i] := by simp [hi']
      rw [e2]
      exact putL_els (h.el i hi') (by rw [E.len]; omega)
  · rcases List.mem_append.1 hx with hx | hx
    · exact h.asz x hx
    · have : x = m := by simpa using hx
      subst this; exact hs
theorem RwE.lie {w : World} {g n : Nat} {ms : List E} (h : RwE w g n ms) (hl : ms.length = n) (hm : n ≤ maxLen) : LiE w w.heap.size (some ⟨g, 0, none⟩) n n ms :=
  ⟨fun _ => ⟨g, 0, rfl, h.blk.lt, fun i hi => by rw [Nat.zero_add]; exact h.el i hi⟩, h.asz, hl.symm, Nat.le_refl _, hm⟩

theorem infoEvent : (Try.prog.info? 38).map (fun i => (i.zero, i.size, i.bytes)) = some (some (.agg #[.int .i64 0, .int .i64 0, .string ByteArray.empty, .int .i64 0]), 4, 40) := by kernel_rfl

set_option maxRecDepth 100000 in
set_option maxHeartbeats 4000000 in
theorem toES (A : Option Addr) (n cap : Nat) (ms : List E) (w : World) (h : LiE w w.heap.size A n cap ms) (hl : n ≤ 1048576) :
    Calls Try.prog 7 #[.slice A n cap] w fun e w' => e = .returned (.slice (some ⟨w.heap.size, 0, none⟩) n n) ∧ RwE w' w.heap.size n ms ∧ Below w.heap.size w w' := by
  have HN := Lib.hid h.len
  have HL := Lib.hid h
  obtain ⟨i0, hi, hz0, hz1, hz2⟩ := info_parts infoEvent
  have HZ := Lib.hid hz2
  clear hz2 h
  go_enter Try.func7, Try.ntmps7
  go_wp2_with (at_make; refine wpList_make_full _ rfl _ _ 24 rfl w.heap.size 38 i0 (.agg #[.int .i64 0, .int .i64 0, .string ByteArray.empty, .int .i64 0]) 4 Try.underlying24 hi hz0 hz1 .i64 .i64 _ _ n rfl rfl rfl rfl (by rw [HZ.out]; omega) (by unfold maxLen; omega) (Nat.le_refl _) ?_; intro w1 hown1 hgrow1; refine Hid.out ?_)
  refine Lib.hid ?_
  have hb1 : Below w.heap.size w w1 := (Below.refl _ _).grown hgrow1 (Nat.le_refl _) (fun k hk => by cases hk)
  have HR0 : Hid (RwE w1 w.heap.size n []) := Lib.hid ⟨Blk.of_own hown1, fun i hi => by simp at hi, fun k hk => by simp at hk⟩
  have HB1 := Lib.hid hb1
  clear hown1 hgrow1 hb1
  go_wp2_with fail
  go_loopw [4] (fun i wr => ∃ (k : Nat) (ks : List E), k ≤ n ∧ i = .int .i64 k ∧ Hid (ks.length = k) ∧ Hid (ks = ms.take k) ∧ Hid (RwE wr w.heap.size n ks) ∧ Hid (Below w.heap.size w wr)) (fun i _ => n - (intOf i).toNat)
  case atStart => exact ⟨0, [], Nat.zero_le _, rfl, Lib.hid rfl, Lib.hid rfl, HR0, HB1⟩
  case round =>
    obtain ⟨k, ks, hk, rfl, HK, HS, HR, HB⟩ := hrel
    by_cases hlt : k < n
    · obtain ⟨b, o, hk', rfl, hB, hc⟩ := HL.out.get hlt
      obtain ⟨p, hp⟩ : ∃ p, p = ms[k] := ⟨_, rfl⟩
      have hE := hc wr HB.out
      rw [← hp] at hE
      obtain ⟨c0, c1, c2, c3⟩ := e4 hE
      have HT : Hid (ms.take (k + 1) = ms.take k ++ [p]) := Lib.hid (by rw [hp]; exact List.take_succ_eq_append_getElem hk')
      have HPS : Hid (p.act.size ≤ maxLen) := Lib.hid (HL.out.asz p (by rw [hp]; exact List.getElem_mem hk'))
      have IHp := Lib.hid (toE p wr)
      clear hp hc HR0 HB1 hE
      go_wp2_with (go_at_call 17; refine IHp.out.mono ?_; rintro e w2 ⟨rfl, hb2⟩; refine Hid.out ?_)
      refine Lib.hid ?_
      have HR2 := Lib.hid (HR.out.on hb2)
      have HW2 : Hid (RwE (putL w2 w.heap.size (ks.length * 4) p.cells) w.heap.size n (ks ++ [p])) := Lib.hid (HR2.out.snoc HPS.out (by have := HK.out; omega))
      have HBB := Lib.hid (putL_below (Nat.le_refl _) p.cells (k * 4) (HB.out.trans (hb2.mono HB.out.size)))
      rw [HK.out] at HW2
      have hblk := HR2.out.blk
      obtain ⟨x0, d0⟩ := hblk.cell (o := k * 4) (by omega)
      have f0 := hblk.frozen (k * 4)
      obtain ⟨x1, d1⟩ := hblk.cell (o := k * 4 + 1) (by omega)
      have f1 := hblk.frozen (k * 4 + 1)
      obtain ⟨x2, d2⟩ := hblk.cell (o := k * 4 + 2) (by omega)
      have f2 := hblk.frozen (k * 4 + 2)
      obtain ⟨x3, d3⟩ := hblk.cell (o := k * 4 + 3) (by omega)
      have f3 := hblk.frozen (k * 4 + 3)
      clear hb2 hblk
      go_wp2_with fail
      go_roundw
      case rel =>
        have h8 := HW2.out
        have h9 := HBB.out
        simp only [putL, E.cells, Nat.add_assoc, Nat.reduceAdd] at h8 h9
        exact ⟨k + 1, ks ++ [p], by omega, by go_num, Lib.hid (by rw [List.length_append, HK.out]; rfl), Lib.hid (by rw [HT.out, HS.out]), Lib.hid h8, Lib.hid h9⟩
      case measure => simp [intOf]; omega
    · have HE : Hid (ms.take k = ms) := Lib.hid (List.take_of_length_le (by have := HN.out; omega))
      go_wp2_with fail
      go_ret
      exact ⟨rfl, by have h := HR.out; rw [HS.out, HE.out] at h; exact h, HB.out⟩

set_option maxHeartbeats 4000000 in
theorem eqE (m : E) (w : World) :
    Calls Try.prog 22 #[m.val, m.val] w fun e w' => e = .returned (.bool true) ∧ Below w.heap.size w w' := by
  go_enter Try.func22, Try.ntmps22
  go_wp2_with fail
  go_ret
  exact ⟨rfl, by (repeat (first | exact Below.refl _ _ | apply Below.drew | (refine Below.alloc ?_ (by first | omega | (simp; done) | (simp; omega)) _)))⟩

set_option maxHeartbeats 4000000 in
theorem eqES (A1 A2 : Option Addr) (n c1 c2 : Nat) (ms : List E) (w : World) (hl : n ≤ 1048576) (h1 : LiE w w.heap.size A1 n c1 ms) (h2 : LiE w w.heap.size A2 n c2 ms) :
    Calls Try.prog 9 #[.slice A1 n c1, .slice A2 n c2] w fun e w' => e = .returned (.bool true) ∧ Below w.heap.size w w' := by
  have H1 := Lib.hid h1
  have H2 := Lib.hid h2
  clear h1 h2
  go_enter Try.func9, Try.ntmps9
  go_wp2_with fail
  go_loopw [5] (fun i wr => ∃ k : Nat, k ≤ n ∧ i = .int .i64 k ∧ Hid (Below w.heap.size w wr)) (fun i _ => n - (intOf i).toNat)
  case atStart => exact ⟨0, Nat.zero_le _, rfl, Lib.hid (Below.refl _ _)⟩
  case round =>
    obtain ⟨k, hk, rfl, HB⟩ := hrel
    by_cases hlt : k < n
    · obtain ⟨b, o, hk1, rfl, hB, hc⟩ := H1.out.get hlt
      obtain ⟨b', o', hk2, rfl, hB', hc'⟩ := H2.out.get hlt
      obtain ⟨p, hp⟩ : ∃ p, p = ms[k] := ⟨_, rfl⟩
      have hE := hc wr HB.out
      have hE' := hc' wr HB.out
      rw [← hp] at hE hE'
      obtain ⟨x0, x1, x2, x3⟩ := e4 hE
      obtain ⟨y0, y1, y2, y3⟩ := e4 hE'
      have IHp := Lib.hid (eqE p wr.drew)
      clear hp hc hc' hE hE'
      have i0 : (0 : Int) ≤ (k : Int) := by omega
      have i1 : (k : Int) < (n : Int) := by omega
      go_wp2_with fail
      go_region_with (go_at_call 22; refine IHp.out.mono ?_; rintro e w3 ⟨rfl, hb3⟩)
      all_goals go_wp2
      all_goals go_roundw
      all_goals first
        | exact ⟨k + 1, by omega, by go_num, Lib.hid (HB.out.trans ((below_of_drew hb3).mono HB.out.size))⟩
        | (simp [intOf]; omega)
    · go_wp2_with fail
      go_ret
      exact ⟨rfl, HB.out⟩

end Go.Proofs.Ytomloodakabcbaa.Et
