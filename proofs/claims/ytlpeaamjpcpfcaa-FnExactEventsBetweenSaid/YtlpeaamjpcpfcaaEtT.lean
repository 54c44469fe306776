/-
  transform of the program, over events: with Event.clone and with the closure of ShiftEvents.
-/
import Derived.Test.YtlpeaamjpcpfcaaEtO
namespace Go.Proofs.Ytlpeaamjpcpfcaa.Et
open Go.RowKit Go.Proofs.Ytlpeaamjpcpfcaa.Cond Go.Proofs.Ytlpeaamjpcpfcaa.Gx
set_option linter.unusedVariables false
set_option linter.unusedSimpArgs false

/-- An event, so many days later. -/
def shE (d : Int) (m : E) : E := ⟨m.day + d, m.party, m.act, m.amt⟩

set_option maxHeartbeats 4000000 in
theorem shiftFn (m : E) (d : Int) (k : Nat) (w : World) (hs : m.act.size ≤ 281474976710656) (h1 : -1000000 ≤ m.day) (h2 : m.day ≤ 1000000) (h3 : -1000000 ≤ d) (h4 : d ≤ 1000000) (hP : Bk k w [.int .i64 d]) :
    Calls Try.prog 55 #[m.val, .pointer (some ⟨k, 0, none⟩)] w fun e w' => e = .returned (shE d m).val ∧ Below w.heap.size w w' := by
  obtain ⟨X, hX⟩ : ∃ X, X = (w.alloc (.cells #[.int .i64 (m.day + d), .int .i64 m.party, .string m.act, .int .i64 m.amt] 47)).alloc (.cells #[.int .i64 0, .int .i64 0, .string ⟨#[]⟩, .int .i64 0] 47) := ⟨_, rfl⟩
  have B0 := Lib.hid (show Below w.heap.size w X by rw [hX]; exact (below1 _ _).alloc (by simp) _)
  have Y0 : Hid (Bk (w.heap.size + 1) X [.int .i64 0, .int .i64 0, .string ⟨#[]⟩, .int .i64 0]) := Lib.hid (by
    rw [hX]
    have := Bk.new (w.alloc (.cells #[.int .i64 (m.day + d), .int .i64 m.party, .string m.act, .int .i64 m.amt] 47)) #[.int .i64 0, .int .i64 0, .string ⟨#[]⟩, .int .i64 0] 47
    rw [World.size_alloc] at this
    exact this)
  have HCL := Lib.hid (cloneE (shE d m) X hs)
  have HX := Lib.hid hX
  have hlt := hP.lt
  have p0 := hP.c 0 (by simp)
  simp only [List.getElem_cons_zero] at p0
  clear hP hX hs
  go_enter Try.func55, Try.ntmps55
  go_wp2_with (go_at_call 48; (try rw [← HX.out]); refine HCL.out.mono ?_; rintro e w2 ⟨rfl, hb⟩; refine Hid.out ?_)
  refine Lib.hid ?_
  have Y2 := Lib.hid (Y0.out.on hb)
  have HB2 := Lib.hid (B0.out.trans (hb.mono B0.out.size))
  have Y4 := Lib.hid (Y2.out.put (us := (shE d m).cells) rfl)
  have HF : Hid (Below w.heap.size w (putL w2 (w.heap.size + 1) 0 (shE d m).cells)) := Lib.hid (putL_below (by omega) _ _ HB2.out)
  have yf0 := Y2.out.fz 0
  have yf1 := Y2.out.fz 1
  have yf2 := Y2.out.fz 2
  have yf3 := Y2.out.fz 3
  have y0 := Y2.out.c 0 (by simp)
  have y1 := Y2.out.c 1 (by simp)
  have y2 := Y2.out.c 2 (by simp)
  have y3 := Y2.out.c 3 (by simp)
  simp only [List.getElem_cons_succ, List.getElem_cons_zero] at y0 y1 y2 y3
  clear hb
  go_wp2_with fail
  obtain ⟨t0, t1, t2, t3⟩ := b4 Y4.out
  have hf := HF.out
  simp only [putL, E.cells, Nat.reduceAdd, Nat.zero_add] at t0 t1 t2 t3 hf
  exact bodyPost_ret (v := (shE d m).val) (by simp [results, Try.results55, go_sem, t0, t1, t2, t3]) rfl ⟨rfl, hf⟩

set_option maxRecDepth 100000 in
set_option maxHeartbeats 4000000 in
theorem transC (A : Option Addr) (n cap : Nat) (ms : List E) (w : World) (h : LiE w w.heap.size A n cap ms) (hm : n ≤ 100000) (hfn : ∀ m ∈ ms, ∀ v, Below w.heap.size w v → Calls Try.prog 48 #[m.val] v fun e w' => e = .returned (id m).val ∧ Below v.heap.size v w') (hfs : ∀ m ∈ ms, (id m).act.size ≤ maxLen) :
    Calls Try.prog 47 #[.slice A n cap, .func (.func 48) #[] #[]] w fun e w' => e = .returned (.slice (some ⟨w.heap.size, 0, none⟩) n n) ∧ RwE w' w.heap.size n (ms.map id) ∧ Below w.heap.size w w' := by
  have HFN := Lib.hid hfn
  have HFS := Lib.hid hfs
  have HN := Lib.hid h.len
  have HL := Lib.hid h
  obtain ⟨i0, hi, hz0, hz1, hz2⟩ := info_parts infoEvent
  have HZ := Lib.hid hz2
  clear hz2 h hfn hfs
  go_enter Try.func47, Try.ntmps47
  go_wp2_with (at_make; refine wpList_make_full _ rfl _ _ 24 rfl w.heap.size 47 i0 (.agg #[.int .i64 0, .int .i64 0, .string ByteArray.empty, .int .i64 0]) 4 Try.underlying24 hi hz0 hz1 .i64 .i64 _ _ n rfl rfl rfl rfl (by rw [HZ.out]; omega) (by unfold maxLen; omega) (Nat.le_refl _) ?_; intro w1 hown1 hgrow1; refine Hid.out ?_)
  refine Lib.hid ?_
  have hb1 : Below w.heap.size w w1 := (Below.refl _ _).grown hgrow1 (Nat.le_refl _) (fun k hk => by cases hk)
  have HR0 : Hid (RwE w1 w.heap.size n []) := Lib.hid ⟨Blk.of_own hown1, fun i hi => by simp at hi, fun k hk => by simp at hk⟩
  have HB1 := Lib.hid hb1
  clear hown1 hgrow1 hb1
  go_wp2_with fail
  go_loopw [13] (fun i wr => ∃ (k : Nat) (ks : List E), k ≤ n ∧ i = .int .i64 k ∧ Hid (ks.length = k) ∧ Hid (ks = (ms.take k).map id) ∧ Hid (RwE wr w.heap.size n ks) ∧ Hid (Below w.heap.size w wr)) (fun i _ => n - (intOf i).toNat)
  case atStart => exact ⟨0, [], Nat.zero_le _, rfl, Lib.hid rfl, Lib.hid rfl, HR0, HB1⟩
  case round =>
    obtain ⟨k, ks, hk, rfl, HK, HS, HR, HB⟩ := hrel
    by_cases hlt : k < n
    · obtain ⟨b, o, hk', rfl, hB, hc⟩ := HL.out.get hlt
      obtain ⟨p, hp⟩ : ∃ p, p = ms[k] := ⟨_, rfl⟩
      have hE := hc wr HB.out
      rw [← hp] at hE
      obtain ⟨c0, c1, c2, c3⟩ := e4 hE
      have i0 : (0 : Int) ≤ (k : Int) := by omega
      have i1 : (k : Int) < (n : Int) := by omega
      have hpm : p ∈ ms := by rw [hp]; exact List.getElem_mem hk'
      have HT : Hid (ms.take (k + 1) = ms.take k ++ [p]) := Lib.hid (by rw [hp]; exact List.take_succ_eq_append_getElem hk')
      obtain ⟨X, hX⟩ : ∃ X, X = wr.alloc (.cells #[.int .i64 p.day, .int .i64 p.party, .string p.act, .int .i64 p.amt] 47) := ⟨_, rfl⟩
      have HBX := Lib.hid (show Below wr.heap.size wr X by rw [hX]; exact below1 _ _)
      have IHp := Lib.hid (HFN.out p hpm X (HB.out.trans (HBX.out.mono HB.out.size)))
      have HPS := Lib.hid (HFS.out p hpm)
      obtain ⟨q, hq⟩ : ∃ q, q = id p := ⟨_, rfl⟩
      rw [← hq] at IHp HPS
      have HQ := Lib.hid hq
      have HX := Lib.hid hX
      clear hp hc HR0 HB1 hE hpm hX hq
      go_wp2_with (go_at_call 48; (try rw [← HX.out]); refine IHp.out.mono ?_; rintro e w2 ⟨rfl, hb2⟩; refine Hid.out ?_)
      refine Lib.hid ?_
      have hbb := HBX.out.trans (hb2.mono HBX.out.size)
      have HR2 := Lib.hid (HR.out.on hbb)
      have HW2 : Hid (RwE (putL w2 w.heap.size (ks.length * 4) q.cells) w.heap.size n (ks ++ [q])) := Lib.hid (HR2.out.snoc HPS.out (by have := HK.out; omega))
      have HBB := Lib.hid (putL_below (Nat.le_refl _) q.cells (k * 4) (HB.out.trans (hbb.mono HB.out.size)))
      rw [HK.out] at HW2
      have hblk := HR2.out.blk
      obtain ⟨x0, d0⟩ := hblk.cell (o := k * 4) (by omega)
      have f0 := hblk.frozen (k * 4)
      obtain ⟨x1, d1⟩ := hblk.cell (o := k * 4 + 1) (by omega)
      have f1 := hblk.frozen (k * 4 + 1)
      obtain ⟨x2, d2⟩ := hblk.cell (o := k * 4 + 2) (by omega)
      have f2 := hblk.frozen (k * 4 + 2)
      obtain ⟨x3, d3⟩ := hblk.cell (o := k * 4 + 3) (by omega)
      have f3 := hblk.frozen (k * 4 + 3)
      clear hb2 hbb hblk
      go_wp2_with fail
      go_roundw
      case rel =>
        have h8 := HW2.out
        have h9 := HBB.out
        simp only [putL, E.cells, Nat.add_assoc, Nat.reduceAdd] at h8 h9
        exact ⟨k + 1, ks ++ [q], by omega, by go_num, Lib.hid (by rw [List.length_append, HK.out]; rfl), Lib.hid (by rw [HT.out, List.map_append, HS.out, HQ.out]; rfl), Lib.hid h8, Lib.hid h9⟩
      case measure => simp [intOf]; omega
    · have HE : Hid (ms.take k = ms) := Lib.hid (List.take_of_length_le (by have := HN.out; omega))
      go_wp2_with fail
      go_ret
      exact ⟨rfl, by have h := HR.out; rw [HS.out, HE.out] at h; exact h, HB.out⟩

set_option maxRecDepth 100000 in
set_option maxHeartbeats 4000000 in
theorem transS (A : Option Addr) (n cap : Nat) (ms : List E) (d : Int) (pb : Nat) (w : World) (h : LiE w w.heap.size A n cap ms) (hm : n ≤ 100000) (hfn : ∀ m ∈ ms, ∀ v, Below w.heap.size w v → Calls Try.prog 55 #[m.val, .pointer (some ⟨pb, 0, none⟩)] v fun e w' => e = .returned ((shE d) m).val ∧ Below v.heap.size v w') (hfs : ∀ m ∈ ms, ((shE d) m).act.size ≤ maxLen) :
    Calls Try.prog 47 #[.slice A n cap, .func (.func 55) #[] #[.pointer (some ⟨pb, 0, none⟩)]] w fun e w' => e = .returned (.slice (some ⟨w.heap.size, 0, none⟩) n n) ∧ RwE w' w.heap.size n (ms.map (shE d)) ∧ Below w.heap.size w w' := by
  have HFN := Lib.hid hfn
  have HFS := Lib.hid hfs
  have HN := Lib.hid h.len
  have HL := Lib.hid h
  obtain ⟨i0, hi, hz0, hz1, hz2⟩ := info_parts infoEvent
  have HZ := Lib.hid hz2
  clear hz2 h hfn hfs
  go_enter Try.func47, Try.ntmps47
  go_wp2_with (at_make; refine wpList_make_full _ rfl _ _ 24 rfl w.heap.size 47 i0 (.agg #[.int .i64 0, .int .i64 0, .string ByteArray.empty, .int .i64 0]) 4 Try.underlying24 hi hz0 hz1 .i64 .i64 _ _ n rfl rfl rfl rfl (by rw [HZ.out]; omega) (by unfold maxLen; omega) (Nat.le_refl _) ?_; intro w1 hown1 hgrow1; refine Hid.out ?_)
  refine Lib.hid ?_
  have hb1 : Below w.heap.size w w1 := (Below.refl _ _).grown hgrow1 (Nat.le_refl _) (fun k hk => by cases hk)
  have HR0 : Hid (RwE w1 w.heap.size n []) := Lib.hid ⟨Blk.of_own hown1, fun i hi => by simp at hi, fun k hk => by simp at hk⟩
  have HB1 := Lib.hid hb1
  clear hown1 hgrow1 hb1
  go_wp2_with fail
  go_loopw [13] (fun i wr => ∃ (k : Nat) (ks : List E), k ≤ n ∧ i = .int .i64 k ∧ Hid (ks.length = k) ∧ Hid (ks = (ms.take k).map (shE d)) ∧ Hid (RwE wr w.heap.size n ks) ∧ Hid (Below w.heap.size w wr)) (fun i _ => n - (intOf i).toNat)
  case atStart => exact ⟨0, [], Nat.zero_le _, rfl, Lib.hid rfl, Lib.hid rfl, HR0, HB1⟩
  case round =>
    obtain ⟨k, ks, hk, rfl, HK, HS, HR, HB⟩ := hrel
    by_cases hlt : k < n
    · obtain ⟨b, o, hk', rfl, hB, hc⟩ := HL.out.get hlt
      obtain ⟨p, hp⟩ : ∃ p, p = ms[k] := ⟨_, rfl⟩
      have hE := hc wr HB.out
      rw [← hp] at hE
      obtain ⟨c0, c1, c2, c3⟩ := e4 hE
      have i0 : (0 : Int) ≤ (k : Int) := by omega
      have i1 : (k : Int) < (n : Int) := by omega
      have hpm : p ∈ ms := by rw [hp]; exact List.getElem_mem hk'
      have HT : Hid (ms.take (k + 1) = ms.take k ++ [p]) := Lib.hid (by rw [hp]; exact List.take_succ_eq_append_getElem hk')
      obtain ⟨X, hX⟩ : ∃ X, X = wr.alloc (.cells #[.int .i64 p.day, .int .i64 p.party, .string p.act, .int .i64 p.amt] 47) := ⟨_, rfl⟩
      have HBX := Lib.hid (show Below wr.heap.size wr X by rw [hX]; exact below1 _ _)
      have IHp := Lib.hid (HFN.out p hpm X (HB.out.trans (HBX.out.mono HB.out.size)))
      have HPS := Lib.hid (HFS.out p hpm)
      obtain ⟨q, hq⟩ : ∃ q, q = (shE d) p := ⟨_, rfl⟩
      rw [← hq] at IHp HPS
      have HQ := Lib.hid hq
      have HX := Lib.hid hX
      clear hp hc HR0 HB1 hE hpm hX hq
      go_wp2_with (go_at_call 55; (try rw [← HX.out]); refine IHp.out.mono ?_; rintro e w2 ⟨rfl, hb2⟩; refine Hid.out ?_)
      refine Lib.hid ?_
      have hbb := HBX.out.trans (hb2.mono HBX.out.size)
      have HR2 := Lib.hid (HR.out.on hbb)
      have HW2 : Hid (RwE (putL w2 w.heap.size (ks.length * 4) q.cells) w.heap.size n (ks ++ [q])) := Lib.hid (HR2.out.snoc HPS.out (by have := HK.out; omega))
      have HBB := Lib.hid (putL_below (Nat.le_refl _) q.cells (k * 4) (HB.out.trans (hbb.mono HB.out.size)))
      rw [HK.out] at HW2
      have hblk := HR2.out.blk
      obtain ⟨x0, d0⟩ := hblk.cell (o := k * 4) (by omega)
      have f0 := hblk.frozen (k * 4)
      obtain ⟨x1, d1⟩ := hblk.cell (o := k * 4 + 1) (by omega)
      have f1 := hblk.frozen (k * 4 + 1)
      obtain ⟨x2, d2⟩ := hblk.cell (o := k * 4 + 2) (by omega)
      have f2 := hblk.frozen (k * 4 + 2)
      obtain ⟨x3, d3⟩ := hblk.cell (o := k * 4 + 3) (by omega)
      have f3 := hblk.frozen (k * 4 + 3)
      clear hb2 hbb hblk
      go_wp2_with fail
      go_roundw
      case rel =>
        have h8 := HW2.out
        have h9 := HBB.out
        simp only [putL, E.cells, Nat.add_assoc, Nat.reduceAdd] at h8 h9
        exact ⟨k + 1, ks ++ [q], by omega, by go_num, Lib.hid (by rw [List.length_append, HK.out]; rfl), Lib.hid (by rw [HT.out, List.map_append, HS.out, HQ.out]; rfl), Lib.hid h8, Lib.hid h9⟩
      case measure => simp [intOf]; omega
    · have HE : Hid (ms.take k = ms) := Lib.hid (List.take_of_length_le (by have := HN.out; omega))
      go_wp2_with fail
      go_ret
      exact ⟨rfl, by have h := HR.out; rw [HS.out, HE.out] at h; exact h, HB.out⟩

end Go.Proofs.Ytlpeaamjpcpfcaa.Et
