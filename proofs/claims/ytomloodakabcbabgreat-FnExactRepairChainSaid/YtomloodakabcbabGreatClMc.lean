/-
  The marks that the laws write into contracts, and read back: markStringS, heldStringS, markContract, heldContract.
-/
import Derived.Test.YtomloodakabcbabGreatClHe
import Derived.Test.YtomloodakabcbabGreatOpC
import Derived.Deep.RegionHeld3
namespace Go.Proofs.YtomloodakabcbabGreat.Cl
open Go.RowKit Go.Proofs.YtomloodakabcbabGreat.Cond Go.Proofs.YtomloodakabcbabGreat.Gx Go.Proofs.YtomloodakabcbabGreat.Mark
set_option linter.unusedVariables false
set_option linter.unusedSimpArgs false

/-- n names that bear marks from t on. -/
def mkSS (n t : Nat) : List ByteArray := (List.range n).map fun i => mt (t + i)
theorem mkSS_length (n t : Nat) : (mkSS n t).length = n := by simp [mkSS]
theorem mkSS_get {n t i : Nat} (h : i < n) : (mkSS n t)[i]'(by rw [mkSS_length]; exact h) = mt (t + i) := by simp [mkSS]

/-- The first i names of a row at b, o bear their marks. -/
structure MidS (w0 w : World) (b o t : Nat) (ss : List ByteArray) (i : Nat) : Prop where
  lb : b < w.heap.size
  fb : ∀ x, w.frozen? ⟨b, x, none⟩ = false
  e1 : ∀ j, j < ss.length → j < i → w.cell? ⟨b, o + j, none⟩ = some (.string (mt (t + j)))
  e2 : ∀ j, ∀ h : j < ss.length, i ≤ j → w.cell? ⟨b, o + j, none⟩ = some (.string ss[j])
  mv : Mv (· = b) (· = b) w0 w
theorem MidS.step {w0 wr w1 : World} {b o t : Nat} {ss : List ByteArray} {i : Nat} (h : MidS w0 wr b o t ss i) (hi : i < ss.length) (hb : Below wr.heap.size wr w1) : MidS w0 (w1.setCell ⟨b, o + i, none⟩ (.string (mt (t + i)))) b o t ss (i + 1) := by
  have q : ∀ x, w1.cell? ⟨b, x, none⟩ = wr.cell? ⟨b, x, none⟩ := fun x => World.cell?_of_block (a := ⟨b, x, none⟩) (hb.block b h.lb)
  have far : ∀ j, j ≠ i → (w1.setCell ⟨b, o + i, none⟩ (.string (mt (t + i)))).cell? ⟨b, o + j, none⟩ = wr.cell? ⟨b, o + j, none⟩ := fun j hj => (World.cell?_setCell_other _ _ _ _ (fun e => by injection e with _ e _; omega)).trans (q _)
  have hs := (Below.refl b w1).setCell (p := ⟨b, o + i, none⟩) (Nat.le_refl b) (.string (mt (t + i)))
  refine ⟨by rw [World.size_setCell]; exact Nat.lt_of_lt_of_le h.lb hb.size, fun x => ?_, fun j hj hji => ?_, fun j hj hij => ?_, (h.mv.trans (Mv.of_below hb)).trans ⟨hs.os, hs.tape, hs.output, hs.size, fun x _ hx => Below.heap_setCell w1 ⟨b, o + i, none⟩ _ x hx, fun _ h => .inl h⟩⟩
  · have : w1.frozen? ⟨b, x, none⟩ = false := (World.frozen?_of_block (a := ⟨b, x, none⟩) (hb.block b h.lb)).trans (h.fb x)
    simp [this]
  · by_cases e : j = i
    · subst e
      exact World.cell?_setCell_same _ _ _ ((q _).trans (h.e2 j hi (Nat.le_refl _)))
    · exact (far j e).trans (h.e1 j hj (by omega))
  · exact (far j (by omega)).trans (h.e2 j hj (by omega))

set_option maxHeartbeats 4000000 in
theorem markSS (A : Option Addr) (n cap : Nat) (ss : List ByteArray) (t0 : Nat) (w : World) (ht0 : 1 ≤ t0) (hm : t0 + n ≤ 90000000) (hw : LiN w w.heap.size A n cap ss) (hfz : ∀ b ∈ frontN A n, ∀ o, w.frozen? ⟨b, o, none⟩ = false) :
    Calls Tryz.prog 26 #[.slice A n cap, .int .i64 (t0 : Int)] w fun e w' => e = .returned (.int .i64 ((t0 + n : Nat) : Int)) ∧ LiN w' w'.heap.size A n cap (mkSS n t0) ∧ Mv (· ∈ frontN A n) (· ∈ frontN A n) w w' := by
  have hlen := hw.len
  have hnc := hw.nc
  have hcm := hw.cm
  by_cases hp : 0 < n
  · obtain ⟨ad, e, hbB, he⟩ := hw.is (by omega)
    have had := hw.sp ad e hp
    obtain ⟨b, o, had2⟩ : ∃ b o, ad = ⟨b, o, none⟩ := ⟨_, _, had⟩
    subst had2
    subst e
    have hfr : frontN (some ⟨b, o, none⟩) n = [b] := by
      obtain ⟨n', rfl⟩ : ∃ n', n = n' + 1 := ⟨n - 1, by omega⟩
      rfl
    have HFR := Lib.hid hfr
    have HM0 : Hid (MidS w w b o t0 ss 0) := Lib.hid (by
      rw [hfr] at hfz
      exact ⟨hbB, fun x => hfz b (by simp) x, fun j hj hji => by omega, fun j hj _ => by have := he j hj; rw [add_none] at this; exact this, ⟨rfl, rfl, rfl, Nat.le_refl _, fun _ _ _ => rfl, fun _ h => .inl h⟩⟩)
    have HN := Lib.hid hlen
    have HSZ := Lib.hid (And.intro hnc hcm)
    unfold maxLen at hcm
    clear hw hlen he hfr hbB hfz had
    go_enter Tryz.func26, Tryz.ntmps26
    go_wp2_with fail
    go_loopw [1, 5] (fun v i wr => ∃ (j : Nat), j ≤ n ∧ i = .int .i64 j ∧ v = .int .i64 ((t0 + j : Nat) : Int) ∧ Hid (MidS w wr b o t0 ss j)) (fun _ i _ => n - (intOf i).toNat)
    case atStart => exact ⟨0, Nat.zero_le _, rfl, rfl, HM0⟩
    case round =>
      clear HM0
      obtain ⟨j, hj, rfl, rfl, HM⟩ := hrel
      obtain ⟨t, ht⟩ : ∃ t, t = t0 + j := ⟨_, rfl⟩
      rw [← ht]
      have HT := Lib.hid ht
      by_cases hlt : j < n
      · have hj' : j < ss.length := by have := HN.out; omega
        have ht3 : t + 3 ≤ 90000003 := by omega
        have HMT : Hid (∀ v, Calls Tryz.prog 41 #[.int .i64 (t : Int)] v fun e w' => e = .returned (.string (mt t)) ∧ Below v.heap.size v w') := Lib.hid fun v => markText t (by omega) (by omega) v
        clear ht
        go_wp2_with (go_at_call 41; refine (HMT.out _).mono ?_; rintro e w1 ⟨rfl, hb1⟩; refine Hid.out ?_)
        refine Lib.hid ?_
        have c0 : w1.cell? ⟨b, o + j, none⟩ = some (.string ss[j]) := (World.cell?_of_block (a := ⟨b, o + j, none⟩) (hb1.block b HM.out.lb)).trans (HM.out.e2 j hj' (Nat.le_refl _))
        have f0 : w1.frozen? ⟨b, o + j, none⟩ = false := (World.frozen?_of_block (a := ⟨b, o + j, none⟩) (hb1.block b HM.out.lb)).trans (HM.out.fb _)
        have HNX : Hid (MidS w (w1.setCell ⟨b, o + j, none⟩ (.string (mt t))) b o t0 ss (j + 1)) := Lib.hid (by rw [HT.out]; exact HM.out.step hj' hb1)
        obtain ⟨s1, hs1⟩ : ∃ s, s = mt t := ⟨_, rfl⟩
        rw [← hs1] at HNX ⊢
        clear hb1 hs1
        go_wp2_with fail
        go_roundw
        case rel => exact ⟨j + 1, by omega, by go_num, by have := HT.out; go_num, HNX⟩
        case measure => simp [intOf]; omega
      · have HJ : Hid (j = n) := Lib.hid (by omega)
        go_wp2_with fail
        go_ret
        refine ⟨?_, ⟨fun hp => ⟨_, rfl, HM.out.lb, fun i hi => ?_⟩, ?_, HSZ.out.1, HSZ.out.2, fun p hp => ?_, fun ad e h0 => by injection e with e; rw [← e]⟩, ?_⟩
        · have := HT.out
          rw [HJ.out] at this
          rw [← this]; rfl
        · have hi' : i < n := by rw [mkSS_length] at hi; exact hi
          rw [add_none, mkSS_get hi']
          exact HM.out.e1 i (by have := HN.out; omega) (by have := HJ.out; omega)
        · rw [mkSS_length]
        · simp only [mkSS, List.mem_map, List.mem_range] at hp
          obtain ⟨i, hi, rfl⟩ := hp
          have := mt_size (t0 + i)
          unfold maxLen; omega
        · have := HM.out.mv
          rw [HFR.out]
          simpa only [List.mem_singleton] using this
  · have hn0 : n = 0 := by omega
    subst hn0
    have hnil : ss = [] := List.eq_nil_of_length_eq_zero (by omega)
    subst hnil
    have HH := Lib.hid hw
    clear hw hp hlen hfz
    go_enter Tryz.func26, Tryz.ntmps26
    go_wp2_with fail
    go_loopw [1, 5] (fun v i wr => v = .int .i64 (t0 : Int) ∧ i = .int .i64 0 ∧ w = wr) (fun _ i _ => 0)
    case atStart => exact ⟨rfl, rfl, rfl⟩
    case round =>
      obtain ⟨rfl, rfl, rfl⟩ := hrel
      go_wp2_with fail
      go_ret
      exact ⟨rfl, HH.out, ⟨rfl, rfl, rfl, Nat.le_refl _, fun _ _ _ => rfl, fun _ h => .inl h⟩⟩

/-- A contract with marks from t on. -/
def mkC (x : Kt) (t : Nat) : Kt := ⟨x.A1, x.n1, x.c1, mkSS x.n1 t, x.A2, x.n2, x.c2, mkR x.ms (t + x.n1)⟩
def nMkC (x : Kt) : Nat := x.n1 + nMk x.ms
theorem WrR.same {w w' : World} {A : Option Addr} {n cap : Nat} {ms : List M} (h : WrR w A n cap ms) (hb : ∀ b ∈ frontN A n ++ Cond.blocks (ms.map M.k), w'.heap[b]? = w.heap[b]?) (hs : w.heap.size ≤ w'.heap.size) : WrR w' A n cap ms := by
  refine ⟨⟨fun hp => ?_, fun m hm => ⟨⟨(h.has.all m hm).k.has.alike fun b hb' => hb b (List.mem_append.2 (.inr (mk_mem hm hb'))), fun b hb' => Nat.lt_of_lt_of_le ((h.has.all m hm).k.lt b hb') hs⟩, (h.has.all m hm).si, (h.has.all m hm).sa, (h.has.all m hm).sr⟩, h.has.len, h.has.nc, h.has.cm⟩, h.nd, fun b hb' o => (World.frozen?_of_block (a := ⟨b, o, none⟩) (hb b hb')).trans (h.fz b hb' o)⟩
  obtain ⟨b, o, e, hlt, hc⟩ := h.has.at_ hp
  refine ⟨b, o, e, by omega, fun i hi => (hc i hi).alike (hb b ?_)⟩
  have hn := h.has.len
  obtain ⟨n', hn'⟩ : ∃ n', n = n' + 1 := ⟨n - 1, by omega⟩
  simp [frontN, e, hn']
theorem LiN.same {w w' : World} {A : Option Addr} {n cap : Nat} {ss : List ByteArray} (h : LiN w w.heap.size A n cap ss) (hb : ∀ b ∈ frontN A n, w'.heap[b]? = w.heap[b]?) (hs : w.heap.size ≤ w'.heap.size) : LiN w' w'.heap.size A n cap ss := by
  refine ⟨fun hp => ?_, h.len, h.nc, h.cm, h.szs, h.sp⟩
  obtain ⟨ad, e, hlt, hc⟩ := h.is hp
  refine ⟨ad, e, by omega, fun j hj => (World.cell?_of_block (a := ad.add j) ?_).trans (hc j hj)⟩
  rw [Row.block_add]
  refine hb _ ?_
  have hn := h.len
  obtain ⟨n', hn'⟩ : ∃ n', n = n' + 1 := ⟨n - 1, by omega⟩
  simp [frontN, e, hn']

set_option maxHeartbeats 4000000 in
theorem markCt (x : Kt) (t0 : Nat) (w : World) (ht0 : 1 ≤ t0) (hm : t0 + nMkC x ≤ 90000000) (hw : WrC w x) :
    Calls Tryz.prog 10 #[x.val, .int .i64 (t0 : Int)] w fun e w' => e = .returned (.int .i64 ((t0 + nMkC x : Nat) : Int)) ∧ LiC w' w'.heap.size (mkC x t0) ∧ Mv (· ∈ x.blocks) (· ∈ x.blocks) w w' := by
  obtain ⟨X, hX⟩ : ∃ X, X = w.alloc (.cells #[.slice x.A1 x.n1 x.c1, .slice x.A2 x.n2 x.c2] 32) := ⟨_, rfl⟩
  have B0 : Below w.heap.size w X := by rw [hX]; exact below1 _ _
  have P0 : Hid (Bk w.heap.size X [.slice x.A1 x.n1 x.c1, .slice x.A2 x.n2 x.c2]) := Lib.hid (by rw [hX]; exact Bk.new _ _ _)
  have HW := Lib.hid (hw.on B0)
  have HLT : Hid (∀ b ∈ x.blocks, b < w.heap.size) := Lib.hid hw.has.lt
  have HND := Lib.hid hw.nd
  have HS := Lib.hid (markSS x.A1 x.n1 x.c1 x.ss t0 X ht0 (by unfold nMkC at hm; omega) HW.out.has.p (fun b hb o => HW.out.fz b (by simp only [Kt.blocks, List.mem_append]; exact .inl hb) o))
  have HR : Hid (∀ v, Mv (· ∈ frontN x.A1 x.n1) (· ∈ frontN x.A1 x.n1) X v → Calls Tryz.prog 27 #[.slice x.A2 x.n2 x.c2, .int .i64 ((t0 + x.n1 : Nat) : Int)] v fun e w' => e = .returned (.int .i64 ((t0 + nMkC x : Nat) : Int)) ∧ LiR w' w'.heap.size x.A2 x.n2 x.c2 (mkR x.ms (t0 + x.n1)) ∧ Mv (· ∈ frontN x.A2 x.n2 ++ Cond.blocks (x.ms.map M.k)) (· ∈ frontN x.A2 x.n2 ++ Cond.blocks (x.ms.map M.k)) v w') := Lib.hid fun v hv => by
    have hX2 := HW.out
    have hr := hX2.row
    have hn := hX2.nd
    have := markMS x.A2 x.n2 x.c2 x.ms (t0 + x.n1) v (by omega) (by unfold nMkC at hm; omega) (hr.same (fun b hb => hv.block b (hX2.has.lt b (by simp only [Kt.blocks, List.mem_append] at hb ⊢; exact .inr hb)) (fun h2 => (List.nodup_append.1 hn).2.2 b h2 b hb rfl)) hv.size)
    rw [show t0 + x.n1 + nMk x.ms = t0 + nMkC x by unfold nMkC; omega] at this
    exact this
  have HB0 := Lib.hid B0
  have HX := Lib.hid hX
  obtain ⟨t1, ht1⟩ : ∃ t1, t1 = t0 + x.n1 := ⟨_, rfl⟩
  obtain ⟨t2, ht2⟩ : ∃ t2, t2 = t0 + nMkC x := ⟨_, rfl⟩
  rw [← ht1] at HS HR
  rw [← ht2] at HR ⊢
  have HT1 := Lib.hid ht1
  clear B0 hX hw hm ht1 ht2
  go_enter Tryz.func10, Tryz.ntmps10
  go_wp2_with (go_at_call 26; (try rw [← HX.out]); refine HS.out.mono ?_; rintro e w1 ⟨rfl, hl1, hm1⟩; refine Hid.out ?_)
  refine Lib.hid ?_
  have HL1 := Lib.hid hl1
  have HM1 := Lib.hid hm1
  have HR1 := Lib.hid (HR.out w1 hm1)
  have c1 : w1.cell? ⟨w.heap.size, 1, none⟩ = some (.slice x.A2 x.n2 x.c2) := by
    have := P0.out.c 1 (by simp)
    simp only [List.getElem_cons_succ, List.getElem_cons_zero] at this
    refine (World.cell?_of_block (a := ⟨w.heap.size, 1, none⟩) (hm1.block w.heap.size P0.out.lt fun hh => ?_)).trans this
    have := HLT.out w.heap.size (by simp only [Kt.blocks, List.mem_append]; exact .inl hh)
    omega
  clear hl1 hm1 HS HR
  go_wp2_with (go_at_call 27; refine HR1.out.mono ?_; rintro e w2 ⟨rfl, hl2, hm2⟩; refine Hid.out ?_)
  refine Lib.hid ?_
  have HF : Hid (LiC w2 w2.heap.size (mkC x t0) ∧ Mv (· ∈ x.blocks) (· ∈ x.blocks) w w2) := Lib.hid (by
    refine ⟨⟨HL1.out.same (fun b hb => hm2.block b ?_ (fun h2 => (List.nodup_append.1 HND.out).2.2 b hb b h2 rfl)) hm2.size, ?_⟩, ?_⟩
    · have h1 := HLT.out b (by simp only [Kt.blocks, List.mem_append]; exact .inl hb)
      have h2 := HM1.out.size
      have h3 := HB0.out.size
      omega
    · show LiR w2 w2.heap.size x.A2 x.n2 x.c2 (mkR x.ms (t0 + x.n1))
      rw [← HT1.out]; exact hl2
    · refine (Mv.of_below HB0.out).trans (Mv.trans ⟨HM1.out.os, HM1.out.tape, HM1.out.output, HM1.out.size, fun b hb hn => HM1.out.block b hb (fun h => hn ?_), fun _ h => .inl h⟩ ⟨hm2.os, hm2.tape, hm2.output, hm2.size, fun b hb hn => hm2.block b hb (fun h => hn ?_), fun _ h => .inl h⟩)
      · simp only [Kt.blocks, List.mem_append]; exact .inl h
      · simp only [Kt.blocks, List.mem_append] at h ⊢; exact .inr h)
  clear hl2 hm2 c1
  go_wp2_with fail
  go_ret
  exact ⟨rfl, HF.out.1, HF.out.2⟩

end Go.Proofs.YtomloodakabcbabGreat.Cl
