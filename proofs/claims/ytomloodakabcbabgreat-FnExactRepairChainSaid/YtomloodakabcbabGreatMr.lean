/-
  Whether a clause is the Repair of a clause, by the program.
  Contracts of the library functions that this program calls: each one application of a theorem of the library.
  RepairChain of the program.
  The walk of the law FnExactRepairChain.
  The law FnExactRepairChain returns true at every input, and its arguments read afterwards as before. No condition.
-/
import Derived.Test.YtomloodakabcbabGreatMb
import Derived.Test.YtomloodakabcbabGreatMc
import Derived.Shelf.Small.Bits
import Derived.Shelf.Strconv.Itoa0
import Derived.Shelf.Slices.Turned
import Derived.Ground.Names2Prog
import Derived.Shelf.Slices.CompactI
import Derived.Shelf.Slices.CompactS
import Derived.Shelf.Slices.SearchI
import Derived.Test.YtomloodakabcbabGreatProg
import Derived.OwnWalk
import Derived.Test.YtomloodakabcbabGreatClSz
import Derived.Test.YtomloodakabcbabGreatClTo
import Derived.Test.YtomloodakabcbabGreatClEq
import Derived.Deep.RegionHeld3
import Derived.Test.YtomloodakabcbabGreatOpL
import Derived.OpenShut
import Derived.ShutString
import Derived.ChangeSlices
import Derived.Carry
import Derived.Lib.SmallJoins
namespace Go.Proofs.YtomloodakabcbabGreat.Cl
open Go.RowKit Go.Proofs.YtomloodakabcbabGreat.Cond Go.Proofs.YtomloodakabcbabGreat.Gx Go.Proofs.YtomloodakabcbabGreat.NdS
set_option linter.unusedVariables false
set_option linter.unusedSimpArgs false

theorem makeFn (fn : Fn) (first cap : Array Value) (w : World) : (Instr.makeFunc fn first cap).run Tryz.prog w = .ok (.func fn first cap) w := rfl

end Go.Proofs.YtomloodakabcbabGreat.Cl

namespace Go.Proofs
open Go.Shelf
def Tryz.lays107_ren : Go.Shelf.Ren := ⟨fun | 107 => 23 | 108 => 39 | n => n, fun | 28 => 27 | 3 => 3 | 4 => 4 | 0 => 0 | n => n, fun | n => n⟩
theorem Tryz.lays107 : Go.Proofs.Lays.n107 Tryz.prog Tryz.lays107_ren := {
  mixed := by kernel_rfl
  f107 := Tryz.func23.trans (congrArg some (by kernel_rfl))
  f108 := Tryz.func39.trans (congrArg some (by kernel_rfl))
  t0 := Tryz.underlying0
  a0 := Tryz.isAgg0
  z0 := Tryz.sizeOf0
  v0 := Tryz.zeroValue0
  t3 := Tryz.underlying3
  a3 := Tryz.isAgg3
  z3 := Tryz.sizeOf3
  v3 := Tryz.zeroValue3
  t4 := Tryz.underlying4
  a4 := Tryz.isAgg4
  z4 := Tryz.sizeOf4
  v4 := Tryz.zeroValue4
  t28 := Tryz.underlying27
  a28 := Tryz.isAgg27
  z28 := Tryz.sizeOf27
  v28 := Tryz.zeroValue27 }
open Go.Lib in
theorem Tryz.slices_Contains_int (b off n c : Nat) (zs : List Int) (x : Int) (w : World) (hz : n ≤ zs.length) (hbig : n ≤ 9223372036854775807) (hc : ∀ j, j < zs.length → w.cell? ⟨b, off + j, none⟩ = some (.int .i64 (zs.getD j 0))) :
    Calls Tryz.prog 23 #[.slice (some ⟨b, off, none⟩) n c, .int .i64 x] w fun e w' => e = .returned (.bool ((zs.take n).contains x)) ∧ w' = w := Any.slices_Contains_int Tryz.lays107 b off n c zs x w hz hbig hc
open Go.Lib in
theorem Tryz.slices_Contains_int_empty (a : Option Addr) (c : Nat) (x : Int) (w : World) :
    Calls Tryz.prog 23 #[.slice a 0 c, .int .i64 x] w fun e w' => e = .returned (.bool false) ∧ w' = w := Any.slices_Contains_int_empty Tryz.lays107 a c x w
end Go.Proofs

namespace Go.Proofs.YtomloodakabcbabGreat.Cl
open Go.RowKit Go.Proofs.YtomloodakabcbabGreat.Cond Go.Proofs.YtomloodakabcbabGreat.Gx Go.Proofs.YtomloodakabcbabGreat.NdS
set_option linter.unusedVariables false
set_option linter.unusedSimpArgs false

theorem nm_ne {s : ByteArray} (h : isNm s = true) : ¬ s.toList = [] := fun e => by
  have hz : s.size = 0 := by rw [← tl0]; exact e
  simp [isNm, hz] at h
theorem rep_none {c : Ct} (hg : c.good = true) {r : ByteArray} (hr : r.toList = []) : ¬ fnd c.ls r < c.ls.length := fun hlt => by
  have h1 := good_all hg _ hlt
  have h2 : hasId r (c.ls[fnd c.ls r]'hlt) = true := List.findIdx_getElem (w := hlt)
  have h3 : (c.ls[fnd c.ls r]'hlt).id.toList = [] := by rw [← hr]; exact of_decide_eq_true h2
  simp only [okI, okL, okC, Bool.and_eq_true] at h1
  exact nm_ne h1.2.1.1.1.1.1.1.1.1 h3

set_option maxRecDepth 100000 in
set_option maxHeartbeats 8000000 in
theorem implRc (x : Kt) (i : Int) (w : World) (h : LiC w w.heap.size x) (hw : x.ct.wt ≤ 1048576) :
    Calls Tryz.prog 7 #[x.val, .int .i64 i] w (RowAns2 w.heap.size (rcL x.ct i) (rcC x.ct i) (rcOk x.ct i) w) := by
  obtain ⟨X, hX⟩ : ∃ X, X = w.alloc (.cells #[.slice x.A1 x.n1 x.c1, .slice x.A2 x.n2 x.c2] 32) := ⟨_, rfl⟩
  have B0 : Below w.heap.size w X := by rw [hX]; exact below1 _ _
  have P0 : Hid (Bk w.heap.size X [.slice x.A1 x.n1 x.c1, .slice x.A2 x.n2 x.c2]) := Lib.hid (by rw [hX]; exact Bk.new _ _ _)
  have HC := Lib.hid (checkContract x X (h.on B0) hw)
  have HL := Lib.hid h
  have HLEN : Hid (x.n2 = x.ms.length ∧ x.ct.ls.length = x.n2) := Lib.hid ⟨h.c.len, by rw [h.c.len]; simp [Kt.ct]⟩
  have HB := Lib.hid B0
  have HX := Lib.hid hX
  obtain ⟨t, ht⟩ : ∃ t, t = isIx i x.n2 := ⟨_, rfl⟩
  have HIX : Hid (∀ v, Calls Tryz.prog 21 #[.int .i64 i, .int .i64 (x.n2 : Int)] v fun e w' => e = .returned (.bool t) ∧ v = w') := Lib.hid fun v => by rw [ht]; exact isIndex _ _ v
  have HOK : Hid (rcOk x.ct i = (x.ct.good && t)) := Lib.hid (by unfold rcOk; rw [ht, ix_le, HLEN.out.2])
  have HNO : Hid (∀ v, Below w.heap.size w v → rcOk x.ct i = false → RowAns2 w.heap.size (rcL x.ct i) (rcC x.ct i) (rcOk x.ct i) w (.returned (.tuple #[.slice (some ⟨v.heap.size, 0, none⟩) 0 0, .bool false, .bool false])) (v.alloc (.cells #[] 3))) := Lib.hid fun v hv hn => by
    have hl : rcL x.ct i = [] := by unfold rcL; rw [hn]; rfl
    have hc : rcC x.ct i = false := by unfold rcC; rw [hn]; rfl
    rw [hl, hc, hn]
    have := UniS.Pt.new (w := w) hv
    exact ⟨_, _, _, rfl, rfl, this.own, this.bel⟩
  have HTI := Lib.hid ht
  clear h hw B0 hX ht
  go_enter Tryz.func7, Tryz.ntmps7
  go_wp2_with (go_at_call 20; (try rw [← HX.out]); refine HC.out.mono ?_; (rintro e w2 (⟨hg, hb, a1, l1, k1, a2, l2, k2, mo, a3, l3, k3, rfl⟩ | ⟨mb, gg, nn, nc, rfl, hy⟩)); all_goals refine Hid.out ?_)
  · refine Lib.hid ?_
    have HF : Hid _ := Lib.hid (HNO.out (w2.alloc (.cells #[.slice a1 l1 k1, .slice a2 l2 k2, .map mo, .slice a3 l3 k3] 49)) (by have h2 := HB.out.trans (hb.mono HB.out.size); exact h2.alloc h2.size _) (by rw [HOK.out, hg]; rfl))
    rw [World.size_alloc] at HF
    clear hg hb
    go_wp2_with fail
    go_ret3
    exact HF.out
  refine Lib.hid ?_
  obtain ⟨U, hU⟩ : ∃ U, U = w2.alloc (.cells #[.slice x.A1 x.n1 x.c1, .slice x.A2 x.n2 x.c2, .map (some mb), .slice (some ⟨gg, 0, none⟩) nn nc] 49) := ⟨_, rfl⟩
  have hbU : Below X.heap.size X U := by rw [hU]; exact hy.bel.alloc hy.bel.size _
  have HBU : Hid (Below w.heap.size w U) := Lib.hid (HB.out.trans (hbU.mono HB.out.size))
  have HUS : Hid (U.heap.size = w2.heap.size + 1) := Lib.hid (by rw [hU]; simp)
  have HUU := Lib.hid hU
  have q1 := (P0.out.on hbU).c 1 (by simp)
  simp only [List.getElem_cons_succ, List.getElem_cons_zero] at q1
  rw [hU] at q1
  have HG := Lib.hid hy.good
  have HOK2 : Hid (rcOk x.ct i = t) := Lib.hid (by rw [HOK.out, hy.good, Bool.true_and])
  have C0 : Hid (Bk w2.heap.size U [.slice x.A1 x.n1 x.c1, .slice x.A2 x.n2 x.c2, .map (some mb), .slice (some ⟨gg, 0, none⟩) nn nc]) := Lib.hid (by rw [hU]; exact Bk.new _ _ _)
  have N0 : Hid (Nums U mb 12 x.ct.ls) := Lib.hid (by rw [hU]; exact hy.nums.on (below1 _ _))
  have h12 : x.n2 ≤ 12 := by have := (good_len hy.good).2.1; have := HLEN.out; omega
  clear hy hU hbU
  cases t
  · have HF := Lib.hid (HNO.out U HBU.out HOK2.out)
    rw [HUS.out, HUU.out] at HF
    go_wp2_with (go_at_call 21; refine (HIX.out _).mono ?_; rintro e w3 ⟨rfl, rfl⟩)
    go_ret3
    exact HF.out
  have HTI2 : Hid (0 ≤ i ∧ i < (x.n2 : Int)) := Lib.hid (by
    have := HTI.out.symm
    simpa only [isIx, Bool.and_eq_true, decide_eq_true_eq] using this)
  obtain ⟨i0, hi0⟩ : ∃ k : Nat, i = (k : Int) := ⟨i.toNat, by have := HTI2.out; omega⟩
  subst hi0
  have hlt0 : i0 < x.n2 := by have := HTI2.out; omega
  have HRR : Hid (rcL x.ct (i0 : Int) = (chR x.ct i0).1 ∧ rcC x.ct (i0 : Int) = (chR x.ct i0).2) := Lib.hid ⟨by unfold rcL; rw [HOK2.out]; rfl, by unfold rcC; rw [HOK2.out]; rfl⟩
  obtain ⟨R, hR⟩ : ∃ R, R = chR x.ct i0 := ⟨_, rfl⟩
  have HFN : Hid (rcL x.ct (i0 : Int) = R.1 ∧ rcC x.ct (i0 : Int) = R.2 ∧ rcOk x.ct (i0 : Int) = true) := Lib.hid ⟨by rw [HRR.out.1, hR], by rw [HRR.out.2, hR], HOK2.out⟩
  have HR := Lib.hid hR
  have O0 : Hid (UniS.Pt U (U.alloc (.cells #[.int .i64 (i0 : Int)] 3)) (.slice (some ⟨w2.heap.size + 1, 0, none⟩) 1 1) [(i0 : Int)]) := Lib.hid (by
    have := World.ownsRow_lit (base := U.heap.size) (e := 3) (size := 1) U #[.int .i64 (i0 : Int)] 1 (Nat.le_refl _) (by decide) (by simp)
    refine ⟨?_, below1 _ _⟩
    rw [← HUS.out]
    simpa [UniS.Own] using this)
  rw [HUU.out] at O0
  rw [← HUU.out] at O0
  clear hR HNO HRR HTI HTI2
  go_wp2_with (go_at_call 21; refine (HIX.out _).mono ?_; rintro e w3 ⟨rfl, rfl⟩)
  go_loopw [9] (fun l wr => ∃ (k g m n c f : Nat) (zs : List Int), k < x.n2 ∧ l = .slice (some ⟨g, 0, none⟩) n c ∧ Hid (n = m + 1) ∧ m + f ≤ 14 ∧ f ≤ 14 ∧ Hid (m + 1 = zs.length ∧ chn x.ct.ls f zs k = R ∧ cnt zs x.n2 < f ∧ zs[m]? = some (k : Int)) ∧ Hid (UniS.Pt U wr (.slice (some ⟨g, 0, none⟩) n c) zs)) (fun l _ => 20 - (match l with | .slice _ n _ => n | _ => 0))
  case atStart => exact ⟨i0, _, 0, 1, 1, 14, [(i0 : Int)], hlt0, rfl, Lib.hid rfl, by omega, by omega, Lib.hid ⟨rfl, HR.out.symm, by have := cnt_le [(i0 : Int)] x.n2; omega, rfl⟩, by rw [← HUU.out]; exact O0⟩
  case round =>
    clear O0 q1
    obtain ⟨k, g, m, n, c, f, zs, hk, rfl, HNM, hmf, hf14, HZ, HO⟩ := hrel
    have hk' : k < x.ms.length := by have := HLEN.out.1; omega
    obtain ⟨p, hp⟩ : ∃ p, p = x.ms[k] := ⟨_, rfl⟩
    have HCP : Hid (CAt x k p) := Lib.hid ⟨hk', hp⟩
    have HRP : Hid (repAt x.ct.ls k = p.rep) := Lib.hid (by
      obtain ⟨h1, h2⟩ := HCP.out.cl
      unfold repAt
      rw [dif_pos h1, h2]; rfl)
    have HF0 : Hid (0 < f) := Lib.hid (by have := HZ.out.2.2.1; omega)
    have HOW : Hid (wr.ownsRow U.heap.size 3 1 (.slice (some ⟨g, 0, none⟩) n c) n (zs.map (Value.int .i64))) := Lib.hid (by
      have ho := HO.out.own
      unfold UniS.Own at ho
      rw [← HZ.out.1, ← HNM.out] at ho
      exact ho)
    have hmn : m < n := by have := HNM.out; omega
    have hn15 : n ≤ 15 := by have := HNM.out; omega
    have hwr1 : IntKind.i64.wrap ((n : Int) - 1) = (m : Int) := by rw [IntKind.wrap_i64]; have := HNM.out; omega
    have HGL : Hid (g < wr.heap.size) := Lib.hid (by
      rcases HOW.out.2 with ⟨hv, h0⟩ | ⟨g', cap, cur, hv, hS, hh, _⟩
      · omega
      · injection hv with h1 h2 h3
        injection h1 with h1
        injection h1 with h1
        subst h1
        exact (Array.getElem?_eq_some_iff.1 hh).1)
    have HCG : Hid (wr.cell? ⟨g, m, none⟩ = some (.int .i64 (k : Int))) := Lib.hid (by
      rw [HOW.out.cellAt m (by omega), List.getElem?_map, HZ.out.2.2.2]
      rfl)
    have HWB : Hid (Below w.heap.size w wr) := Lib.hid (HBU.out.trans (HO.out.bel.mono HBU.out.size))
    have KW : Hid (∀ v, Below wr.heap.size wr v → v.cell? ⟨w2.heap.size, 0, none⟩ = some (.slice x.A1 x.n1 x.c1) ∧ v.cell? ⟨w2.heap.size, 1, none⟩ = some (.slice x.A2 x.n2 x.c2) ∧ v.cell? ⟨w2.heap.size, 2, none⟩ = some (.map (some mb)) ∧ v.cell? ⟨w2.heap.size, 3, none⟩ = some (.slice (some ⟨gg, 0, none⟩) nn nc) ∧ v.cell? ⟨g, m, none⟩ = some (.int .i64 (k : Int))) := Lib.hid fun v hv => by
      have hc := C0.out.on (HO.out.bel.trans (hv.mono HO.out.bel.size))
      have a0 := hc.c 0 (by simp)
      have a1 := hc.c 1 (by simp)
      have a2 := hc.c 2 (by simp)
      have a3 := hc.c 3 (by simp)
      simp only [List.getElem_cons_succ, List.getElem_cons_zero] at a0 a1 a2 a3
      exact ⟨a0, a1, a2, a3, (hv.cell (p := ⟨g, m, none⟩) HGL.out).trans HCG.out⟩
    have HRO : Hid (∀ v, Below wr.heap.size wr v → Calls Tryz.prog 22 #[.agg #[.slice x.A1 x.n1 x.c1, .slice x.A2 x.n2 x.c2, .map (some mb), .slice (some ⟨gg, 0, none⟩) nn nc], .int .i64 (k : Int)] v fun e w' => e = .returned (.tuple #[.int .i64 (numI x.ct.ls p.rep), .bool (numB x.ct.ls p.rep)]) ∧ Below v.heap.size v w') := Lib.hid fun v hv =>
      repairOf x mb (some ⟨gg, 0, none⟩) nn nc k p v ((HL.out.below (HWB.out.trans (hv.mono HWB.out.size))).more (HWB.out.trans (hv.mono HWB.out.size)).size) HCP.out (N0.out.on (HO.out.bel.trans (hv.mono HO.out.bel.size)))
    obtain ⟨e0, e1, e2, e3, e4⟩ := KW.out wr (Below.refl _ _)
    have i0' : (0 : Int) ≤ (m : Int) := by omega
    have i1' : (m : Int) < (n : Int) := by omega
    clear hp
    by_cases hr : p.rep.toList = []
    · have hno := rep_none HG.out hr
      have HRW := HRO.out
      rw [numI_no hno, numB_no hno] at HRW
      have HRW := Lib.hid HRW
      have HE : Hid (R = (zs, false)) := Lib.hid (by rw [← HZ.out.2.1]; exact chn_end HF0.out (by rw [HRP.out]; exact hr))
      clear hr hno HRO
      go_wp2_with fail
      go_region_held3 (fun v => v.cell? ⟨w2.heap.size, 0, none⟩ = some (.slice x.A1 x.n1 x.c1) ∧ v.cell? ⟨w2.heap.size, 1, none⟩ = some (.slice x.A2 x.n2 x.c2) ∧ v.cell? ⟨w2.heap.size, 2, none⟩ = some (.map (some mb)) ∧ v.cell? ⟨w2.heap.size, 3, none⟩ = some (.slice (some ⟨gg, 0, none⟩) nn nc) ∧ v.cell? ⟨g, m, none⟩ = some (.int .i64 (k : Int))) (first | (refine KW.out _ ?_; (repeat (first | exact Below.refl _ _ | exact b1 | apply Below.drew)); done))
        (first | (go_at_call 22; (with_reducible refine (HRW.out _ (by (repeat (first | exact Below.refl _ _ | exact b1 | apply Below.drew)))).mono ?_); rintro e w3 ⟨rfl, hb⟩; have b1 : Below wr.heap.size wr w3 := (Below.trans (by (repeat (first | exact Below.refl _ _ | exact b1 | apply Below.drew))) (hb.mono (by first | omega | (simp; done) | (simp; omega)))); clear hb))
      all_goals
        have O3 := Lib.hid (pt_on HO.out b1)
        clear b1 e0 e1 e2 e3 e4 KW HRW
        go_wp2_with fail
        go_ret3
        exact ⟨g, n, c, by rw [HFN.out.1, HE.out, HNM.out]; exact HZ.out.1, by rw [HFN.out.2.1, HFN.out.2.2, HE.out]; rfl, by rw [HFN.out.1, HE.out]; exact own_less O3.out.own HBU.out.size, HBU.out.trans (O3.out.bel.mono HBU.out.size)⟩
    · obtain ⟨k2, hk2⟩ : ∃ k2, k2 = fnd x.ct.ls p.rep := ⟨_, rfl⟩
      have hk2n : k2 < x.n2 := by
        obtain ⟨h1, h2⟩ := HCP.out.cl
        have h3 := rep_fnd HG.out h1 (by rw [h2]; exact hr)
        rw [h2] at h3
        rw [hk2, ← HLEN.out.2]; exact h3
      have HRW := HRO.out
      have hf2 : fnd x.ct.ls p.rep < x.ct.ls.length := by rw [← hk2, HLEN.out.2]; exact hk2n
      rw [numI_yes hf2, numB_yes hf2, ← hk2] at HRW
      have HRW := Lib.hid HRW
      have HNR : Hid (¬ (repAt x.ct.ls k).toList = []) := Lib.hid (by rw [HRP.out]; exact hr)
      have HKR : Hid (k2 = fnd x.ct.ls (repAt x.ct.ls k)) := Lib.hid (by rw [HRP.out]; exact hk2)
      clear hr hk2 HRO hf2
      go_wp2_with fail
      go_region_held3 (fun v => v.cell? ⟨w2.heap.size, 0, none⟩ = some (.slice x.A1 x.n1 x.c1) ∧ v.cell? ⟨w2.heap.size, 1, none⟩ = some (.slice x.A2 x.n2 x.c2) ∧ v.cell? ⟨w2.heap.size, 2, none⟩ = some (.map (some mb)) ∧ v.cell? ⟨w2.heap.size, 3, none⟩ = some (.slice (some ⟨gg, 0, none⟩) nn nc) ∧ v.cell? ⟨g, m, none⟩ = some (.int .i64 (k : Int))) (first | (refine KW.out _ ?_; (repeat (first | exact Below.refl _ _ | exact b1 | apply Below.drew)); done))
        (first | (go_at_call 22; (with_reducible refine (HRW.out _ (by (repeat (first | exact Below.refl _ _ | exact b1 | apply Below.drew)))).mono ?_); rintro e w3 ⟨rfl, hb⟩; have b1 : Below wr.heap.size wr w3 := (Below.trans (by (repeat (first | exact Below.refl _ _ | exact b1 | apply Below.drew))) (hb.mono (by first | omega | (simp; done) | (simp; omega)))); clear hb))
      all_goals
        have O3 := Lib.hid (pt_on HO.out b1)
        clear b1 e0 e1 e2 e3 e4 KW HRW
        obtain ⟨t, ht⟩ : ∃ t, t = zs.contains (k2 : Int) := ⟨_, rfl⟩
        have HH : Hid (Calls Tryz.prog 23 #[.slice (some ⟨g, 0, none⟩) n c, .int .i64 (k2 : Int)] w3 fun e w' => e = .returned (.bool t) ∧ w' = w3) := Lib.hid (by
          have ho := O3.out.own
          unfold UniS.Own at ho
          rw [← HZ.out.1, ← HNM.out] at ho
          have h1 := Tryz.slices_Contains_int g 0 n c zs (k2 : Int) w3 (by have := HZ.out.1; have := HNM.out; omega) (by omega) (fun j hj => by
            have hcj := ho.cellAt j (by have := HZ.out.1; have := HNM.out; omega)
            rw [Nat.zero_add, hcj]; simp [List.getD, hj])
          rw [List.take_of_length_le (by have := HZ.out.1; have := HNM.out; omega), ← ht] at h1
          exact h1)
        have HT := Lib.hid ht
        clear ht
        cases t
        · have LQ := Lib.hid (UniS.Lq.new w3 (k2 : Int))
          have O4 := Lib.hid (O3.out.alloc (.cells #[.int .i64 (k2 : Int)] 3))
          have HNL := Lib.hid HZ.out.1
          have HCN : Hid (chn x.ct.ls (f - 1) (zs ++ [(k2 : Int)]) k2 = R ∧ cnt (zs ++ [(k2 : Int)]) x.n2 < f - 1) := Lib.hid ⟨by rw [← chn_on HF0.out HNR.out HKR.out HT.out.symm]; exact HZ.out.2.1, by have := cnt_less hk2n HT.out.symm; have := HZ.out.2.2.1; omega⟩
          have hf0 := HF0.out
          go_wp2_with (first | (go_at_call 23; refine HH.out.mono ?_; rintro e w4 ⟨rfl, rfl⟩) | (at_builtin; refine UniS.wp_app rfl _ _ rfl U.heap.size (.slice (some ⟨g, 0, none⟩) n c) zs rfl O4.out.own (some ⟨w4.heap.size, 0, none⟩) 1 1 (w4.heap.size + 1) [(k2 : Int)] rfl rfl (by have := LQ.out.is; rwa [World.size_alloc] at this) (fun e => by cases e) (by have := HNL.out; omega) O4.out.bel.size ?_; intro a3 c3 w7 hown hg hat; refine Hid.out ?_))
          refine Lib.hid ?_
          have HO7 : Hid (UniS.Pt U w7 (.slice a3 (zs.length + 1) c3) (zs ++ [(k2 : Int)])) := Lib.hid (O4.out.app hown hg)
          obtain ⟨g7, hg7⟩ := own_some HO7.out.own (by simp)
          subst hg7
          clear hown hg hat
          have hnz : Hid (zs.length + 1 = (zs ++ [(k2 : Int)]).length ∧ chn x.ct.ls (f - 1) (zs ++ [(k2 : Int)]) k2 = R ∧ cnt (zs ++ [(k2 : Int)]) x.n2 < f - 1 ∧ (zs ++ [(k2 : Int)])[zs.length]? = some (k2 : Int)) := Lib.hid ⟨by simp, HCN.out.1, HCN.out.2, by simp⟩
          have hlz : zs.length + (f - 1) ≤ 14 := by have := HNL.out; omega
          have hms : 20 - (zs.length + 1) < 20 - n := by have := HNL.out; have := HNM.out; omega
          go_wp2_with fail
          go_roundw
          case rel => exact ⟨k2, g7, zs.length, zs.length + 1, c3, f - 1, zs ++ [(k2 : Int)], hk2n, rfl, Lib.hid rfl, hlz, by omega, hnz, HO7⟩
          case measure => exact hms
        · have HE : Hid (R = (zs, true)) := Lib.hid (by rw [← HZ.out.2.1]; exact chn_cyc HF0.out HNR.out HKR.out HT.out.symm)
          go_wp2_with (go_at_call 23; refine HH.out.mono ?_; rintro e w4 ⟨rfl, rfl⟩)
          go_ret3
          exact ⟨g, n, c, by rw [HFN.out.1, HE.out, HNM.out]; exact HZ.out.1, by rw [HFN.out.2.1, HFN.out.2.2, HE.out]; rfl, by rw [HFN.out.1, HE.out]; exact own_less O3.out.own HBU.out.size, HBU.out.trans (O3.out.bel.mono HBU.out.size)⟩

end Go.Proofs.YtomloodakabcbabGreat.Cl

namespace Go.Proofs.YtomloodakabcbabGreat.KrC
open Go.RowKit Go.Proofs.YtomloodakabcbabGreat.Cond Go.Proofs.YtomloodakabcbabGreat.Gx Go.Proofs.YtomloodakabcbabGreat.Cl
set_option linter.unusedVariables false
set_option linter.unusedSimpArgs false

set_option maxRecDepth 100000 in
set_option maxHeartbeats 8000000 in
theorem walk (x0 : Kt) (a1 : Int) (w : World) (hx0 : LiC w w.heap.size x0) :
    Calls Tryz.prog 3 #[x0.val, .int .i64 a1] w fun e w' => e = .returned (.bool true) ∧ Below w.heap.size w w' := by
  obtain ⟨w0, hw0⟩ : ∃ w0, w0 = w.alloc (.cells #[.slice x0.A1 x0.n1 x0.c1, .slice x0.A2 x0.n2 x0.c2] 25) := ⟨_, rfl⟩
  have B0 : Hid (Below w.heap.size w w0) := Lib.hid (by rw [hw0]; exact below1 _ _)
  have X0 : Hid (Bk w.heap.size w0 [.slice x0.A1 x0.n1 x0.c1, .slice x0.A2 x0.n2 x0.c2]) := Lib.hid (by rw [hw0]; exact Bk.new _ _ _)
  have HI := Lib.hid hx0
  have HW0 := Lib.hid hw0
  clear hw0 hx0
  obtain ⟨u, hu⟩ : ∃ q : Bool, q = rcC x0.ct a1 := ⟨_, rfl⟩
  have HVu := Lib.hid hu
  clear hu
  obtain ⟨t, ht⟩ : ∃ q : Bool, q = rcOk x0.ct a1 := ⟨_, rfl⟩
  have HVt := Lib.hid ht
  clear ht
  go_enter Tryz.func3, Tryz.ntmps3
  obtain ⟨D, hD⟩ : ∃ D : List Int, D = rcL x0.ct a1 := ⟨_, rfl⟩
  obtain ⟨N, hN⟩ : ∃ N, N = D.length := ⟨_, rfl⟩
  have hN3 : N ≤ 3000 := by rw [hN, hD]; exact rcL_len _ _
  have HVD := Lib.hid hD
  have HVN := Lib.hid hN
  have HVX : Hid (N = D.length) := Lib.hid (by rw [hN])
  clear hD hN
  by_cases hz : 1048576 < x0.ct.wt
  · have HZ := szCt x0 1048576 (by omega) w0 (HI.out.on B0.out)
    rw [szRes, if_pos hz] at HZ
    have HZH := Lib.hid HZ
    clear HZ hz
    go_wp2_with (go_at_call 4; (try rw [← HW0.out]); refine HZH.out.mono ?_; rintro e wz ⟨rfl, hbz⟩)
    go_ret
    exact ⟨rfl, B0.out.trans (hbz.mono B0.out.size)⟩
  have HZ := szCt x0 1048576 (by omega) w0 (HI.out.on B0.out)
  rw [szRes, if_neg hz] at HZ
  have HLE : Hid (x0.ct.wt ≤ 1048576) := Lib.hid (by omega)
  obtain ⟨m1, hm1⟩ : ∃ m, m = 1048576 - x0.ct.wt := ⟨_, rfl⟩
  rw [← hm1] at HZ
  have HZH := Lib.hid HZ
  have hm0 : (0 : Int) ≤ (m1 : Int) := by omega
  clear HZ hm1 hz
  go_wp2_with (go_at_call 4; (try rw [← HW0.out]); refine HZH.out.mono ?_; rintro e w1 ⟨rfl, hb⟩; refine Hid.out ?_)
  refine Lib.hid ?_
  have B1 := Lib.hid (B0.out.trans (hb.mono B0.out.size))
  have X1 := Lib.hid (X0.out.on hb)
  have e0 := X1.out.c 0 (by simp)
  have e1 := X1.out.c 1 (by simp)
  simp only [List.getElem_cons_succ, List.getElem_cons_zero] at e0 e1
  have HT := Lib.hid (toCt x0 w1 (HI.out.on B1.out) HLE.out)
  clear hb HZH
  go_wp2_with (go_at_call 6; refine HT.out.mono ?_; rintro e w2 ⟨q, rfl, hq, hwr, hge, hb⟩; refine Hid.out ?_)
  refine Lib.hid ?_
  have B2 := Lib.hid (B1.out.trans (hb.mono B1.out.size))
  have X2 := Lib.hid (X1.out.on hb)
  have HSP := specRc q a1 w2 hwr.has (by rw [hq]; exact HLE.out)
  rw [hq] at HSP
  rw [← HVu.out] at HSP
  rw [← HVt.out] at HSP
  rw [← HVD.out] at HSP
  have HSPH := Lib.hid HSP
  clear HSP hq hwr hge hb e0 e1 HT
  go_wp2_with (go_at_call 5; refine HSPH.out.mono ?_; intro e w3 ha; obtain ⟨gS, cS, rfl, hoS, hb⟩ := RowAns2.fix HVN.out ha; refine Hid.out ?_)
  refine Lib.hid ?_
  have B3 := Lib.hid (B2.out.trans (hb.mono B2.out.size))
  have X3 := Lib.hid (X2.out.on hb)
  have S3 : Hid (IRow.Is w3 w3.heap.size (some ⟨gS, 0, none⟩) D) := Lib.hid (IRow.Is.of_own hoS HVX.out)
  have e0 := X3.out.c 0 (by simp)
  have e1 := X3.out.c 1 (by simp)
  simp only [List.getElem_cons_succ, List.getElem_cons_zero] at e0 e1
  have HT := Lib.hid (toCt x0 w3 (HI.out.on B3.out) HLE.out)
  clear hb HSPH hoS ha
  go_wp2_with (go_at_call 6; refine HT.out.mono ?_; rintro e w4 ⟨y, rfl, hy, hwr, hge, hb⟩; refine Hid.out ?_)
  refine Lib.hid ?_
  have K4 : Hid (Below w3.heap.size w3 w4) := Lib.hid hb
  have HGE := Lib.hid hge
  obtain ⟨w5, hw5⟩ : ∃ w5, w5 = w4.alloc (.cells #[.slice y.A1 y.n1 y.c1, .slice y.A2 y.n2 y.c2] 32) := ⟨_, rfl⟩
  have hb5 : Below w4.heap.size w4 w5 := by rw [hw5]; exact below1 _ _
  have K5 := Lib.hid (K4.out.trans (hb5.mono K4.out.size))
  have Y5 : Hid (Bk w4.heap.size w5 [.slice y.A1 y.n1 y.c1, .slice y.A2 y.n2 y.c2]) := Lib.hid (by rw [hw5]; exact Bk.new _ _ _)
  have WY5 := Lib.hid (hwr.on hb5)
  have HYL : Hid (∀ b ∈ y.blocks, b < w4.heap.size) := Lib.hid hwr.has.lt
  have HY5 : Hid (w4.heap.size < w5.heap.size) := Lib.hid (by rw [hw5]; simp)
  have HY := Lib.hid hy
  have HIM := implRc y a1 w5 WY5.out.has (by rw [hy]; exact HLE.out)
  rw [hy] at HIM
  rw [← HVu.out] at HIM
  rw [← HVt.out] at HIM
  rw [← HVD.out] at HIM
  have HIMH := Lib.hid HIM
  have HW5 := Lib.hid hw5
  clear HIM hy hwr hge hb hb5 hw5 e0 e1 HT
  go_wp2_with (go_at_call 7; (try rw [← HW5.out]); refine HIMH.out.mono ?_; intro e w6 ha; obtain ⟨gI, cI, rfl, hoI, hb⟩ := RowAns2.fix HVN.out ha; refine Hid.out ?_)
  refine Lib.hid ?_
  have K6 := Lib.hid (K5.out.trans (hb.mono K5.out.size))
  have Y6 := Lib.hid (Y5.out.on hb)
  have WY6 := Lib.hid (WY5.out.on hb)
  have I6 := Lib.hid hoI
  have HS35 : Hid (w3.heap.size ≤ w5.heap.size) := Lib.hid K5.out.size
  have HS56 : Hid (w5.heap.size ≤ w6.heap.size) := Lib.hid hb.size
  clear hb HIMH hoI ha K4 K5 Y5 WY5
  generalize hky : w4.heap.size = ky at *
  clear hky
  cases u <;> cases t
  all_goals
    have HEQw7 := Lib.hid (IRow.eqI (some ⟨gI, 0, none⟩) (some ⟨gS, 0, none⟩) N cI cS w6.heap.size D w6 HVX.out (by omega) (IRow.Is.of_own I6.out HVX.out) ((S3.out.below K6.out).more K6.out.size))
    go_wp2_with (go_at_call 8; refine HEQw7.out.mono ?_; rintro e _ ⟨rfl, qw7, rfl⟩; refine Hid.out ?_)
    refine Lib.hid ?_
    obtain ⟨w7, hwq⟩ : ∃ v, v = w6.drewN qw7 := ⟨_, rfl⟩
    have hbq : Below w6.heap.size w6 w7 := by rw [hwq]; exact below_drewN (Below.refl _ _) _
    rw [← hwq]
    clear hwq HEQw7
    have K7 := Lib.hid (K6.out.trans (hbq.mono K6.out.size))
    have Y7 := Lib.hid (Y6.out.on hbq)
    have WY7 := Lib.hid (WY6.out.on hbq)
    have I7 := Lib.hid (row_on I6.out hbq)
    have B7 := Lib.hid (B3.out.trans (K7.out.mono B3.out.size))
    clear hbq K6 Y6 WY6 I6
    have HXL : Hid (w.heap.size < w3.heap.size) := Lib.hid X3.out.lt
    have KX : Hid (∀ v, Below w7.heap.size w7 v → (v.cell? ⟨w.heap.size, 0, none⟩ = some (.slice x0.A1 x0.n1 x0.c1) ∧ v.cell? ⟨w.heap.size, 1, none⟩ = some (.slice x0.A2 x0.n2 x0.c2)) ∧ v.cell? ⟨ky, 0, none⟩ = some (.slice y.A1 y.n1 y.c1) ∧ v.cell? ⟨ky, 1, none⟩ = some (.slice y.A2 y.n2 y.c2)) := Lib.hid fun v hv => by
      have hx := X3.out.on (K7.out.trans (hv.mono K7.out.size))
      have a0 := hx.c 0 (by simp)
      have a1 := hx.c 1 (by simp)
      have b0 := (Y7.out.on hv).c 0 (by simp)
      have b1 := (Y7.out.on hv).c 1 (by simp)
      simp only [List.getElem_cons_succ, List.getElem_cons_zero] at a0 a1 b0 b1
      exact ⟨⟨a0, a1⟩, b0, b1⟩
    have HTX := Lib.hid fun v (hv : Below w7.heap.size w7 v) => toCt x0 v (HI.out.on (B7.out.trans (hv.mono B7.out.size))) HLE.out
    have HEQ : Hid (∀ v wa (z : Kt), Below w7.heap.size w7 wa → LiC wa wa.heap.size z → z.ct = x0.ct → Below wa.heap.size wa v → Calls Tryz.prog 9 #[y.val, z.val] v fun e w' => e = .returned (.bool true) ∧ Below v.heap.size v w') :=
      Lib.hid fun v wa z hx hz hc hv => eqCt y z v (by rw [HY.out, hc]) (by rw [hc]; exact HLE.out) ((WY7.out.has.on hx).on hv) (hz.on hv)
    have hcells := KX.out w7 (Below.refl _ _)
    obtain ⟨⟨e0, e1⟩, g0, g1⟩ := hcells
    go_wp2_with fail
    go_region_held3 (fun v => (v.cell? ⟨w.heap.size, 0, none⟩ = some (.slice x0.A1 x0.n1 x0.c1) ∧ v.cell? ⟨w.heap.size, 1, none⟩ = some (.slice x0.A2 x0.n2 x0.c2)) ∧ v.cell? ⟨ky, 0, none⟩ = some (.slice y.A1 y.n1 y.c1) ∧ v.cell? ⟨ky, 1, none⟩ = some (.slice y.A2 y.n2 y.c2)) (first | (refine KX.out _ ?_; (repeat (first | exact Below.refl _ _ | exact b2 | exact b1 | apply Below.drew)); done))
      (first
        | (go_at_call 6; (with_reducible refine (HTX.out _ (by (repeat (first | exact Below.refl _ _ | exact b2 | exact b1 | apply Below.drew)))).mono ?_); rintro e wa ⟨z, rfl, hzc, hzw, hzg, hb⟩; have b1 : Below w7.heap.size w7 wa := (Below.trans (by (repeat (first | exact Below.refl _ _ | exact b2 | exact b1 | apply Below.drew))) (hb.mono (by first | omega | (simp; done) | (simp; omega) | exact b1.size | (have := b1.size; simp; omega)))); have NA := Lib.hid hzw.has; have NC := Lib.hid hzc; clear hb hzw hzc hzg)
        | (go_at_call 9; (with_reducible refine (HEQ.out _ _ z b1 NA.out NC.out (by (repeat (first | exact Below.refl _ _ | apply Below.drew)))).mono ?_); rintro e wb ⟨rfl, hb⟩; have b2 : Below w7.heap.size w7 wb := (Below.trans (by (repeat (first | exact Below.refl _ _ | exact b2 | exact b1 | apply Below.drew))) (hb.mono (by first | omega | (simp; done) | (simp; omega) | exact b1.size | (have := b1.size; simp; omega)))); clear hb))
    all_goals
      have K8 := Lib.hid (K7.out.trans (b2.mono K7.out.size))
      have Y8 := Lib.hid (Y7.out.on b2)
      have WY8 := Lib.hid (WY7.out.on b2)
      have I8 := Lib.hid (row_on I7.out b2)
      clear b1 b2 NA NC e0 e1 g0 g1 KX HTX HEQ K7 Y7 WY7 I7 B7
      have g0 := Y8.out.c 0 (by simp)
      have g1 := Y8.out.c 1 (by simp)
      simp only [List.getElem_cons_succ, List.getElem_cons_zero] at g0 g1
      have hmk := markCt y 1 wb (by omega) (nMkC_le WY8.out.has (by rw [HY.out]; exact HLE.out)) WY8.out
      obtain ⟨mq, hmq⟩ : ∃ m, m = 1 + nMkC y := ⟨_, rfl⟩
      rw [← hmq] at hmk
      have hmq0 : (0 : Int) ≤ (mq : Int) := by omega
      have HMK := Lib.hid hmk
      clear hmk hmq
      go_wp2_with (go_at_call 10; refine HMK.out.mono ?_; rintro e w9 ⟨rfl, hlm, hmv⟩; refine Hid.out ?_)
      refine Lib.hid ?_
      have K9 : Hid (Below w3.heap.size w3 w9) := Lib.hid (K8.out.trans (hmv.below HGE.out K8.out.size))
      have I9 := Lib.hid (row_mv I8.out hmv (fun h => by have := HYL.out gI h; have := (row_ge I8.out).1; have := HY5.out; omega))
      clear hlm hmv g0 g1 HMK K8 Y8 WY8 I8
      have HEQw10 := Lib.hid (IRow.eqI (some ⟨gI, 0, none⟩) (some ⟨gS, 0, none⟩) N cI cS w9.heap.size D w9 HVX.out (by omega) (IRow.Is.of_own I9.out HVX.out) ((S3.out.below K9.out).more K9.out.size))
      go_wp2_with (go_at_call 8; refine HEQw10.out.mono ?_; rintro e _ ⟨rfl, qw10, rfl⟩; refine Hid.out ?_)
      refine Lib.hid ?_
      obtain ⟨w10, hwq⟩ : ∃ v, v = w9.drewN qw10 := ⟨_, rfl⟩
      have hbq : Below w9.heap.size w9 w10 := by rw [hwq]; exact below_drewN (Below.refl _ _) _
      rw [← hwq]
      clear hwq HEQw10
      have K10 := Lib.hid (K9.out.trans (hbq.mono K9.out.size))
      have I10 := Lib.hid (row_on I9.out hbq)
      clear hbq K9 I9
      have HMI := Lib.hid (MarkI.markI (some ⟨gI, 0, none⟩) N cI w5.heap.size _ w10 (by omega) I10.out)
      go_wp2_with (go_at_call 11; refine HMI.out.mono ?_; rintro e w11 ⟨rfl, ⟨ys, hoy, hmy⟩, hon⟩; refine Hid.out ?_)
      refine Lib.hid ?_
      have hbo : Below w5.heap.size w10 w11 := hon.below (fun ad e => by injection e with e; subst e; exact (row_ge I10.out).1)
      have K11 := Lib.hid (K10.out.trans (hbo.mono HS35.out))
      have I11 := Lib.hid hoy
      have HMY := Lib.hid hmy
      clear hoy hmy hon hbo HMI K10 I10
      have HHI := Lib.hid (MarkI.heldI (some ⟨gI, 0, none⟩) N cI w5.heap.size ys w11 (by omega) I11.out HMY.out)
      go_wp2_with (go_at_call 12; refine HHI.out.mono ?_; rintro e _ ⟨rfl, q12, rfl⟩; refine Hid.out ?_)
      refine Lib.hid ?_
      obtain ⟨w12, hwq⟩ : ∃ v, v = w11.drewN q12 := ⟨_, rfl⟩
      have hbq : Below w11.heap.size w11 w12 := by rw [hwq]; exact below_drewN (Below.refl _ _) _
      rw [← hwq]
      clear hwq HHI
      have K12 := Lib.hid (K11.out.trans (hbq.mono K11.out.size))
      have I12 := Lib.hid (row_on I11.out hbq)
      clear hbq K11 I11
      have X12 := Lib.hid (X3.out.on K12.out)
      have B12 := Lib.hid (B3.out.trans (K12.out.mono B3.out.size))
      have e0 := X12.out.c 0 (by simp)
      have e1 := X12.out.c 1 (by simp)
      simp only [List.getElem_cons_succ, List.getElem_cons_zero] at e0 e1
      have HT := Lib.hid (toCt x0 w12 (HI.out.on B12.out) HLE.out)
      go_wp2_with (go_at_call 6; refine HT.out.mono ?_; rintro e w13 ⟨z, rfl, hz, hwr, hge, hb⟩; refine Hid.out ?_)
      refine Lib.hid ?_
      have K13 := Lib.hid (K12.out.trans (hb.mono K12.out.size))
      have I13 := Lib.hid (row_on I12.out hb)
      have HIM := implRc z a1 w13 hwr.has (by rw [hz]; exact HLE.out)
      rw [hz] at HIM
      rw [← HVu.out] at HIM
      rw [← HVt.out] at HIM
      rw [← HVD.out] at HIM
      have HIMH := Lib.hid HIM
      clear HIM hz hwr hge hb e0 e1 HT K12 I12 X12 B12
      go_wp2_with (go_at_call 7; refine HIMH.out.mono ?_; intro e w14 ha; obtain ⟨gH, cH, rfl, hoH, hb⟩ := RowAns2.fix HVN.out ha; refine Hid.out ?_)
      refine Lib.hid ?_
      have K14 := Lib.hid (K13.out.trans (hb.mono K13.out.size))
      have I14 := Lib.hid (row_on I13.out hb)
      have H14 := Lib.hid hoH
      clear hb HIMH hoH ha K13 I13
      have HEQw15 := Lib.hid (IRow.eqI (some ⟨gH, 0, none⟩) (some ⟨gS, 0, none⟩) N cH cS w14.heap.size D w14 HVX.out (by omega) (IRow.Is.of_own H14.out HVX.out) ((S3.out.below K14.out).more K14.out.size))
      go_wp2_with (go_at_call 8; refine HEQw15.out.mono ?_; rintro e _ ⟨rfl, qw15, rfl⟩; refine Hid.out ?_)
      refine Lib.hid ?_
      obtain ⟨w15, hwq⟩ : ∃ v, v = w14.drewN qw15 := ⟨_, rfl⟩
      have hbq : Below w14.heap.size w14 w15 := by rw [hwq]; exact below_drewN (Below.refl _ _) _
      rw [← hwq]
      clear hwq HEQw15
      have K15 := Lib.hid (K14.out.trans (hbq.mono K14.out.size))
      have I15 := Lib.hid (row_on I14.out hbq)
      clear hbq K14 I14 H14
      have HHI := Lib.hid (MarkI.heldI (some ⟨gI, 0, none⟩) N cI w5.heap.size ys w15 (by omega) I15.out HMY.out)
      go_wp2_with (go_at_call 12; refine HHI.out.mono ?_; rintro e _ ⟨rfl, q16, rfl⟩)
      go_ret
      exact ⟨rfl, below_drewN (B3.out.trans (K15.out.mono B3.out.size)) q16⟩

end Go.Proofs.YtomloodakabcbabGreat.KrC

namespace Go.Proofs.YtomloodakabcbabGreat.fnExactRepairChain
open Go.ChangeShapes Go.WideShapes Go.ChangeAt Go.RowKit Go.Joins
open Go.ChangeMaps (open_string shut_string)
set_option linter.unusedVariables false

theorem own : ownKnob Tryz.prog.godebug = none := by kernel_rfl
theorem laidOut : laidOutB Tryz.prog = true := by kernel_rfl

set_option maxRecDepth 100000 in
theorem lifted (os : Os) (started : os.Started) (H : Type) (enc : TypeId × Value → H) :
    ReturnsInHanded {} Tryz.checked os 3 .any (Rows.fnExactRepairChainSpec.pre6 enc Tryz.prog Tryz.f3 Rows.fnExactRepairChainRow.domain false) (Rows.fnExactRepairChainSpec.post enc Tryz.prog Tryz.f3 false true false false) := by
  refine returnsInHanded_of_change (C := Tryz.checked) own started (by kernel_rfl) Tryz.func3
    (ChangeSpec.witness6 (enc := enc) (C := Tryz.checked) false ⟨#[], #[.agg #[.slice none 0 0, .slice none 0 0], .int .i64 0], []⟩ 8 (by kernel_rfl) (by kernel_rfl) (by kernel_rfl) (by kernel_rfl)) ?_
  intro W base args ds gs before hval0 hW hcnd _
  have hval : ∀ (j : Nat) t v, Tryz.f3.params[j]? = some t → args[j]? = some v → Value.okWide Tryz.prog W .any base t v := hval0
  have hW' := hW
  obtain ⟨p, q, hA0, hV, rfl, hfz, hnd⟩ := hW
  have hA : DataW.TrodAll enc Tryz.prog W 0 (fun _ => true) true Tryz.f3.params.toList args.toList ds p := hA0
  rw [Tryz.params3] at hA hval
  obtain ⟨v0, vs0, d0, ds0, p0, q0, hargs, rfl, rfl, h0, r0⟩ := trodAll_cons hA
  obtain ⟨v1, vs1, d1, ds1, p1, q1, rfl, rfl, rfl, h1, r1⟩ := trodAll_cons r0
  obtain ⟨rfl, rfl, rfl⟩ := trodAll_nil r1
  obtain rfl : args = #[v0, v1] := by cases args; simp_all
  obtain ⟨rfl, rfl⟩ := trodVars_none hV
  have kk0 := h0
  have lt0 : ∀ x ∈ p0, x.block < W.heap.size := by obtain ⟨m, hm⟩ := kk0; exact DataW.trod_lt m _ _ _ hm
  obtain ⟨x0, rfl, hx0⟩ := Cl.openCt (hval 0 25 v0 rfl rfl) h0
  clear h0
  obtain ⟨a1, rfl, rfl, rfl, w1⟩ := open_int Tryz.underlying3 (hval 1 3 v1 rfl rfl) h1
  clear hA0
  refine (KrC.walk x0 a1 W hx0).mono fun e W' ⟨he, bel⟩ => ?_
  subst he
  exact ⟨_, rfl, _, _, _, [], _, [], hW', trodAll_mk1 (shut_bool Tryz.underlying4 _), (trodAll_cons_mk (Below.trod laidOut (by kernel_rfl) (of_decide_eq_true (by kernel_rfl)) kk0 bel lt0) (trodAll_cons_mk (shut_int Tryz.underlying3 w1) trodAll_mk0)), rfl, bel.frame _, fun h => by cases h⟩

theorem proved : Rows.FnExactRepairChainSaid :=
  OpenClaim.holds_of_wide 3 Tryz.f3 rfl rfl rfl rfl rfl rfl rfl ⟨rfl, rfl, rfl, rfl, rfl⟩ rfl rfl rfl rfl rfl (by kernel_rfl) Tryz.func3 (by kernel_rfl)
    (of_decide_eq_true (by kernel_rfl)) (by unfold Func.isWrapper; first | (rw [if_pos (by decide +kernel)]; kernel_rfl) | (rw [if_neg (by decide +kernel)]; exact ⟨rfl, rfl⟩))
    (fun os started H enc _ => lifted os started H enc)
end Go.Proofs.YtomloodakabcbabGreat.fnExactRepairChain
