/-
  The marks of clauses read back: heldClauseS.
-/
import Derived.Test.YtclmafachidbhaaGreatClMk
import Derived.Deep.RegionHeld3
namespace Go.Proofs.YtclmafachidbhaaGreat.Cl
open Go.RowKit Go.Proofs.YtclmafachidbhaaGreat.Cond Go.Proofs.YtclmafachidbhaaGreat.Gx Go.Proofs.YtclmafachidbhaaGreat.Mark
set_option linter.unusedVariables false
set_option linter.unusedSimpArgs false

theorem mkM_cells (m : M) (t : Nat) : (mkM m t).cells = [.string (mt t), .int .i64 ((t + 1 : Nat) : Int), .int .i64 ((t + 2 : Nat) : Int), .string (mt (t + 3)), .int .i64 ((t + 4 : Nat) : Int), .int .i64 ((t + 5 : Nat) : Int), .int .i64 ((t + 6 : Nat) : Int), .string (mt (t + 7)), .int .i64 ((t + 8 : Nat) : Int), .slice m.k.A m.k.ps.length m.k.cap, .int .i64 ((t + 6 + 3 * m.k.cond.size : Nat) : Int), .string (mt (t + 6 + 3 * m.k.cond.size + 1))] := by
  rw [show t + 6 + 3 * m.k.cond.size + 1 = t + 7 + 3 * m.k.cond.size by omega]
  unfold M.cells mkM
  cases hk : m.k with
  | mk op' nm' day' A' cap' qs => simp only [mkK, K.op, K.nm, K.day, K.A, K.cap, K.ps, mkL_length]

set_option maxHeartbeats 8000000 in
set_option maxRecDepth 100000 in
theorem heldMS (A : Option Addr) (n cap : Nat) (ms : List M) (t0 : Nat) (w : World) (ht0 : 1 ≤ t0) (hm : t0 + nMk ms ≤ 90000000) (hw : LiR w w.heap.size A n cap (mkR ms t0)) :
    Calls Tryz.prog 77 #[.slice A n cap, .int .i64 (t0 : Int)] w fun e w' => e = .returned (.int .i64 ((t0 + nMk ms : Nat) : Int)) ∧ Below w.heap.size w w' := by
  have hlen : n = ms.length := by rw [hw.len, mkR_length]
  have hcm := hw.cm
  have hnc := hw.nc
  have HL := Lib.hid hw
  have HN := Lib.hid hlen
  have HSM := Lib.hid hm
  unfold maxLen at hcm
  clear hw hlen hm
  go_enter Tryz.func77, Tryz.ntmps77
  go_wp2_with fail
  go_loopw [1, 5] (fun v i wr => ∃ (j : Nat) (t : Nat), j ≤ n ∧ i = .int .i64 j ∧ v = .int .i64 (t : Int) ∧ Hid (t = t0 + nMk (ms.take j)) ∧ Hid (Below w.heap.size w wr)) (fun _ i _ => n - (intOf i).toNat)
  case atStart => exact ⟨0, t0, Nat.zero_le _, rfl, rfl, Lib.hid (by simp [nMk]), Lib.hid (Below.refl _ _)⟩
  case round =>
    obtain ⟨j, t, hj, rfl, rfl, HT, HB⟩ := hrel
    by_cases hlt : j < n
    · have hj' : j < ms.length := by have := HN.out; omega
      obtain ⟨p, hpp⟩ : ∃ p, p = ms[j] := ⟨_, rfl⟩
      have hst := nMk_step hj'
      have hle := nMk_take_le ms (j + 1)
      have ht1 : 1 ≤ t := by rw [HT.out]; omega
      have HT2 : Hid (t + 8 + 3 * p.k.cond.size ≤ 90000000) := Lib.hid (by rw [HT.out, hpp]; have := HSM.out; omega)
      have HPC : Hid (p.k.cond.size = 1 + sizes (conds p.k.ps)) := Lib.hid (by cases p.k with | mk op' nm' day' A' cap' qs => simp only [K.ps, K.cond, C.size])
      obtain ⟨b, o, rfl, hbB, he⟩ := HL.out.at_ (by rw [mkR_length]; omega)
      have hE := (he j (by rw [mkR_length]; exact hj')).alike (HB.out.block b hbB)
      have hIn : LiM wr wr.heap.size ((mkR ms t0)[j]'(by rw [mkR_length]; exact hj')) := (HL.out.all _ (List.getElem_mem _)).on HB.out
      rw [mkR_get ms t0 j hj', ← HT.out, ← hpp] at hE hIn
      rw [mkM_cells] at hE
      have HP : Hid (Held wr p.k.A p.k.cap p.k.ps (t + 9)) := Lib.hid (by
        have h2 := hIn.k
        simp only [mkM] at h2
        cases hk : p.k with
        | mk op' nm' day' A' cap' qs =>
          rw [hk] at h2
          exact lies_head h2 (by simp [maxLen]))
      obtain ⟨s1, hs1⟩ : ∃ s, s = mt t := ⟨_, rfl⟩
      obtain ⟨s2, hs2⟩ : ∃ s, s = mt (t + 3) := ⟨_, rfl⟩
      obtain ⟨s3, hs3⟩ : ∃ s, s = mt (t + 7) := ⟨_, rfl⟩
      obtain ⟨t2, ht2⟩ : ∃ t2, t2 = t + 9 + 3 * sizes (conds p.k.ps) := ⟨_, rfl⟩
      obtain ⟨s5, hs5⟩ : ∃ s, s = mt (t2 + 1) := ⟨_, rfl⟩
      have ht6 : t2 = t + 6 + 3 * p.k.cond.size := by rw [ht2, HPC.out]; omega
      have HTR : Hid (t + 11 ≤ 90000000) := Lib.hid (by have := HT2.out; have := HPC.out; omega)
      have hbw : b < wr.heap.size := Nat.lt_of_lt_of_le hbB HB.out.size
      have c0 : wr.cell? ⟨b, o + j * 12, none⟩ = some (.string s1) := by rw [hs1]; exact hE 0 (by simp)
      have c1 : wr.cell? ⟨b, o + j * 12 + 1, none⟩ = some (.int .i64 ((t : Int) + 1)) := by rw [show (t : Int) + 1 = ((t + 1 : Nat) : Int) by omega]; exact hE 1 (by simp)
      have c2 : wr.cell? ⟨b, o + j * 12 + 2, none⟩ = some (.int .i64 ((t : Int) + 1 + 1)) := by rw [show (t : Int) + 1 + 1 = ((t + 2 : Nat) : Int) by omega]; exact hE 2 (by simp)
      have c3 : wr.cell? ⟨b, o + j * 12 + 3, none⟩ = some (.string s2) := by rw [hs2]; exact hE 3 (by simp)
      have c4 : wr.cell? ⟨b, o + j * 12 + 4, none⟩ = some (.int .i64 ((t : Int) + 1 + 1 + 1 + 1)) := by rw [show (t : Int) + 1 + 1 + 1 + 1 = ((t + 4 : Nat) : Int) by omega]; exact hE 4 (by simp)
      have c5 : wr.cell? ⟨b, o + j * 12 + 5, none⟩ = some (.int .i64 ((t : Int) + 1 + 1 + 1 + 1 + 1)) := by rw [show (t : Int) + 1 + 1 + 1 + 1 + 1 = ((t + 5 : Nat) : Int) by omega]; exact hE 5 (by simp)
      have c6 : wr.cell? ⟨b, o + j * 12 + 6, none⟩ = some (.int .i64 ((t : Int) + 1 + 1 + 1 + 1 + 1 + 1)) := by rw [show (t : Int) + 1 + 1 + 1 + 1 + 1 + 1 = ((t + 6 : Nat) : Int) by omega]; exact hE 6 (by simp)
      have c7 : wr.cell? ⟨b, o + j * 12 + 7, none⟩ = some (.string s3) := by rw [hs3]; exact hE 7 (by simp)
      have c8 : wr.cell? ⟨b, o + j * 12 + 8, none⟩ = some (.int .i64 ((t : Int) + 1 + 1 + 1 + 1 + 1 + 1 + 1 + 1)) := by rw [show (t : Int) + 1 + 1 + 1 + 1 + 1 + 1 + 1 + 1 = ((t + 8 : Nat) : Int) by omega]; exact hE 8 (by simp)
      have c9 : wr.cell? ⟨b, o + j * 12 + 9, none⟩ = some (.slice p.k.A p.k.ps.length p.k.cap) := hE 9 (by simp)
      have c10 : wr.cell? ⟨b, o + j * 12 + 10, none⟩ = some (.int .i64 (t2 : Int)) := by rw [ht6]; exact hE 10 (by simp)
      have c11 : wr.cell? ⟨b, o + j * 12 + 11, none⟩ = some (.string s5) := by rw [hs5, ht6]; exact hE 11 (by simp)
      have CT : Hid (∀ v, Below wr.heap.size wr v → v.cell? ⟨b, o + j * 12, none⟩ = some (.string s1) ∧ v.cell? ⟨b, o + j * 12 + 1, none⟩ = some (.int .i64 ((t : Int) + 1)) ∧ v.cell? ⟨b, o + j * 12 + 2, none⟩ = some (.int .i64 ((t : Int) + 1 + 1)) ∧ v.cell? ⟨b, o + j * 12 + 3, none⟩ = some (.string s2) ∧ v.cell? ⟨b, o + j * 12 + 4, none⟩ = some (.int .i64 ((t : Int) + 1 + 1 + 1 + 1)) ∧ v.cell? ⟨b, o + j * 12 + 5, none⟩ = some (.int .i64 ((t : Int) + 1 + 1 + 1 + 1 + 1)) ∧ v.cell? ⟨b, o + j * 12 + 6, none⟩ = some (.int .i64 ((t : Int) + 1 + 1 + 1 + 1 + 1 + 1)) ∧ v.cell? ⟨b, o + j * 12 + 7, none⟩ = some (.string s3) ∧ v.cell? ⟨b, o + j * 12 + 8, none⟩ = some (.int .i64 ((t : Int) + 1 + 1 + 1 + 1 + 1 + 1 + 1 + 1)) ∧ v.cell? ⟨b, o + j * 12 + 9, none⟩ = some (.slice p.k.A p.k.ps.length p.k.cap) ∧ v.cell? ⟨b, o + j * 12 + 10, none⟩ = some (.int .i64 (t2 : Int)) ∧ v.cell? ⟨b, o + j * 12 + 11, none⟩ = some (.string s5)) := Lib.hid fun v hv => ⟨(hv.cell (p := ⟨b, o + j * 12, none⟩) hbw).trans c0, (hv.cell (p := ⟨b, o + j * 12 + 1, none⟩) hbw).trans c1, (hv.cell (p := ⟨b, o + j * 12 + 2, none⟩) hbw).trans c2, (hv.cell (p := ⟨b, o + j * 12 + 3, none⟩) hbw).trans c3, (hv.cell (p := ⟨b, o + j * 12 + 4, none⟩) hbw).trans c4, (hv.cell (p := ⟨b, o + j * 12 + 5, none⟩) hbw).trans c5, (hv.cell (p := ⟨b, o + j * 12 + 6, none⟩) hbw).trans c6, (hv.cell (p := ⟨b, o + j * 12 + 7, none⟩) hbw).trans c7, (hv.cell (p := ⟨b, o + j * 12 + 8, none⟩) hbw).trans c8, (hv.cell (p := ⟨b, o + j * 12 + 9, none⟩) hbw).trans c9, (hv.cell (p := ⟨b, o + j * 12 + 10, none⟩) hbw).trans c10, (hv.cell (p := ⟨b, o + j * 12 + 11, none⟩) hbw).trans c11⟩
      have CT0 : Hid (∀ v, Below wr.heap.size wr v → v.cell? ⟨b, o + j * 12, none⟩ = some (.string s1)) := Lib.hid fun v hv => (CT.out v hv).1
      have CT3 : Hid (∀ v, Below wr.heap.size wr v → v.cell? ⟨b, o + j * 12 + 3, none⟩ = some (.string s2)) := Lib.hid fun v hv => (CT.out v hv).2.2.2.1
      have CT7 : Hid (∀ v, Below wr.heap.size wr v → v.cell? ⟨b, o + j * 12 + 7, none⟩ = some (.string s3)) := Lib.hid fun v hv => (CT.out v hv).2.2.2.2.2.2.2.1
      have CT11 : Hid (∀ v, Below wr.heap.size wr v → v.cell? ⟨b, o + j * 12 + 11, none⟩ = some (.string s5)) := Lib.hid fun v hv => (CT.out v hv).2.2.2.2.2.2.2.2.2.2.2
      have hT2 := HT2.out
      have hTR := HTR.out
      have HM0 : Hid (∀ v, Calls Tryz.prog 72 #[.int .i64 (t : Int)] v fun e w' => e = .returned (.string s1) ∧ Below v.heap.size v w') := Lib.hid fun v => by rw [hs1]; exact markText t (by omega) (by omega) v
      have HM3 : Hid (∀ v, Calls Tryz.prog 72 #[.int .i64 ((t : Int) + 1 + 1 + 1)] v fun e w' => e = .returned (.string s2) ∧ Below v.heap.size v w') := Lib.hid fun v => by rw [hs2, show (t : Int) + 1 + 1 + 1 = ((t + 3 : Nat) : Int) by omega]; exact markText (t + 3) (by omega) (by omega) v
      have HM7 : Hid (∀ v, Calls Tryz.prog 72 #[.int .i64 ((t : Int) + 1 + 1 + 1 + 1 + 1 + 1 + 1)] v fun e w' => e = .returned (.string s3) ∧ Below v.heap.size v w') := Lib.hid fun v => by rw [hs3, show (t : Int) + 1 + 1 + 1 + 1 + 1 + 1 + 1 = ((t + 7 : Nat) : Int) by omega]; exact markText (t + 7) (by omega) (by omega) v
      have HM11 : Hid (∀ v, Calls Tryz.prog 72 #[.int .i64 ((t2 : Int) + 1)] v fun e w' => e = .returned (.string s5) ∧ Below v.heap.size v w') := Lib.hid fun v => by rw [hs5, show (t2 : Int) + 1 = ((t2 + 1 : Nat) : Int) by omega]; exact markText (t2 + 1) (by omega) (by omega) v
      have HR : Hid (∀ v, Below wr.heap.size wr v → Calls Tryz.prog 105 #[.slice p.k.A p.k.ps.length p.k.cap, .int .i64 ((t : Int) + 1 + 1 + 1 + 1 + 1 + 1 + 1 + 1 + 1)] v fun e w' => e = .returned (.int .i64 (t2 : Int)) ∧ Below v.heap.size v w') := Lib.hid fun v hv => by
        have := heldS p.k (t + 9) v (by omega) (by omega) (HP.out.on hv)
        rw [show ((t + 9 : Nat) : Int) = (t : Int) + 1 + 1 + 1 + 1 + 1 + 1 + 1 + 1 + 1 by omega, ← ht2] at this
        exact this
      have HTN : Hid (t2 + 2 = t0 + nMk (ms.take (j + 1))) := Lib.hid (by rw [← hpp] at hst; have := HT.out; omega)
      have ht3 : t + 20 ≤ 90000020 := by omega
      have ht4 : t2 + 2 ≤ 90000000 := by omega
      have ht5 : (0 : Int) ≤ (t2 : Int) := by omega
      have i0 : (0 : Int) ≤ (j : Int) := by omega
      have i1 : (j : Int) < (n : Int) := by omega
      clear hE hIn hpp hst hle he hs1 hs2 hs3 hs5 ht2 ht6 hT2 hTR hbB hbw c1 c2 c3 c4 c5 c6 c7 c8 c9 c10 c11
      go_wp2_with fail
      go_region_held3 (fun v => v.cell? ⟨b, o + j * 12, none⟩ = some (.string s1)) (first | (refine CT0.out _ ?_; (repeat (first | exact Below.refl _ _ | exact b5 | exact b4 | exact b3 | exact b2 | exact b1 | apply Below.drew)); done))
        (first | (go_at_call 72; (with_reducible refine (HM0.out _).mono ?_); rintro e w1 ⟨rfl, hb⟩; have b1 : Below wr.heap.size wr w1 := (Below.trans (by (repeat (first | exact Below.refl _ _ | exact b5 | exact b4 | exact b3 | exact b2 | exact b1 | apply Below.drew))) (hb.mono (by first | omega | (simp; done) | (simp; omega) | exact b5.size | exact b4.size | exact b3.size | exact b2.size | exact b1.size | (have := b4.size; simp; omega) | (have := b3.size; simp; omega) | (have := b2.size; simp; omega) | (have := b1.size; simp; omega)))); clear hb))
      clear c0
      have hcc := CT.out w1 b1
      obtain ⟨-, c1, c2, c3, -, -, -, -, -, -, -, -⟩ := hcc
      go_wp2_with fail
      go_region_held3 (fun v => v.cell? ⟨b, o + j * 12 + 3, none⟩ = some (.string s2)) (first | (refine CT3.out _ ?_; (repeat (first | exact Below.refl _ _ | exact b5 | exact b4 | exact b3 | exact b2 | exact b1 | apply Below.drew)); done))
        (first | (go_at_call 72; (with_reducible refine (HM3.out _).mono ?_); rintro e w2 ⟨rfl, hb⟩; have b2 : Below wr.heap.size wr w2 := (Below.trans (by (repeat (first | exact Below.refl _ _ | exact b5 | exact b4 | exact b3 | exact b2 | exact b1 | apply Below.drew))) (hb.mono (by first | omega | (simp; done) | (simp; omega) | exact b5.size | exact b4.size | exact b3.size | exact b2.size | exact b1.size | (have := b4.size; simp; omega) | (have := b3.size; simp; omega) | (have := b2.size; simp; omega) | (have := b1.size; simp; omega)))); clear hb))
      clear c1 c2 c3 b1
      have hcc := CT.out w2 b2
      obtain ⟨-, -, -, -, c4, c5, c6, c7, -, -, -, -⟩ := hcc
      go_wp2_with fail
      go_region_held3 (fun v => v.cell? ⟨b, o + j * 12 + 7, none⟩ = some (.string s3)) (first | (refine CT7.out _ ?_; (repeat (first | exact Below.refl _ _ | exact b5 | exact b4 | exact b3 | exact b2 | exact b1 | apply Below.drew)); done))
        (first | (go_at_call 72; (with_reducible refine (HM7.out _).mono ?_); rintro e w3 ⟨rfl, hb⟩; have b3 : Below wr.heap.size wr w3 := (Below.trans (by (repeat (first | exact Below.refl _ _ | exact b5 | exact b4 | exact b3 | exact b2 | exact b1 | apply Below.drew))) (hb.mono (by first | omega | (simp; done) | (simp; omega) | exact b5.size | exact b4.size | exact b3.size | exact b2.size | exact b1.size | (have := b4.size; simp; omega) | (have := b3.size; simp; omega) | (have := b2.size; simp; omega) | (have := b1.size; simp; omega)))); clear hb))
      clear c4 c5 c6 c7 b2
      have hcc := CT.out w3 b3
      obtain ⟨-, -, -, -, -, -, -, -, c8, c9, -, -⟩ := hcc
      go_wp2_with (go_at_call 105; (with_reducible refine (HR.out _ b3).mono ?_); rintro e w4 ⟨rfl, hb⟩; have b4 : Below wr.heap.size wr w4 := b3.trans (hb.mono b3.size); clear hb; refine Hid.out ?_)
      refine Lib.hid ?_
      clear c8 c9 b3
      have hcc := CT.out w4 b4
      obtain ⟨-, -, -, -, -, -, -, -, -, -, c10, c11⟩ := hcc
      go_wp2_with fail
      go_region_held3 (fun v => v.cell? ⟨b, o + j * 12 + 11, none⟩ = some (.string s5)) (first | (refine CT11.out _ ?_; (repeat (first | exact Below.refl _ _ | exact b5 | exact b4 | exact b3 | exact b2 | exact b1 | apply Below.drew)); done))
        (first | (go_at_call 72; (with_reducible refine (HM11.out _).mono ?_); rintro e w5 ⟨rfl, hb⟩; have b5 : Below wr.heap.size wr w5 := (Below.trans (by (repeat (first | exact Below.refl _ _ | exact b5 | exact b4 | exact b3 | exact b2 | exact b1 | apply Below.drew))) (hb.mono (by first | omega | (simp; done) | (simp; omega) | exact b5.size | exact b4.size | exact b3.size | exact b2.size | exact b1.size | (have := b4.size; simp; omega) | (have := b3.size; simp; omega) | (have := b2.size; simp; omega) | (have := b1.size; simp; omega)))); clear hb))
      clear c10 c11 b4
      go_wp2_with fail
      go_roundw
      case rel => exact ⟨j + 1, t2 + 2, by omega, by go_num, by go_num, HTN, Lib.hid (HB.out.trans (b5.mono HB.out.size))⟩
      case measure => simp [intOf]; omega
    · have HE : Hid (ms.take j = ms) := Lib.hid (List.take_of_length_le (by have := HN.out; omega))
      go_wp2_with fail
      go_ret
      refine ⟨?_, HB.out⟩
      have := HT.out
      rw [HE.out] at this
      rw [← this]; rfl

end Go.Proofs.YtclmafachidbhaaGreat.Cl
