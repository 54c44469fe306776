/-
  What the laws' helpers szClause, szClauseS and szContract take away.
-/
import Derived.Test.YtomloodakabcbabGreatCl
import Derived.Test.YtomloodakabcbabGreatRowSz
namespace Go.Proofs.YtomloodakabcbabGreat.Cl
open Go.RowKit Go.Proofs.YtomloodakabcbabGreat.Cond Go.Proofs.YtomloodakabcbabGreat.Gx
set_option linter.unusedVariables false
set_option linter.unusedSimpArgs false

theorem szRes_no {m t : Nat} (h : m < t) : szRes m t = -1 := if_pos h
theorem szRes_yes {m t : Nat} (h : ¬ m < t) : szRes m t = ((m - t : Nat) : Int) := if_neg h

set_option maxHeartbeats 4000000 in
theorem szM (m : M) (t : Nat) (w : World) (ht : t ≤ 1048576) (h : LiM w w.heap.size m) :
    Calls Tryz.prog 28 #[m.val, .int .i64 t] w fun e w' => e = .returned (.int .i64 (szRes t m.cl.wt)) ∧ Below w.heap.size w w' := by
  have B0 := Lib.hid (below1 w (.cells #[.string m.id, .int .i64 m.kind, .int .i64 m.party, .string m.act, .int .i64 m.other, .int .i64 m.amt, .int .i64 m.k.op, .string m.k.nm, .int .i64 m.k.day, .slice m.k.A m.k.ps.length m.k.cap, .int .i64 m.within, .string m.rep] 64))
  obtain ⟨a, ha⟩ : ∃ a, a = m.id.size := ⟨_, rfl⟩
  obtain ⟨b, hb⟩ : ∃ a, a = m.act.size := ⟨_, rfl⟩
  obtain ⟨c, hc⟩ : ∃ a, a = m.k.cond.wt := ⟨_, rfl⟩
  obtain ⟨r, hr⟩ : ∃ a, a = m.rep.size := ⟨_, rfl⟩
  have HW : Hid (m.cl.wt = a + b + c + r) := Lib.hid (by rw [ha, hb, hc, hr]; rfl)
  have ba : m.id.size ≤ 9223372036854775807 := h.si
  have bb : m.act.size ≤ 9223372036854775807 := h.sa
  have br : m.rep.size ≤ 9223372036854775807 := h.sr
  have HSZ : Hid (∀ t : Nat, t ≤ 1048576 → Calls Tryz.prog 43 #[m.k.val, .int .i64 t] (w.alloc (.cells #[.string m.id, .int .i64 m.kind, .int .i64 m.party, .string m.act, .int .i64 m.other, .int .i64 m.amt, .int .i64 m.k.op, .string m.k.nm, .int .i64 m.k.day, .slice m.k.A m.k.ps.length m.k.cap, .int .i64 m.within, .string m.rep] 64)) fun e w' => e = .returned (.int .i64 (szRes t c)) ∧ Below (w.alloc (.cells #[.string m.id, .int .i64 m.kind, .int .i64 m.party, .string m.act, .int .i64 m.other, .int .i64 m.amt, .int .i64 m.k.op, .string m.k.nm, .int .i64 m.k.day, .slice m.k.A m.k.ps.length m.k.cap, .int .i64 m.within, .string m.rep] 64)).heap.size (w.alloc (.cells #[.string m.id, .int .i64 m.kind, .int .i64 m.party, .string m.act, .int .i64 m.other, .int .i64 m.amt, .int .i64 m.k.op, .string m.k.nm, .int .i64 m.k.day, .slice m.k.A m.k.ps.length m.k.cap, .int .i64 m.within, .string m.rep] 64)) w') := Lib.hid fun t ht => by rw [hc]; exact sz m.k t _ ht (h.k.on B0.out)
  have HAB : Hid (a = m.id.size ∧ b = m.act.size ∧ r = m.rep.size) := Lib.hid ⟨ha, hb, hr⟩
  clear h hc
  by_cases h1 : t < a
  · have h1' : (t : Int) < (m.id.size : Int) := by omega
    clear ha hb hr
    go_enter Tryz.func28, Tryz.ntmps28
    go_wp2_with fail
    go_ret
    refine ⟨?_, B0.out⟩
    have := HW.out
    rw [szRes_no (by omega)]; rfl
  have h1' : ¬ (t : Int) < (m.id.size : Int) := by omega
  by_cases h2 : t - a < b
  · have h2' : (t : Int) - (m.id.size : Int) < (m.act.size : Int) := by omega
    clear ha hb hr
    go_enter Tryz.func28, Tryz.ntmps28
    go_wp2_with fail
    go_ret
    refine ⟨?_, B0.out⟩
    have := HW.out
    rw [szRes_no (by omega)]; rfl
  have h2' : ¬ (t : Int) - (m.id.size : Int) < (m.act.size : Int) := by omega
  obtain ⟨u, hu⟩ : ∃ u : Nat, u = t - a - b := ⟨_, rfl⟩
  have hu' : (t : Int) - (m.id.size : Int) - (m.act.size : Int) = (u : Int) := by omega
  have HS := HSZ.out u (by omega)
  by_cases h3 : u < c
  · rw [szRes_no h3] at HS
    have HSH := Lib.hid HS
    have HU := Lib.hid hu
    have hu0 : (0 : Int) ≤ (u : Int) := by omega
    rw [← hu'] at HSH
    clear HS ha hb hr hu hu'
    go_enter Tryz.func28, Tryz.ntmps28
    go_wp2_with (go_at_call 43; refine HSH.out.mono ?_; rintro e w2 ⟨rfl, hb2⟩)
    go_ret
    refine ⟨?_, B0.out.trans (hb2.mono B0.out.size)⟩
    have := HW.out
    have := HU.out
    rw [szRes_no (by omega)]; rfl
  rw [szRes_yes h3] at HS
  obtain ⟨z, hz⟩ : ∃ z : Nat, z = u - c := ⟨_, rfl⟩
  rw [← hz] at HS
  have HSH := Lib.hid HS
  rw [← hu'] at HSH
  have HU := Lib.hid hu
  have HZ := Lib.hid hz
  have hz0 : (0 : Int) ≤ (z : Int) := by omega
  have hz1 : (z : Int) ≤ 1048576 := by omega
  by_cases h4 : z < r
  · have h4' : (z : Int) < (m.rep.size : Int) := by omega
    clear HS ha hb hr hu hu' hz
    go_enter Tryz.func28, Tryz.ntmps28
    go_wp2_with (go_at_call 43; refine HSH.out.mono ?_; rintro e w2 ⟨rfl, hb2⟩; refine Hid.out ?_)
    refine Lib.hid ?_
    obtain ⟨c0, c1, c2, c3, c4, c5, c6, c7, c8, c9, c10, c11⟩ := b12 (m := m) ((Bk.new w #[.string m.id, .int .i64 m.kind, .int .i64 m.party, .string m.act, .int .i64 m.other, .int .i64 m.amt, .int .i64 m.k.op, .string m.k.nm, .int .i64 m.k.day, .slice m.k.A m.k.ps.length m.k.cap, .int .i64 m.within, .string m.rep] 64).on hb2)
    go_wp2_with fail
    go_ret
    refine ⟨?_, B0.out.trans (hb2.mono B0.out.size)⟩
    have := HW.out
    have := HU.out
    have := HZ.out
    rw [szRes_no (by omega)]; rfl
  · have h4' : ¬ (z : Int) < (m.rep.size : Int) := by omega
    have HR : Hid (szRes t m.cl.wt = (z : Int) - (m.rep.size : Int)) := Lib.hid (by rw [HW.out, szRes_yes (by omega)]; omega)
    clear HS ha hb hr hu hu' hz
    go_enter Tryz.func28, Tryz.ntmps28
    go_wp2_with (go_at_call 43; refine HSH.out.mono ?_; rintro e w2 ⟨rfl, hb2⟩; refine Hid.out ?_)
    refine Lib.hid ?_
    obtain ⟨c0, c1, c2, c3, c4, c5, c6, c7, c8, c9, c10, c11⟩ := b12 (m := m) ((Bk.new w #[.string m.id, .int .i64 m.kind, .int .i64 m.party, .string m.act, .int .i64 m.other, .int .i64 m.amt, .int .i64 m.k.op, .string m.k.nm, .int .i64 m.k.day, .slice m.k.A m.k.ps.length m.k.cap, .int .i64 m.within, .string m.rep] 64).on hb2)
    go_wp2_with fail
    go_ret
    exact ⟨by rw [HR.out]; rfl, B0.out.trans (hb2.mono B0.out.size)⟩

set_option maxHeartbeats 4000000 in
theorem szMS (A : Option Addr) (n cap : Nat) (ms : List M) (m : Nat) (hm : m ≤ 1048576) (w : World) (h : LiR w w.heap.size A n cap ms) :
    Calls Tryz.prog 14 #[.slice A n cap, .int .i64 m] w fun e w' => e = .returned (.int .i64 (szRes m (n + wtL (ms.map M.cl)))) ∧ Below w.heap.size w w' := by
  have HN := Lib.hid h.len
  have hl : n ≤ 9223372036854775807 := Nat.le_trans h.nc h.cm
  have HR := Lib.hid h
  have HLE := Lib.hid (fun i => wtL_take_le (ms.map M.cl) i)
  clear h
  by_cases hbig : m < n
  · go_enter Tryz.func14, Tryz.ntmps14
    go_wp2
    go_ret
    refine ⟨?_, Below.refl _ _⟩
    rw [szRes_no (by omega)]; rfl
  · go_enter Tryz.func14, Tryz.ntmps14
    go_wp2_with fail
    go_loopw [1, 5] (fun l i wr => ∃ (k t : Nat), k ≤ n ∧ t ≤ 1048576 ∧ i = .int .i64 k ∧ l = .int .i64 (t : Int) ∧ Hid (t + n + wtL ((ms.map M.cl).take k) = m) ∧ Hid (Below w.heap.size w wr)) (fun _ i _ => n - (intOf i).toNat)
    case atStart => exact ⟨0, m - n, Nat.zero_le _, by omega, rfl, by congr 1; omega, Lib.hid (by simp [wtL]; omega), Lib.hid (Below.refl _ _)⟩
    case round =>
      obtain ⟨k, t, hk, ht, rfl, rfl, HT, HB⟩ := hrel
      by_cases hlt : k < n
      · have hk' : k < ms.length := by have := HN.out; omega
        obtain ⟨b, o, rfl, hB, hc⟩ := HR.out.at_ (by omega)
        obtain ⟨p, hp⟩ : ∃ p, p = ms[k] := ⟨_, rfl⟩
        have hE := (hc k hk').alike (HB.out.block b hB)
        rw [← hp] at hE
        obtain ⟨c0, c1, c2, c3, c4, c5, c6, c7, c8, c9, c10, c11⟩ := e12 hE
        have HW : Hid (wtL ((ms.map M.cl).take (k + 1)) = wtL ((ms.map M.cl).take k) + p.cl.wt) := Lib.hid (by
          rw [wtL_step (by simpa using hk'), hp]; simp)
        have HV := Lib.hid (HLE.out (k + 1))
        have IH := szM p t wr ht (((HR.out.all p (by rw [hp]; exact List.getElem_mem hk')).below HB.out).more HB.out.size)
        clear hp hc hE
        by_cases hneg : t < p.cl.wt
        · rw [szRes_no hneg] at IH
          have IHH := Lib.hid IH
          clear IH
          go_wp2_with (go_at_call 28; refine IHH.out.mono ?_; rintro e w2 ⟨rfl, hb2⟩)
          go_ret
          refine ⟨?_, HB.out.trans (hb2.mono HB.out.size)⟩
          have := HW.out; have := HV.out; have := HT.out
          rw [szRes_no (by omega)]; rfl
        · rw [szRes_yes hneg] at IH
          have IHH := Lib.hid IH
          have ht2 : (0 : Int) ≤ ((t - p.cl.wt : Nat) : Int) := by omega
          have HT2 : Hid (t - p.cl.wt + n + wtL ((ms.map M.cl).take (k + 1)) = m) := Lib.hid (by have := HT.out; have := HW.out; omega)
          have ht3 : t - p.cl.wt ≤ 1048576 := by omega
          clear IH
          generalize t - p.cl.wt = t2 at *
          go_wp2_with (go_at_call 28; refine IHH.out.mono ?_; rintro e w2 ⟨rfl, hb2⟩)
          go_roundw
          case rel => exact ⟨k + 1, t2, by omega, ht3, by go_num, rfl, HT2, Lib.hid (HB.out.trans (hb2.mono HB.out.size))⟩
          case measure => simp [intOf]; omega
      · have HE : Hid ((ms.map M.cl).take k = ms.map M.cl) := Lib.hid (List.take_of_length_le (by rw [List.length_map]; have := HN.out; omega))
        go_wp2_with fail
        go_ret
        refine ⟨?_, HB.out⟩
        have h1 := HT.out
        rw [HE.out] at h1
        rw [szRes_yes (by omega)]
        show Ending.returned (.int .i64 (t : Int)) = _
        congr 2; omega

set_option maxHeartbeats 4000000 in
theorem szCt (x : Kt) (m : Nat) (hm : m ≤ 1048576) (w : World) (h : LiC w w.heap.size x) :
    Calls Tryz.prog 4 #[x.val, .int .i64 m] w fun e w' => e = .returned (.int .i64 (szRes m x.ct.wt)) ∧ Below w.heap.size w w' := by
  have B0 := Lib.hid (below1 w (.cells #[.slice x.A1 x.n1 x.c1, .slice x.A2 x.n2 x.c2] 25))
  obtain ⟨X, hX⟩ : ∃ X, X = w.alloc (.cells #[.slice x.A1 x.n1 x.c1, .slice x.A2 x.n2 x.c2] 25) := ⟨_, rfl⟩
  rw [← hX] at B0
  have hs := Row.szG m hm x.A1 x.n1 x.c1 x.ss X w.heap.size h.p.len (Nat.le_trans h.p.nc h.p.cm) (h.p.is.below B0.out) h.p.szs
  have HC := Lib.hid (h.c.on B0.out)
  have HW : Hid (x.ct.wt = (Row.sizes x.ss + x.ss.length) + (x.n2 + wtL (x.ms.map M.cl))) := Lib.hid (by rw [h.c.len]; simp [Ct.wt, Kt.ct])
  obtain ⟨p, hp⟩ : ∃ p, p = Row.sizes x.ss + x.ss.length := ⟨_, rfl⟩
  rw [← hp] at HW
  unfold Row.szAnsG at hs
  rw [← hp] at hs
  have HX := Lib.hid hX
  clear h hX hp
  by_cases h1 : m < p
  · have HSH : Hid (Calls Tryz.prog 13 #[.slice x.A1 x.n1 x.c1, .int .i64 (m : Int)] X fun e w' => e = .returned (.int .i64 (-1)) ∧ X = w') := Lib.hid (hs.mono fun e w' ⟨hw, he⟩ => ⟨by
      rcases he with ⟨h, _⟩ | ⟨_, he⟩
      · omega
      · exact he, hw⟩)
    clear hs
    go_enter Tryz.func4, Tryz.ntmps4
    go_wp2_with (go_at_call 13; (try rw [← HX.out]); refine HSH.out.mono ?_; rintro e w2 ⟨rfl, rfl⟩)
    go_ret
    exact ⟨by rw [HW.out, szRes_no (by omega)]; rfl, by first | exact B0.out | (rw [HX.out] at B0; exact B0.out)⟩
  · obtain ⟨u, hu⟩ : ∃ u : Nat, u = m - p := ⟨_, rfl⟩
    have HSH : Hid (Calls Tryz.prog 13 #[.slice x.A1 x.n1 x.c1, .int .i64 (m : Int)] X fun e w' => e = .returned (.int .i64 (u : Int)) ∧ X = w') := Lib.hid (hs.mono fun e w' ⟨hw, he⟩ => ⟨by
      rcases he with ⟨_, he⟩ | ⟨h, _⟩
      · rw [he]; congr 2; omega
      · omega, hw⟩)
    have HCS := Lib.hid (szMS x.A2 x.n2 x.c2 x.ms u (by omega) X HC.out)
    have hu0 : (0 : Int) ≤ (u : Int) := by omega
    have HU := Lib.hid hu
    have BX : Hid (Bk w.heap.size X [.slice x.A1 x.n1 x.c1, .slice x.A2 x.n2 x.c2]) := Lib.hid (by rw [HX.out]; exact Bk.new _ _ _)
    have k0 := BX.out.c 0 (by simp)
    have k1 := BX.out.c 1 (by simp)
    simp only [List.getElem_cons_zero, List.getElem_cons_succ] at k0 k1
    clear hs hu
    by_cases h2 : u < x.n2 + wtL (x.ms.map M.cl)
    · rw [szRes_no h2] at HCS
      go_enter Tryz.func4, Tryz.ntmps4
      go_wp2_with (first | (go_at_call 13; (try rw [← HX.out]); refine HSH.out.mono ?_; rintro e w2 ⟨rfl, rfl⟩) | (go_at_call 14; refine HCS.out.mono ?_; rintro e w3 ⟨rfl, hb3⟩))
      go_ret
      exact ⟨by rw [HW.out, szRes_no (by have := HU.out; omega)]; rfl, B0.out.trans (hb3.mono B0.out.size)⟩
    · rw [szRes_yes h2] at HCS
      have hz0 : (0 : Int) ≤ ((u - (x.n2 + wtL (x.ms.map M.cl)) : Nat) : Int) := by omega
      have HF : Hid (szRes m x.ct.wt = ((u - (x.n2 + wtL (x.ms.map M.cl)) : Nat) : Int)) := Lib.hid (by rw [HW.out, szRes_yes (by have := HU.out; omega)]; have := HU.out; omega)
      clear h2
      generalize u - (x.n2 + wtL (x.ms.map M.cl)) = z at *
      go_enter Tryz.func4, Tryz.ntmps4
      go_wp2_with (first | (go_at_call 13; (try rw [← HX.out]); refine HSH.out.mono ?_; rintro e w2 ⟨rfl, rfl⟩) | (go_at_call 14; refine HCS.out.mono ?_; rintro e w3 ⟨rfl, hb3⟩))
      go_ret
      exact ⟨by rw [HF.out]; rfl, B0.out.trans (hb3.mono B0.out.size)⟩

end Go.Proofs.YtomloodakabcbabGreat.Cl
