/-
  What the laws' helpers eqClause, eqClauseS and eqContract return of what is the same: true.
-/
import Derived.Test.YtomloodakabcbabGreatClTo
import Derived.Test.YtomloodakabcbabGreatRowEq
namespace Go.Proofs.YtomloodakabcbabGreat.Cl
open Go.RowKit Go.Proofs.YtomloodakabcbabGreat.Cond Go.Proofs.YtomloodakabcbabGreat.Gx
set_option linter.unusedVariables false
set_option linter.unusedSimpArgs false

theorem cl_eq {m q : M} (h : m.cl = q.cl) : ∃ k : K, m = ⟨q.id, q.kind, q.party, q.act, q.other, q.amt, k, q.within, q.rep⟩ ∧ k.cond = q.k.cond := by
  cases m
  cases q
  simp only [M.cl, L.mk.injEq] at h
  obtain ⟨rfl, rfl, rfl, rfl, rfl, rfl, hk, rfl, rfl⟩ := h
  exact ⟨_, rfl, hk⟩

set_option maxHeartbeats 4000000 in
theorem eqM (m q : M) (w : World) (hc : m.cl = q.cl) (hw : q.cl.wt ≤ 1048576) (hm : LiM w w.heap.size m) (hq : LiM w w.heap.size q) :
    Calls Tryz.prog 40 #[m.val, q.val] w fun e w' => e = .returned (.bool true) ∧ Below w.heap.size w w' := by
  obtain ⟨k, rfl, hk⟩ := cl_eq hc
  obtain ⟨W, hW⟩ : ∃ W, W = (w.alloc (.cells #[.string q.id, .int .i64 q.kind, .int .i64 q.party, .string q.act, .int .i64 q.other, .int .i64 q.amt, .int .i64 k.op, .string k.nm, .int .i64 k.day, .slice k.A k.ps.length k.cap, .int .i64 q.within, .string q.rep] 70)).alloc (.cells #[.string q.id, .int .i64 q.kind, .int .i64 q.party, .string q.act, .int .i64 q.other, .int .i64 q.amt, .int .i64 q.k.op, .string q.k.nm, .int .i64 q.k.day, .slice q.k.A q.k.ps.length q.k.cap, .int .i64 q.within, .string q.rep] 70) := ⟨_, rfl⟩
  have b2 : Below w.heap.size w W := by rw [hW]; exact (below1 _ _).alloc (by simp) _
  have HE := Lib.hid (eqC k q.k W hk (by rw [hk]; simp only [L.wt, M.cl] at hw; omega) (hm.k.on b2) (hq.k.on b2))
  have P0 : Hid (Bk w.heap.size W [.string q.id, .int .i64 q.kind, .int .i64 q.party, .string q.act, .int .i64 q.other, .int .i64 q.amt, .int .i64 k.op, .string k.nm, .int .i64 k.day, .slice k.A k.ps.length k.cap, .int .i64 q.within, .string q.rep]) := Lib.hid (by rw [hW]; exact (Bk.new w #[.string q.id, .int .i64 q.kind, .int .i64 q.party, .string q.act, .int .i64 q.other, .int .i64 q.amt, .int .i64 k.op, .string k.nm, .int .i64 k.day, .slice k.A k.ps.length k.cap, .int .i64 q.within, .string q.rep] 70).alloc _)
  have Q0 : Hid (Bk (w.heap.size + 1) W [.string q.id, .int .i64 q.kind, .int .i64 q.party, .string q.act, .int .i64 q.other, .int .i64 q.amt, .int .i64 q.k.op, .string q.k.nm, .int .i64 q.k.day, .slice q.k.A q.k.ps.length q.k.cap, .int .i64 q.within, .string q.rep]) := Lib.hid (by
    rw [hW]
    have := Bk.new (w.alloc (.cells #[.string q.id, .int .i64 q.kind, .int .i64 q.party, .string q.act, .int .i64 q.other, .int .i64 q.amt, .int .i64 k.op, .string k.nm, .int .i64 k.day, .slice k.A k.ps.length k.cap, .int .i64 q.within, .string q.rep] 70)) #[.string q.id, .int .i64 q.kind, .int .i64 q.party, .string q.act, .int .i64 q.other, .int .i64 q.amt, .int .i64 q.k.op, .string q.k.nm, .int .i64 q.k.day, .slice q.k.A q.k.ps.length q.k.cap, .int .i64 q.within, .string q.rep] 70
    rw [World.size_alloc] at this
    exact this)
  have HW := Lib.hid hW
  have B2 := Lib.hid b2
  clear hk hm hq hw hc hW b2
  go_enter Tryz.func40, Tryz.ntmps40
  go_wp2_with (go_at_call 57; (try rw [← HW.out]); refine HE.out.mono ?_; rintro e w3 ⟨rfl, hb3⟩; refine Hid.out ?_)
  refine Lib.hid ?_
  have p10 := (P0.out.on hb3).c 10 (by simp)
  have p11 := (P0.out.on hb3).c 11 (by simp)
  have q10 := (Q0.out.on hb3).c 10 (by simp)
  have q11 := (Q0.out.on hb3).c 11 (by simp)
  simp only [List.getElem_cons_succ, List.getElem_cons_zero] at p10 p11 q10 q11
  have HB3 := Lib.hid (B2.out.trans (hb3.mono B2.out.size))
  clear hb3
  go_wp2_with fail
  go_ret
  exact ⟨rfl, HB3.out⟩

set_option maxHeartbeats 4000000 in
theorem eqMS (A1 A2 : Option Addr) (n c1 c2 : Nat) (ms qs : List M) (w : World) (hc : ms.map M.cl = qs.map M.cl) (hw : wtL (qs.map M.cl) ≤ 1048576) (hl : n ≤ 1048576) (h1 : LiR w w.heap.size A1 n c1 ms) (h2 : LiR w w.heap.size A2 n c2 qs) :
    Calls Tryz.prog 25 #[.slice A1 n c1, .slice A2 n c2] w fun e w' => e = .returned (.bool true) ∧ Below w.heap.size w w' := by
  have HC := Lib.hid hc
  have HW := Lib.hid hw
  have H1 := Lib.hid h1
  have H2 := Lib.hid h2
  clear hc hw h1 h2
  go_enter Tryz.func25, Tryz.ntmps25
  go_wp2_with fail
  go_loopw [5] (fun i wr => ∃ k : Nat, k ≤ n ∧ i = .int .i64 k ∧ Hid (Below w.heap.size w wr)) (fun i _ => n - (intOf i).toNat)
  case atStart => exact ⟨0, Nat.zero_le _, rfl, Lib.hid (Below.refl _ _)⟩
  case round =>
    obtain ⟨k, hk, rfl, HB⟩ := hrel
    by_cases hlt : k < n
    · have hk1 : k < ms.length := by have := H1.out.len; omega
      have hk2 : k < qs.length := by have := H2.out.len; omega
      obtain ⟨b, o, rfl, hB, hc⟩ := H1.out.at_ (by omega)
      obtain ⟨b', o', rfl, hB', hc'⟩ := H2.out.at_ (by omega)
      obtain ⟨p, hp⟩ : ∃ p, p = ms[k] := ⟨_, rfl⟩
      obtain ⟨q, hq⟩ : ∃ q, q = qs[k] := ⟨_, rfl⟩
      have hE := (hc k hk1).alike (HB.out.block b hB)
      have hE' := (hc' k hk2).alike (HB.out.block b' hB')
      rw [← hp] at hE
      rw [← hq] at hE'
      obtain ⟨x0, x1, x2, x3, x4, x5, x6, x7, x8, x9, x10, x11⟩ := e12 hE
      obtain ⟨y0, y1, y2, y3, y4, y5, y6, y7, y8, y9, y10, y11⟩ := e12 hE'
      have hpm : p ∈ ms := by rw [hp]; exact List.getElem_mem hk1
      have hqm : q ∈ qs := by rw [hq]; exact List.getElem_mem hk2
      have hpq : p.cl = q.cl := by
        have := congrArg (·[k]?) HC.out
        simpa [hk1, hk2, ← hp, ← hq] using this
      have IHp := Lib.hid (eqM p q wr.drew hpq (Nat.le_trans (wtL_mem (List.mem_map.2 ⟨q, hqm, rfl⟩)) HW.out) (((H1.out.all p hpm).below (HB.out.trans (drew_below _ _))).more HB.out.size) (((H2.out.all q hqm).below (HB.out.trans (drew_below _ _))).more HB.out.size))
      clear hp hq hc hc' hE hE' hpm hqm hpq
      have i0 : (0 : Int) ≤ (k : Int) := by omega
      have i1 : (k : Int) < (n : Int) := by omega
      go_wp2_with fail
      go_region_with (go_at_call 40; refine IHp.out.mono ?_; rintro e w3 ⟨rfl, hb3⟩)
      all_goals go_wp2
      all_goals go_roundw
      all_goals first
        | exact ⟨k + 1, by omega, by go_num, Lib.hid (HB.out.trans ((below_of_drew hb3).mono HB.out.size))⟩
        | (simp [intOf]; omega)
    · go_wp2_with fail
      go_ret
      exact ⟨rfl, HB.out⟩

set_option maxHeartbeats 4000000 in
theorem eqCt (x y : Kt) (w : World) (hc : x.ct = y.ct) (hw : y.ct.wt ≤ 1048576) (hx : LiC w w.heap.size x) (hy : LiC w w.heap.size y) :
    Calls Tryz.prog 9 #[x.val, y.val] w fun e w' => e = .returned (.bool true) ∧ Below w.heap.size w w' := by
  have hs : x.ss = y.ss := congrArg Ct.ss hc
  have hm : x.ms.map M.cl = y.ms.map M.cl := congrArg Ct.ls hc
  have e1 : x.n1 = y.n1 := by rw [hx.p.len, hy.p.len, hs]
  have e2 : x.n2 = y.n2 := by
    have := congrArg List.length hm
    rw [hx.c.len, hy.c.len]; simpa using this
  obtain ⟨W, hW⟩ : ∃ W, W = (w.alloc (.cells #[.slice x.A1 x.n1 x.c1, .slice x.A2 x.n2 x.c2] 32)).alloc (.cells #[.slice y.A1 y.n1 y.c1, .slice y.A2 y.n2 y.c2] 32) := ⟨_, rfl⟩
  have b2 : Below w.heap.size w W := by rw [hW]; exact (below1 _ _).alloc (by simp) _
  have hn1 : y.n1 ≤ 1048576 := by have := hy.p.len; simp only [Ct.wt, Kt.ct] at hw; omega
  have hn2 : y.n2 ≤ 1048576 := by have := hy.c.len; simp only [Ct.wt, Kt.ct, List.length_map] at hw; omega
  have HS : Hid (Calls Tryz.prog 24 #[.slice x.A1 x.n1 x.c1, .slice y.A1 y.n1 y.c1] W fun e w' => e = .returned (.bool true) ∧ Below W.heap.size W w') := Lib.hid (by
    have h1 := hx.p.is
    rw [hs] at h1
    rw [e1]
    refine (Row.eqS x.A1 y.A1 y.n1 x.c1 y.c1 W.heap.size y.ss W hy.p.len (by omega) ((h1.below b2).more b2.size) ((hy.p.is.below b2).more b2.size)).mono fun e w' ⟨he, n, hn⟩ => ⟨he, by rw [hn]; exact below_drewN (Below.refl _ _) _⟩)
  have HM : Hid (∀ v, Below W.heap.size W v → Calls Tryz.prog 25 #[.slice x.A2 x.n2 x.c2, .slice y.A2 y.n2 y.c2] v fun e w' => e = .returned (.bool true) ∧ Below v.heap.size v w') := Lib.hid fun v hv => by
    have h1 := (hx.c.on b2).on hv
    rw [e2] at h1 ⊢
    exact eqMS x.A2 y.A2 y.n2 x.c2 y.c2 x.ms y.ms v hm (by simp only [Ct.wt, Kt.ct] at hw; omega) hn2 h1 ((hy.c.on b2).on hv)
  have P0 : Hid (Bk w.heap.size W [.slice x.A1 x.n1 x.c1, .slice x.A2 x.n2 x.c2]) := Lib.hid (by rw [hW]; exact (Bk.new w #[.slice x.A1 x.n1 x.c1, .slice x.A2 x.n2 x.c2] 32).alloc _)
  have Q0 : Hid (Bk (w.heap.size + 1) W [.slice y.A1 y.n1 y.c1, .slice y.A2 y.n2 y.c2]) := Lib.hid (by
    rw [hW]
    have := Bk.new (w.alloc (.cells #[.slice x.A1 x.n1 x.c1, .slice x.A2 x.n2 x.c2] 32)) #[.slice y.A1 y.n1 y.c1, .slice y.A2 y.n2 y.c2] 32
    rw [World.size_alloc] at this
    exact this)
  have HW := Lib.hid hW
  have B2 := Lib.hid b2
  clear hc hw hx hy hs hm e1 e2 hW b2
  go_enter Tryz.func9, Tryz.ntmps9
  go_wp2_with (go_at_call 24; (try rw [← HW.out]); refine HS.out.mono ?_; rintro e w3 ⟨rfl, hb3⟩; refine Hid.out ?_)
  refine Lib.hid ?_
  have p1 := (P0.out.on hb3).c 1 (by simp)
  have q1 := (Q0.out.on hb3).c 1 (by simp)
  simp only [List.getElem_cons_succ, List.getElem_cons_zero] at p1 q1
  have HM3 := Lib.hid (HM.out w3 hb3)
  have HB3 := Lib.hid (B2.out.trans (hb3.mono B2.out.size))
  clear hb3
  go_wp2_with (go_at_call 25; refine HM3.out.mono ?_; rintro e w4 ⟨rfl, hb4⟩)
  go_ret
  exact ⟨rfl, HB3.out.trans (hb4.mono HB3.out.size)⟩

end Go.Proofs.YtomloodakabcbabGreat.Cl
