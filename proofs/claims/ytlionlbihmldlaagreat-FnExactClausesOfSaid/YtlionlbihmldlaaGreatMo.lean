/-
  Whether a clause is the Repair of a clause, by the program.
  DependentClauses of the program.
  ClausesOf of the program.
  The walk of the law FnExactClausesOf.
  The law FnExactClausesOf returns true at every input, and its arguments read afterwards as before. No condition.
-/
import Derived.Test.YtlionlbihmldlaaGreatMb
import Derived.Test.YtlionlbihmldlaaGreatMc
import Derived.Test.YtlionlbihmldlaaGreatClSz
import Derived.Test.YtlionlbihmldlaaGreatClTo
import Derived.Test.YtlionlbihmldlaaGreatClEq
import Derived.Deep.RegionHeld3
import Derived.Test.YtlionlbihmldlaaGreatOpL
import Derived.OpenShut
import Derived.ShutString
import Derived.ChangeSlices
import Derived.Carry
import Derived.Lib.SmallJoins
namespace Go.Proofs.YtlionlbihmldlaaGreat.Cl
open Go.RowKit Go.Proofs.YtlionlbihmldlaaGreat.Cond Go.Proofs.YtlionlbihmldlaaGreat.Gx Go.Proofs.YtlionlbihmldlaaGreat.NdS
set_option linter.unusedVariables false
set_option linter.unusedSimpArgs false

theorem makeFn (fn : Fn) (first cap : Array Value) (w : World) : (Instr.makeFunc fn first cap).run Tryz.prog w = .ok (.func fn first cap) w := rfl

set_option maxHeartbeats 4000000 in
theorem depFn (x : Kt) (mb pb ib i : Nat) (v3 : Value) (p y : M) (w : World) (h : LiC w w.heap.size x) (hi : CAt x i p) (hP : Bk pb w [.slice x.A1 x.n1 x.c1, .slice x.A2 x.n2 x.c2, .map (some mb), v3]) (hI : Bk ib w [.int .i64 (i : Int)]) :
    Calls Tryz.prog 54 #[y.val, .pointer (some ⟨pb, 0, none⟩), .pointer (some ⟨ib, 0, none⟩)] w fun e w' => e = .returned (.bool (isRep p.id y.cl)) ∧ Below w.heap.size w w' := by
  obtain ⟨X, hX⟩ : ∃ X, X = w.alloc (.cells #[.string y.id, .int .i64 y.kind, .int .i64 y.party, .string y.act, .int .i64 y.other, .int .i64 y.amt, .int .i64 y.k.op, .string y.k.nm, .int .i64 y.k.day, .slice y.k.A y.k.ps.length y.k.cap, .int .i64 y.within, .string y.rep] 67) := ⟨_, rfl⟩
  have B0 : Below w.heap.size w X := by rw [hX]; exact below1 _ _
  have Y0 : Bk w.heap.size X y.cells := by rw [hX]; exact Bk.new _ _ _
  obtain ⟨b, oo, eA, hBb, hc⟩ := h.c.at_ (by have := hi.lt; omega)
  have hE := (hc i hi.lt).alike (B0.block b hBb)
  rw [← hi.eq] at hE
  obtain ⟨c0, -⟩ := e12 hE
  have d11 : X.cell? ⟨w.heap.size, 11, none⟩ = some (.string y.rep) := (b12 Y0).2.2.2.2.2.2.2.2.2.2.2
  have p1 := (hP.on B0).c 1 (by simp)
  have q0 := (hI.on B0).c 0 (by simp)
  simp only [List.getElem_cons_succ, List.getElem_cons_zero] at p1 q0
  have i0 : (0 : Int) ≤ (i : Int) := by omega
  have i1 : (i : Int) < (x.n2 : Int) := by have := h.c.len; have := hi.lt; omega
  have HB := Lib.hid B0
  have HX := Lib.hid hX
  obtain ⟨t, ht⟩ : ∃ t, t = isRep p.id y.cl := ⟨_, rfl⟩
  have ht2 : (y.rep.toList == p.id.toList) = t := by rw [ht, Bool.eq_iff_iff, beq_iff_eq]; exact decide_eq_true_iff.symm
  rw [eA] at p1
  rw [← ht]
  clear h hi B0 hX hE hc hBb eA hP hI Y0 ht
  go_enter Tryz.func54, Tryz.ntmps54
  go_wp2_with fail
  rw [← HX.out]
  go_quiet (fail)
  go_wp2_with fail
  go_ret
  exact ⟨rfl, below_drewN HB.out _⟩

set_option maxHeartbeats 4000000 in
theorem depIx (x : Kt) (mb pb ib i : Nat) (v3 : Value) (p : M) (w : World) (h : LiC w w.heap.size x) (hi : CAt x i p) (hl : x.n2 ≤ 5000) (hP : Bk pb w [.slice x.A1 x.n1 x.c1, .slice x.A2 x.n2 x.c2, .map (some mb), v3]) (hI : Bk ib w [.int .i64 (i : Int)]) :
    Calls Tryz.prog 73 #[.slice x.A2 x.n2 x.c2, .func (.func 54) #[] #[.pointer (some ⟨pb, 0, none⟩), .pointer (some ⟨ib, 0, none⟩)]] w fun e w' => ∃ z : Int, e = .returned (.int .i64 z) ∧ (decide (0 ≤ z) = dep x.ct.ls p.id) ∧ Below w.heap.size w w' := by
  have HFN : Hid (∀ v k y, Below w.heap.size w v → CAt x k y → Calls Tryz.prog 54 #[y.val, .pointer (some ⟨pb, 0, none⟩), .pointer (some ⟨ib, 0, none⟩)] v fun e w' => e = .returned (.bool (isRep p.id y.cl)) ∧ Below v.heap.size v w') := Lib.hid fun v k y hv _ => depFn x mb pb ib i v3 p y v (h.on hv) hi (hP.on hv) (hI.on hv)
  have HL := Lib.hid h
  have HLEN : Hid (x.n2 = x.ms.length ∧ x.ct.ls.length = x.n2) := Lib.hid ⟨h.c.len, by rw [h.c.len]; simp [Kt.ct]⟩
  have hn2 : 0 < x.n2 := by have := hi.lt; have := h.c.len; omega
  obtain ⟨b, oo, eA, hBb, hc⟩ := h.c.at_ (by have := h.c.len; omega)
  have HC := Lib.hid (And.intro hBb hc)
  rw [eA]
  clear h hi hP hI eA hBb hc
  go_enter Tryz.func73, Tryz.ntmps73
  go_wp2_with fail
  go_loopw [8] (fun j wr => ∃ k : Nat, k ≤ x.n2 ∧ j = .int .i64 k ∧ Hid (∀ j, ∀ h : j < x.ct.ls.length, j < k → isRep p.id x.ct.ls[j] = false) ∧ Hid (Below w.heap.size w wr)) (fun j _ => x.n2 - (intOf j).toNat)
  case atStart => exact ⟨0, Nat.zero_le _, rfl, Lib.hid fun j _ h => by omega, Lib.hid (Below.refl _ _)⟩
  case round =>
    obtain ⟨k, hk, rfl, HK, HB⟩ := hrel
    by_cases hlt : k < x.n2
    · have hk' : k < x.ms.length := by have := HLEN.out; omega
      have hkl : k < x.ct.ls.length := by have := HLEN.out; omega
      obtain ⟨y, hy⟩ : ∃ y, y = x.ms[k] := ⟨_, rfl⟩
      have HCY : Hid (CAt x k y) := Lib.hid ⟨hk', hy⟩
      have HYC : Hid (x.ct.ls[k] = y.cl) := Lib.hid HCY.out.cl.2
      have hE := (HC.out.2 k hk').alike (HB.out.block b HC.out.1)
      rw [← hy] at hE
      obtain ⟨c0, c1, c2, c3, c4, c5, c6, c7, c8, c9, c10, c11⟩ := e12 hE
      have i0 : (0 : Int) ≤ (k : Int) := by omega
      have i1 : (k : Int) < (x.n2 : Int) := by omega
      obtain ⟨t, ht⟩ : ∃ t, t = isRep p.id y.cl := ⟨_, rfl⟩
      have HF := HFN.out wr k y HB.out HCY.out
      rw [← ht] at HF
      have HFH := Lib.hid HF
      have HT := Lib.hid ht
      clear hy hE ht HF
      cases t
      · have HK2 : Hid (∀ j, ∀ h : j < x.ct.ls.length, j < k + 1 → isRep p.id x.ct.ls[j] = false) := Lib.hid fun j h hj => by
          by_cases e : j = k
          · subst e; rw [HYC.out]; exact HT.out.symm
          · exact HK.out j h (by omega)
        go_wp2_with (go_at_call 54; refine HFH.out.mono ?_; rintro e w2 ⟨rfl, hb⟩; refine Hid.out ?_)
        refine Lib.hid ?_
        have HB2 := Lib.hid (HB.out.trans (hb.mono HB.out.size))
        clear hb
        go_wp2_with fail
        go_roundw
        case rel => exact ⟨k + 1, by omega, by go_num, HK2, HB2⟩
        case measure => simp [intOf]; omega
      · have HD : Hid (dep x.ct.ls p.id = true) := Lib.hid (List.any_eq_true.2 ⟨x.ct.ls[k], List.getElem_mem hkl, by rw [HYC.out]; exact HT.out.symm⟩)
        go_wp2_with (go_at_call 54; refine HFH.out.mono ?_; rintro e w2 ⟨rfl, hb⟩; refine Hid.out ?_)
        refine Lib.hid ?_
        have HB2 := Lib.hid (HB.out.trans (hb.mono HB.out.size))
        clear hb
        go_wp2_with fail
        go_ret
        exact ⟨k, rfl, by rw [HD.out]; exact decide_eq_true (by omega), HB2.out⟩
    · have HD : Hid (dep x.ct.ls p.id = false) := Lib.hid (dep_no fun j hj => HK.out j hj (by have := HLEN.out; omega))
      go_wp2_with fail
      go_ret
      exact ⟨-1, rfl, by rw [HD.out]; rfl, HB.out⟩

set_option maxHeartbeats 4000000 in
theorem isDependent (x : Kt) (mb i : Nat) (N : Option Addr) (nn nc : Nat) (p : M) (w : World) (h : LiC w w.heap.size x) (hi : CAt x i p) (hl : x.n2 ≤ 5000) (t : Bool) (ht : t = dep x.ct.ls p.id) :
    Calls Tryz.prog 33 #[.agg #[.slice x.A1 x.n1 x.c1, .slice x.A2 x.n2 x.c2, .map (some mb), .slice N nn nc], .int .i64 (i : Int)] w fun e w' => e = .returned (.bool t) ∧ Below w.heap.size w w' := by
  obtain ⟨X, hX⟩ : ∃ X, X = (w.alloc (.cells #[.slice x.A1 x.n1 x.c1, .slice x.A2 x.n2 x.c2, .map (some mb), .slice N nn nc] 55)).alloc (.cells #[.int .i64 (i : Int)] 3) := ⟨_, rfl⟩
  have B0 : Below w.heap.size w X := by rw [hX]; exact (below1 _ _).alloc (by simp) _
  have P0 : Bk w.heap.size X [.slice x.A1 x.n1 x.c1, .slice x.A2 x.n2 x.c2, .map (some mb), .slice N nn nc] := by rw [hX]; exact (Bk.new w #[.slice x.A1 x.n1 x.c1, .slice x.A2 x.n2 x.c2, .map (some mb), .slice N nn nc] 55).alloc _
  have I0 : Bk (w.heap.size + 1) X [.int .i64 (i : Int)] := by
    rw [hX]
    have := Bk.new (w.alloc (.cells #[.slice x.A1 x.n1 x.c1, .slice x.A2 x.n2 x.c2, .map (some mb), .slice N nn nc] 55)) #[.int .i64 (i : Int)] 3
    rw [World.size_alloc] at this
    exact this
  have HCF : Hid (Calls Tryz.prog 53 #[.slice x.A2 x.n2 x.c2, .func (.func 54) #[] #[.pointer (some ⟨w.heap.size, 0, none⟩), .pointer (some ⟨w.heap.size + 1, 0, none⟩)]] X fun e w' => e = .returned (.bool t) ∧ Below X.heap.size X w') := Lib.hid (by
    have HIX := Lib.hid (depIx x mb w.heap.size (w.heap.size + 1) i (.slice N nn nc) p X (h.on B0) hi hl P0 I0)
    rw [← ht] at HIX
    clear h hi hX B0 P0 I0
    go_enter Tryz.func53, Tryz.ntmps53
    go_wp2_with (go_at_call 73; refine HIX.out.mono ?_; rintro e w2 ⟨z, rfl, hz, hb⟩; have HZ := Lib.hid hz; clear hz)
    go_ret
    exact ⟨by rw [← HZ.out]; rfl, hb⟩)
  have HB := Lib.hid B0
  have HX := Lib.hid hX
  have hmf := makeFn
  have p1 := P0.c 1 (by simp)
  simp only [List.getElem_cons_succ, List.getElem_cons_zero] at p1
  rw [hX] at p1
  clear h hi ht B0 P0 I0 hX
  go_enter Tryz.func33, Tryz.ntmps33
  go_wp2_with (go_at_call 53; (try rw [← HX.out]); refine HCF.out.mono ?_; rintro e w2 ⟨rfl, hb⟩)
  go_ret
  exact ⟨rfl, HB.out.trans (hb.mono HB.out.size)⟩

end Go.Proofs.YtlionlbihmldlaaGreat.Cl

namespace Go.Proofs.YtlionlbihmldlaaGreat.Cl
open Go.RowKit Go.Proofs.YtlionlbihmldlaaGreat.Cond Go.Proofs.YtlionlbihmldlaaGreat.Gx Go.Proofs.YtlionlbihmldlaaGreat.NdS
set_option linter.unusedVariables false
set_option linter.unusedSimpArgs false

set_option maxRecDepth 100000 in
set_option maxHeartbeats 8000000 in
theorem whereD (x : Kt) (mb : Nat) (N : Option Addr) (nn nc : Nat) (f : Nat → Bool) (w : World) (hl : x.n2 ≤ 12)
    (HF : ∀ v k, k < x.n2 → Below w.heap.size w v → Calls Tryz.prog 33 #[.agg #[.slice x.A1 x.n1 x.c1, .slice x.A2 x.n2 x.c2, .map (some mb), .slice N nn nc], .int .i64 (k : Int)] v fun e w' => e = .returned (.bool (f k)) ∧ Below v.heap.size v w') :
    Calls Tryz.prog 32 #[.agg #[.slice x.A1 x.n1 x.c1, .slice x.A2 x.n2 x.c2, .map (some mb), .slice N nn nc], .func (.func 33) #[.agg #[.slice x.A1 x.n1 x.c1, .slice x.A2 x.n2 x.c2, .map (some mb), .slice N nn nc]] #[]] w fun e w' => ∃ g n c, n = (sel f x.n2).length ∧ e = .returned (.slice (some ⟨g, 0, none⟩) n c) ∧ UniS.Own w' w.heap.size (.slice (some ⟨g, 0, none⟩) n c) (sel f x.n2) ∧ Below w.heap.size w w' := by
  obtain ⟨X, hX⟩ : ∃ X, X = (w.alloc (.cells #[.slice x.A1 x.n1 x.c1, .slice x.A2 x.n2 x.c2, .map (some mb), .slice N nn nc] 55)).alloc (.cells #[] 3) := ⟨_, rfl⟩
  have B0 : Below w.heap.size w X := by rw [hX]; exact (below1 _ _).alloc (by simp) _
  have O0 : Hid (UniS.Own X w.heap.size (.slice (some ⟨w.heap.size + 1, 0, none⟩) 0 0) []) := Lib.hid (by
    have := World.ownsRow_lit (base := w.heap.size) (e := 3) (size := 1) (w.alloc (.cells #[.slice x.A1 x.n1 x.c1, .slice x.A2 x.n2 x.c2, .map (some mb), .slice N nn nc] 55)) #[] 0 (by simp) (by decide) (by simp)
    rw [World.size_alloc] at this
    rw [hX]
    simpa [UniS.Own] using this)
  have HFH := Lib.hid HF
  have HB := Lib.hid B0
  have HX := Lib.hid hX
  clear HF B0 hX
  go_enter Tryz.func32, Tryz.ntmps32
  go_wp2_with fail
  go_loopw [5, 12] (fun v i wr => ∃ (k g n c : Nat) (zs : List Int), k ≤ x.n2 ∧ v = .slice (some ⟨g, 0, none⟩) n c ∧ i = .int .i64 k ∧ Hid (n = zs.length) ∧ Hid (zs = sel f k) ∧ Hid (UniS.Own wr w.heap.size (.slice (some ⟨g, 0, none⟩) n c) zs) ∧ Hid (Below w.heap.size w wr)) (fun _ i _ => x.n2 - (intOf i).toNat)
  case atStart => exact ⟨0, _, 0, 0, [], Nat.zero_le _, rfl, rfl, Lib.hid rfl, Lib.hid rfl, by rw [← HX.out]; exact O0, by rw [← HX.out]; exact HB⟩
  case round =>
    clear O0 HX HB
    obtain ⟨k, g, n, c, zs, hk, rfl, rfl, HN, HZ, HO, HB⟩ := hrel
    by_cases hlt : k < x.n2
    · obtain ⟨t, ht⟩ : ∃ t, t = f k := ⟨_, rfl⟩
      have HC := HFH.out wr k hlt HB.out
      rw [← ht] at HC
      have HCH := Lib.hid HC
      have HT := Lib.hid ht
      have hzl : zs.length ≤ 12 := by rw [HZ.out]; have := sel_len f k; omega
      clear HC ht
      cases t
      · have HZ2 : Hid (zs = sel f (k + 1)) := Lib.hid (by rw [sel_no HT.out.symm]; exact HZ.out)
        go_wp2_with (go_at_call 33; refine HCH.out.mono ?_; rintro e w2 ⟨rfl, hb⟩; refine Hid.out ?_)
        refine Lib.hid ?_
        have HB2 := Lib.hid (HB.out.trans (hb.mono HB.out.size))
        have HO2 := Lib.hid (own_onI HO.out hb)
        clear hb
        go_wp2_with fail
        go_roundw
        case rel => exact ⟨k + 1, g, n, c, zs, by omega, rfl, by go_num, HN, HZ2, HO2, HB2⟩
        case measure => simp [intOf]; omega
      · have HZ2 : Hid (zs ++ [(k : Int)] = sel f (k + 1)) := Lib.hid (by rw [sel_yes HT.out.symm, HZ.out])
        go_wp2_with (go_at_call 33; refine HCH.out.mono ?_; rintro e w2 ⟨rfl, hb⟩; refine Hid.out ?_)
        refine Lib.hid ?_
        obtain ⟨U, hU⟩ : ∃ U, U = w2.alloc (.cells #[.int .i64 (k : Int)] 3) := ⟨_, rfl⟩
        have hUb : Below wr.heap.size wr U := by rw [hU]; exact hb.alloc hb.size _
        have HUO : Hid (UniS.Own U w.heap.size (.slice (some ⟨g, 0, none⟩) n c) zs) := Lib.hid (own_onI HO.out hUb)
        have HUE : Hid (IRow.Is U U.heap.size (some ⟨w2.heap.size, 0, none⟩) [(k : Int)]) := Lib.hid (by
          have h4 := (UniS.Lq.new w2 (k : Int)).is
          rw [← hU] at h4
          exact h4)
        have HUB : Hid (Below w.heap.size w U) := Lib.hid (HB.out.trans (hUb.mono HB.out.size))
        have HUS : Hid (w.heap.size ≤ U.heap.size) := Lib.hid HUB.out.size
        have HOWN : Hid (∀ w1, U.grownBy w1 (Value.slice (some ⟨g, 0, none⟩) n c).ownBlock → Below w.heap.size w w1) := Lib.hid fun w1 hg => HUB.out.grown hg HUS.out (UniS.own_block HUO.out)
        have HUU := Lib.hid hU
        clear hb hU hUb HO
        go_wp2_with (at_builtin; (try rw [← HUU.out]); refine UniS.wp_app rfl _ _ rfl w.heap.size _ zs rfl HUO.out (some ⟨w2.heap.size, 0, none⟩) 1 1 U.heap.size [(k : Int)] rfl rfl HUE.out (fun e => by cases e) (by omega) HUS.out ?_; intro a3 c3 w3 hown hg hat; refine Hid.out ?_)
        refine Lib.hid ?_
        obtain ⟨g3, rfl⟩ := own_some hown (by simp)
        have HO3 := Lib.hid hown
        have HB3 := Lib.hid (HOWN.out w3 hg)
        have HN3 : Hid (zs.length + 1 = (zs ++ [(k : Int)]).length) := Lib.hid (by simp)
        clear hown hg hat
        go_wp2_with fail
        go_roundw
        case rel => exact ⟨k + 1, g3, zs.length + 1, c3, zs ++ [(k : Int)], by omega, rfl, by go_num, HN3, HZ2, HO3, HB3⟩
        case measure => simp [intOf]; omega
    · have HZE : Hid (zs = sel f x.n2) := Lib.hid (by rw [HZ.out]; congr 1; omega)
      go_wp2_with fail
      go_ret
      exact ⟨g, n, c, by rw [← HZE.out]; exact HN.out, rfl, by rw [← HZE.out]; exact HO.out, HB.out⟩

set_option maxHeartbeats 4000000 in
theorem implDc (x : Kt) (w : World) (h : LiC w w.heap.size x) (hw : x.ct.wt ≤ 1048576) :
    Calls Tryz.prog 10 #[x.val] w (RowAns w.heap.size (depL x.ct) x.ct.good w) := by
  obtain ⟨X, hX⟩ : ∃ X, X = w.alloc (.cells #[.slice x.A1 x.n1 x.c1, .slice x.A2 x.n2 x.c2] 32) := ⟨_, rfl⟩
  have B0 : Below w.heap.size w X := by rw [hX]; exact below1 _ _
  have HC := Lib.hid (checkContract x X (h.on B0) hw)
  have HL := Lib.hid h
  have HLEN : Hid (x.n2 = x.ms.length ∧ x.ct.ls.length = x.n2) := Lib.hid ⟨h.c.len, by rw [h.c.len]; simp [Kt.ct]⟩
  have HB := Lib.hid B0
  have HX := Lib.hid hX
  have hmf := makeFn
  clear h hw B0 hX
  go_enter Tryz.func10, Tryz.ntmps10
  go_wp2_with (go_at_call 31; (try rw [← HX.out]); refine HC.out.mono ?_; (rintro e w2 (⟨hg, hb, a1, l1, k1, a2, l2, k2, mo, a3, l3, k3, rfl⟩ | ⟨mb, g, n, c, rfl, hy⟩)); all_goals refine Hid.out ?_)
  · refine Lib.hid ?_
    have HG : Hid (depL x.ct = [] ∧ x.ct.good = false) := Lib.hid ⟨by unfold depL; rw [hg]; rfl, hg⟩
    obtain ⟨U, hU⟩ : ∃ U, U = w2.alloc (.cells #[.slice a1 l1 k1, .slice a2 l2 k2, .map mo, .slice a3 l3 k3] 55) := ⟨_, rfl⟩
    have BU : Below w.heap.size w U := by
      have h2 := HB.out.trans (hb.mono HB.out.size)
      rw [hU]; exact h2.alloc h2.size _
    have O2 : UniS.Own (U.alloc (.cells #[] 3)) w.heap.size (.slice (some ⟨U.heap.size, 0, none⟩) 0 0) [] := by
      have := World.ownsRow_lit (base := w.heap.size) (e := 3) (size := 1) U #[] 0 BU.size (by decide) (by simp)
      simpa [UniS.Own] using this
    have hUs : U.heap.size = w2.heap.size + 1 := by rw [hU]; simp
    rw [hUs, hU] at O2
    have B3 := BU.alloc BU.size (.cells #[] 3)
    rw [hU] at B3
    have HO := Lib.hid O2
    have HB3 := Lib.hid B3
    clear hg hb hU BU O2 hUs B3
    go_wp2_with fail
    go_ret2
    exact ⟨w2.heap.size + 1, 0, 0, by rw [HG.out.1]; rfl, by rw [HG.out.2]; rfl, by rw [HG.out.1]; exact HO.out, HB3.out⟩
  · refine Lib.hid ?_
    have h12 : x.n2 ≤ 12 := by have := (good_len hy.good).2.1; have := HLEN.out; omega
    have HG : Hid (depL x.ct = sel (depAt x.ct.ls) x.n2 ∧ x.ct.good = true) := Lib.hid ⟨by unfold depL; rw [hy.good, HLEN.out.2]; rfl, hy.good⟩
    obtain ⟨U, hU⟩ : ∃ U, U = w2.alloc (.cells #[.slice x.A1 x.n1 x.c1, .slice x.A2 x.n2 x.c2, .map (some mb), .slice (some ⟨g, 0, none⟩) n c] 55) := ⟨_, rfl⟩
    have HBU : Hid (Below w.heap.size w U) := Lib.hid (by
      have h2 := HB.out.trans (hy.bel.mono HB.out.size)
      rw [hU]; exact h2.alloc h2.size _)
    have HW := Lib.hid (whereD x mb (some ⟨g, 0, none⟩) n c (depAt x.ct.ls) U h12 fun v k hk hv => by
      have hk' : k < x.ms.length := by have := HLEN.out; omega
      have hkl : k < x.ct.ls.length := by have := HLEN.out; omega
      have hp : CAt x k x.ms[k] := ⟨hk', rfl⟩
      exact isDependent x mb k (some ⟨g, 0, none⟩) n c x.ms[k] v ((HL.out.below (HBU.out.trans (hv.mono HBU.out.size))).more (HBU.out.trans (hv.mono HBU.out.size)).size) hp (by omega) _ (by rw [depAt_is hkl, hp.cl.2]; rfl))
    have HUU := Lib.hid hU
    clear hy hU
    go_wp2_with (go_at_call 32; (try rw [← HUU.out]); refine HW.out.mono ?_; rintro e w4 ⟨g4, n4, c4, hn4, rfl, hown, hb⟩; have HN4 := Lib.hid hn4; have HO4 := Lib.hid hown; clear hn4 hown)
    go_ret2
    exact ⟨g4, n4, c4, by rw [HG.out.1]; exact HN4.out, by rw [HG.out.2]; rfl, by rw [HG.out.1]; exact own_less HO4.out HBU.out.size, HBU.out.trans (hb.mono HBU.out.size)⟩

end Go.Proofs.YtlionlbihmldlaaGreat.Cl

namespace Go.Proofs.YtlionlbihmldlaaGreat.Cl
open Go.RowKit Go.Proofs.YtlionlbihmldlaaGreat.Cond Go.Proofs.YtlionlbihmldlaaGreat.Gx Go.Proofs.YtlionlbihmldlaaGreat.NdS
set_option linter.unusedVariables false
set_option linter.unusedSimpArgs false

set_option maxHeartbeats 8000000 in
theorem ofFn (x : Kt) (mb cb pb kb k : Nat) (v3 : Value) (party kind : Int) (p : M) (w : World) (h : LiC w w.heap.size x) (hi : CAt x k p) (hC : Bk cb w [.slice x.A1 x.n1 x.c1, .slice x.A2 x.n2 x.c2, .map (some mb), v3]) (hP : Bk pb w [.int .i64 party]) (hK : Bk kb w [.int .i64 kind]) :
    Calls Tryz.prog 38 #[.int .i64 (k : Int), .pointer (some ⟨cb, 0, none⟩), .pointer (some ⟨pb, 0, none⟩), .pointer (some ⟨kb, 0, none⟩)] w fun e w' => e = .returned (.bool (ofB p.cl party kind)) ∧ Below w.heap.size w w' := by
  obtain ⟨b, oo, eA, hBb, hc⟩ := h.c.at_ (by have := hi.lt; omega)
  have hE := hc k hi.lt
  rw [← hi.eq] at hE
  obtain ⟨c0, c1, c2, -⟩ := e12 hE
  have p1 := hC.c 1 (by simp)
  have q0 := hP.c 0 (by simp)
  have k0 := hK.c 0 (by simp)
  simp only [List.getElem_cons_succ, List.getElem_cons_zero] at p1 q0 k0
  have i0 : (0 : Int) ≤ (k : Int) := by omega
  have i1 : (k : Int) < (x.n2 : Int) := by have := h.c.len; have := hi.lt; omega
  rw [eA] at p1
  obtain ⟨t1, e1⟩ : ∃ t, t = (p.party == party) := ⟨_, rfl⟩
  obtain ⟨t2, e2⟩ : ∃ t, t = (kind == 0) := ⟨_, rfl⟩
  obtain ⟨t3, e3⟩ : ∃ t, t = (p.kind == kind) := ⟨_, rfl⟩
  have HO : Hid (ofB p.cl party kind = (t1 && (t2 || t3))) := Lib.hid (by rw [e1, e2, e3]; rfl)
  have g1 : (p.party == party) = t1 := e1.symm
  have g2 : (kind == 0) = t2 := e2.symm
  have g3 : (p.kind == kind) = t3 := e3.symm
  rw [HO.out]
  clear h hi hE hc hBb eA hC hP hK c0 e1 e2 e3
  cases t1
  · go_enter Tryz.func38, Tryz.ntmps38
    go_wp2_with fail
    go_quiet (fail)
    go_wp2_with fail
    go_ret
    exact ⟨rfl, below_drewN (Below.refl _ _) _⟩
  cases t2
  · cases t3
    all_goals
      go_enter Tryz.func38, Tryz.ntmps38
      go_wp2_with fail
      go_quiet (fail)
      go_wp2_with fail
      go_ret
      exact ⟨rfl, below_drewN (Below.refl _ _) _⟩
  · go_enter Tryz.func38, Tryz.ntmps38
    go_wp2_with fail
    go_quiet (fail)
    go_wp2_with fail
    go_ret
    exact ⟨rfl, below_drewN (Below.refl _ _) _⟩

set_option maxRecDepth 100000 in
set_option maxHeartbeats 8000000 in
theorem whereO (x : Kt) (mb : Nat) (N : Option Addr) (nn nc : Nat) (cb pb kb : Nat) (f : Nat → Bool) (w : World) (hl : x.n2 ≤ 12)
    (HF : ∀ v k, k < x.n2 → Below w.heap.size w v → Calls Tryz.prog 38 #[.int .i64 (k : Int), .pointer (some ⟨cb, 0, none⟩), .pointer (some ⟨pb, 0, none⟩), .pointer (some ⟨kb, 0, none⟩)] v fun e w' => e = .returned (.bool (f k)) ∧ Below v.heap.size v w') :
    Calls Tryz.prog 32 #[.agg #[.slice x.A1 x.n1 x.c1, .slice x.A2 x.n2 x.c2, .map (some mb), .slice N nn nc], .func (.func 38) #[] #[.pointer (some ⟨cb, 0, none⟩), .pointer (some ⟨pb, 0, none⟩), .pointer (some ⟨kb, 0, none⟩)]] w fun e w' => ∃ g n c, n = (sel f x.n2).length ∧ e = .returned (.slice (some ⟨g, 0, none⟩) n c) ∧ UniS.Own w' w.heap.size (.slice (some ⟨g, 0, none⟩) n c) (sel f x.n2) ∧ Below w.heap.size w w' := by
  obtain ⟨X, hX⟩ : ∃ X, X = (w.alloc (.cells #[.slice x.A1 x.n1 x.c1, .slice x.A2 x.n2 x.c2, .map (some mb), .slice N nn nc] 55)).alloc (.cells #[] 3) := ⟨_, rfl⟩
  have B0 : Below w.heap.size w X := by rw [hX]; exact (below1 _ _).alloc (by simp) _
  have O0 : Hid (UniS.Own X w.heap.size (.slice (some ⟨w.heap.size + 1, 0, none⟩) 0 0) []) := Lib.hid (by
    have := World.ownsRow_lit (base := w.heap.size) (e := 3) (size := 1) (w.alloc (.cells #[.slice x.A1 x.n1 x.c1, .slice x.A2 x.n2 x.c2, .map (some mb), .slice N nn nc] 55)) #[] 0 (by simp) (by decide) (by simp)
    rw [World.size_alloc] at this
    rw [hX]
    simpa [UniS.Own] using this)
  have HFH := Lib.hid HF
  have HB := Lib.hid B0
  have HX := Lib.hid hX
  clear HF B0 hX
  go_enter Tryz.func32, Tryz.ntmps32
  go_wp2_with fail
  go_loopw [5, 12] (fun v i wr => ∃ (k g n c : Nat) (zs : List Int), k ≤ x.n2 ∧ v = .slice (some ⟨g, 0, none⟩) n c ∧ i = .int .i64 k ∧ Hid (n = zs.length) ∧ Hid (zs = sel f k) ∧ Hid (UniS.Own wr w.heap.size (.slice (some ⟨g, 0, none⟩) n c) zs) ∧ Hid (Below w.heap.size w wr)) (fun _ i _ => x.n2 - (intOf i).toNat)
  case atStart => exact ⟨0, _, 0, 0, [], Nat.zero_le _, rfl, rfl, Lib.hid rfl, Lib.hid rfl, by rw [← HX.out]; exact O0, by rw [← HX.out]; exact HB⟩
  case round =>
    clear O0 HX HB
    obtain ⟨k, g, n, c, zs, hk, rfl, rfl, HN, HZ, HO, HB⟩ := hrel
    by_cases hlt : k < x.n2
    · obtain ⟨t, ht⟩ : ∃ t, t = f k := ⟨_, rfl⟩
      have HC := HFH.out wr k hlt HB.out
      rw [← ht] at HC
      have HCH := Lib.hid HC
      have HT := Lib.hid ht
      have hzl : zs.length ≤ 12 := by rw [HZ.out]; have := sel_len f k; omega
      clear HC ht
      cases t
      · have HZ2 : Hid (zs = sel f (k + 1)) := Lib.hid (by rw [sel_no HT.out.symm]; exact HZ.out)
        go_wp2_with (go_at_call 38; refine HCH.out.mono ?_; rintro e w2 ⟨rfl, hb⟩; refine Hid.out ?_)
        refine Lib.hid ?_
        have HB2 := Lib.hid (HB.out.trans (hb.mono HB.out.size))
        have HO2 := Lib.hid (own_onI HO.out hb)
        clear hb
        go_wp2_with fail
        go_roundw
        case rel => exact ⟨k + 1, g, n, c, zs, by omega, rfl, by go_num, HN, HZ2, HO2, HB2⟩
        case measure => simp [intOf]; omega
      · have HZ2 : Hid (zs ++ [(k : Int)] = sel f (k + 1)) := Lib.hid (by rw [sel_yes HT.out.symm, HZ.out])
        go_wp2_with (go_at_call 38; refine HCH.out.mono ?_; rintro e w2 ⟨rfl, hb⟩; refine Hid.out ?_)
        refine Lib.hid ?_
        obtain ⟨U, hU⟩ : ∃ U, U = w2.alloc (.cells #[.int .i64 (k : Int)] 3) := ⟨_, rfl⟩
        have hUb : Below wr.heap.size wr U := by rw [hU]; exact hb.alloc hb.size _
        have HUO : Hid (UniS.Own U w.heap.size (.slice (some ⟨g, 0, none⟩) n c) zs) := Lib.hid (own_onI HO.out hUb)
        have HUE : Hid (IRow.Is U U.heap.size (some ⟨w2.heap.size, 0, none⟩) [(k : Int)]) := Lib.hid (by
          have h4 := (UniS.Lq.new w2 (k : Int)).is
          rw [← hU] at h4
          exact h4)
        have HUB : Hid (Below w.heap.size w U) := Lib.hid (HB.out.trans (hUb.mono HB.out.size))
        have HUS : Hid (w.heap.size ≤ U.heap.size) := Lib.hid HUB.out.size
        have HOWN : Hid (∀ w1, U.grownBy w1 (Value.slice (some ⟨g, 0, none⟩) n c).ownBlock → Below w.heap.size w w1) := Lib.hid fun w1 hg => HUB.out.grown hg HUS.out (UniS.own_block HUO.out)
        have HUU := Lib.hid hU
        clear hb hU hUb HO
        go_wp2_with (at_builtin; (try rw [← HUU.out]); refine UniS.wp_app rfl _ _ rfl w.heap.size _ zs rfl HUO.out (some ⟨w2.heap.size, 0, none⟩) 1 1 U.heap.size [(k : Int)] rfl rfl HUE.out (fun e => by cases e) (by omega) HUS.out ?_; intro a3 c3 w3 hown hg hat; refine Hid.out ?_)
        refine Lib.hid ?_
        obtain ⟨g3, rfl⟩ := own_some hown (by simp)
        have HO3 := Lib.hid hown
        have HB3 := Lib.hid (HOWN.out w3 hg)
        have HN3 : Hid (zs.length + 1 = (zs ++ [(k : Int)]).length) := Lib.hid (by simp)
        clear hown hg hat
        go_wp2_with fail
        go_roundw
        case rel => exact ⟨k + 1, g3, zs.length + 1, c3, zs ++ [(k : Int)], by omega, rfl, by go_num, HN3, HZ2, HO3, HB3⟩
        case measure => simp [intOf]; omega
    · have HZE : Hid (zs = sel f x.n2) := Lib.hid (by rw [HZ.out]; congr 1; omega)
      go_wp2_with fail
      go_ret
      exact ⟨g, n, c, by rw [← HZE.out]; exact HN.out, rfl, by rw [← HZE.out]; exact HO.out, HB.out⟩

set_option maxRecDepth 100000 in
set_option maxHeartbeats 8000000 in
theorem implCo (x : Kt) (party kind : Int) (w : World) (h : LiC w w.heap.size x) (hw : x.ct.wt ≤ 1048576) :
    Calls Tryz.prog 17 #[x.val, .int .i64 party, .int .i64 kind] w (RowAns w.heap.size (ofL x.ct party kind) (ofOk x.ct party kind) w) := by
  obtain ⟨X, hX⟩ : ∃ X, X = ((w.alloc (.cells #[.slice x.A1 x.n1 x.c1, .slice x.A2 x.n2 x.c2] 32)).alloc (.cells #[.int .i64 party] 3)).alloc (.cells #[.int .i64 kind] 3) := ⟨_, rfl⟩
  have B0 : Below w.heap.size w X := by rw [hX]; exact ((below1 _ _).alloc (by simp) _).alloc (by simp; omega) _
  have P0 : Hid (Bk w.heap.size X [.slice x.A1 x.n1 x.c1, .slice x.A2 x.n2 x.c2]) := Lib.hid (by rw [hX]; exact ((Bk.new w #[.slice x.A1 x.n1 x.c1, .slice x.A2 x.n2 x.c2] 32).alloc _).alloc _)
  have P1 : Hid (Bk (w.heap.size + 1) X [.int .i64 party]) := Lib.hid (by
    rw [hX]
    have := (Bk.new (w.alloc (.cells #[.slice x.A1 x.n1 x.c1, .slice x.A2 x.n2 x.c2] 32)) #[.int .i64 party] 3).alloc (.cells #[.int .i64 kind] 3)
    rw [World.size_alloc] at this
    exact this)
  have P2 : Hid (Bk (w.heap.size + 1 + 1) X [.int .i64 kind]) := Lib.hid (by
    rw [hX]
    have := Bk.new ((w.alloc (.cells #[.slice x.A1 x.n1 x.c1, .slice x.A2 x.n2 x.c2] 32)).alloc (.cells #[.int .i64 party] 3)) #[.int .i64 kind] 3
    rw [World.size_alloc, World.size_alloc] at this
    exact this)
  have HC := Lib.hid (checkContract x X (h.on B0) hw)
  have HL := Lib.hid h
  have HLEN : Hid (x.n2 = x.ms.length ∧ x.ct.ls.length = x.n2 ∧ x.ct.ss.length = x.n1) := Lib.hid ⟨h.c.len, by rw [h.c.len]; simp [Kt.ct], by rw [h.p.len]; rfl⟩
  have HB := Lib.hid B0
  have HX := Lib.hid hX
  have hmf := makeFn
  obtain ⟨t, ht⟩ : ∃ t, t = isIx party x.n1 := ⟨_, rfl⟩
  have HIX : Hid (∀ v, Calls Tryz.prog 37 #[.int .i64 party, .int .i64 (x.n1 : Int)] v fun e w' => e = .returned (.bool t) ∧ v = w') := Lib.hid fun v => by rw [ht]; exact isIndex _ _ v
  have HOK : Hid (ofOk x.ct party kind = (x.ct.good && t && (decide (0 ≤ kind) && decide (kind ≤ 4)))) := Lib.hid (by unfold ofOk; rw [ht, ix_le, HLEN.out.2.2])
  clear h hw B0 hX ht
  go_enter Tryz.func17, Tryz.ntmps17
  go_wp2_with (go_at_call 31; (try rw [← HX.out]); refine HC.out.mono ?_; (rintro e w2 (⟨hg, hb, a1, l1, k1, a2, l2, k2, mo, a3, l3, k3, rfl⟩ | ⟨mb, g, n, c, rfl, hy⟩)); all_goals refine Hid.out ?_)
  · refine Lib.hid ?_
    have HG : Hid (ofL x.ct party kind = [] ∧ ofOk x.ct party kind = false) := Lib.hid ⟨by unfold ofL; rw [HOK.out, hg]; rfl, by rw [HOK.out, hg]; rfl⟩
    obtain ⟨U, hU⟩ : ∃ U, U = w2.alloc (.cells #[.slice a1 l1 k1, .slice a2 l2 k2, .map mo, .slice a3 l3 k3] 55) := ⟨_, rfl⟩
    have BU : Below w.heap.size w U := by
      have h2 := HB.out.trans (hb.mono HB.out.size)
      rw [hU]; exact h2.alloc h2.size _
    have O2 : UniS.Own (U.alloc (.cells #[] 3)) w.heap.size (.slice (some ⟨U.heap.size, 0, none⟩) 0 0) [] := by
      have := World.ownsRow_lit (base := w.heap.size) (e := 3) (size := 1) U #[] 0 BU.size (by decide) (by simp)
      simpa [UniS.Own] using this
    have hUs : U.heap.size = w2.heap.size + 1 := by rw [hU]; simp
    rw [hUs, hU] at O2
    have B3 := BU.alloc BU.size (.cells #[] 3)
    rw [hU] at B3
    have HO := Lib.hid O2
    have HB3 := Lib.hid B3
    clear hg hb hU BU O2 hUs B3
    go_wp2_with fail
    go_ret2
    exact ⟨w2.heap.size + 1, 0, 0, by rw [HG.out.1]; rfl, by rw [HG.out.2]; rfl, by rw [HG.out.1]; exact HO.out, HB3.out⟩
  · refine Lib.hid ?_
    have h12 : x.n2 ≤ 12 := by have := (good_len hy.good).2.1; have := HLEN.out; omega
    have HGO : Hid (ofOk x.ct party kind = (t && (decide (0 ≤ kind) && decide (kind ≤ 4)))) := Lib.hid (by rw [HOK.out, hy.good]; rfl)
    obtain ⟨U, hU⟩ : ∃ U, U = w2.alloc (.cells #[.slice x.A1 x.n1 x.c1, .slice x.A2 x.n2 x.c2, .map (some mb), .slice (some ⟨g, 0, none⟩) n c] 55) := ⟨_, rfl⟩
    have hbU : Below X.heap.size X U := by rw [hU]; exact hy.bel.alloc hy.bel.size _
    have HBU : Hid (Below w.heap.size w U) := Lib.hid (HB.out.trans (hbU.mono HB.out.size))
    have C0 : Hid (Bk w2.heap.size U [.slice x.A1 x.n1 x.c1, .slice x.A2 x.n2 x.c2, .map (some mb), .slice (some ⟨g, 0, none⟩) n c]) := Lib.hid (by rw [hU]; exact Bk.new _ _ _)
    have U0 := Lib.hid (P0.out.on hbU)
    have U1 := Lib.hid (P1.out.on hbU)
    have U2 := Lib.hid (P2.out.on hbU)
    have HUS : Hid (U.heap.size = w2.heap.size + 1) := Lib.hid (by rw [hU]; simp)
    have HUU := Lib.hid hU
    have u0 := U0.out.c 0 (by simp)
    have u1 := U1.out.c 0 (by simp)
    have u2 := U2.out.c 0 (by simp)
    simp only [List.getElem_cons_succ, List.getElem_cons_zero] at u0 u1 u2
    rw [hU] at u0 u1 u2
    clear hy hU hbU
    by_cases hbad : t = false ∨ kind < 0 ∨ 4 < kind
    · have HG : Hid (ofL x.ct party kind = [] ∧ ofOk x.ct party kind = false) := Lib.hid (by
        have h1 : ofOk x.ct party kind = false := by
          rw [HGO.out]
          rcases hbad with rfl | h | h
          · rfl
          · rw [decide_eq_false (p := 0 ≤ kind) (by omega)]; simp
          · rw [decide_eq_false (p := kind ≤ 4) (by omega)]; simp
        exact ⟨by unfold ofL; rw [h1]; rfl, h1⟩)
      have O2 : UniS.Own (U.alloc (.cells #[] 3)) w.heap.size (.slice (some ⟨U.heap.size, 0, none⟩) 0 0) [] := by
        have := World.ownsRow_lit (base := w.heap.size) (e := 3) (size := 1) U #[] 0 HBU.out.size (by decide) (by simp)
        simpa [UniS.Own] using this
      have B3 := HBU.out.alloc HBU.out.size (.cells #[] 3)
      rw [HUS.out, HUU.out] at O2
      rw [HUU.out] at B3
      have HO := Lib.hid O2
      have HB3 := Lib.hid B3
      clear O2 B3
      cases t
      · clear hbad
        go_wp2_with (go_at_call 37; refine (HIX.out _).mono ?_; rintro e w3 ⟨rfl, rfl⟩)
        go_ret2
        exact ⟨w2.heap.size + 1, 0, 0, by rw [HG.out.1]; rfl, by rw [HG.out.2]; rfl, by rw [HG.out.1]; exact HO.out, HB3.out⟩
      by_cases h0 : kind < 0
      · clear hbad
        go_wp2_with (go_at_call 37; refine (HIX.out _).mono ?_; rintro e w3 ⟨rfl, rfl⟩)
        go_ret2
        exact ⟨w2.heap.size + 1, 0, 0, by rw [HG.out.1]; rfl, by rw [HG.out.2]; rfl, by rw [HG.out.1]; exact HO.out, HB3.out⟩
      · have h4 : 4 < kind := by
          rcases hbad with h | h | h
          · cases h
          · omega
          · exact h
        clear hbad
        go_wp2_with (go_at_call 37; refine (HIX.out _).mono ?_; rintro e w3 ⟨rfl, rfl⟩)
        go_ret2
        exact ⟨w2.heap.size + 1, 0, 0, by rw [HG.out.1]; rfl, by rw [HG.out.2]; rfl, by rw [HG.out.1]; exact HO.out, HB3.out⟩
    · have ht1 : t = true := by
        cases t
        · exact absurd (.inl rfl) hbad
        · rfl
      subst ht1
      have h0 : ¬ kind < 0 := fun h => hbad (.inr (.inl h))
      have h4 : ¬ 4 < kind := fun h => hbad (.inr (.inr h))
      have HG : Hid (ofL x.ct party kind = sel (ofAt x.ct.ls party kind) x.n2 ∧ ofOk x.ct party kind = true) := Lib.hid (by
        have h1 : ofOk x.ct party kind = true := by rw [HGO.out, decide_eq_true (p := 0 ≤ kind) (by omega), decide_eq_true (p := kind ≤ 4) (by omega)]; rfl
        exact ⟨by unfold ofL; rw [h1, HLEN.out.2.1]; rfl, h1⟩)
      have HW := Lib.hid (whereO x mb (some ⟨g, 0, none⟩) n c w2.heap.size (w.heap.size + 1) (w.heap.size + 1 + 1) (ofAt x.ct.ls party kind) U h12 fun v k hk hv => by
        have hk' : k < x.ms.length := by have := HLEN.out; omega
        have hkl : k < x.ct.ls.length := by have := HLEN.out; omega
        have hp : CAt x k x.ms[k] := ⟨hk', rfl⟩
        rw [ofAt_is hkl, hp.cl.2]
        exact ofFn x mb w2.heap.size (w.heap.size + 1) (w.heap.size + 1 + 1) k (.slice (some ⟨g, 0, none⟩) n c) party kind x.ms[k] v ((HL.out.below (HBU.out.trans (hv.mono HBU.out.size))).more (HBU.out.trans (hv.mono HBU.out.size)).size) hp (C0.out.on hv) (U1.out.on hv) (U2.out.on hv))
      clear hbad
      go_wp2_with (first | (go_at_call 37; refine (HIX.out _).mono ?_; rintro e w3 ⟨rfl, rfl⟩) | (go_at_call 32; (try rw [← HUU.out]); refine HW.out.mono ?_; rintro e w4 ⟨g4, n4, c4, hn4, rfl, hown, hb⟩; have HN4 := Lib.hid hn4; have HO4 := Lib.hid hown; clear hn4 hown))
      go_ret2
      exact ⟨g4, n4, c4, by rw [HG.out.1]; exact HN4.out, by rw [HG.out.2]; rfl, by rw [HG.out.1]; exact own_less HO4.out HBU.out.size, HBU.out.trans (hb.mono HBU.out.size)⟩

end Go.Proofs.YtlionlbihmldlaaGreat.Cl

namespace Go.Proofs.YtlionlbihmldlaaGreat.KrO
open Go.RowKit Go.Proofs.YtlionlbihmldlaaGreat.Cond Go.Proofs.YtlionlbihmldlaaGreat.Gx Go.Proofs.YtlionlbihmldlaaGreat.Cl
set_option linter.unusedVariables false
set_option linter.unusedSimpArgs false

set_option maxRecDepth 100000 in
set_option maxHeartbeats 8000000 in
theorem walk (x0 : Kt) (a1 : Int) (a2 : Int) (w : World) (hx0 : LiC w w.heap.size x0) :
    Calls Tryz.prog 4 #[x0.val, .int .i64 a1, .int .i64 a2] w fun e w' => e = .returned (.bool true) ∧ Below w.heap.size w w' := by
  obtain ⟨w0, hw0⟩ : ∃ w0, w0 = w.alloc (.cells #[.slice x0.A1 x0.n1 x0.c1, .slice x0.A2 x0.n2 x0.c2] 25) := ⟨_, rfl⟩
  have B0 : Hid (Below w.heap.size w w0) := Lib.hid (by rw [hw0]; exact below1 _ _)
  have X0 : Hid (Bk w.heap.size w0 [.slice x0.A1 x0.n1 x0.c1, .slice x0.A2 x0.n2 x0.c2]) := Lib.hid (by rw [hw0]; exact Bk.new _ _ _)
  have HI := Lib.hid hx0
  have HW0 := Lib.hid hw0
  clear hw0 hx0
  obtain ⟨t, ht⟩ : ∃ q : Bool, q = ofOk x0.ct a1 a2 := ⟨_, rfl⟩
  have HVt := Lib.hid ht
  clear ht
  go_enter Tryz.func4, Tryz.ntmps4
  obtain ⟨D, hD⟩ : ∃ D : List Int, D = ofL x0.ct a1 a2 := ⟨_, rfl⟩
  obtain ⟨N, hN⟩ : ∃ N, N = D.length := ⟨_, rfl⟩
  have hN3 : N ≤ 3000 := by rw [hN, hD]; exact ofL_len _ _ _
  have HVD := Lib.hid hD
  have HVN := Lib.hid hN
  have HVX : Hid (N = D.length) := Lib.hid (by rw [hN])
  clear hD hN
  by_cases hz : 1048576 < x0.ct.wt
  · have HZ := szCt x0 1048576 (by omega) w0 (HI.out.on B0.out)
    rw [szRes, if_pos hz] at HZ
    have HZH := Lib.hid HZ
    clear HZ hz
    go_wp2_with (go_at_call 7; (try rw [← HW0.out]); refine HZH.out.mono ?_; rintro e wz ⟨rfl, hbz⟩)
    go_ret
    exact ⟨rfl, B0.out.trans (hbz.mono B0.out.size)⟩
  have HZ := szCt x0 1048576 (by omega) w0 (HI.out.on B0.out)
  rw [szRes, if_neg hz] at HZ
  have HLE : Hid (x0.ct.wt ≤ 1048576) := Lib.hid (by omega)
  obtain ⟨m1, hm1⟩ : ∃ m, m = 1048576 - x0.ct.wt := ⟨_, rfl⟩
  rw [← hm1] at HZ
  have HZH := Lib.hid HZ
  have hm0 : (0 : Int) ≤ (m1 : Int) := by omega
  clear HZ hm1 hz
  go_wp2_with (go_at_call 7; (try rw [← HW0.out]); refine HZH.out.mono ?_; rintro e w1 ⟨rfl, hb⟩; refine Hid.out ?_)
  refine Lib.hid ?_
  have B1 := Lib.hid (B0.out.trans (hb.mono B0.out.size))
  have X1 := Lib.hid (X0.out.on hb)
  have e0 := X1.out.c 0 (by simp)
  have e1 := X1.out.c 1 (by simp)
  simp only [List.getElem_cons_succ, List.getElem_cons_zero] at e0 e1
  have HT := Lib.hid (toCt x0 w1 (HI.out.on B1.out) HLE.out)
  clear hb HZH
  go_wp2_with (go_at_call 9; refine HT.out.mono ?_; rintro e w2 ⟨q, rfl, hq, hwr, hge, hb⟩; refine Hid.out ?_)
  refine Lib.hid ?_
  have B2 := Lib.hid (B1.out.trans (hb.mono B1.out.size))
  have X2 := Lib.hid (X1.out.on hb)
  have HSP := specCo q a1 a2 w2 hwr.has (by rw [hq]; exact HLE.out)
  rw [hq] at HSP
  rw [← HVt.out] at HSP
  rw [← HVD.out] at HSP
  have HSPH := Lib.hid HSP
  clear HSP hq hwr hge hb e0 e1 HT
  go_wp2_with (go_at_call 16; refine HSPH.out.mono ?_; intro e w3 ha; obtain ⟨gS, cS, rfl, hoS, hb⟩ := RowAns.fix HVN.out ha; refine Hid.out ?_)
  refine Lib.hid ?_
  have B3 := Lib.hid (B2.out.trans (hb.mono B2.out.size))
  have X3 := Lib.hid (X2.out.on hb)
  have S3 : Hid (IRow.Is w3 w3.heap.size (some ⟨gS, 0, none⟩) D) := Lib.hid (IRow.Is.of_own hoS HVX.out)
  have e0 := X3.out.c 0 (by simp)
  have e1 := X3.out.c 1 (by simp)
  simp only [List.getElem_cons_succ, List.getElem_cons_zero] at e0 e1
  have HT := Lib.hid (toCt x0 w3 (HI.out.on B3.out) HLE.out)
  clear hb HSPH hoS ha
  go_wp2_with (go_at_call 9; refine HT.out.mono ?_; rintro e w4 ⟨y, rfl, hy, hwr, hge, hb⟩; refine Hid.out ?_)
  refine Lib.hid ?_
  have K4 : Hid (Below w3.heap.size w3 w4) := Lib.hid hb
  have HGE := Lib.hid hge
  obtain ⟨w5, hw5⟩ : ∃ w5, w5 = w4.alloc (.cells #[.slice y.A1 y.n1 y.c1, .slice y.A2 y.n2 y.c2] 32) := ⟨_, rfl⟩
  have hb5 : Below w4.heap.size w4 w5 := by rw [hw5]; exact below1 _ _
  have K5 := Lib.hid (K4.out.trans (hb5.mono K4.out.size))
  have Y5 : Hid (Bk w4.heap.size w5 [.slice y.A1 y.n1 y.c1, .slice y.A2 y.n2 y.c2]) := Lib.hid (by rw [hw5]; exact Bk.new _ _ _)
  have WY5 := Lib.hid (hwr.on hb5)
  have HYL : Hid (∀ b ∈ y.blocks, b < w4.heap.size) := Lib.hid hwr.has.lt
  have HY5 : Hid (w4.heap.size < w5.heap.size) := Lib.hid (by rw [hw5]; simp)
  have HY := Lib.hid hy
  have HIM := implCo y a1 a2 w5 WY5.out.has (by rw [hy]; exact HLE.out)
  rw [hy] at HIM
  rw [← HVt.out] at HIM
  rw [← HVD.out] at HIM
  have HIMH := Lib.hid HIM
  have HW5 := Lib.hid hw5
  clear HIM hy hwr hge hb hb5 hw5 e0 e1 HT
  go_wp2_with (go_at_call 17; (try rw [← HW5.out]); refine HIMH.out.mono ?_; intro e w6 ha; obtain ⟨gI, cI, rfl, hoI, hb⟩ := RowAns.fix HVN.out ha; refine Hid.out ?_)
  refine Lib.hid ?_
  have K6 := Lib.hid (K5.out.trans (hb.mono K5.out.size))
  have Y6 := Lib.hid (Y5.out.on hb)
  have WY6 := Lib.hid (WY5.out.on hb)
  have I6 := Lib.hid hoI
  have HS35 : Hid (w3.heap.size ≤ w5.heap.size) := Lib.hid K5.out.size
  have HS56 : Hid (w5.heap.size ≤ w6.heap.size) := Lib.hid hb.size
  clear hb HIMH hoI ha K4 K5 Y5 WY5
  generalize hky : w4.heap.size = ky at *
  clear hky
  cases t
  all_goals
    have HEQw7 := Lib.hid (IRow.eqI (some ⟨gI, 0, none⟩) (some ⟨gS, 0, none⟩) N cI cS w6.heap.size D w6 HVX.out (by omega) (IRow.Is.of_own I6.out HVX.out) ((S3.out.below K6.out).more K6.out.size))
    go_wp2_with (go_at_call 11; refine HEQw7.out.mono ?_; rintro e _ ⟨rfl, qw7, rfl⟩; refine Hid.out ?_)
    refine Lib.hid ?_
    obtain ⟨w7, hwq⟩ : ∃ v, v = w6.drewN qw7 := ⟨_, rfl⟩
    have hbq : Below w6.heap.size w6 w7 := by rw [hwq]; exact below_drewN (Below.refl _ _) _
    rw [← hwq]
    clear hwq HEQw7
    have K7 := Lib.hid (K6.out.trans (hbq.mono K6.out.size))
    have Y7 := Lib.hid (Y6.out.on hbq)
    have WY7 := Lib.hid (WY6.out.on hbq)
    have I7 := Lib.hid (row_on I6.out hbq)
    have B7 := Lib.hid (B3.out.trans (K7.out.mono B3.out.size))
    clear hbq K6 Y6 WY6 I6
    have HXL : Hid (w.heap.size < w3.heap.size) := Lib.hid X3.out.lt
    have KX : Hid (∀ v, Below w7.heap.size w7 v → (v.cell? ⟨w.heap.size, 0, none⟩ = some (.slice x0.A1 x0.n1 x0.c1) ∧ v.cell? ⟨w.heap.size, 1, none⟩ = some (.slice x0.A2 x0.n2 x0.c2)) ∧ v.cell? ⟨ky, 0, none⟩ = some (.slice y.A1 y.n1 y.c1) ∧ v.cell? ⟨ky, 1, none⟩ = some (.slice y.A2 y.n2 y.c2)) := Lib.hid fun v hv => by
      have hx := X3.out.on (K7.out.trans (hv.mono K7.out.size))
      have a0 := hx.c 0 (by simp)
      have a1 := hx.c 1 (by simp)
      have b0 := (Y7.out.on hv).c 0 (by simp)
      have b1 := (Y7.out.on hv).c 1 (by simp)
      simp only [List.getElem_cons_succ, List.getElem_cons_zero] at a0 a1 b0 b1
      exact ⟨⟨a0, a1⟩, b0, b1⟩
    have HTX := Lib.hid fun v (hv : Below w7.heap.size w7 v) => toCt x0 v (HI.out.on (B7.out.trans (hv.mono B7.out.size))) HLE.out
    have HEQ : Hid (∀ v wa (z : Kt), Below w7.heap.size w7 wa → LiC wa wa.heap.size z → z.ct = x0.ct → Below wa.heap.size wa v → Calls Tryz.prog 12 #[y.val, z.val] v fun e w' => e = .returned (.bool true) ∧ Below v.heap.size v w') :=
      Lib.hid fun v wa z hx hz hc hv => eqCt y z v (by rw [HY.out, hc]) (by rw [hc]; exact HLE.out) ((WY7.out.has.on hx).on hv) (hz.on hv)
    have hcells := KX.out w7 (Below.refl _ _)
    obtain ⟨⟨e0, e1⟩, g0, g1⟩ := hcells
    go_wp2_with fail
    go_region_held3 (fun v => (v.cell? ⟨w.heap.size, 0, none⟩ = some (.slice x0.A1 x0.n1 x0.c1) ∧ v.cell? ⟨w.heap.size, 1, none⟩ = some (.slice x0.A2 x0.n2 x0.c2)) ∧ v.cell? ⟨ky, 0, none⟩ = some (.slice y.A1 y.n1 y.c1) ∧ v.cell? ⟨ky, 1, none⟩ = some (.slice y.A2 y.n2 y.c2)) (first | (refine KX.out _ ?_; (repeat (first | exact Below.refl _ _ | exact b2 | exact b1 | apply Below.drew)); done))
      (first
        | (go_at_call 9; (with_reducible refine (HTX.out _ (by (repeat (first | exact Below.refl _ _ | exact b2 | exact b1 | apply Below.drew)))).mono ?_); rintro e wa ⟨z, rfl, hzc, hzw, hzg, hb⟩; have b1 : Below w7.heap.size w7 wa := (Below.trans (by (repeat (first | exact Below.refl _ _ | exact b2 | exact b1 | apply Below.drew))) (hb.mono (by first | omega | (simp; done) | (simp; omega) | exact b1.size | (have := b1.size; simp; omega)))); have NA := Lib.hid hzw.has; have NC := Lib.hid hzc; clear hb hzw hzc hzg)
        | (go_at_call 12; (with_reducible refine (HEQ.out _ _ z b1 NA.out NC.out (by (repeat (first | exact Below.refl _ _ | apply Below.drew)))).mono ?_); rintro e wb ⟨rfl, hb⟩; have b2 : Below w7.heap.size w7 wb := (Below.trans (by (repeat (first | exact Below.refl _ _ | exact b2 | exact b1 | apply Below.drew))) (hb.mono (by first | omega | (simp; done) | (simp; omega) | exact b1.size | (have := b1.size; simp; omega)))); clear hb))
    all_goals
      have K8 := Lib.hid (K7.out.trans (b2.mono K7.out.size))
      have Y8 := Lib.hid (Y7.out.on b2)
      have WY8 := Lib.hid (WY7.out.on b2)
      have I8 := Lib.hid (row_on I7.out b2)
      clear b1 b2 NA NC e0 e1 g0 g1 KX HTX HEQ K7 Y7 WY7 I7 B7
      have g0 := Y8.out.c 0 (by simp)
      have g1 := Y8.out.c 1 (by simp)
      simp only [List.getElem_cons_succ, List.getElem_cons_zero] at g0 g1
      have hmk := markCt y 1 wb (by omega) (nMkC_le WY8.out.has (by rw [HY.out]; exact HLE.out)) WY8.out
      obtain ⟨mq, hmq⟩ : ∃ m, m = 1 + nMkC y := ⟨_, rfl⟩
      rw [← hmq] at hmk
      have hmq0 : (0 : Int) ≤ (mq : Int) := by omega
      have HMK := Lib.hid hmk
      clear hmk hmq
      go_wp2_with (go_at_call 13; refine HMK.out.mono ?_; rintro e w9 ⟨rfl, hlm, hmv⟩; refine Hid.out ?_)
      refine Lib.hid ?_
      have K9 : Hid (Below w3.heap.size w3 w9) := Lib.hid (K8.out.trans (hmv.below HGE.out K8.out.size))
      have I9 := Lib.hid (row_mv I8.out hmv (fun h => by have := HYL.out gI h; have := (row_ge I8.out).1; have := HY5.out; omega))
      clear hlm hmv g0 g1 HMK K8 Y8 WY8 I8
      have HEQw10 := Lib.hid (IRow.eqI (some ⟨gI, 0, none⟩) (some ⟨gS, 0, none⟩) N cI cS w9.heap.size D w9 HVX.out (by omega) (IRow.Is.of_own I9.out HVX.out) ((S3.out.below K9.out).more K9.out.size))
      go_wp2_with (go_at_call 11; refine HEQw10.out.mono ?_; rintro e _ ⟨rfl, qw10, rfl⟩; refine Hid.out ?_)
      refine Lib.hid ?_
      obtain ⟨w10, hwq⟩ : ∃ v, v = w9.drewN qw10 := ⟨_, rfl⟩
      have hbq : Below w9.heap.size w9 w10 := by rw [hwq]; exact below_drewN (Below.refl _ _) _
      rw [← hwq]
      clear hwq HEQw10
      have K10 := Lib.hid (K9.out.trans (hbq.mono K9.out.size))
      have I10 := Lib.hid (row_on I9.out hbq)
      clear hbq K9 I9
      have HMI := Lib.hid (MarkI.markI (some ⟨gI, 0, none⟩) N cI w5.heap.size _ w10 (by omega) I10.out)
      go_wp2_with (go_at_call 14; refine HMI.out.mono ?_; rintro e w11 ⟨rfl, ⟨ys, hoy, hmy⟩, hon⟩; refine Hid.out ?_)
      refine Lib.hid ?_
      have hbo : Below w5.heap.size w10 w11 := hon.below (fun ad e => by injection e with e; subst e; exact (row_ge I10.out).1)
      have K11 := Lib.hid (K10.out.trans (hbo.mono HS35.out))
      have I11 := Lib.hid hoy
      have HMY := Lib.hid hmy
      clear hoy hmy hon hbo HMI K10 I10
      have HHI := Lib.hid (MarkI.heldI (some ⟨gI, 0, none⟩) N cI w5.heap.size ys w11 (by omega) I11.out HMY.out)
      go_wp2_with (go_at_call 15; refine HHI.out.mono ?_; rintro e _ ⟨rfl, q12, rfl⟩; refine Hid.out ?_)
      refine Lib.hid ?_
      obtain ⟨w12, hwq⟩ : ∃ v, v = w11.drewN q12 := ⟨_, rfl⟩
      have hbq : Below w11.heap.size w11 w12 := by rw [hwq]; exact below_drewN (Below.refl _ _) _
      rw [← hwq]
      clear hwq HHI
      have K12 := Lib.hid (K11.out.trans (hbq.mono K11.out.size))
      have I12 := Lib.hid (row_on I11.out hbq)
      clear hbq K11 I11
      have X12 := Lib.hid (X3.out.on K12.out)
      have B12 := Lib.hid (B3.out.trans (K12.out.mono B3.out.size))
      have e0 := X12.out.c 0 (by simp)
      have e1 := X12.out.c 1 (by simp)
      simp only [List.getElem_cons_succ, List.getElem_cons_zero] at e0 e1
      have HT := Lib.hid (toCt x0 w12 (HI.out.on B12.out) HLE.out)
      go_wp2_with (go_at_call 9; refine HT.out.mono ?_; rintro e w13 ⟨z, rfl, hz, hwr, hge, hb⟩; refine Hid.out ?_)
      refine Lib.hid ?_
      have K13 := Lib.hid (K12.out.trans (hb.mono K12.out.size))
      have I13 := Lib.hid (row_on I12.out hb)
      have HIM := implCo z a1 a2 w13 hwr.has (by rw [hz]; exact HLE.out)
      rw [hz] at HIM
      rw [← HVt.out] at HIM
      rw [← HVD.out] at HIM
      have HIMH := Lib.hid HIM
      clear HIM hz hwr hge hb e0 e1 HT K12 I12 X12 B12
      go_wp2_with (go_at_call 17; refine HIMH.out.mono ?_; intro e w14 ha; obtain ⟨gH, cH, rfl, hoH, hb⟩ := RowAns.fix HVN.out ha; refine Hid.out ?_)
      refine Lib.hid ?_
      have K14 := Lib.hid (K13.out.trans (hb.mono K13.out.size))
      have I14 := Lib.hid (row_on I13.out hb)
      have H14 := Lib.hid hoH
      clear hb HIMH hoH ha K13 I13
      have HEQw15 := Lib.hid (IRow.eqI (some ⟨gH, 0, none⟩) (some ⟨gS, 0, none⟩) N cH cS w14.heap.size D w14 HVX.out (by omega) (IRow.Is.of_own H14.out HVX.out) ((S3.out.below K14.out).more K14.out.size))
      go_wp2_with (go_at_call 11; refine HEQw15.out.mono ?_; rintro e _ ⟨rfl, qw15, rfl⟩; refine Hid.out ?_)
      refine Lib.hid ?_
      obtain ⟨w15, hwq⟩ : ∃ v, v = w14.drewN qw15 := ⟨_, rfl⟩
      have hbq : Below w14.heap.size w14 w15 := by rw [hwq]; exact below_drewN (Below.refl _ _) _
      rw [← hwq]
      clear hwq HEQw15
      have K15 := Lib.hid (K14.out.trans (hbq.mono K14.out.size))
      have I15 := Lib.hid (row_on I14.out hbq)
      clear hbq K14 I14 H14
      have HHI := Lib.hid (MarkI.heldI (some ⟨gI, 0, none⟩) N cI w5.heap.size ys w15 (by omega) I15.out HMY.out)
      go_wp2_with (go_at_call 15; refine HHI.out.mono ?_; rintro e _ ⟨rfl, q16, rfl⟩)
      go_ret
      exact ⟨rfl, below_drewN (B3.out.trans (K15.out.mono B3.out.size)) q16⟩

end Go.Proofs.YtlionlbihmldlaaGreat.KrO

namespace Go.Proofs.YtlionlbihmldlaaGreat.fnExactClausesOf
open Go.ChangeShapes Go.WideShapes Go.ChangeAt Go.RowKit Go.Joins
open Go.ChangeMaps (open_string shut_string)
set_option linter.unusedVariables false

theorem own : ownKnob Tryz.prog.godebug = none := by kernel_rfl
theorem laidOut : laidOutB Tryz.prog = true := by kernel_rfl

set_option maxRecDepth 100000 in
theorem lifted (os : Os) (started : os.Started) (H : Type) (enc : TypeId × Value → H) :
    ReturnsInHanded {} Tryz.checked os 4 .any (Rows.fnExactClausesOfSpec.pre6 enc Tryz.prog Tryz.f4 Rows.fnExactClausesOfRow.domain false) (Rows.fnExactClausesOfSpec.post enc Tryz.prog Tryz.f4 false true false false) := by
  refine returnsInHanded_of_change (C := Tryz.checked) own started (by kernel_rfl) Tryz.func4
    (ChangeSpec.witness6 (enc := enc) (C := Tryz.checked) false ⟨#[], #[.agg #[.slice none 0 0, .slice none 0 0], .int .i64 0, .int .i64 0], []⟩ 8 (by kernel_rfl) (by kernel_rfl) (by kernel_rfl) (by kernel_rfl)) ?_
  intro W base args ds gs before hval0 hW hcnd _
  have hval : ∀ (j : Nat) t v, Tryz.f4.params[j]? = some t → args[j]? = some v → Value.okWide Tryz.prog W .any base t v := hval0
  have hW' := hW
  obtain ⟨p, q, hA0, hV, rfl, hfz, hnd⟩ := hW
  have hA : DataW.TrodAll enc Tryz.prog W 0 (fun _ => true) true Tryz.f4.params.toList args.toList ds p := hA0
  rw [Tryz.params4] at hA hval
  obtain ⟨v0, vs0, d0, ds0, p0, q0, hargs, rfl, rfl, h0, r0⟩ := trodAll_cons hA
  obtain ⟨v1, vs1, d1, ds1, p1, q1, rfl, rfl, rfl, h1, r1⟩ := trodAll_cons r0
  obtain ⟨v2, vs2, d2, ds2, p2, q2, rfl, rfl, rfl, h2, r2⟩ := trodAll_cons r1
  obtain ⟨rfl, rfl, rfl⟩ := trodAll_nil r2
  obtain rfl : args = #[v0, v1, v2] := by cases args; simp_all
  obtain ⟨rfl, rfl⟩ := trodVars_none hV
  have kk0 := h0
  have lt0 : ∀ x ∈ p0, x.block < W.heap.size := by obtain ⟨m, hm⟩ := kk0; exact DataW.trod_lt m _ _ _ hm
  obtain ⟨x0, rfl, hx0⟩ := Cl.openCt (hval 0 25 v0 rfl rfl) h0
  clear h0
  obtain ⟨a1, rfl, rfl, rfl, w1⟩ := open_int Tryz.underlying3 (hval 1 3 v1 rfl rfl) h1
  obtain ⟨a2, rfl, rfl, rfl, w2⟩ := open_int Tryz.underlying3 (hval 2 3 v2 rfl rfl) h2
  clear hA0
  refine (KrO.walk x0 a1 a2 W hx0).mono fun e W' ⟨he, bel⟩ => ?_
  subst he
  exact ⟨_, rfl, _, _, _, [], _, [], hW', trodAll_mk1 (shut_bool Tryz.underlying4 _), (trodAll_cons_mk (Below.trod laidOut (by kernel_rfl) (of_decide_eq_true (by kernel_rfl)) kk0 bel lt0) (trodAll_cons_mk (shut_int Tryz.underlying3 w1) (trodAll_cons_mk (shut_int Tryz.underlying3 w2) trodAll_mk0))), rfl, bel.frame _, fun h => by cases h⟩

theorem proved : Rows.FnExactClausesOfSaid :=
  OpenClaim.holds_of_wide 4 Tryz.f4 rfl rfl rfl rfl rfl rfl rfl ⟨rfl, rfl, rfl, rfl, rfl⟩ rfl rfl rfl rfl rfl (by kernel_rfl) Tryz.func4 (by kernel_rfl)
    (of_decide_eq_true (by kernel_rfl)) (by unfold Func.isWrapper; first | (rw [if_pos (by decide +kernel)]; kernel_rfl) | (rw [if_neg (by decide +kernel)]; exact ⟨rfl, rfl⟩))
    (fun os started H enc _ => lifted os started H enc)
end Go.Proofs.YtlionlbihmldlaaGreat.fnExactClausesOf
