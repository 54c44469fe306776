/-
  checkContract of the program; IsValidContract.
-/
import Derived.Test.YtlionlbihmldlaaClNa
namespace Go.Proofs.Ytlionlbihmldlaa.Cl
open Go.RowKit Go.Proofs.Ytlionlbihmldlaa.Cond Go.Proofs.Ytlionlbihmldlaa.Gx Go.Proofs.Ytlionlbihmldlaa.NdS
set_option linter.unusedVariables false
set_option linter.unusedSimpArgs false

theorem good_no {x : Ct} {k : Nat} (hk : k < x.ls.length) (h : numB (x.ls.take k) x.ls[k].id = true ∨ okV x.ss.length x.ls[k] = false ∨ okP x.ls k x.ls[k] = false) : x.good = false := by
  cases hg : x.good with
  | false => rfl
  | true =>
    have h1 := good_all hg k hk
    rw [okI_is hk] at h1
    simp only [Bool.and_eq_true, Bool.not_eq_true'] at h1
    rcases h with h | h | h
    · rw [h1.1.1] at h; cases h
    · rw [h1.1.2] at h; cases h
    · rw [h1.2] at h; cases h
theorem good_yes {x : Ct} (h1 : 1 ≤ x.ls.length) (h2 : x.ls.length ≤ 12) (h3 : (okN x.ss && (decide (2 ≤ x.ss.length) && decide (x.ss.length ≤ 4))) = true)
    (h4 : ∀ j, ∀ hj : j < x.ls.length, numB (x.ls.take j) x.ls[j].id = false ∧ okV x.ss.length x.ls[j] = true) (h5 : ∀ j, ∀ hj : j < x.ls.length, okP x.ls j x.ls[j] = true) : x.good = decide ((Cl.names x.ls).length ≤ 16) := by
  unfold Ct.good
  rw [decide_eq_true h1, decide_eq_true h2, h3, okAll_yes (fun i hi => by rw [okI_is hi, (h4 i hi).1, (h4 i hi).2, h5 i hi]; rfl)]
  rfl

/-- A look-up of an Id at the operation. -/
theorem wp_look {u : World} {ops : Array Oper} {rest : List Oper} {o : Oper} {a : Act} {Q : Exit → Act → World → Prop} (hgd : o.guard = none) (m x : Operand) (ho : o.op = Op.lookup 41 m x true)
    (b n : Nat) (ls : List L) (hm : a.eval m = .map (some b)) (id : ByteArray) (hx : a.eval x = .string id) (hn : Nums u b n ls) (hs : id.size ≤ maxLen)
    (hK : wpList Try.prog ops Q rest (a.put o.dst (.tuple #[.int .i64 (numI ls id), .bool (numB ls id)])) u) : wpList Try.prog ops Q (o :: rest) a u := by
  refine wpList_plain hgd fun K' hK' => ?_
  have hrun := run_look hn hs
  unfold Oper.wp
  simp [execOp, ho, hm, hx, hrun, Result.andThen]
  exact hK' _ _ hK
/-- A store of a new Id at the operation. -/
theorem wp_store {u : World} {ops : Array Oper} {rest : List Oper} {o : Oper} {a : Act} {Q : Exit → Act → World → Prop} (hgd : o.guard = none) (m y v : Operand) (ho : o.op = Op.mapUpdate 41 m y v)
    (b n : Nat) (ls : List L) (hm : a.eval m = .map (some b)) (x : L) (hy : a.eval y = .string x.id) (k : Nat) (hk : k = ls.length) (hv : a.eval v = .int .i64 (k : Int)) (hn : Nums u b n ls) (hs : x.id.size ≤ maxLen) (hl : n ≤ 5000) (hl2 : ls.length ≤ 5000) (hx : numB ls x.id = false)
    (hK : ∀ w', Nums w' b (n + 1) (ls ++ [x]) → u.grownBy w' (some b) → wpList Try.prog ops Q rest (a.put o.dst undef) w') : wpList Try.prog ops Q (o :: rest) a u := by
  refine wpList_plain hgd fun K' hK' => ?_
  subst hk
  obtain ⟨w', hrun, h1, h2⟩ := run_store (x := x) hn hs (by unfold maxLen; omega) hl2 (of_decide_eq_false hx)
  unfold Oper.wp
  simp [execOp, ho, hm, hy, hv, hrun, Result.andThen]
  exact hK' _ _ (hK w' h1 h2)

/-- The boxes of checkContract behind k clauses. -/
structure Lp (w wr : World) (x : Kt) (k : Nat) : Prop where
  bel : Below w.heap.size w wr
  b0 : Bk w.heap.size wr [.slice x.A1 x.n1 x.c1, .slice x.A2 x.n2 x.c2]
  b1 : Bk (w.heap.size + 1) wr [.slice none 0 0, .slice none 0 0, .map none, .slice none 0 0]
  b3 : Bk (w.heap.size + 1 + 1 + 1) wr [.slice x.A1 x.n1 x.c1, .slice x.A2 x.n2 x.c2, .map (some (w.heap.size + 1 + 1)), .slice none 0 0]
  nm : Nums wr (w.heap.size + 1 + 1) k (x.ct.ls.take k)
theorem Lp.on {w wr v : World} {x : Kt} {k : Nat} (h : Lp w wr x k) (hb : Below wr.heap.size wr v) : Lp w v x k :=
  ⟨h.bel.trans (hb.mono h.bel.size), h.b0.on hb, h.b1.on hb, h.b3.on hb, h.nm.on hb⟩
theorem Lp.stored {w u w3 : World} {x : Kt} {k : Nat} {ls : List L} (h : Lp w u x k) (hn : Nums w3 (w.heap.size + 1 + 1) (k + 1) ls) (hl : ls = x.ct.ls.take (k + 1)) (hg : u.grownBy w3 (some (w.heap.size + 1 + 1))) : Lp w w3 x (k + 1) :=
  ⟨h.bel.grown hg h.bel.size (fun j e => by injection e with e; omega), h.b0.kept hg (fun e => by injection e; omega), h.b1.kept hg (fun e => by injection e; omega), h.b3.kept hg (fun e => by injection e; omega), by rw [← hl]; exact hn⟩
theorem lp_start (w : World) (x : Kt) : Lp w ((((w.alloc (.cells #[.slice x.A1 x.n1 x.c1, .slice x.A2 x.n2 x.c2] 30)).alloc (.cells #[.slice none 0 0, .slice none 0 0, .map none, .slice none 0 0] 43)).alloc (.map #[] 0)).alloc (.cells #[.slice x.A1 x.n1 x.c1, .slice x.A2 x.n2 x.c2, .map (some (w.heap.size + 1 + 1)), .slice none 0 0] 43)) x 0 := by
  refine ⟨(((below1 _ _).alloc (by simp) _).alloc (by simp; omega) _).alloc (by simp; omega) _, (((Bk.new w #[.slice x.A1 x.n1 x.c1, .slice x.A2 x.n2 x.c2] _).alloc _).alloc _).alloc _, ?_, ?_, ?_⟩
  · have := ((Bk.new (w.alloc (.cells #[.slice x.A1 x.n1 x.c1, .slice x.A2 x.n2 x.c2] 30)) #[.slice none 0 0, .slice none 0 0, .map none, .slice none 0 0] 43).alloc (.map #[] 0)).alloc (.cells #[.slice x.A1 x.n1 x.c1, .slice x.A2 x.n2 x.c2, .map (some (w.heap.size + 1 + 1)), .slice none 0 0] 43)
    rw [World.size_alloc] at this
    exact this
  · have := Bk.new (((w.alloc (.cells #[.slice x.A1 x.n1 x.c1, .slice x.A2 x.n2 x.c2] 30)).alloc (.cells #[.slice none 0 0, .slice none 0 0, .map none, .slice none 0 0] 43)).alloc (.map #[] 0)) #[.slice x.A1 x.n1 x.c1, .slice x.A2 x.n2 x.c2, .map (some (w.heap.size + 1 + 1)), .slice none 0 0] 43
    rw [World.size_alloc, World.size_alloc, World.size_alloc] at this
    exact this
  · have := (nums_new ((w.alloc (.cells #[.slice x.A1 x.n1 x.c1, .slice x.A2 x.n2 x.c2] 30)).alloc (.cells #[.slice none 0 0, .slice none 0 0, .map none, .slice none 0 0] 43))).on (below1 _ (.cells #[.slice x.A1 x.n1 x.c1, .slice x.A2 x.n2 x.c2, .map (some (w.heap.size + 1 + 1)), .slice none 0 0] 43))
    rw [World.size_alloc, World.size_alloc] at this
    simpa using this

theorem nums_kept {w w' : World} {b n : Nat} {ls : List L} {row : Option Nat} (h : Nums w b n ls) (hg : w.grownBy w' row) (hne : some b ≠ row) : Nums w' b n ls := let ⟨D, h1, h2⟩ := h; ⟨D, h1.kept hg hne, h2⟩
/-- What checkContract makes of a valid contract. -/
structure CkY (x : Kt) (w w' : World) (mb g n c : Nat) : Prop where
  good : x.ct.good = true
  ge : w.heap.size ≤ mb
  ne : mb ≠ g
  nums : Nums w' mb 12 x.ct.ls
  len : n = (Cl.names x.ct.ls).length
  own : UniT.Own w' w.heap.size (.slice (some ⟨g, 0, none⟩) n c) (Cl.names x.ct.ls)
  bel : Below w.heap.size w w'
def CkAns (x : Kt) (w : World) (e : Ending) (w' : World) : Prop :=
  (x.ct.good = false ∧ Below w.heap.size w w' ∧ ∃ a1 l1 k1 a2 l2 k2 mo a3 l3 k3, e = .returned (.tuple #[.agg #[.slice a1 l1 k1, .slice a2 l2 k2, .map mo, .slice a3 l3 k3], .bool false])) ∨
  ∃ mb g n c, e = .returned (.tuple #[.agg #[.slice x.A1 x.n1 x.c1, .slice x.A2 x.n2 x.c2, .map (some mb), .slice (some ⟨g, 0, none⟩) n c], .bool true]) ∧ CkY x w w' mb g n c

set_option maxRecDepth 100000 in
set_option maxHeartbeats 16000000 in
theorem checkContract (x : Kt) (w : World) (h : LiC w w.heap.size x) (hw : x.ct.wt ≤ 1048576) : Calls Try.prog 17 #[x.val] w (CkAns x w) := by
  obtain ⟨X, hX⟩ : ∃ X, X = (w.alloc (.cells #[.slice x.A1 x.n1 x.c1, .slice x.A2 x.n2 x.c2] 30)).alloc (.cells #[.slice none 0 0, .slice none 0 0, .map none, .slice none 0 0] 43) := ⟨_, rfl⟩
  have B0 : Below w.heap.size w X := by rw [hX]; exact (below1 _ _).alloc (by simp) _
  have Z0 : Hid (Bk (w.heap.size + 1) X [.slice none 0 0, .slice none 0 0, .map none, .slice none 0 0]) := Lib.hid (by
    rw [hX]
    have := Bk.new (w.alloc (.cells #[.slice x.A1 x.n1 x.c1, .slice x.A2 x.n2 x.c2] 30)) #[.slice none 0 0, .slice none 0 0, .map none, .slice none 0 0] 43
    rw [World.size_alloc] at this
    exact this)
  have hcm : x.n2 ≤ 9223372036854775807 := Nat.le_trans h.c.nc h.c.cm
  obtain ⟨t0, e0⟩ : ∃ t, t = (okN x.ss && (decide (2 ≤ x.ss.length) && decide (x.ss.length ≤ 4))) := ⟨_, rfl⟩
  have HPL : Hid (∀ v, Below w.heap.size w v → Calls Try.prog 27 #[.slice x.A1 x.n1 x.c1] v fun e w' => e = .returned (.bool t0) ∧ v = w') := Lib.hid fun v hv => isPartyList x.A1 x.n1 x.c1 x.ss v ((h.p.below hv).more hv.size) t0 e0
  have HLEN : Hid (x.n2 = x.ms.length ∧ x.ct.ls.length = x.n2 ∧ x.ct.ss.length = x.n1) := Lib.hid ⟨h.c.len, by rw [h.c.len]; simp [Kt.ct], by rw [h.p.len]; rfl⟩
  have HL := Lib.hid h
  have HT0 : Hid (t0 = (okN x.ct.ss && (decide (2 ≤ x.ct.ss.length) && decide (x.ct.ss.length ≤ 4)))) := Lib.hid e0
  have HWT : Hid (∀ m ∈ x.ms, m.cl.wt ≤ 1048576) := Lib.hid fun m hm => Nat.le_trans (wtL_mem (List.mem_map.2 ⟨m, hm, rfl⟩)) (by simp only [Ct.wt, Kt.ct] at hw; omega)
  have HXX := Lib.hid (lp_start w x)
  have HGD : Hid (x.ct.good = true → t0 = true ∧ 1 ≤ x.n2 ∧ x.n2 ≤ 12) := Lib.hid fun hg => by
    have h1 := good_len hg
    have h2 := HLEN.out
    have h3 : (okN x.ct.ss && (decide (2 ≤ x.ct.ss.length) && decide (x.ct.ss.length ≤ 4))) = true := by
      simp only [Ct.good, Bool.and_eq_true] at hg
      simp only [Bool.and_eq_true]
      exact hg.1.1.2
    exact ⟨by rw [e0]; exact h3, by omega, by omega⟩
  have HFA : Hid (x.ct.good = false → ∀ v, Below w.heap.size w v → CkAns x w (.returned (.tuple #[.agg #[.slice none 0 0, .slice none 0 0, .map none, .slice none 0 0], .bool false])) v) := Lib.hid fun hg v hv => .inl ⟨hg, hv, _, _, _, _, _, _, _, _, _, _, rfl⟩
  have hmm := @run_makeMap Try.prog
  have HB := Lib.hid B0
  have HX := Lib.hid hX
  clear h hw B0 hX e0
  go_enter Try.func17, Try.ntmps17
  by_cases hbad : t0 = false ∨ x.n2 < 1 ∨ 12 < x.n2
  · have HG : Hid (x.ct.good = false) := Lib.hid (by
      cases hg : x.ct.good with
      | false => rfl
      | true =>
        obtain ⟨h1, h2, h3⟩ := HGD.out hg
        rcases hbad with h | h | h
        · rw [h1] at h; cases h
        · omega
        · omega)
    have y0 := Z0.out.c 0 (by simp)
    have y1 := Z0.out.c 1 (by simp)
    have y2 := Z0.out.c 2 (by simp)
    have y3 := Z0.out.c 3 (by simp)
    have yf0 := Z0.out.fz 0
    have yf1 := Z0.out.fz 1
    have yf2 := Z0.out.fz 2
    have yf3 := Z0.out.fz 3
    simp only [List.getElem_cons_succ, List.getElem_cons_zero] at y0 y1 y2 y3
    rw [HX.out] at y0 y1 y2 y3 yf0 yf1 yf2 yf3
    have HBX : Hid (Below w.heap.size w ((w.alloc (.cells #[.slice x.A1 x.n1 x.c1, .slice x.A2 x.n2 x.c2] 30)).alloc (.cells #[.slice none 0 0, .slice none 0 0, .map none, .slice none 0 0] 43))) := Lib.hid (by rw [← HX.out]; exact HB.out)
    cases t0
    · clear hbad
      go_wp2_with (go_at_call 27; (try rw [← HX.out]); refine (HPL.out _ HB.out).mono ?_; rintro e w2 ⟨rfl, rfl⟩; (try rw [HX.out]))
      exact bodyPost_ret (v := .tuple #[.agg #[.slice none 0 0, .slice none 0 0, .map none, .slice none 0 0], .bool false]) (by simp [results, Try.results17, go_sem, y0, y1, y2, y3]) rfl (HFA.out HG.out _ HBX.out)
    by_cases h1 : x.n2 < 1
    · have g1 : (x.n2 : Int) < 1 := by omega
      clear hbad h1
      go_wp2_with (go_at_call 27; (try rw [← HX.out]); refine (HPL.out _ HB.out).mono ?_; rintro e w2 ⟨rfl, rfl⟩; (try rw [HX.out]))
      exact bodyPost_ret (v := .tuple #[.agg #[.slice none 0 0, .slice none 0 0, .map none, .slice none 0 0], .bool false]) (by simp [results, Try.results17, go_sem, y0, y1, y2, y3]) rfl (HFA.out HG.out _ HBX.out)
    · have g1 : ¬ ((x.n2 : Int) < 1) := by omega
      have g2 : (12 : Int) < (x.n2 : Int) := by
        rcases hbad with h | h | h
        · cases h
        · omega
        · omega
      clear hbad h1
      go_wp2_with (go_at_call 27; (try rw [← HX.out]); refine (HPL.out _ HB.out).mono ?_; rintro e w2 ⟨rfl, rfl⟩; (try rw [HX.out]))
      exact bodyPost_ret (v := .tuple #[.agg #[.slice none 0 0, .slice none 0 0, .map none, .slice none 0 0], .bool false]) (by simp [results, Try.results17, go_sem, y0, y1, y2, y3]) rfl (HFA.out HG.out _ HBX.out)
  have ht0 : t0 = true := by
    cases t0
    · exact absurd (.inl rfl) hbad
    · rfl
  have h1 : ¬ x.n2 < 1 := fun h => hbad (.inr (.inl h))
  have h12 : x.n2 ≤ 12 := Nat.not_lt.1 fun h => hbad (.inr (.inr h))
  subst ht0
  have g1 : ¬ ((x.n2 : Int) < 1) := by omega
  have g2 : ¬ ((12 : Int) < (x.n2 : Int)) := by omega
  have HN1 : Hid (1 ≤ x.n2) := Lib.hid (by omega)
  clear hbad h1 HGD
  go_wp2_with (go_at_call 27; (try rw [← HX.out]); refine (HPL.out _ HB.out).mono ?_; rintro e w2 ⟨rfl, rfl⟩; (try rw [HX.out]))
  go_loopw [33] (fun i wr => ∃ k : Nat, k ≤ x.n2 ∧ i = .int .i64 k ∧ Hid (Lp w wr x k) ∧ Hid (∀ j, ∀ hj : j < x.ct.ls.length, j < k → numB (x.ct.ls.take j) x.ct.ls[j].id = false ∧ okV x.ct.ss.length x.ct.ls[j] = true)) (fun i _ => x.n2 - (intOf i).toNat)
  case atStart => exact ⟨0, Nat.zero_le _, rfl, HXX, Lib.hid fun j _ h => by omega⟩
  case round =>
    clear HXX HX HB
    obtain ⟨k, hk, rfl, HLP, HOK⟩ := hrel
    by_cases hlt : k < x.n2
    · have hk' : k < x.ms.length := by have := HLEN.out; omega
      have hkl : k < x.ct.ls.length := by have := HLEN.out; omega
      obtain ⟨b, o, e, hBb, hc⟩ := HL.out.c.at_ (by omega)
      obtain ⟨p, hp⟩ : ∃ p, p = x.ms[k] := ⟨_, rfl⟩
      have HCP : Hid (CAt x k p) := Lib.hid ⟨hk', hp⟩
      have HPC : Hid (x.ct.ls[k] = p.cl) := Lib.hid (HCP.out.cl.2)
      have hE := (hc k hk').alike (HLP.out.bel.block b hBb)
      rw [← hp] at hE
      obtain ⟨c0, c1, c2', c3, c4, c5, c6, c7, c8, c9, c10, c11⟩ := e12 hE
      have i0 : (0 : Int) ≤ (k : Int) := by omega
      have i1 : (k : Int) < (x.n2 : Int) := by omega
      have p1 := HLP.out.b0.c 1 (by simp)
      simp only [List.getElem_cons_succ, List.getElem_cons_zero] at p1
      obtain ⟨U, hU⟩ : ∃ U, U = wr.alloc (.cells #[.string p.id, .int .i64 p.kind, .int .i64 p.party, .string p.act, .int .i64 p.other, .int .i64 p.amt, .int .i64 p.k.op, .string p.k.nm, .int .i64 p.k.day, .slice p.k.A p.k.ps.length p.k.cap, .int .i64 p.within, .string p.rep] 60) := ⟨_, rfl⟩
      have hUb : Below wr.heap.size wr U := by rw [hU]; exact below1 _ _
      have LU := Lib.hid (HLP.out.on hUb)
      have HLU := Lib.hid (HL.out.below LU.out.bel)
      have CU : Hid (Bk wr.heap.size U p.cells) := Lib.hid (by rw [hU]; exact Bk.new _ _ _)
      have HSI := Lib.hid (HL.out.clause HCP.out).si
      have HVA : Hid (∀ ok, ok = okV x.n1 p.cl → Calls Try.prog 28 #[p.val, .int .i64 (x.n1 : Int)] U fun e w' => e = .returned (.bool ok) ∧ Below U.heap.size U w') := Lib.hid fun ok hok => isValidAlone x.n1 p U ((HLU.out.clause HCP.out).more LU.out.bel.size) (HWT.out p (by rw [hp]; exact List.getElem_mem hk')) ok hok
      have q0 := LU.out.b0.c 0 (by simp)
      have q3 := LU.out.b3.c 2 (by simp)
      have y0 := LU.out.b1.c 0 (by simp)
      have y1 := LU.out.b1.c 1 (by simp)
      have y2 := LU.out.b1.c 2 (by simp)
      have y3 := LU.out.b1.c 3 (by simp)
      have yf0 := LU.out.b1.fz 0
      have yf1 := LU.out.b1.fz 1
      have yf2 := LU.out.b1.fz 2
      have yf3 := LU.out.b1.fz 3
      obtain ⟨d0, d1, d2, d3, d4, d5, d6, d7, d8, d9, d10, d11⟩ := b12 CU.out
      simp only [List.getElem_cons_succ, List.getElem_cons_zero] at q0 q3 y0 y1 y2 y3
      rw [hU] at q0 q3 y0 y1 y2 y3 yf0 yf1 yf2 yf3 d0 d1 d2 d3 d4 d5 d6 d7 d8 d9 d10 d11
      have HUU := Lib.hid hU
      rw [e] at p1 ⊢
      obtain ⟨t, ht⟩ : ∃ t, t = numB (x.ct.ls.take k) p.id := ⟨_, rfl⟩
      have HT := Lib.hid ht
      clear hp hE hc hBb hU hUb e ht
      cases t
      rotate_left
      · have HG : Hid (x.ct.good = false) := Lib.hid (good_no hkl (.inl (by rw [HPC.out]; exact HT.out.symm)))
        go_wp2_with (at_lookup; (try rw [← HUU.out]); refine wp_look rfl _ _ rfl (w.heap.size + 1 + 1) k (x.ct.ls.take k) rfl p.id rfl LU.out.nm HSI.out ?_; (try rw [← HT.out]); refine Hid.out ?_)
        refine Lib.hid ?_
        clear y0 y1 y2 y3 yf0 yf1 yf2 yf3 q0 q3 d0 d1 d2 d3 d4 d5 d6 d7 d8 d9 d10 d11 c0 c1 c2' c3 c4 c5 c6 c7 c8 c9 c10 c11 p1
        have y0 := LU.out.b1.c 0 (by simp)
        have y1 := LU.out.b1.c 1 (by simp)
        have y2 := LU.out.b1.c 2 (by simp)
        have y3 := LU.out.b1.c 3 (by simp)
        have yf0 := LU.out.b1.fz 0
        have yf1 := LU.out.b1.fz 1
        have yf2 := LU.out.b1.fz 2
        have yf3 := LU.out.b1.fz 3
        simp only [List.getElem_cons_succ, List.getElem_cons_zero] at y0 y1 y2 y3
        have HE1 := Lib.hid (LU.out.b1.put (us := [.slice none 0 0, .slice none 0 0, .map none, .slice none 0 0]) rfl)
        have HE2 := Lib.hid (putL_below (B := w.heap.size) (b := w.heap.size + 1) (by omega) [.slice none 0 0, .slice none 0 0, .map none, .slice none 0 0] 0 LU.out.bel)
        go_wp2_with fail
        have t0 := HE1.out.c 0 (by simp)
        have t1 := HE1.out.c 1 (by simp)
        have t2 := HE1.out.c 2 (by simp)
        have t3 := HE1.out.c 3 (by simp)
        have hbl := HE2.out
        simp only [putL, Nat.reduceAdd, Nat.zero_add, List.getElem_cons_succ, List.getElem_cons_zero] at t0 t1 t2 t3 hbl
        exact bodyPost_ret (v := .tuple #[.agg #[.slice none 0 0, .slice none 0 0, .map none, .slice none 0 0], .bool false]) (by simp [results, Try.results17, go_sem, t0, t1, t2, t3]) rfl (HFA.out HG.out _ hbl)
      · obtain ⟨v, hv⟩ : ∃ v, v = okV x.n1 p.cl := ⟨_, rfl⟩
        have HV := Lib.hid (HVA.out v hv)
        have HVV : Hid (v = okV x.ct.ss.length x.ct.ls[k]) := Lib.hid (by rw [hv, HPC.out, HLEN.out.2.2])
        go_wp2_with (at_lookup; (try rw [← HUU.out]); refine wp_look rfl _ _ rfl (w.heap.size + 1 + 1) k (x.ct.ls.take k) rfl p.id rfl LU.out.nm HSI.out ?_; (try rw [← HT.out]); refine Hid.out ?_)
        refine Lib.hid ?_
        clear hv HVA y0 y1 y2 y3 yf0 yf1 yf2 yf3 q0 q3 d0 d1 d2 d3 d4 d5 d6 d7 d8 d9 d10 d11 c0 c1 c2' c3 c4 c5 c6 c7 c8 c9 c10 c11 p1
        obtain ⟨d0, d1, d2, d3, d4, d5, d6, d7, d8, d9, d10, d11⟩ := b12 CU.out
        have q0 := LU.out.b0.c 0 (by simp)
        simp only [List.getElem_cons_zero] at q0
        cases v
        · have HG : Hid (x.ct.good = false) := Lib.hid (good_no hkl (.inr (.inl HVV.out.symm)))
          go_wp2_with (go_at_call 28; refine HV.out.mono ?_; rintro e U2 ⟨rfl, hb2⟩; refine Hid.out ?_)
          refine Lib.hid ?_
          have L2 := Lib.hid (LU.out.on hb2)
          clear hb2 d0 d1 d2 d3 d4 d5 d6 d7 d8 d9 d10 d11 q0
          have y0 := L2.out.b1.c 0 (by simp)
          have y1 := L2.out.b1.c 1 (by simp)
          have y2 := L2.out.b1.c 2 (by simp)
          have y3 := L2.out.b1.c 3 (by simp)
          have yf0 := L2.out.b1.fz 0
          have yf1 := L2.out.b1.fz 1
          have yf2 := L2.out.b1.fz 2
          have yf3 := L2.out.b1.fz 3
          simp only [List.getElem_cons_succ, List.getElem_cons_zero] at y0 y1 y2 y3
          have HE1 := Lib.hid (L2.out.b1.put (us := [.slice none 0 0, .slice none 0 0, .map none, .slice none 0 0]) rfl)
          have HE2 := Lib.hid (putL_below (B := w.heap.size) (b := w.heap.size + 1) (by omega) [.slice none 0 0, .slice none 0 0, .map none, .slice none 0 0] 0 L2.out.bel)
          go_wp2_with fail
          have t0 := HE1.out.c 0 (by simp)
          have t1 := HE1.out.c 1 (by simp)
          have t2 := HE1.out.c 2 (by simp)
          have t3 := HE1.out.c 3 (by simp)
          have hbl := HE2.out
          simp only [putL, Nat.reduceAdd, Nat.zero_add, List.getElem_cons_succ, List.getElem_cons_zero] at t0 t1 t2 t3 hbl
          exact bodyPost_ret (v := .tuple #[.agg #[.slice none 0 0, .slice none 0 0, .map none, .slice none 0 0], .bool false]) (by simp [results, Try.results17, go_sem, t0, t1, t2, t3]) rfl (HFA.out HG.out _ hbl)
        · go_wp2_with (go_at_call 28; refine HV.out.mono ?_; rintro e U2 ⟨rfl, hb2⟩; refine Hid.out ?_)
          refine Lib.hid ?_
          have L2 := Lib.hid (LU.out.on hb2)
          have C2 := Lib.hid (CU.out.on hb2)
          clear hb2 d0 d1 d2 d3 d4 d5 d6 d7 d8 d9 d10 d11 q0
          have d0 := (b12 C2.out).1
          have q3 := L2.out.b3.c 2 (by simp)
          simp only [List.getElem_cons_succ, List.getElem_cons_zero] at q3
          have HTL : Hid ((x.ct.ls.take k).length = k) := Lib.hid (by rw [List.length_take]; omega)
          have HTS : Hid (x.ct.ls.take k ++ [p.cl] = x.ct.ls.take (k + 1)) := Lib.hid (by rw [← HPC.out]; exact take_snoc hkl)
          have HOK2 : Hid (∀ j, ∀ hj : j < x.ct.ls.length, j < k + 1 → numB (x.ct.ls.take j) x.ct.ls[j].id = false ∧ okV x.ct.ss.length x.ct.ls[j] = true) := Lib.hid fun j hj hjk => by
            by_cases e : j = k
            · subst e; exact ⟨by rw [HPC.out]; exact HT.out.symm, HVV.out.symm⟩
            · exact HOK.out j hj (by omega)
          go_wp2_with (at_mapUpdate; refine wp_store rfl _ _ _ rfl (w.heap.size + 1 + 1) k (x.ct.ls.take k) rfl p.cl rfl k HTL.out.symm rfl L2.out.nm HSI.out (by omega) (by rw [HTL.out]; omega) HT.out.symm ?_; intro w3 hn3 hg3; refine Hid.out ?_)
          refine Lib.hid ?_
          have L3 := Lib.hid (L2.out.stored hn3 HTS.out hg3)
          clear hn3 hg3 d0 q3
          go_wp2_with fail
          go_roundw
          case rel => exact ⟨k + 1, by omega, by go_num, L3, HOK2⟩
          case measure => simp [intOf]; omega
    · have hkn : k = x.n2 := by omega
      subst hkn
      have HNM : Hid (x.ct.ls.take x.n2 = x.ct.ls) := Lib.hid (List.take_of_length_le (by have := HLEN.out; omega))
      have HOKA : Hid (∀ j, ∀ hj : j < x.ct.ls.length, numB (x.ct.ls.take j) x.ct.ls[j].id = false ∧ okV x.ct.ss.length x.ct.ls[j] = true) := Lib.hid fun j hj => HOK.out j hj (by have := HLEN.out; omega)
      clear HOK
      have p1 := HLP.out.b0.c 1 (by simp)
      simp only [List.getElem_cons_succ, List.getElem_cons_zero] at p1
      go_wp2_with fail
      go_loopw [65] (fun i wr => ∃ k : Nat, k ≤ x.n2 ∧ i = .int .i64 k ∧ Hid (Lp w wr x x.n2) ∧ Hid (∀ j, ∀ hj : j < x.ct.ls.length, j < k → okP x.ct.ls j x.ct.ls[j] = true)) (fun i _ => x.n2 - (intOf i).toNat)
      case atStart => exact ⟨0, Nat.zero_le _, rfl, HLP, Lib.hid fun j _ h => by omega⟩
      case round =>
        clear HLP p1
        obtain ⟨k, hk, rfl, HLP, HOK⟩ := hrel
        by_cases hlt : k < x.n2
        · have hk' : k < x.ms.length := by have := HLEN.out; omega
          have hkl : k < x.ct.ls.length := by have := HLEN.out; omega
          obtain ⟨p, hp⟩ : ∃ p, p = x.ms[k] := ⟨_, rfl⟩
          have HCP : Hid (CAt x k p) := Lib.hid ⟨hk', hp⟩
          have HPC : Hid (x.ct.ls[k] = p.cl) := Lib.hid (HCP.out.cl.2)
          have i0 : (0 : Int) ≤ (k : Int) := by omega
          have i1 : (k : Int) < (x.n2 : Int) := by omega
          obtain ⟨v, hv⟩ : ∃ v, v = okP x.ct.ls k p.cl := ⟨_, rfl⟩
          have HV := Lib.hid (hasValidRepair x (w.heap.size + 1 + 1) none 0 0 k p wr ((HL.out.below HLP.out.bel).more HLP.out.bel.size) HCP.out ((by have := HLP.out.nm; rw [HNM.out] at this; exact this.more h12)) v hv)
          have HVV : Hid (v = okP x.ct.ls k x.ct.ls[k]) := Lib.hid (by rw [hv, HPC.out])
          have q0 := HLP.out.b3.c 0 (by simp)
          have q1 := HLP.out.b3.c 1 (by simp)
          have q2 := HLP.out.b3.c 2 (by simp)
          have q3 := HLP.out.b3.c 3 (by simp)
          simp only [List.getElem_cons_succ, List.getElem_cons_zero] at q0 q1 q2 q3
          clear hp hv
          cases v
          · have HG : Hid (x.ct.good = false) := Lib.hid (good_no hkl (.inr (.inr HVV.out.symm)))
            go_wp2_with (go_at_call 29; refine HV.out.mono ?_; rintro e U2 ⟨rfl, hb2⟩; refine Hid.out ?_)
            refine Lib.hid ?_
            have L2 := Lib.hid (HLP.out.on hb2)
            clear hb2 q0 q1 q2 q3
            have y0 := L2.out.b1.c 0 (by simp)
            have y1 := L2.out.b1.c 1 (by simp)
            have y2 := L2.out.b1.c 2 (by simp)
            have y3 := L2.out.b1.c 3 (by simp)
            have yf0 := L2.out.b1.fz 0
            have yf1 := L2.out.b1.fz 1
            have yf2 := L2.out.b1.fz 2
            have yf3 := L2.out.b1.fz 3
            simp only [List.getElem_cons_succ, List.getElem_cons_zero] at y0 y1 y2 y3
            have HE1 := Lib.hid (L2.out.b1.put (us := [.slice none 0 0, .slice none 0 0, .map none, .slice none 0 0]) rfl)
            have HE2 := Lib.hid (putL_below (B := w.heap.size) (b := w.heap.size + 1) (by omega) [.slice none 0 0, .slice none 0 0, .map none, .slice none 0 0] 0 L2.out.bel)
            go_wp2_with fail
            have t0 := HE1.out.c 0 (by simp)
            have t1 := HE1.out.c 1 (by simp)
            have t2 := HE1.out.c 2 (by simp)
            have t3 := HE1.out.c 3 (by simp)
            have hbl := HE2.out
            simp only [putL, Nat.reduceAdd, Nat.zero_add, List.getElem_cons_succ, List.getElem_cons_zero] at t0 t1 t2 t3 hbl
            exact bodyPost_ret (v := .tuple #[.agg #[.slice none 0 0, .slice none 0 0, .map none, .slice none 0 0], .bool false]) (by simp [results, Try.results17, go_sem, t0, t1, t2, t3]) rfl (HFA.out HG.out _ hbl)
          · have HOK2 : Hid (∀ j, ∀ hj : j < x.ct.ls.length, j < k + 1 → okP x.ct.ls j x.ct.ls[j] = true) := Lib.hid fun j hj hjk => by
              by_cases e : j = k
              · subst e; exact HVV.out.symm
              · exact HOK.out j hj (by omega)
            go_wp2_with (go_at_call 29; refine HV.out.mono ?_; rintro e U2 ⟨rfl, hb2⟩; refine Hid.out ?_)
            refine Lib.hid ?_
            have L2 := Lib.hid (HLP.out.on hb2)
            clear hb2 q0 q1 q2 q3
            go_wp2_with fail
            go_roundw
            case rel => exact ⟨k + 1, by omega, by go_num, L2, HOK2⟩
            case measure => simp [intOf]; omega
        · have HOKP : Hid (∀ j, ∀ hj : j < x.ct.ls.length, okP x.ct.ls j x.ct.ls[j] = true) := Lib.hid fun j hj => HOK.out j hj (by have := HLEN.out; omega)
          have HGY : Hid (x.ct.good = decide ((Cl.names x.ct.ls).length ≤ 16)) := Lib.hid (good_yes (by have := HLEN.out; have := HN1.out; omega) (by have := HLEN.out; omega) HT0.out.symm HOKA.out HOKP.out)
          have HNO := Lib.hid (namesOf x.A2 x.n2 x.c2 x.ms wr (((HL.out.c.below HLP.out.bel).more HLP.out.bel.size)) h12 (fun m hm => by
            obtain ⟨j, hj, rfl⟩ := List.getElem_of_mem hm
            have h1 := (HOKA.out j (by simpa [Kt.ct] using hj)).2
            obtain ⟨h2, h3⟩ := ct_get hj
            rw [h3] at h1
            simp only [okV, okC, Bool.and_eq_true] at h1
            exact h1.1.1.2))
          have p1 := HLP.out.b0.c 1 (by simp)
          simp only [List.getElem_cons_succ, List.getElem_cons_zero] at p1
          have HMS : Hid (x.ms.map M.cl = x.ct.ls) := Lib.hid rfl
          rw [HMS.out] at HNO
          go_wp2_with (go_at_call 30; refine HNO.out.mono ?_; rintro e w5 ⟨g, n, c, hn, rfl, hown, hb5⟩; have HN := Lib.hid hn; have HO := Lib.hid hown; clear hn hown; refine Hid.out ?_)
          refine Lib.hid ?_
          have L5 := Lib.hid (HLP.out.on hb5)
          have HSG : Hid (w.heap.size + 1 + 1 + 1 < wr.heap.size) := Lib.hid HLP.out.b3.lt
          have HGG : Hid (wr.heap.size ≤ g) := Lib.hid (UniT.own_block HO.out g rfl)
          clear hb5 p1 HNO
          have q0 := L5.out.b3.c 0 (by simp)
          have q1 := L5.out.b3.c 1 (by simp)
          have q2 := L5.out.b3.c 2 (by simp)
          have q3 := L5.out.b3.c 3 (by simp)
          have qf3 := L5.out.b3.fz 3
          have y0 := L5.out.b1.c 0 (by simp)
          have y1 := L5.out.b1.c 1 (by simp)
          have y2 := L5.out.b1.c 2 (by simp)
          have y3 := L5.out.b1.c 3 (by simp)
          have yf0 := L5.out.b1.fz 0
          have yf1 := L5.out.b1.fz 1
          have yf2 := L5.out.b1.fz 2
          have yf3 := L5.out.b1.fz 3
          simp only [List.getElem_cons_succ, List.getElem_cons_zero] at q0 q1 q2 q3 y0 y1 y2 y3
          have HP1 := Lib.hid (L5.out.b1.alike (vs := [.slice none 0 0, .slice none 0 0, .map none, .slice none 0 0]) (w' := putL w5 (w.heap.size + 1 + 1 + 1) 3 [.slice (some ⟨g, 0, none⟩) n c]) (putL_block (by omega) _ _ _))
          have HP2 := Lib.hid (HP1.out.put (us := [.slice x.A1 x.n1 x.c1, .slice x.A2 x.n2 x.c2, .map (some (w.heap.size + 1 + 1)), .slice (some ⟨g, 0, none⟩) n c]) rfl)
          have HP3 : Hid (Below w.heap.size w (putL (putL w5 (w.heap.size + 1 + 1 + 1) 3 [.slice (some ⟨g, 0, none⟩) n c]) (w.heap.size + 1) 0 [.slice x.A1 x.n1 x.c1, .slice x.A2 x.n2 x.c2, .map (some (w.heap.size + 1 + 1)), .slice (some ⟨g, 0, none⟩) n c])) := Lib.hid (putL_below (by omega) _ _ (putL_below (by omega) _ _ L5.out.bel))
          have HP4 : Hid (Nums (putL (putL w5 (w.heap.size + 1 + 1 + 1) 3 [.slice (some ⟨g, 0, none⟩) n c]) (w.heap.size + 1) 0 [.slice x.A1 x.n1 x.c1, .slice x.A2 x.n2 x.c2, .map (some (w.heap.size + 1 + 1)), .slice (some ⟨g, 0, none⟩) n c]) (w.heap.size + 1 + 1) 12 x.ct.ls) := Lib.hid (by
            have h1 := L5.out.nm
            rw [HNM.out] at h1
            exact (nums_kept (nums_kept h1 (putL_grown _ _ _ _) (by simp)) (putL_grown _ _ _ _) (by simp)).more h12)
          have HP5 : Hid (UniT.Own (putL (putL w5 (w.heap.size + 1 + 1 + 1) 3 [.slice (some ⟨g, 0, none⟩) n c]) (w.heap.size + 1) 0 [.slice x.A1 x.n1 x.c1, .slice x.A2 x.n2 x.c2, .map (some (w.heap.size + 1 + 1)), .slice (some ⟨g, 0, none⟩) n c]) w.heap.size (.slice (some ⟨g, 0, none⟩) n c) (Cl.names x.ct.ls)) := Lib.hid (by
            have hs := HSG.out
            have hg := HGG.out
            have h1 := World.ownsRow.kept HO.out (putL_grown w5 (w.heap.size + 1 + 1 + 1) 3 [.slice (some ⟨g, 0, none⟩) n c]) (by simp [Value.ownBlock]; omega)
            have h2 := World.ownsRow.kept h1 (putL_grown _ (w.heap.size + 1) 0 [.slice x.A1 x.n1 x.c1, .slice x.A2 x.n2 x.c2, .map (some (w.heap.size + 1 + 1)), .slice (some ⟨g, 0, none⟩) n c]) (by simp [Value.ownBlock]; omega)
            rcases h2.2 with h3 | ⟨g', cap, cur, hv, hge, r⟩
            · exact ⟨h2.1, .inl h3⟩
            · exact ⟨h2.1, .inr ⟨g', cap, cur, hv, by omega, r⟩⟩)
          by_cases h16 : n ≤ 16
          · have g16 : (n : Int) ≤ 16 := by omega
            have HFIN : Hid (CkAns x w (.returned (.tuple #[.agg #[.slice x.A1 x.n1 x.c1, .slice x.A2 x.n2 x.c2, .map (some (w.heap.size + 1 + 1)), .slice (some ⟨g, 0, none⟩) n c], .bool true])) (putL (putL w5 (w.heap.size + 1 + 1 + 1) 3 [.slice (some ⟨g, 0, none⟩) n c]) (w.heap.size + 1) 0 [.slice x.A1 x.n1 x.c1, .slice x.A2 x.n2 x.c2, .map (some (w.heap.size + 1 + 1)), .slice (some ⟨g, 0, none⟩) n c]).drew) := Lib.hid (.inr ⟨_, g, n, c, rfl, by rw [HGY.out, ← HN.out]; exact decide_eq_true h16, by omega, by have := HSG.out; have := HGG.out; omega, HP4.out.drew, HN.out, HP5.out, HP3.out.drew⟩)
            clear h16 HP3 HP4 HP5 HGY
            go_wp2_with fail
            go_region
            all_goals
              have t0 := HP2.out.drew.c 0 (by simp)
              have t1 := HP2.out.drew.c 1 (by simp)
              have t2 := HP2.out.drew.c 2 (by simp)
              have t3 := HP2.out.drew.c 3 (by simp)
              have hf := HFIN.out
              simp only [putL, Nat.reduceAdd, Nat.zero_add, List.getElem_cons_succ, List.getElem_cons_zero] at t0 t1 t2 t3 hf
              go_wp2_with fail
              exact bodyPost_ret (v := .tuple #[.agg #[.slice x.A1 x.n1 x.c1, .slice x.A2 x.n2 x.c2, .map (some (w.heap.size + 1 + 1)), .slice (some ⟨g, 0, none⟩) n c], .bool true]) (by simp [results, Try.results17, go_sem, t0, t1, t2, t3]; first | done | omega) rfl hf
          · have g16 : ¬ ((n : Int) ≤ 16) := by omega
            have HFIN : Hid (CkAns x w (.returned (.tuple #[.agg #[.slice x.A1 x.n1 x.c1, .slice x.A2 x.n2 x.c2, .map (some (w.heap.size + 1 + 1)), .slice (some ⟨g, 0, none⟩) n c], .bool false])) (putL (putL w5 (w.heap.size + 1 + 1 + 1) 3 [.slice (some ⟨g, 0, none⟩) n c]) (w.heap.size + 1) 0 [.slice x.A1 x.n1 x.c1, .slice x.A2 x.n2 x.c2, .map (some (w.heap.size + 1 + 1)), .slice (some ⟨g, 0, none⟩) n c]).drew) := Lib.hid (.inl ⟨by rw [HGY.out, ← HN.out]; exact decide_eq_false h16, HP3.out.drew, _, _, _, _, _, _, _, _, _, _, rfl⟩)
            clear h16 HP3 HP4 HP5 HGY
            go_wp2_with fail
            go_region
            all_goals
              have t0 := HP2.out.drew.c 0 (by simp)
              have t1 := HP2.out.drew.c 1 (by simp)
              have t2 := HP2.out.drew.c 2 (by simp)
              have t3 := HP2.out.drew.c 3 (by simp)
              have hf := HFIN.out
              simp only [putL, Nat.reduceAdd, Nat.zero_add, List.getElem_cons_succ, List.getElem_cons_zero] at t0 t1 t2 t3 hf
              go_wp2_with fail
              exact bodyPost_ret (v := .tuple #[.agg #[.slice x.A1 x.n1 x.c1, .slice x.A2 x.n2 x.c2, .map (some (w.heap.size + 1 + 1)), .slice (some ⟨g, 0, none⟩) n c], .bool false]) (by simp [results, Try.results17, go_sem, t0, t1, t2, t3]; first | done | omega) rfl hf

set_option maxHeartbeats 4000000 in
theorem implValid (x : Kt) (w : World) (h : LiC w w.heap.size x) (hw : x.ct.wt ≤ 1048576) :
    Calls Try.prog 8 #[x.val] w fun e w' => e = .returned (.bool x.ct.good) ∧ Below w.heap.size w w' := by
  obtain ⟨X, hX⟩ : ∃ X, X = w.alloc (.cells #[.slice x.A1 x.n1 x.c1, .slice x.A2 x.n2 x.c2] 30) := ⟨_, rfl⟩
  have B0 : Below w.heap.size w X := by rw [hX]; exact below1 _ _
  have HC := Lib.hid (checkContract x X (h.on B0) hw)
  have HB := Lib.hid B0
  have HX := Lib.hid hX
  clear h hw B0 hX
  go_enter Try.func8, Try.ntmps8
  go_wp2_with (go_at_call 17; (try rw [← HX.out]); refine HC.out.mono ?_; (rintro e w2 (⟨hg, hb, a1, l1, k1, a2, l2, k2, mo, a3, l3, k3, rfl⟩ | ⟨mb, g, n, c, rfl, hy⟩)); all_goals refine Hid.out ?_)
  · refine Lib.hid ?_
    have HG := Lib.hid hg
    have HB2 := Lib.hid (HB.out.trans (hb.mono HB.out.size))
    clear hg hb
    go_wp2_with fail
    go_ret
    exact ⟨by rw [HG.out]; rfl, HB2.out.alloc HB2.out.size _⟩
  · refine Lib.hid ?_
    have HG := Lib.hid hy.good
    have HB2 := Lib.hid (HB.out.trans (hy.bel.mono HB.out.size))
    clear hy
    go_wp2_with fail
    go_ret
    exact ⟨by rw [HG.out]; rfl, HB2.out.alloc HB2.out.size _⟩

end Go.Proofs.Ytlionlbihmldlaa.Cl
