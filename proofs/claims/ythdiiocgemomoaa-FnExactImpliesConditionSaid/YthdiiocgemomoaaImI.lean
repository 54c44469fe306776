/-
  findCase and ImpliesCondition of the program.
-/
import Derived.Test.YthdiiocgemomoaaImT
import Derived.Test.YthdiiocgemomoaaGoodI
import Derived.Deep.RegionHeld3
namespace Go.Proofs.Ythdiiocgemomoaa.Cond
open Go.RowKit Go.Proofs.Ythdiiocgemomoaa.NdI Go.Proofs.Ythdiiocgemomoaa.NdS
set_option linter.unusedVariables false
set_option linter.unusedSimpArgs false

theorem wantedI (x y : Bool) (w : World) : Calls Try.prog 26 #[.bool x, .bool y] w fun e w' => e = .returned (.bool (x && !y)) ∧ w = w' := by
  cases x
  all_goals go_enter Try.func26, Try.ntmps26
  all_goals go_wp2_with fail
  all_goals go_ret
  all_goals exact ⟨rfl, rfl⟩

theorem at_two (w : World) (ka kb : K) (T : TypeId) : At (w.alloc (.cells #[.int .i64 ka.op, .string ka.nm, .int .i64 ka.day, .slice ka.A ka.ps.length ka.cap, .int .i64 kb.op, .string kb.nm, .int .i64 kb.day, .slice kb.A kb.ps.length kb.cap] T)) (w.heap.size + 1) (some ⟨w.heap.size, 0, none⟩) [ka, kb] := fun _ => ⟨w.heap.size, 0, rfl, by omega, fun i hi => by
  match i, hi with
  | 0, _ => exact ⟨by simp [go_sem], by simp [go_sem], by simp [go_sem], by simp [go_sem]⟩
  | 1, _ => exact ⟨by simp [go_sem], by simp [go_sem], by simp [go_sem], by simp [go_sem]⟩⟩
theorem cols_two (a b : Q) : cols [a.c, b.c] ([], []) = (nms a.c ++ nms b.c, dys a.c ++ dys b.c) := by
  simp only [cols, List.foldl_cons, List.foldl_nil]
  rw [col_q, col_q]; simp

/-- The days that the program tries. -/
abbrev D2 (a b : C) : List Int := UniMath.uni [] (dys a ++ dys b) ++ [0]
theorem mem_D2 (a b : C) (d : Int) : d ∈ D2 a b ↔ d ∈ DD a b := by
  simp only [D2, DD, UniMath.mem_uni, List.mem_cons, List.mem_append, List.not_mem_nil, false_or, or_false]
  exact Or.comm
theorem D2_len (a b : C) : (D2 a b).length ≤ a.size + b.size + 1 := by
  have h3 := UniMath.length_uni (dys a ++ dys b) []
  have h4 := dys_len a
  have h5 := dys_len b
  simp at h3
  show (UniMath.uni [] (dys a ++ dys b) ++ [0]).length ≤ _
  simp; omega
theorem own_grown {B e n c g : Nat} {v v' : World} {xs : List Value} (h : v.ownsRow B e 1 (.slice (some ⟨g, 0, none⟩) n c) n xs) (hb : v'.heap[g]? = v.heap[g]?) : v'.ownsRow B e 1 (.slice (some ⟨g, 0, none⟩) n c) n xs := own_same h hb
theorem own_someI {w : World} {S n c : Nat} {a : Option Addr} {D : List Int} (h : UniS.Own w S (.slice a n c) D) (h0 : 0 < D.length) : ∃ g, a = some ⟨g, 0, none⟩ ∧ S ≤ g := by
  rcases h.2 with ⟨_, h2⟩ | ⟨g, cap, cur, hv, hg, _⟩
  · omega
  · injection hv with e1 e2 e3
    exact ⟨g, e1, hg⟩
theorem own_lt {w : World} {S n c g e : Nat} {m : Nat} {xs : List Value} (h : w.ownsRow S e 1 (.slice (some ⟨g, 0, none⟩) n c) m xs) : S ≤ g ∧ g < w.heap.size := by
  rcases h.2 with ⟨hv, _⟩ | ⟨g', cap, cur, hv, hg, hh, _⟩
  · cases hv
  · injection hv with e1
    injection e1 with e1
    injection e1 with e1
    subst e1
    exact ⟨hg, (Array.getElem?_eq_some_iff.1 hh).1⟩
theorem own_cellT {w : World} {S g n c : Nat} {N : List (List UInt8)} (h : UniT.Own w S (.slice (some ⟨g, 0, none⟩) n c) N) (hn : n = N.length) {k : Nat} (hk : k < N.length) : w.cell? ⟨g, k, none⟩ = some (.string ⟨N[k].toArray⟩) := by
  unfold UniT.Own at h
  rw [← hn] at h
  rw [h.cellAt k (by omega)]
  simp [hk]

/-- The closure knows the names of a set. -/
theorem knows {w : World} {S g n c f0 f1 m : Nat} {N : List (List UInt8)} (ho : UniT.Own w S (.slice (some ⟨g, 0, none⟩) n c) N) (hn : n = N.length) (hs : N.Pairwise (· < ·)) (hl : n ≤ 10) (hm : m ≤ 1024) (l0 : f0 < w.heap.size) (l1 : f1 < w.heap.size) (h0 : w.cell? ⟨f0, 0, none⟩ = some (.slice (some ⟨g, 0, none⟩) n c)) (h1 : w.cell? ⟨f1, 0, none⟩ = some (.int .i64 (m : Int)))
    (x : ByteArray) (hx : x.toList ∈ N) (v : World) (hb : Below w.heap.size w v) :
    Calls Try.prog 44 #[.string x, .pointer (some ⟨f0, 0, none⟩), .pointer (some ⟨f1, 0, none⟩)] v fun e w' => e = .returned (.bool (has (UniT.strs (sub N m N.length)) x)) ∧ Below v.heap.size v w' := by
  obtain ⟨i, hi, e⟩ := List.mem_iff_getElem.1 hx
  rw [has_bit hs hi x e.symm m]
  have ho' := row_on ho hb
  exact knowsF g c n f0 f1 i m x v (by omega) (by omega) ((hb.cell (p := ⟨f0, 0, none⟩) l0).trans h0) ((hb.cell (p := ⟨f1, 0, none⟩) l1).trans h1) (Bs.search g c n N x v hn (by omega) i hi e.symm hs (fun j h => own_cellT ho' hn h))

set_option maxRecDepth 100000 in
set_option maxHeartbeats 16000000 in
theorem findCase (ka kb : K) (w : World) (hla : Lies w w.heap.size ka) (hlb : Lies w w.heap.size kb) (hwa : ka.cond.wt ≤ 1048576) (hwb : kb.cond.wt ≤ 1048576) (x y : Bool) (hx : ImIs ka.cond kb.cond x y) :
    Calls Try.prog 25 #[ka.val, kb.val, .func (.func 26) #[] #[]] w fun e w' => e = .returned (.tuple #[.bool (y && !x), .bool y]) ∧ Below w.heap.size w w' := by
  obtain ⟨X, hX⟩ : ∃ X, X = (w.alloc (.cells #[.int .i64 ka.op, .string ka.nm, .int .i64 ka.day, .slice ka.A ka.ps.length ka.cap] 28)).alloc (.cells #[.int .i64 kb.op, .string kb.nm, .int .i64 kb.day, .slice kb.A kb.ps.length kb.cap] 28) := ⟨_, rfl⟩
  have B0 : Hid (Below w.heap.size w X) := Lib.hid (by rw [hX]; exact (below1 _ _).alloc (by simp) _)
  have X0 : Hid (B4 w.heap.size X (.int .i64 ka.op) (.string ka.nm) (.int .i64 ka.day) (.slice ka.A ka.ps.length ka.cap)) := Lib.hid (by rw [hX]; exact (B4.new _ _ _ _ _ _).alloc _)
  have Y0 : Hid (B4 (w.heap.size + 1) X (.int .i64 kb.op) (.string kb.nm) (.int .i64 kb.day) (.slice kb.A kb.ps.length kb.cap)) := Lib.hid (by rw [hX]; have := B4.new (w.alloc (.cells #[.int .i64 ka.op, .string ka.nm, .int .i64 ka.day, .slice ka.A ka.ps.length ka.cap] 28)) (.int .i64 kb.op) (.string kb.nm) (.int .i64 kb.day) (.slice kb.A kb.ps.length kb.cap) 28; simpa using this)
  have HGA := implGood ka X (hla.on B0.out) hwa
  have HGB : Hid (∀ v, Below w.heap.size w v → Calls Try.prog 18 #[kb.val] v fun e w' => e = .returned (.bool kb.cond.good) ∧ Below v.heap.size v w') := Lib.hid fun v hv => implGood kb v (hlb.on hv) hwb
  have HLA : Hid (∀ v, Below w.heap.size w v → Lies v v.heap.size ka) := Lib.hid fun v hv => hla.on hv
  have HLB : Hid (∀ v, Below w.heap.size w v → Lies v v.heap.size kb) := Lib.hid fun v hv => hlb.on hv
  have HX := Lib.hid hx
  have HXX := Lib.hid hX
  clear hla hlb hwa hwb hx hX
  obtain ⟨ga, hga⟩ : ∃ g, g = ka.cond.good := ⟨_, rfl⟩
  obtain ⟨gb, hgb⟩ : ∃ g, g = kb.cond.good := ⟨_, rfl⟩
  rw [← hga] at HGA
  rw [← hgb] at HGB
  have HGG := Lib.hid (And.intro hga hgb)
  have HGAH := Lib.hid HGA
  clear hga hgb HGA
  cases ga
  · have HE := Lib.hid (HX.out.no (by rw [← HGG.out.1]; rfl))
    go_enter Try.func25, Try.ntmps25
    go_wp2_with (go_at_call 18; (try rw [← HXX.out]); refine HGAH.out.mono ?_; rintro e w2 ⟨rfl, hb2⟩)
    go_ret2
    exact ⟨by rw [HE.out.1, HE.out.2]; rfl, B0.out.trans (hb2.mono B0.out.size)⟩
  go_enter Try.func25, Try.ntmps25
  go_wp2_with (go_at_call 18; (try rw [← HXX.out]); refine HGAH.out.mono ?_; rintro e wA ⟨rfl, hb2⟩; refine Hid.out ?_)
  refine Lib.hid ?_
  have BA := Lib.hid (B0.out.trans (hb2.mono B0.out.size))
  have XA := Lib.hid (X0.out.on hb2)
  have YA := Lib.hid (Y0.out.on hb2)
  obtain ⟨_, y0, y1, y2, y3, _⟩ := YA.out
  have HGB2 := Lib.hid (HGB.out wA BA.out)
  clear hb2 HGAH
  cases gb
  · have HE := Lib.hid (HX.out.no (by rw [← HGG.out.1, ← HGG.out.2]; rfl))
    go_wp2_with (go_at_call 18; refine HGB2.out.mono ?_; rintro e w2 ⟨rfl, hb2⟩)
    go_ret2
    exact ⟨by rw [HE.out.1, HE.out.2]; rfl, BA.out.trans (hb2.mono BA.out.size)⟩
  go_wp2_with (go_at_call 18; refine HGB2.out.mono ?_; rintro e wB ⟨rfl, hb2⟩; refine Hid.out ?_)
  refine Lib.hid ?_
  have BB := Lib.hid (BA.out.trans (hb2.mono BA.out.size))
  have XB := Lib.hid (XA.out.on hb2)
  have YB := Lib.hid (YA.out.on hb2)
  clear y0 y1 y2 y3 hb2 HGB2 HGB
  obtain ⟨_, x0, x1, x2, x3, _⟩ := XB.out
  obtain ⟨_, y0, y1, y2, y3, _⟩ := YB.out
  obtain ⟨qa, hqa, _, hsa⟩ := good_q HGG.out.1.symm
  obtain ⟨qb, hqb, _, hsb⟩ := good_q HGG.out.2.symm
  have hsa' : ka.cond.size ≤ 15 := by rw [hqa, Q.size_c]; exact hsa
  have hsb' : kb.cond.size ≤ 15 := by rw [hqb, Q.size_c]; exact hsb
  obtain ⟨Y, hY⟩ : ∃ Y, Y = wB.alloc (.cells #[.int .i64 ka.op, .string ka.nm, .int .i64 ka.day, .slice ka.A ka.ps.length ka.cap, .int .i64 kb.op, .string kb.nm, .int .i64 kb.day, .slice kb.A kb.ps.length kb.cap] 28) := ⟨_, rfl⟩
  have hYb : Below wB.heap.size wB Y := by rw [hY]; exact below1 _ _
  have BY := Lib.hid (BB.out.trans (hYb.mono BB.out.size))
  have XY := Lib.hid (XB.out.on hYb)
  have YY := Lib.hid (YB.out.on hYb)
  have HND := names (some ⟨wB.heap.size, 0, none⟩) 2 [ka, kb] Y (by rw [hY]; exact (at_two wB ka kb _).more (by simp)) (fun p hp => by
    rcases List.mem_cons.1 hp with rfl | hp
    · exact HLA.out Y BY.out
    · have : p = kb := by simpa using hp
      subst this; exact HLB.out Y BY.out) (by simp) (fun p hp => by
    rcases List.mem_cons.1 hp with rfl | hp
    · exact hsa'
    · have : p = kb := by simpa using hp
      subst this; exact hsb')
  have HCL : Hid (cols (conds [ka, kb]) ([], []) = (nms ka.cond ++ nms kb.cond, dys ka.cond ++ dys kb.cond)) := Lib.hid (by
    rw [hqa, hqb, ← cols_two]
    simp only [conds, hqa, hqb])
  rw [HCL.out] at HND
  have HDH := Lib.hid HND
  have HY := Lib.hid hY
  have HQ := Lib.hid (And.intro hqa hqb)
  have HC1 : Hid (Lib.compact (SrtR.srtT (nms ka.cond ++ nms kb.cond)) = NN ka.cond kb.cond) := Lib.hid (comp_nms _)
  have HC2 : Hid (Lib.compact (SrtR.srtI (dys ka.cond ++ dys kb.cond)) = UniMath.uni [] (dys ka.cond ++ dys kb.cond)) := Lib.hid (comp_dys _)
  have HDL : Hid ((D2 ka.cond kb.cond).length ≤ 31) := Lib.hid (by have := D2_len ka.cond kb.cond; omega)
  clear hqa hqb hsa hsb hsa' hsb' hY hYb HND
  go_wp2_with (go_at_call 43; (try rw [← HY.out]); refine HDH.out.mono ?_; rintro e wN ⟨g1, n1, c1, g2, n2, c2, rfl, hnd⟩; refine Hid.out ?_)
  refine Lib.hid ?_
  obtain ⟨ho1, ho2, hl1, hl2, hne, hbN⟩ := hnd
  rw [HC1.out] at ho1 hl1
  rw [HC2.out] at ho2 hl2
  have BN := Lib.hid (BY.out.trans (hbN.mono BY.out.size))
  have XN := Lib.hid (XY.out.on hbN)
  have YN := Lib.hid (YY.out.on hbN)
  have O1 := Lib.hid ho1
  have O2 := Lib.hid ho2
  have L1 := Lib.hid hl1
  have L2 := Lib.hid hl2
  have NE := Lib.hid hne
  have SY : Hid (Y.heap.size ≤ wN.heap.size ∧ w.heap.size + 1 < Y.heap.size) := Lib.hid ⟨hbN.size, YY.out.lt⟩
  clear ho1 ho2 hl1 hl2 hne hbN x0 x1 x2 x3 y0 y1 y2 y3 HDH
  by_cases hbig : 10 < n1
  · have HE := Lib.hid (HX.out.big HGG.out.1.symm HGG.out.2.symm (by rw [← L1.out]; exact hbig))
    have h10 : (10 : Int) < (n1 : Int) := by omega
    go_wp2_with fail
    go_ret2
    exact ⟨by rw [HE.out.1, HE.out.2]; rfl, BN.out.alloc BN.out.size _⟩
  have hn10 : n1 ≤ 10 := by omega
  have HE := Lib.hid (HX.out.yes qa qb HGG.out.1.symm HGG.out.2.symm (by rw [← L1.out]; exact hn10) HQ.out.1 HQ.out.2)
  -- the box of names, and 0 behind the days
  obtain ⟨Z, hZ⟩ : ∃ Z, Z = (wN.alloc (.cells #[.slice (some ⟨g1, 0, none⟩) n1 c1] 44)).alloc (.cells #[.int .i64 0] 3) := ⟨_, rfl⟩
  have hZb : Below wN.heap.size wN Z := by rw [hZ]; exact (below1 _ _).alloc (by simp) _
  have hZs : Z.heap.size = wN.heap.size + 2 := by rw [hZ]; simp
  have hZc : Z.cell? ⟨wN.heap.size, 0, none⟩ = some (.slice (some ⟨g1, 0, none⟩) n1 c1) := by rw [hZ]; simp [go_sem]
  have hZ0 : Z.cell? ⟨wN.heap.size + 1, 0, none⟩ = some (.int .i64 0) := by rw [hZ]; simp [go_sem]
  have OZ2 : Hid (UniS.Own Z Y.heap.size (.slice (some ⟨g2, 0, none⟩) n2 c2) (UniMath.uni [] (dys ka.cond ++ dys kb.cond))) := Lib.hid (row_on O2.out hZb)
  have IZ : Hid (IRow.Is Z (wN.heap.size + 2) (some ⟨wN.heap.size + 1, 0, none⟩) [0]) := Lib.hid fun _ => ⟨_, rfl, by simp, fun j hj => by
    have : j = 0 := by simpa using hj
    subst this
    simpa [Addr.add] using hZ0⟩
  have LZ : Hid ((UniMath.uni [] (dys ka.cond ++ dys kb.cond)).length + 1 ≤ 31) := Lib.hid (by have := HDL.out; simp [D2] at this; omega)
  have SZ : Hid (Y.heap.size ≤ Z.heap.size) := Lib.hid (by have := SY.out; omega)
  have hfl : decide ((10 : Int) < (n1 : Int)) = false := decide_eq_false (by omega)
  have HZ := Lib.hid hZ
  have BZ := Lib.hid (BN.out.trans (hZb.mono BN.out.size))
  have XZ := Lib.hid (XN.out.on hZb)
  have YZ := Lib.hid (YN.out.on hZb)
  have OZ1 := Lib.hid (row_on O1.out hZb)
  have CZ := Lib.hid hZc
  have ZS := Lib.hid hZs
  clear hZ hZb hZs hZc hZ0
  go_wp2_with (at_builtin; (try rw [← HZ.out]); refine UniS.wp_app rfl _ _ rfl Y.heap.size (.slice (some ⟨g2, 0, none⟩) n2 c2) (UniMath.uni [] (dys ka.cond ++ dys kb.cond)) rfl OZ2.out (some ⟨wN.heap.size + 1, 0, none⟩) 1 1 (wN.heap.size + 2) [0] rfl rfl IZ.out (fun e => by cases e) (by have := LZ.out; omega) SZ.out ?_; intro a3 c3 w5 hown hg hat; refine Hid.out ?_)
  refine Lib.hid ?_
  obtain ⟨gd, rfl, hgd⟩ := own_someI hown (by simp)
  have hg1 := own_lt OZ1.out
  have hg2 := own_lt OZ2.out
  have KB : ∀ b, b < Z.heap.size → b ≠ g2 → w5.heap[b]? = Z.heap[b]? := fun b h1 h2 => hg.block b h1 (fun e => h2 (by simpa [Value.ownBlock] using e))
  have X5 := Lib.hid (XZ.out.alike (KB _ XZ.out.lt (by have := SY.out; omega)) hg.size)
  have Y5 := Lib.hid (YZ.out.alike (KB _ YZ.out.lt (by have := SY.out; omega)) hg.size)
  have O5 : Hid (UniT.Own w5 Y.heap.size (.slice (some ⟨g1, 0, none⟩) n1 c1) (NN ka.cond kb.cond)) := Lib.hid (by
    have h := OZ1.out
    have e : (NN ka.cond kb.cond).length = n1 := L1.out.symm
    unfold UniT.Own
    rw [e] at h ⊢
    exact own_same h (KB g1 hg1.2 NE.out))
  have hg2N := own_lt O2.out
  have C5 : w5.cell? ⟨wN.heap.size, 0, none⟩ = some (.slice (some ⟨g1, 0, none⟩) n1 c1) := by
    rw [World.cell?_of_block (a := ⟨wN.heap.size, 0, none⟩) (KB wN.heap.size (by have := ZS.out; omega) (by omega))]
    exact CZ.out
  have B5 := Lib.hid (BZ.out.grown hg BZ.out.size (fun k e => by
    have e' : k = g2 := by simpa [Value.ownBlock] using e.symm
    have := SY.out; have := BY.out.size; omega))
  have D5 : Hid (UniS.Own w5 Y.heap.size (.slice (some ⟨gd, 0, none⟩) ((UniMath.uni [] (dys ka.cond ++ dys kb.cond)).length + 1) c3) (D2 ka.cond kb.cond)) := Lib.hid hown
  obtain ⟨nd, hnd⟩ : ∃ n, n = (UniMath.uni [] (dys ka.cond ++ dys kb.cond)).length + 1 := ⟨_, rfl⟩
  rw [← hnd] at D5 ⊢
  have HND : Hid (nd = (D2 ka.cond kb.cond).length) := Lib.hid (by rw [hnd]; simp [D2])
  have hnd31 : nd ≤ 31 := by rw [HND.out]; exact HDL.out
  have S5 : Hid (wN.heap.size < w5.heap.size) := Lib.hid (by have := hg.size; have := ZS.out; omega)
  have CC5 := Lib.hid C5
  obtain ⟨M, hM⟩ : ∃ M : Nat, M = 2 ^ n1 := ⟨_, rfl⟩
  have hM1 : M ≤ 1024 := by rw [hM]; exact Nat.le_trans (Nat.pow_le_pow_right (by decide) hn10) (by decide)
  have hw64 : wrap64 ((2 : Int) ^ n1) = (M : Int) := by
    have e : ((2 : Int) ^ n1) = (M : Int) := by rw [hM, Int.natCast_pow]; rfl
    rw [e]
    unfold wrap64
    omega
  have HM := Lib.hid hM
  obtain ⟨f0, hf0⟩ : ∃ f, f = wN.heap.size := ⟨_, rfl⟩
  rw [← hf0] at C5 CC5 S5 ⊢
  clear hown hg hat hgd hg1 hg2 hg2N KB hnd hM hf0 OZ2 IZ O1 O2 OZ1 CZ HZ BZ XZ YZ BN XN YN hfl LZ SZ SY BY XY YY BB XB YB BA XA YA HY
  go_wp2_with fail
  rw [hw64]
  go_loopw [38] (fun t wr => ∃ m : Nat, m ≤ M ∧ t = .int .i64 m ∧ Hid (∀ m', m' < m → ∀ d ∈ D2 ka.cond kb.cond, okAt qa qb (NN ka.cond kb.cond) m' d) ∧ Hid (Below w5.heap.size w5 wr)) (fun t _ => M - (intOf t).toNat)
  case atStart => exact ⟨0, Nat.zero_le _, rfl, Lib.hid fun m' h => by omega, Lib.hid (Below.refl _ _)⟩
  case round =>
    obtain ⟨m, hm, rfl, HJ, HB⟩ := hrel
    obtain ⟨wo, rfl⟩ : ∃ v, v = wr := ⟨wr, rfl⟩
    by_cases hlt : m < M
    · obtain ⟨U, hU⟩ : ∃ U, U = wo.alloc (.cells #[.int .i64 (m : Int)] 3) := ⟨_, rfl⟩
      have hUb : Below wo.heap.size wo U := by rw [hU]; exact below1 _ _
      have b5U := HB.out.trans (hUb.mono HB.out.size)
      have BU := Lib.hid b5U
      have BWU := Lib.hid (B5.out.trans (b5U.mono B5.out.size))
      have XU := Lib.hid (X5.out.on b5U)
      have YU := Lib.hid (Y5.out.on b5U)
      have OU := Lib.hid (row_on O5.out b5U)
      have DU := Lib.hid (row_on D5.out b5U)
      have CU : Hid (U.cell? ⟨f0, 0, none⟩ = some (.slice (some ⟨g1, 0, none⟩) n1 c1)) := Lib.hid ((b5U.cell (p := ⟨f0, 0, none⟩) S5.out).trans CC5.out)
      have MU : Hid (U.cell? ⟨wo.heap.size, 0, none⟩ = some (.int .i64 (m : Int))) := Lib.hid (by rw [hU]; simp [go_sem])
      have LU : Hid (f0 < U.heap.size ∧ wo.heap.size < U.heap.size) := Lib.hid ⟨by have := S5.out; have := b5U.size; omega, by rw [hU]; simp⟩
      have HU := Lib.hid hU
      clear hU hUb b5U
      go_wp2_with fail
      go_loopw [44] (fun t wi => ∃ j : Nat, j ≤ nd ∧ t = .int .i64 j ∧ Hid (∀ j', j' < j → ∀ h : j' < (D2 ka.cond kb.cond).length, okAt qa qb (NN ka.cond kb.cond) m (D2 ka.cond kb.cond)[j']) ∧ Hid (Below U.heap.size U wi)) (fun t _ => nd - (intOf t).toNat)
      case atStart => exact ⟨0, Nat.zero_le _, rfl, Lib.hid fun j' h => by omega, by rw [← HU.out]; exact Lib.hid (Below.refl _ _)⟩
      case round =>
        obtain ⟨j, hj, rfl, HJJ, HBI⟩ := hrel
        have BWI := Lib.hid (BWU.out.trans (HBI.out.mono BWU.out.size))
        by_cases hjl : j < nd
        · have hj1 : j < (D2 ka.cond kb.cond).length := by have := HND.out; omega
          obtain ⟨d, hd⟩ : ∃ d, d = (D2 ka.cond kb.cond)[j] := ⟨_, rfl⟩
          have HDJ := Lib.hid hd
          have KI : Hid (∀ v, Below wr.heap.size wr v → ((v.cell? ⟨w.heap.size, 0, none⟩ = some (.int .i64 ka.op) ∧ v.cell? ⟨w.heap.size, 1, none⟩ = some (.string ka.nm) ∧ v.cell? ⟨w.heap.size, 2, none⟩ = some (.int .i64 ka.day) ∧ v.cell? ⟨w.heap.size, 3, none⟩ = some (.slice ka.A ka.ps.length ka.cap)) ∧ v.cell? ⟨w.heap.size + 1, 0, none⟩ = some (.int .i64 kb.op) ∧ v.cell? ⟨w.heap.size + 1, 1, none⟩ = some (.string kb.nm) ∧ v.cell? ⟨w.heap.size + 1, 2, none⟩ = some (.int .i64 kb.day) ∧ v.cell? ⟨w.heap.size + 1, 3, none⟩ = some (.slice kb.A kb.ps.length kb.cap)) ∧ v.cell? ⟨gd, j, none⟩ = some (.int .i64 d)) := Lib.hid fun v hv => by
            have a := (XU.out.on HBI.out).on hv
            have b := (YU.out.on HBI.out).on hv
            exact ⟨⟨⟨a.c0, a.c1, a.c2, a.c3⟩, b.c0, b.c1, b.c2, b.c3⟩, by rw [hd]; exact own_cellI (row_on (row_on DU.out HBI.out) hv) HND.out hj1⟩
          have HH : Hid (∀ (q : Q) (k : K) v, k.cond = q.c → (∀ s ∈ q.facts, s.toList ∈ NN ka.cond kb.cond) → Lies v v.heap.size k → Below wr.heap.size wr v → Calls Try.prog 46 #[k.val, .int .i64 d, .func (.func 44) #[] #[.pointer (some ⟨f0, 0, none⟩), .pointer (some ⟨wo.heap.size, 0, none⟩)]] v fun e w' => e = .returned (.bool (hv (NN ka.cond kb.cond) m q d)) ∧ Below v.heap.size v w') := Lib.hid fun q k v hk hf hin hv =>
            holdsF f0 wo.heap.size (has (UniT.strs (sub (NN ka.cond kb.cond) m (NN ka.cond kb.cond).length))) d wr q (fun s hs v' hv' => knows (row_on OU.out HBI.out) L1.out (NN_pair _ _) hn10 (by omega) (by have := LU.out; have := HBI.out.size; omega) (by have := LU.out; have := HBI.out.size; omega) ((HBI.out.cell (p := ⟨f0, 0, none⟩) LU.out.1).trans CU.out) ((HBI.out.cell (p := ⟨wo.heap.size, 0, none⟩) LU.out.2).trans MU.out) s (hf s hs) v' hv') k v hv hk hin
          have HA1 := Lib.hid fun v (hv : Below wr.heap.size wr v) => HH.out qa ka v HQ.out.1 (fun s hs => (UniTM.mem_uni _ _ _).2 (.inr (List.mem_append.2 (.inl (by rw [HQ.out.1, facts_nms]; exact List.mem_map.2 ⟨s, hs, rfl⟩))))) (HLA.out v (BWI.out.trans (hv.mono BWI.out.size))) hv
          have HB1 := Lib.hid fun v (hv : Below wr.heap.size wr v) => HH.out qb kb v HQ.out.2 (fun s hs => (UniTM.mem_uni _ _ _).2 (.inr (List.mem_append.2 (.inr (by rw [HQ.out.2, facts_nms]; exact List.mem_map.2 ⟨s, hs, rfl⟩))))) (HLB.out v (BWI.out.trans (hv.mono BWI.out.size))) hv
          obtain ⟨ra, hra⟩ : ∃ x, x = hv (NN ka.cond kb.cond) m qa d := ⟨_, rfl⟩
          obtain ⟨rb, hrb⟩ : ∃ x, x = hv (NN ka.cond kb.cond) m qb d := ⟨_, rfl⟩
          rw [← hra] at HA1
          rw [← hrb] at HB1
          obtain ⟨r, hr⟩ : ∃ x, x = (ra && !rb) := ⟨_, rfl⟩
          have HC3 : Hid (∀ v, Calls Try.prog 26 #[.bool ra, .bool rb] v fun e w' => e = .returned (.bool r) ∧ v = w') := Lib.hid fun v => by rw [hr]; exact wantedI ra rb v
          have i0 : (0 : Int) ≤ (j : Int) := by omega
          have i1 : (j : Int) < (nd : Int) := by omega
          have hc0 := KI.out wr (Below.refl _ _)
          have HNO : Hid (r = true → imp qa qb (NN ka.cond kb.cond) (DD ka.cond kb.cond) = false) := Lib.hid fun h1 => by
            rw [hr, Bool.and_eq_true] at h1
            exact imp_no (m := m) (d := d) (by rw [← L1.out, ← HM.out]; exact hlt) ((mem_D2 _ _ _).1 (by rw [hd]; exact List.getElem_mem hj1)) (by rw [← hra]; exact h1.1) (by rw [← hrb]; simpa using h1.2)
          have HOK : Hid (r = false → ∀ j', j' < j + 1 → ∀ h : j' < (D2 ka.cond kb.cond).length, okAt qa qb (NN ka.cond kb.cond) m (D2 ka.cond kb.cond)[j']) := Lib.hid fun h0 j' h1 h => by
            by_cases e : j' = j
            · subst e
              unfold okAt
              rw [← hd, ← hra, ← hrb]
              intro h2
              rw [hr, h2] at h0
              simpa using h0
            · exact HJJ.out j' (by omega) h
          clear HH hra hrb hd hr
          cases r
          · have HOJ := Lib.hid (HOK.out rfl)
            clear HOK HNO
            go_wp2_with fail
            go_region_held3 (fun v => ((v.cell? ⟨w.heap.size, 0, none⟩ = some (.int .i64 ka.op) ∧ v.cell? ⟨w.heap.size, 1, none⟩ = some (.string ka.nm) ∧ v.cell? ⟨w.heap.size, 2, none⟩ = some (.int .i64 ka.day) ∧ v.cell? ⟨w.heap.size, 3, none⟩ = some (.slice ka.A ka.ps.length ka.cap)) ∧ v.cell? ⟨w.heap.size + 1, 0, none⟩ = some (.int .i64 kb.op) ∧ v.cell? ⟨w.heap.size + 1, 1, none⟩ = some (.string kb.nm) ∧ v.cell? ⟨w.heap.size + 1, 2, none⟩ = some (.int .i64 kb.day) ∧ v.cell? ⟨w.heap.size + 1, 3, none⟩ = some (.slice kb.A kb.ps.length kb.cap)) ∧ v.cell? ⟨gd, j, none⟩ = some (.int .i64 d)) (first | (refine KI.out _ ?_; (repeat (first | exact Below.refl _ _ | exact c2b | exact c1b | apply Below.drew)); done))
              (first
                | (go_at_call 46; (with_reducible refine (HA1.out _ (by (repeat (first | exact Below.refl _ _ | apply Below.drew)))).mono ?_); rintro e wx ⟨rfl, hb⟩; have c1b : Below wr.heap.size wr wx := Below.trans (by (repeat (first | exact Below.refl _ _ | apply Below.drew))) (hb.mono (by first | omega | (simp; done) | (simp; omega))); clear hb)
                | (go_at_call 46; (with_reducible refine (HB1.out _ (by (repeat (first | exact Below.refl _ _ | exact c1b | apply Below.drew)))).mono ?_); rintro e wy ⟨rfl, hb⟩; have c2b : Below wr.heap.size wr wy := Below.trans (by (repeat (first | exact Below.refl _ _ | exact c1b | apply Below.drew))) (hb.mono (by have := c1b.size; first | omega | (simp; omega))); clear hb)
                | (go_at_call 26; (with_reducible refine (HC3.out _).mono ?_); rintro e wz ⟨rfl, rfl⟩))
            all_goals go_wp2_with fail
            all_goals go_roundw
            all_goals first
              | exact ⟨j + 1, by omega, by go_num, HOJ, Lib.hid (HBI.out.trans (c2b.mono HBI.out.size))⟩
              | (simp [intOf]; omega)
          · have HNF := Lib.hid (HNO.out rfl)
            clear HOK HNO
            go_wp2_with fail
            go_region_held3 (fun v => ((v.cell? ⟨w.heap.size, 0, none⟩ = some (.int .i64 ka.op) ∧ v.cell? ⟨w.heap.size, 1, none⟩ = some (.string ka.nm) ∧ v.cell? ⟨w.heap.size, 2, none⟩ = some (.int .i64 ka.day) ∧ v.cell? ⟨w.heap.size, 3, none⟩ = some (.slice ka.A ka.ps.length ka.cap)) ∧ v.cell? ⟨w.heap.size + 1, 0, none⟩ = some (.int .i64 kb.op) ∧ v.cell? ⟨w.heap.size + 1, 1, none⟩ = some (.string kb.nm) ∧ v.cell? ⟨w.heap.size + 1, 2, none⟩ = some (.int .i64 kb.day) ∧ v.cell? ⟨w.heap.size + 1, 3, none⟩ = some (.slice kb.A kb.ps.length kb.cap)) ∧ v.cell? ⟨gd, j, none⟩ = some (.int .i64 d)) (first | (refine KI.out _ ?_; (repeat (first | exact Below.refl _ _ | exact c2b | exact c1b | apply Below.drew)); done))
              (first
                | (go_at_call 46; (with_reducible refine (HA1.out _ (by (repeat (first | exact Below.refl _ _ | apply Below.drew)))).mono ?_); rintro e wx ⟨rfl, hb⟩; have c1b : Below wr.heap.size wr wx := Below.trans (by (repeat (first | exact Below.refl _ _ | apply Below.drew))) (hb.mono (by first | omega | (simp; done) | (simp; omega))); clear hb)
                | (go_at_call 46; (with_reducible refine (HB1.out _ (by (repeat (first | exact Below.refl _ _ | exact c1b | apply Below.drew)))).mono ?_); rintro e wy ⟨rfl, hb⟩; have c2b : Below wr.heap.size wr wy := Below.trans (by (repeat (first | exact Below.refl _ _ | exact c1b | apply Below.drew))) (hb.mono (by have := c1b.size; first | omega | (simp; omega))); clear hb)
                | (go_at_call 26; (with_reducible refine (HC3.out _).mono ?_); rintro e wz ⟨rfl, rfl⟩))
            all_goals go_wp2_with fail
            all_goals go_ret2
            all_goals exact ⟨by rw [HE.out.1, HE.out.2, HNF.out]; rfl, BWI.out.trans (c2b.mono BWI.out.size)⟩
        · have HNX : Hid (∀ m', m' < m + 1 → ∀ d ∈ D2 ka.cond kb.cond, okAt qa qb (NN ka.cond kb.cond) m' d) := Lib.hid fun m' h d hd => by
            by_cases e : m' = m
            · subst e
              obtain ⟨j', hj', rfl⟩ := List.mem_iff_getElem.1 hd
              exact HJJ.out j' (by have := HND.out; omega) hj'
            · exact HJ.out m' (by omega) d hd
          have BEI := Lib.hid (BU.out.trans (HBI.out.mono BU.out.size))
          go_wp2_with fail
          go_roundw
          all_goals first
            | exact ⟨m + 1, by omega, by go_num, HNX, BEI⟩
            | (simp [intOf]; omega)
    · have HYES : Hid (imp qa qb (NN ka.cond kb.cond) (DD ka.cond kb.cond) = true) := Lib.hid (by
        rw [← imp_mem (fun d => mem_D2 ka.cond kb.cond d)]
        exact imp_yes fun m' h d hd => HJ.out m' (by rw [← L1.out, ← HM.out] at h; omega) d hd)
      go_wp2_with fail
      go_ret2
      exact ⟨by rw [HE.out.1, HE.out.2, HYES.out]; rfl, B5.out.trans (HB.out.mono B5.out.size)⟩

set_option maxHeartbeats 2000000 in
theorem implIm (ka kb : K) (w : World) (hla : Lies w w.heap.size ka) (hlb : Lies w w.heap.size kb) (hwa : ka.cond.wt ≤ 1048576) (hwb : kb.cond.wt ≤ 1048576) (x y : Bool) (hx : ImIs ka.cond kb.cond x y) :
    Calls Try.prog 13 #[ka.val, kb.val] w fun e w' => e = .returned (.tuple #[.bool x, .bool y]) ∧ Below w.heap.size w w' := by
  have hxy : y = false → x = false := fun h => by
    cases hg : (ka.cond.good && kb.cond.good) with
    | false => exact (hx.no hg).1
    | true =>
      rw [Bool.and_eq_true] at hg
      by_cases hl : 10 < (NN ka.cond kb.cond).length
      · exact (hx.big hg.1 hg.2 hl).1
      · obtain ⟨qa, h1, _, _⟩ := good_q hg.1
        obtain ⟨qb, h2, _, _⟩ := good_q hg.2
        have := (hx.yes qa qb hg.1 hg.2 (by omega) h1 h2).2
        rw [h] at this; cases this
  obtain ⟨X, hX⟩ : ∃ X, X = (w.alloc (.cells #[.int .i64 ka.op, .string ka.nm, .int .i64 ka.day, .slice ka.A ka.ps.length ka.cap] 28)).alloc (.cells #[.int .i64 kb.op, .string kb.nm, .int .i64 kb.day, .slice kb.A kb.ps.length kb.cap] 28) := ⟨_, rfl⟩
  have B0 : Hid (Below w.heap.size w X) := Lib.hid (by rw [hX]; exact (below1 _ _).alloc (by simp) _)
  have HF := Lib.hid (findCase ka kb X (hla.on B0.out) (hlb.on B0.out) hwa hwb x y hx)
  have HX := Lib.hid hX
  have HXY : Hid (y = false → x = false) := Lib.hid hxy
  clear hX hla hlb hwa hwb hx hxy
  cases y
  · have HX2 := Lib.hid (HXY.out rfl)
    go_enter Try.func13, Try.ntmps13
    go_wp2_with (go_at_call 25; (try rw [← HX.out]); refine HF.out.mono ?_; rintro e w2 ⟨rfl, hb2⟩)
    go_ret2
    exact ⟨by rw [HX2.out]; rfl, B0.out.trans (hb2.mono B0.out.size)⟩
  · go_enter Try.func13, Try.ntmps13
    go_wp2_with (go_at_call 25; (try rw [← HX.out]); refine HF.out.mono ?_; rintro e w2 ⟨rfl, hb2⟩)
    go_ret2
    exact ⟨by cases x <;> rfl, B0.out.trans (hb2.mono B0.out.size)⟩

end Go.Proofs.Ythdiiocgemomoaa.Cond
