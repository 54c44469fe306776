/-
  equalConditions of the program: pairs that wait, and pairs that were met.
-/
import Derived.Test.YtmgjeplbhnfakaaGreatDoorPtR
import Derived.Deep.RegionHeld3
import Derived.Deep.RegionHeldLaw
namespace Go.Proofs.YtmgjeplbhnfakaaGreatDoor.PtR
open Go.RowKit Go.Proofs.YtmgjeplbhnfakaaGreatDoor.Cond
set_option linter.unusedVariables false
set_option linter.unusedSimpArgs false

def msz (w : World) (m : Nat) : Nat := match w.heap[m]? with | some (.map es _) => es.size | _ => 0
theorem msz_is {w : World} {m s : Nat} {V : List Nat} (h : PtK.PMap w m s V) : msz w m = s := by
  obtain ⟨es, clock, h1, h2, _⟩ := h
  unfold msz
  rw [h1]
  exact h2
/-- The loop's state. -/
structure Wt (w wr : World) (k q : K) (mb s : Nat) (V : List Nat) (v : Value) (ps : List (K × K)) : Prop where
  own : OwnP wr w.heap.size v ps
  map : PtK.PMap wr mb s V
  nd : (V ++ FB ps).Nodup
  cb : ∀ b ∈ V ++ FB ps, b ∈ k.blocks
  li : ∀ p ∈ ps, Lies w w.heap.size p.1 ∧ Lies w w.heap.size p.2
  res : sameC k.cond q.cond = ps.all fun p => sameC p.1.cond p.2.cond
  sum : s + SZ ps ≤ k.cond.size
  bel : Below w.heap.size w wr

theorem same_k (x y : K) : sameC x.cond y.cond = (decide (x.op = y.op) && decide (x.nm.toList = y.nm.toList) && decide (x.day = y.day) && sameL (conds x.ps) (conds y.ps)) := by
  cases x; cases y; rfl
theorem blocks_k {x : K} {b o : Nat} (hA : x.A = some ⟨b, o, none⟩) (hp : 0 < x.ps.length) : x.blocks = b :: blocks x.ps := by
  cases x with
  | mk op nm day A cap ps =>
    simp only [K.A] at hA
    subst hA
    cases ps with
    | nil => simp [K.ps] at hp
    | cons p ps => rfl
theorem blocks_leaf {x : K} (hp : x.ps.length = 0) : x.blocks = [] := by
  cases x with
  | mk op nm day A cap ps =>
    have : ps = [] := List.length_eq_zero_iff.1 hp
    subst this
    cases A <;> rfl
theorem size_k (x : K) : x.cond.size = 1 + sizes (conds x.ps) := by
  cases x; simp only [K.cond, C.size, K.ps]; first | done | omega
theorem lies_A {w : World} {B : Nat} {x : K} (h : Lies w B x) (hp : 0 < x.ps.length) : ∃ b o, x.A = some ⟨b, o, none⟩ ∧ b < B ∧ ∀ i, ∀ hi : i < x.ps.length, El w b (o + i * 4) x.ps[i] := by
  cases x with
  | mk op nm day A cap ps =>
    obtain ⟨b, o, hA, he⟩ := h.has.1 hp
    refine ⟨b, o, hA, h.lt b ?_, he⟩
    have hA' : (K.mk op nm day A cap ps).A = some ⟨b, o, none⟩ := hA
    rw [blocks_k hA' hp]
    simp
theorem lies_part {w : World} {B : Nat} {x p : K} (h : Lies w B x) (hp : p ∈ x.ps) : Lies w B p := by
  cases x with
  | mk op nm day A cap ps => exact ⟨K.In.part h.has hp, fun b hb => h.lt b (part_blocks hp hb)⟩
theorem lies_cap {w : World} {B : Nat} {x : K} (h : Lies w B x) : x.ps.length ≤ x.cap ∧ x.cap ≤ maxLen := by
  cases x with
  | mk op nm day A cap ps => exact ⟨h.has.2.1.2.1, h.has.2.1.2.2⟩
theorem wp_lookP {u : World} {ops : Array Oper} {rest : List Oper} {o : Oper} {a : Act} {Q : Exit → Act → World → Prop} (hgd : o.guard = none) (m x : Operand) (ho : o.op = Op.lookup 81 m x false)
    (mb s : Nat) (V : List Nat) (hm : a.eval m = .map (some mb)) (b0 o0 : Nat) (c0 : Addr) (n0 : Int) (hx : a.eval x = PtK.pk ⟨b0, o0, none⟩ c0 n0) (h : PtK.PMap u mb s V) (hV : ∀ b ∈ V, PtK.Fre u b) (h0 : PtK.Fre u b0) (hn : b0 ∉ V)
    (hK : wpList Tryz.prog ops Q rest (a.put o.dst (.bool false)) u) : wpList Tryz.prog ops Q (o :: rest) a u := by
  refine wpList_plain hgd fun K' hK' => ?_
  have hrun := PtK.look h hV (o0 := o0) h0 hn c0 n0
  unfold Oper.wp
  simp [execOp, ho, hm, hx, hrun, Result.andThen]
  exact hK' _ _ hK
theorem wp_storeP {u : World} {ops : Array Oper} {rest : List Oper} {o : Oper} {a : Act} {Q : Exit → Act → World → Prop} (hgd : o.guard = none) (m x v : Operand) (ho : o.op = Op.mapUpdate 81 m x v)
    (mb s : Nat) (V : List Nat) (hm : a.eval m = .map (some mb)) (b0 o0 : Nat) (c0 : Addr) (n0 : Int) (hx : a.eval x = PtK.pk ⟨b0, o0, none⟩ c0 n0) (hv : a.eval v = .bool true) (h : PtK.PMap u mb s V) (hV : ∀ b ∈ V, PtK.Fre u b) (h0 : PtK.Fre u b0) (hn : b0 ∉ V)
    (hK : ∀ w', PtK.PMap w' mb (s + 1) (b0 :: V) → u.grownBy w' (some mb) → wpList Tryz.prog ops Q rest (a.put o.dst undef) w') : wpList Tryz.prog ops Q (o :: rest) a u := by
  refine wpList_plain hgd fun K' hK' => ?_
  obtain ⟨w', hrun, h1, h2⟩ := PtK.store h hV (o0 := o0) h0 hn c0 n0
  unfold Oper.wp
  simp [execOp, ho, hm, hx, hv, hrun, Result.andThen]
  exact hK' _ _ (hK w' h1 h2)
theorem map_cells {w : World} {mb s S n c g : Nat} {V : List Nat} {T ez : Nat} {xs : List Value} (h : PtK.PMap w mb s V) (h2 : w.ownsRow S T ez (.slice (some ⟨g, 0, none⟩) n c) n xs) : g ≠ mb := by
  rintro rfl
  obtain ⟨es, clock, h1, _⟩ := h
  rcases h2.2 with ⟨hv, _⟩ | ⟨g', cap, cur, hv, _, hh, _⟩
  · cases hv
  · injection hv with e1 e2 e3
    injection e1 with e1
    injection e1 with e1
    subst e1
    rw [h1] at hh
    cases hh
theorem conds_nil {x : K} (h : x.ps.length = 0) : conds x.ps = [] := by
  have : x.ps = [] := List.length_eq_zero_iff.1 h
  rw [this]; rfl
theorem Wt.leaf {w wr U : World} {k q x y : K} {mb s n c m : Nat} {V : List Nat} {A : Option Addr} {ps ps' : List (K × K)} (h : Wt w wr k q mb s V (.slice A n c) ps) (hps : ps = ps' ++ [(x, y)]) (hm : m = ps'.length) (hn : n = m + 1) (hb : Below wr.heap.size wr U)
    (hs : sameC x.cond y.cond = true) : Wt w U k q mb s V (.slice A m c) ps' := by
  have hown : wr.ownsRow w.heap.size 82 8 (.slice A n c) n (Gx.flat pc (ps' ++ [(x, y)])) := by
    have h1 := h.own
    unfold OwnP at h1
    have e : ps.length = n := by rw [hps, hn, hm]; simp
    rw [e, hps] at h1
    exact h1
  have hF : FB ps = FB ps' ++ x.blocks := by rw [hps, FB_app]; simp [FB]
  have hnd := h.nd
  rw [hF, ← List.append_assoc] at hnd
  refine ⟨?_, h.map.same (hb.block _ h.map.lt), (List.nodup_append.1 hnd).1, fun b hb2 => h.cb b ?_, fun p hp => h.li p ?_, ?_, ?_, h.bel.trans (hb.mono h.bel.size)⟩
  · subst hm
    exact ownC_on (takeP hn hown) hb
  · rw [hF, ← List.append_assoc]; exact List.mem_append.2 (.inl hb2)
  · rw [hps]; exact List.mem_append.2 (.inl hp)
  · rw [h.res, hps]; simp [hs]
  · have := h.sum
    rw [hps, SZ_app] at this
    omega
/-- The state while the parts of a pair are laid on the row. -/
structure Lt (w u : World) (x y : K) (mb s bx by_ lx b1 o1 b2 o2 : Nat) (V : List Nat) (v : Value) (qs : List (K × K)) : Prop where
  own : OwnP u w.heap.size v qs
  map : PtK.PMap u mb s V
  ex : B4 bx u (.int .i64 x.op) (.string x.nm) (.int .i64 x.day) (.slice (some ⟨b1, o1, none⟩) lx x.cap)
  ey : B4 by_ u (.int .i64 y.op) (.string y.nm) (.int .i64 y.day) (.slice (some ⟨b2, o2, none⟩) lx y.cap)
  nx : ∀ g, v.ownBlock = some g → g ≠ bx ∧ g ≠ by_ ∧ g ≠ mb
  bel : Below w.heap.size w u
theorem Lt.app {w u u1 w1 : World} {x y : K} {mb s bx by_ lx b1 o1 b2 o2 : Nat} {V : List Nat} {v v' : Value} {qs qs' : List (K × K)} (h : Lt w u x y mb s bx by_ lx b1 o1 b2 o2 V v qs) (hb : Below u.heap.size u u1)
    (ho : OwnP w1 w.heap.size v' qs') (hg : u1.grownBy w1 v.ownBlock) (hat : v'.ownBlock = v.ownBlock ∨ v'.ownBlock = some u1.heap.size) : Lt w w1 x y mb s bx by_ lx b1 o1 b2 o2 V v' qs' := by
  have hs := hb.size
  have l1 := h.ex.lt
  have l2 := h.ey.lt
  have l3 := h.map.lt
  refine ⟨ho, ?_, ?_, ?_, fun g e => ?_, ?_⟩
  · exact (h.map.same (hb.block _ l3)).same (hg.block _ (by omega) (fun e => (h.nx mb e.symm).2.2 rfl))
  · exact (h.ex.on hb).alike (hg.block _ (by omega) (fun e => (h.nx bx e.symm).1 rfl)) hg.size
  · exact (h.ey.on hb).alike (hg.block _ (by omega) (fun e => (h.nx by_ e.symm).2.1 rfl)) hg.size
  · rcases hat with e' | e'
    · exact h.nx g (by rw [← e']; exact e)
    · rw [e'] at e
      injection e with e
      exact ⟨by omega, by omega, by omega⟩
  · refine (h.bel.trans (hb.mono h.bel.size)).grown hg (by have := h.bel.size; omega) fun j e => ?_
    rcases h.own.2 with ⟨hv, _⟩ | ⟨g, c, cur, hv, hS, _⟩
    · rw [hv] at e; cases e
    · rw [hv] at e
      injection e with e
      rw [← e]
      exact hS
theorem meas1 {N s m n : Nat} (hn : n = m + 1) : (N - s) * (N + 1) + m < (N - s) * (N + 1) + n := by omega
theorem meas2 {N s l n : Nat} (hs : s < N) (hl : l ≤ N) : (N - (s + 1)) * (N + 1) + l < (N - s) * (N + 1) + n := by
  have e : N - s = (N - (s + 1)) + 1 := by omega
  rw [e, Nat.add_mul, Nat.one_mul]
  omega

set_option maxRecDepth 100000 in
set_option maxHeartbeats 8000000 in
theorem equalConditions (k q : K) (w : World) (hk : Wr w k) (hq : Lies w w.heap.size q) (hsz : k.cond.size ≤ 2000000) :
    Calls Tryz.prog 62 #[k.val, q.val] w fun e w' => e = .returned (.bool (sameC k.cond q.cond)) ∧ Below w.heap.size w w' := by
  obtain ⟨Y, hY⟩ : ∃ Y, Y = ((w.alloc (.cells #[.int .i64 k.op, .string k.nm, .int .i64 k.day, .slice k.A k.ps.length k.cap] 26)).alloc (.cells #[.int .i64 q.op, .string q.nm, .int .i64 q.day, .slice q.A q.ps.length q.cap] 26)).alloc (.map #[] 0) := ⟨_, rfl⟩
  obtain ⟨X, hX⟩ : ∃ X, X = Y.alloc (.cells #[.int .i64 k.op, .string k.nm, .int .i64 k.day, .slice k.A k.ps.length k.cap, .int .i64 q.op, .string q.nm, .int .i64 q.day, .slice q.A q.ps.length q.cap] 82) := ⟨_, rfl⟩
  have SY : Y.heap.size = w.heap.size + 1 + 1 + 1 := by rw [hY]; simp
  have BY : Below w.heap.size w Y := by rw [hY]; exact ((below1 _ _).alloc (by simp) _).alloc (by simp; omega) _
  have BX : Below w.heap.size w X := by rw [hX]; exact BY.alloc BY.size _
  have HW0 : Hid (Wt w X k q (w.heap.size + 1 + 1) 0 [] (.slice (some ⟨w.heap.size + 1 + 1 + 1, 0, none⟩) 1 1) [(k, q)]) := Lib.hid (by
    refine ⟨?_, ?_, ?_, ?_, ?_, ?_, ?_, BX⟩
    · have := World.ownsRow_lit (base := w.heap.size) (e := 82) (size := 8) Y #[.int .i64 k.op, .string k.nm, .int .i64 k.day, .slice k.A k.ps.length k.cap, .int .i64 q.op, .string q.nm, .int .i64 q.day, .slice q.A q.ps.length q.cap] 1 BY.size (by decide) (by simp)
      rw [SY, ← hX] at this
      exact this
    · have h1 := PtK.pmap_new ((w.alloc (.cells #[.int .i64 k.op, .string k.nm, .int .i64 k.day, .slice k.A k.ps.length k.cap] 26)).alloc (.cells #[.int .i64 q.op, .string q.nm, .int .i64 q.day, .slice q.A q.ps.length q.cap] 26))
      rw [← hY, World.size_alloc, World.size_alloc] at h1
      exact h1.same (by rw [hX]; exact (below1 Y _).block _ (by rw [SY]; omega))
    · simpa [FB] using hk.nd
    · intro b hb; simpa [FB] using hb
    · intro p hp
      have : p = (k, q) := by simpa using hp
      subst this
      exact ⟨⟨hk.has, hk.lt⟩, hq⟩
    · simp
    · simp [SZ])
  have HX : Hid (X = _) := Lib.hid (by rw [hX, hY])
  have HCB := Lib.hid (wr_cb hk)
  have HKL : Hid (∀ b ∈ k.blocks, b < w.heap.size) := Lib.hid hk.lt
  have hmm := @run_makeMap Tryz.prog
  obtain ⟨N, hN⟩ : ∃ N, N = k.cond.size := ⟨_, rfl⟩
  rw [← hN] at hsz
  have HNN := Lib.hid hN
  clear hk hq hX hY SY BY BX hN
  go_enter Tryz.func62, Tryz.ntmps62
  go_wp2_with fail
  go_loopw [6] (fun v wr => ∃ (n : Nat) (a : Option Addr) (c s : Nat) (V : List Nat) (ps : List (K × K)), v = .slice a n c ∧ Hid (n = ps.length) ∧ Hid (Wt w wr k q (w.heap.size + 1 + 1) s V (.slice a n c) ps)) (fun v wr => (N - msz wr (w.heap.size + 1 + 1)) * (N + 1) + (match v with | .slice _ n _ => n | _ => 0))
  case atStart => exact ⟨1, _, 1, 0, [], [(k, q)], rfl, Lib.hid rfl, by rw [← HX.out]; exact HW0⟩
  case round =>
    clear HW0 HX
    obtain ⟨n, a, c, s, V, ps, rfl, HN, HW⟩ := hrel
    by_cases hn : n = 0
    · have HR : Hid (sameC k.cond q.cond = true) := Lib.hid (by
        have h1 : ps = [] := List.length_eq_zero_iff.1 (by have := HN.out; omega)
        rw [HW.out.res, h1]; rfl)
      subst hn
      have HB := Lib.hid HW.out.bel
      go_wp2_with fail
      go_ret
      exact ⟨by rw [HR.out]; rfl, HB.out⟩
    obtain ⟨ps', p, HPS⟩ : ∃ ps' p, Hid (ps = ps' ++ [p]) := by
      have h1 : ps ≠ [] := fun e => hn (by rw [HN.out, e]; rfl)
      exact ⟨ps.dropLast, ps.getLast h1, Lib.hid (List.dropLast_concat_getLast h1).symm⟩
    obtain ⟨m, hm⟩ : ∃ m, m = ps'.length := ⟨_, rfl⟩
    have HM : Hid (n = m + 1) := Lib.hid (by rw [HN.out, HPS.out, hm]; simp)
    have hnl : n ≤ 2000000 := by
      have h1 := SZ_len ps
      have h2 := HW.out.sum
      have := HN.out
      have := HNN.out
      omega
    have h0 : (0 : Int) < (n : Int) := by omega
    have hwr1 : IntKind.i64.wrap ((n : Int) - 1) = (m : Int) := by rw [IntKind.wrap_i64]; have := HM.out; omega
    have i0 : (0 : Int) ≤ (m : Int) := by omega
    have i1 : (m : Int) < (n : Int) := by have := HM.out; omega
    have i2 : (m : Int) ≤ (c : Int) := by
      rcases HW.out.own.2 with ⟨hv, h0⟩ | ⟨g, cap, cur, hv, _, _, hnc, _⟩
      · have := HN.out; omega
      · injection hv with h1 h2 h3; have := HN.out; omega
    obtain ⟨x, y⟩ := p
    have HOW : Hid (wr.ownsRow w.heap.size 82 8 (.slice a n c) n (Gx.flat pc (ps' ++ [(x, y)]))) := Lib.hid (by
      have := HW.out.own
      unfold OwnP at this
      rw [← HN.out, HPS.out] at this
      exact this)
    have HEL : Hid (∃ g, a = some ⟨g, 0, none⟩ ∧ Gx.El wr g (m * 8) (pc (x, y)) ∧ w.heap.size ≤ g ∧ g < wr.heap.size) := Lib.hid (by
      have h1 : wr.ownsRow w.heap.size 82 8 (.slice a n c) (ps' ++ [(x, y)]).length (Gx.flat pc (ps' ++ [(x, y)])) := by
        have := HOW.out
        have e : n = (ps' ++ [(x, y)]).length := by rw [HM.out, hm]; simp
        rw [← e]; exact this
      obtain ⟨g, hg, hS, hlt, _, he⟩ := Gx.own_el pc_len h1 (i := m) (by rw [hm]; simp)
      refine ⟨g, hg, ?_, hS, hlt⟩
      have e2 : (ps' ++ [(x, y)])[m]'(by rw [hm]; simp) = (x, y) := by simp [hm]
      rw [e2] at he
      exact he)
    obtain ⟨g, rfl, hel, hge, hgl⟩ := HEL.out
    have e0 := hel 0 (by simp [pc, K.cells])
    have e1 := hel 1 (by simp [pc, K.cells])
    have e2 := hel 2 (by simp [pc, K.cells])
    have e3 := hel 3 (by simp [pc, K.cells])
    have e4 := hel 4 (by simp [pc, K.cells])
    have e5 := hel 5 (by simp [pc, K.cells])
    have e6 := hel 6 (by simp [pc, K.cells])
    have e7 := hel 7 (by simp [pc, K.cells])
    simp only [pc, K.cells, List.cons_append, List.nil_append, List.getElem_cons_succ, List.getElem_cons_zero, Nat.add_zero] at e0 e1 e2 e3 e4 e5 e6 e7
    have HMM := Lib.hid hm
    have HHE := Lib.hid hel
    have HGE := Lib.hid (And.intro hge hgl)
    clear hn hm hel HEL hge
    go_wp2_with fail
    go_region
    · obtain ⟨U, hU⟩ : ∃ U, U = ((wr.alloc (.cells #[.int .i64 x.op, .string x.nm, .int .i64 x.day, .slice x.A x.ps.length x.cap] 26)).alloc (.cells #[.int .i64 y.op, .string y.nm, .int .i64 y.day, .slice y.A y.ps.length y.cap] 26)).drew := ⟨_, rfl⟩
      have hbU : Below wr.heap.size wr U := by rw [hU]; exact ((below1 _ _).alloc (by simp) _).drew
      have F1 := (B4.new wr (.int .i64 x.op) (.string x.nm) (.int .i64 x.day) (.slice x.A x.ps.length x.cap) 26).alloc (.cells #[.int .i64 y.op, .string y.nm, .int .i64 y.day, .slice y.A y.ps.length y.cap] 26)
      have F2 := B4.new (wr.alloc (.cells #[.int .i64 x.op, .string x.nm, .int .i64 x.day, .slice x.A x.ps.length x.cap] 26)) (.int .i64 y.op) (.string y.nm) (.int .i64 y.day) (.slice y.A y.ps.length y.cap) 26
      rw [World.size_alloc] at F2
      have X8 : B4 (wr.heap.size) U (.int .i64 x.op) (.string x.nm) (.int .i64 x.day) (.slice x.A x.ps.length x.cap) := by rw [hU]; exact (F1).alike rfl (Nat.le_refl _)
      have Y9 : B4 (wr.heap.size + 1) U (.int .i64 y.op) (.string y.nm) (.int .i64 y.day) (.slice y.A y.ps.length y.cap) := by rw [hU]; exact (F2).alike rfl (Nat.le_refl _)
      rw [← hU]
      clear hU F1 F2
      obtain ⟨b2, hb2⟩ : ∃ b, b = wr.heap.size + 1 := ⟨_, rfl⟩
      obtain ⟨b1, hb1⟩ : ∃ b, b = wr.heap.size := ⟨_, rfl⟩
      have HB1 : Hid (wr.heap.size ≤ b1 ∧ wr.heap.size ≤ b2) := Lib.hid (by omega)
      rw [← hb2, ← hb1]
      rw [← hb1] at X8
      rw [← hb2] at Y9
      obtain ⟨bx, hbx⟩ : ∃ b, b = b1 := ⟨_, rfl⟩
      obtain ⟨by_, hby⟩ : ∃ b, b = b2 := ⟨_, rfl⟩
      rw [← hbx, ← hby]
      rw [← hbx] at X8
      rw [← hby] at Y9
      have HBB : Hid (wr.heap.size ≤ bx ∧ wr.heap.size ≤ by_) := Lib.hid (by have := HB1.out; omega)
      have HU := Lib.hid hbU
      have HX8 := Lib.hid X8
      have HY9 := Lib.hid Y9
      clear hbU X8 Y9 HB1 hb1 hb2 hbx hby b1 b2
      have HBW : Hid (Below w.heap.size w U) := Lib.hid (HW.out.bel.trans (HU.out.mono HW.out.bel.size))
      have HSR : Hid (sameC k.cond q.cond = ((ps'.all fun p => sameC p.1.cond p.2.cond) && sameC x.cond y.cond)) := Lib.hid (by rw [HW.out.res, HPS.out]; simp)
      have HSK := Lib.hid (same_k x y)
      obtain ⟨_, x0, x1, x2, x3, _⟩ := HX8.out
      obtain ⟨_, y0, y1, y2, y3, _⟩ := HY9.out
      clear e0 e1 e2 e3 e4 e5 e6 e7
      by_cases h1 : x.op = y.op
      rotate_left
      · have t1 : (x.op != y.op) = true := by simpa using h1
        have HR : Hid (sameC k.cond q.cond = false) := Lib.hid (by rw [HSR.out, HSK.out, decide_eq_false h1]; simp)
        clear h1
        go_wp2_with fail
        go_ret
        exact ⟨by rw [HR.out]; rfl, HBW.out⟩
      have t1 : (x.op != y.op) = false := by rw [h1]; simp
      have HP1 := Lib.hid h1
      clear h1
      by_cases h2 : x.nm.toList = y.nm.toList
      rotate_left
      · have t2 : (x.nm.toList == y.nm.toList) = false := by simpa using h2
        have t2' : (x.nm.toList != y.nm.toList) = true := by simpa using h2
        have HR : Hid (sameC k.cond q.cond = false) := Lib.hid (by rw [HSR.out, HSK.out, decide_eq_false h2]; simp)
        clear h2
        go_wp2_with fail
        go_ret
        exact ⟨by rw [HR.out]; rfl, HBW.out⟩
      have t2 : (x.nm.toList == y.nm.toList) = true := by simpa using h2
      have t2' : (x.nm.toList != y.nm.toList) = false := by simpa using h2
      have HP2 := Lib.hid h2
      clear h2
      by_cases h3 : x.day = y.day
      rotate_left
      · have t3 : (x.day != y.day) = true := by simpa using h3
        have HR : Hid (sameC k.cond q.cond = false) := Lib.hid (by rw [HSR.out, HSK.out, decide_eq_false h3]; simp)
        clear h3
        go_wp2_with fail
        go_ret
        exact ⟨by rw [HR.out]; rfl, HBW.out⟩
      have t3 : (x.day != y.day) = false := by rw [h3]; simp
      have HP3 := Lib.hid h3
      clear h3
      obtain ⟨lx, hlx⟩ : ∃ l, l = x.ps.length := ⟨_, rfl⟩
      obtain ⟨ly, hly⟩ : ∃ l, l = y.ps.length := ⟨_, rfl⟩
      rw [← hlx] at x3
      rw [← hly] at y3
      have HLX := Lib.hid hlx
      have HLY := Lib.hid hly
      clear hlx hly
      by_cases h4 : lx = ly
      rotate_left
      · have t4 : ((lx : Int) != (ly : Int)) = true := by rw [bne_iff_ne]; omega
        have HR : Hid (sameC k.cond q.cond = false) := Lib.hid (by rw [HSR.out, HSK.out, same_len x.ps y.ps (by rw [← HLX.out, ← HLY.out]; exact h4)]; simp)
        clear h4
        go_wp2_with fail
        go_ret
        exact ⟨by rw [HR.out]; rfl, HBW.out⟩
      subst h4
      have HSC : Hid (sameC x.cond y.cond = sameL (conds x.ps) (conds y.ps)) := Lib.hid (by rw [HSK.out, HP1.out, HP2.out, HP3.out]; simp)
      by_cases hz : lx = 0
      · have t5 : ((lx : Int) == 0) = true := by rw [hz]; rfl
        have hlx0 : (lx : Int) = 0 := by omega
        have HWL : Hid (Wt w U k q (w.heap.size + 1 + 1) s V (.slice (some ⟨g, 0, none⟩) m c) ps') := Lib.hid (HW.out.leaf HPS.out HMM.out HM.out HU.out (by rw [HSC.out, conds_nil (by rw [← HLX.out]; exact hz), conds_nil (by rw [← HLY.out]; exact hz)]; rfl))
        have HME : Hid ((N - msz U (w.heap.size + 1 + 1)) * (N + 1) + m < (N - msz wr (w.heap.size + 1 + 1)) * (N + 1) + n) := Lib.hid (by rw [msz_is HWL.out.map, msz_is HW.out.map]; exact meas1 HM.out)
        subst hz
        go_wp2_with fail
        go_roundw
        case rel => exact ⟨m, some ⟨g, 0, none⟩, c, s, V, ps', rfl, HMM, HWL⟩
        case measure => exact HME.out
      have t5 : ((lx : Int) == 0) = false := by rw [beq_eq_false_iff_ne]; omega
      have hlx1 : (0 : Int) < (lx : Int) := by omega
      have HLI : Hid (Lies w w.heap.size x ∧ Lies w w.heap.size y) := Lib.hid (HW.out.li (x, y) (by rw [HPS.out]; simp))
      obtain ⟨b1, o1, hA1, hB1, hE1⟩ := lies_A HLI.out.1 (by rw [← HLX.out]; omega)
      obtain ⟨b2, o2, hA2, hB2, hE2⟩ := lies_A HLI.out.2 (by rw [← HLY.out]; omega)
      rw [hA1] at x3
      rw [hA2] at y3
      have HB2L := Lib.hid hB2
      have HE1 := Lib.hid hE1
      have HE2 := Lib.hid hE2
      have HFF : Hid (FB ps = FB ps' ++ (b1 :: blocks x.ps)) := Lib.hid (by
        rw [HPS.out, FB_app]
        simp only [FB, List.flatMap_cons, List.flatMap_nil, List.append_nil]
        rw [blocks_k hA1 (by rw [← HLX.out]; omega)])
      have HAA := Lib.hid (And.intro hA1 hA2)
      have HNB : Hid (b1 ∉ V) := Lib.hid fun hb => by
        have h1 := HW.out.nd
        rw [HFF.out] at h1
        exact (List.nodup_append.1 h1).2.2 b1 hb b1 (by simp) rfl
      have HVB : Hid (∀ b ∈ V, PtK.Fre w b ∧ b < w.heap.size) := Lib.hid fun b hb => ⟨HCB.out b (HW.out.cb b (List.mem_append.2 (.inl hb))), HKL.out b (HW.out.cb b (List.mem_append.2 (.inl hb)))⟩
      have HB0 : Hid (PtK.Fre w b1 ∧ b1 < w.heap.size) := Lib.hid ⟨HCB.out b1 (HW.out.cb b1 (by rw [HFF.out]; simp)), hB1⟩
      have hub : bx < U.heap.size := HX8.out.lt
      have hub2 : by_ < U.heap.size := HY9.out.lt
      clear hz hA1 hA2 hE1 hE2 hB1 hB2
      go_wp2_with fail
      go_region
      all_goals
        obtain ⟨U2, hU2⟩ : ∃ U2, U2 = (U.alloc (.cells #[.pointer (some ⟨b1, o1, none⟩), .pointer (some ⟨b2, o2, none⟩), .int .i64 (lx : Int)] 86)).drew := ⟨_, rfl⟩
        have hb2 : Below U.heap.size U U2 := by rw [hU2]; exact (below1 _ _).drew
        have HP2 : Gx.Bk U.heap.size U2 [.pointer (some ⟨b1, o1, none⟩), .pointer (some ⟨b2, o2, none⟩), .int .i64 (lx : Int)] := by rw [hU2]; exact (Gx.Bk.new _ _ _).drew
        rw [← hU2]
        have d0 := HP2.c 0 (by simp)
        have d1 := HP2.c 1 (by simp)
        have d2 := HP2.c 2 (by simp)
        simp only [List.getElem_cons_succ, List.getElem_cons_zero] at d0 d1 d2
        have BW2 := Lib.hid (HBW.out.trans (hb2.mono HBW.out.size))
        have M2 := Lib.hid ((HW.out.map.same (HU.out.block _ HW.out.map.lt)).same (hb2.block _ (Nat.lt_of_lt_of_le HW.out.map.lt HU.out.size)))
        have X2 := Lib.hid (HX8.out.on hb2)
        have Y2 := Lib.hid (HY9.out.on hb2)
        have HV2 : Hid (∀ b ∈ V, PtK.Fre U2 b) := Lib.hid fun b hb => (HVB.out b hb).1.same (BW2.out.block b (HVB.out b hb).2)
        have HF2 : Hid (PtK.Fre U2 b1) := Lib.hid (HB0.out.1.same (BW2.out.block b1 HB0.out.2))
        have O2 : Hid (OwnP U2 w.heap.size (.slice (some ⟨g, 0, none⟩) ps'.length c) ps') := Lib.hid (ownC_on (ownC_on (takeP (by rw [HM.out, HMM.out]) HOW.out) HU.out) hb2)
        have HGN : Hid (g ≠ w.heap.size + 1 + 1) := Lib.hid (map_cells HW.out.map HOW.out)
        have HML : Hid (w.heap.size + 1 + 1 < wr.heap.size) := Lib.hid HW.out.map.lt
        clear hU2 hb2 HP2 x0 x1 x2 x3 y0 y1 y2 y3
        go_wp2_with (first
          | (at_lookup; refine wp_lookP rfl _ _ rfl (w.heap.size + 1 + 1) s V rfl b1 o1 ⟨b2, o2, none⟩ (lx : Int) rfl M2.out HV2.out HF2.out HNB.out ?_)
          | (at_mapUpdate; refine wp_storeP rfl _ _ _ rfl (w.heap.size + 1 + 1) s V rfl b1 o1 ⟨b2, o2, none⟩ (lx : Int) rfl rfl M2.out HV2.out HF2.out HNB.out ?_; intro U3 hm3 hg3; refine Hid.out ?_))
        refine Lib.hid ?_
        have HL3 : Hid (Lt w U3 x y (w.heap.size + 1 + 1) (s + 1) bx by_ lx b1 o1 b2 o2 (b1 :: V) (.slice (some ⟨g, 0, none⟩) ps'.length c) ps') := Lib.hid (by
          have h1 := HBB.out
          have h2 := HML.out
          have l1 := X2.out.lt
          have l2 := Y2.out.lt
          have hgg := HGE.out
          have e1 := X2.out
          have e2 := Y2.out
          rw [HAA.out.1, ← HLX.out] at e1
          rw [HAA.out.2, ← HLY.out] at e2
          refine ⟨World.ownsRow.kept O2.out hg3 (by simp [Value.ownBlock]; exact fun e => HGN.out e), hm3, e1.alike (hg3.block _ l1 (fun e => by injection e; omega)) hg3.size, e2.alike (hg3.block _ l2 (fun e => by injection e; omega)) hg3.size, fun g' e => ?_, BW2.out.grown hg3 BW2.out.size (fun j e => by injection e; omega)⟩
          have : g = g' := by injection e
          subst this
          exact ⟨by omega, by omega, HGN.out⟩)
        have HLB : Hid (ps'.length + lx + 1 ≤ N ∧ s < N) := Lib.hid (by
          have h1 := HW.out.sum
          rw [HPS.out, SZ_app] at h1
          have h2 : SZ [(x, y)] = x.cond.size := by simp [SZ]
          have h3 := size_k x
          have h4 := SZ_len (x.ps.zip y.ps)
          rw [SZ_zip _ _ (by rw [← HLX.out, ← HLY.out]), List.length_zip, ← HLX.out, ← HLY.out, Nat.min_self] at h4
          have h5 := SZ_len ps'
          have := HNN.out
          omega)
        have hlx2 : lx ≤ 2000000 := by have := HLB.out; omega
        have z3 := HL3.out.ex.c3
        clear hm3 hg3 M2 X2 Y2 HV2 HF2 O2 d0 d1 d2
        go_wp2_with fail
        go_loopw [6, 86] (fun v i wr2 => ∃ (j : Nat) (a : Option Addr) (c' : Nat) (qs : List (K × K)), j ≤ lx ∧ v = .slice a qs.length c' ∧ i = .int .i64 j ∧ Hid (qs = ps' ++ (x.ps.zip y.ps).take j) ∧ Hid (Lt w wr2 x y (w.heap.size + 1 + 1) (s + 1) bx by_ lx b1 o1 b2 o2 (b1 :: V) (.slice a qs.length c') qs)) (fun _ i _ => lx - (intOf i).toNat)
        case atStart => exact ⟨0, some ⟨g, 0, none⟩, c, ps', Nat.zero_le _, by rw [HMM.out], rfl, Lib.hid (by simp), HL3⟩
        case round =>
          clear HL3 z3
          obtain ⟨j, a, c', qs, hj, rfl, rfl, HQ, HL⟩ := hrel
          have hql : qs.length ≤ 2000000 := by
            rw [HQ.out, List.length_append, List.length_take, List.length_zip]
            have := HLB.out
            have := HLX.out
            omega
          by_cases hlt : j < lx
          · have hj1 : j < x.ps.length := by have := HLX.out; omega
            have hj2 : j < y.ps.length := by have := HLY.out; omega
            obtain ⟨xi, hxi⟩ : ∃ xi, xi = x.ps[j] := ⟨_, rfl⟩
            obtain ⟨yi, hyi⟩ : ∃ yi, yi = y.ps[j] := ⟨_, rfl⟩
            have f1 := (HE1.out j hj1).alike (HL.out.bel.block b1 HB0.out.2)
            have f2 := (HE2.out j hj2).alike (HL.out.bel.block b2 HB2L.out)
            rw [← hxi] at f1
            rw [← hyi] at f2
            obtain ⟨c0, c1, c2, c3⟩ := f1
            obtain ⟨d0, d1, d2, d3⟩ := f2
            have z3 := HL.out.ex.c3
            have zz3 := HL.out.ey.c3
            have i0' : (0 : Int) ≤ (j : Int) := by omega
            have i1' : (j : Int) < (lx : Int) := by omega
            have HQ2 : Hid (qs ++ [(xi, yi)] = ps' ++ (x.ps.zip y.ps).take (j + 1)) := Lib.hid (by
              have hz : j < (x.ps.zip y.ps).length := by rw [List.length_zip]; omega
              rw [List.take_succ_eq_append_getElem hz, List.getElem_zip, ← hxi, ← hyi, HQ.out, List.append_assoc])
            have KW : Hid (∀ v, Below wr.heap.size wr v → v.cell? ⟨bx, 3, none⟩ = some (.slice (some ⟨b1, o1, none⟩) lx x.cap) ∧ v.cell? ⟨by_, 3, none⟩ = some (.slice (some ⟨b2, o2, none⟩) lx y.cap) ∧ v.cell? ⟨b1, o1 + j * 4, none⟩ = some (.int .i64 xi.op) ∧ v.cell? ⟨b1, o1 + j * 4 + 1, none⟩ = some (.string xi.nm) ∧ v.cell? ⟨b1, o1 + j * 4 + 2, none⟩ = some (.int .i64 xi.day) ∧ v.cell? ⟨b1, o1 + j * 4 + 3, none⟩ = some (.slice xi.A xi.ps.length xi.cap) ∧ v.cell? ⟨b2, o2 + j * 4, none⟩ = some (.int .i64 yi.op) ∧ v.cell? ⟨b2, o2 + j * 4 + 1, none⟩ = some (.string yi.nm) ∧ v.cell? ⟨b2, o2 + j * 4 + 2, none⟩ = some (.int .i64 yi.day) ∧ v.cell? ⟨b2, o2 + j * 4 + 3, none⟩ = some (.slice yi.A yi.ps.length yi.cap)) := Lib.hid fun v hv => by
              have lx1 := HL.out.ex.lt
              have ly1 := HL.out.ey.lt
              have q1 : b1 < wr.heap.size := Nat.lt_of_lt_of_le HB0.out.2 HL.out.bel.size
              have q2 : b2 < wr.heap.size := Nat.lt_of_lt_of_le HB2L.out HL.out.bel.size
              exact ⟨(hv.cell (p := ⟨bx, 3, none⟩) lx1).trans z3, (hv.cell (p := ⟨by_, 3, none⟩) ly1).trans zz3, (hv.cell (p := ⟨b1, o1 + j * 4, none⟩) q1).trans c0, (hv.cell (p := ⟨b1, o1 + j * 4 + 1, none⟩) q1).trans c1, (hv.cell (p := ⟨b1, o1 + j * 4 + 2, none⟩) q1).trans c2, (hv.cell (p := ⟨b1, o1 + j * 4 + 3, none⟩) q1).trans c3, (hv.cell (p := ⟨b2, o2 + j * 4, none⟩) q2).trans d0, (hv.cell (p := ⟨b2, o2 + j * 4 + 1, none⟩) q2).trans d1, (hv.cell (p := ⟨b2, o2 + j * 4 + 2, none⟩) q2).trans d2, (hv.cell (p := ⟨b2, o2 + j * 4 + 3, none⟩) q2).trans d3⟩
            have KG : Hid (∀ u1 v, Below wr.heap.size wr u1 → u1.grownBy v (Value.slice a qs.length c').ownBlock → v.cell? ⟨bx, 3, none⟩ = some (.slice (some ⟨b1, o1, none⟩) lx x.cap) ∧ v.cell? ⟨by_, 3, none⟩ = some (.slice (some ⟨b2, o2, none⟩) lx y.cap) ∧ v.cell? ⟨b1, o1 + j * 4, none⟩ = some (.int .i64 xi.op) ∧ v.cell? ⟨b1, o1 + j * 4 + 1, none⟩ = some (.string xi.nm) ∧ v.cell? ⟨b1, o1 + j * 4 + 2, none⟩ = some (.int .i64 xi.day) ∧ v.cell? ⟨b1, o1 + j * 4 + 3, none⟩ = some (.slice xi.A xi.ps.length xi.cap) ∧ v.cell? ⟨b2, o2 + j * 4, none⟩ = some (.int .i64 yi.op) ∧ v.cell? ⟨b2, o2 + j * 4 + 1, none⟩ = some (.string yi.nm) ∧ v.cell? ⟨b2, o2 + j * 4 + 2, none⟩ = some (.int .i64 yi.day) ∧ v.cell? ⟨b2, o2 + j * 4 + 3, none⟩ = some (.slice yi.A yi.ps.length yi.cap)) := Lib.hid fun u1 v hu hg => by
              have lx1 := HL.out.ex.lt
              have ly1 := HL.out.ey.lt
              have hs := hu.size
              have q1 : b1 < wr.heap.size := Nat.lt_of_lt_of_le HB0.out.2 HL.out.bel.size
              have q2 : b2 < wr.heap.size := Nat.lt_of_lt_of_le HB2L.out HL.out.bel.size
              have hge : ∀ g', (Value.slice a qs.length c').ownBlock = some g' → w.heap.size ≤ g' := fun g' e => by
                rcases HL.out.own.2 with ⟨hv, _⟩ | ⟨g2, cc, cur, hv, hS, _⟩
                · rw [hv] at e; cases e
                · rw [hv] at e
                  injection e with e
                  rw [← e]; exact hS
              have r1 : v.heap[bx]? = u1.heap[bx]? := hg.block bx (by omega) (fun e => (HL.out.nx bx e.symm).1 rfl)
              have r2 : v.heap[by_]? = u1.heap[by_]? := hg.block by_ (by omega) (fun e => (HL.out.nx by_ e.symm).2.1 rfl)
              have r3 : v.heap[b1]? = u1.heap[b1]? := hg.block b1 (by omega) (fun e => by have := hge b1 e.symm; have := HB0.out.2; omega)
              have r4 : v.heap[b2]? = u1.heap[b2]? := hg.block b2 (by omega) (fun e => by have := hge b2 e.symm; have := HB2L.out; omega)
              obtain ⟨k0, k1, k2, k3, k4, k5, k6, k7, k8, k9⟩ := KW.out u1 hu
              exact ⟨(World.cell?_of_block (a := ⟨bx, 3, none⟩) r1).trans k0, (World.cell?_of_block (a := ⟨by_, 3, none⟩) r2).trans k1, (World.cell?_of_block (a := ⟨b1, o1 + j * 4, none⟩) r3).trans k2, (World.cell?_of_block (a := ⟨b1, o1 + j * 4 + 1, none⟩) r3).trans k3, (World.cell?_of_block (a := ⟨b1, o1 + j * 4 + 2, none⟩) r3).trans k4, (World.cell?_of_block (a := ⟨b1, o1 + j * 4 + 3, none⟩) r3).trans k5, (World.cell?_of_block (a := ⟨b2, o2 + j * 4, none⟩) r4).trans k6, (World.cell?_of_block (a := ⟨b2, o2 + j * 4 + 1, none⟩) r4).trans k7, (World.cell?_of_block (a := ⟨b2, o2 + j * 4 + 2, none⟩) r4).trans k8, (World.cell?_of_block (a := ⟨b2, o2 + j * 4 + 3, none⟩) r4).trans k9⟩
            have HJ := Lib.hid hlt
            clear hxi hyi hj1 hj2
            go_wp2_with fail
            go_region_held_law (fun v => v.cell? ⟨bx, 3, none⟩ = some (.slice (some ⟨b1, o1, none⟩) lx x.cap) ∧ v.cell? ⟨by_, 3, none⟩ = some (.slice (some ⟨b2, o2, none⟩) lx y.cap) ∧ v.cell? ⟨b1, o1 + j * 4, none⟩ = some (.int .i64 xi.op) ∧ v.cell? ⟨b1, o1 + j * 4 + 1, none⟩ = some (.string xi.nm) ∧ v.cell? ⟨b1, o1 + j * 4 + 2, none⟩ = some (.int .i64 xi.day) ∧ v.cell? ⟨b1, o1 + j * 4 + 3, none⟩ = some (.slice xi.A xi.ps.length xi.cap) ∧ v.cell? ⟨b2, o2 + j * 4, none⟩ = some (.int .i64 yi.op) ∧ v.cell? ⟨b2, o2 + j * 4 + 1, none⟩ = some (.string yi.nm) ∧ v.cell? ⟨b2, o2 + j * 4 + 2, none⟩ = some (.int .i64 yi.day) ∧ v.cell? ⟨b2, o2 + j * 4 + 3, none⟩ = some (.slice yi.A yi.ps.length yi.cap)) (first | (refine KW.out _ ?_; (first | exact Below.refl _ _ | exact (Below.refl _ _).drew | exact below1 _ _ | exact (below1 _ _).drew | exact ((Below.refl _ _).drew).alloc (Nat.le_refl _) _ | exact (((Below.refl _ _).drew).alloc (Nat.le_refl _) _).drew); done) | (exact KG.out _ _ (by first | exact Below.refl _ _ | exact (Below.refl _ _).drew | exact below1 _ _ | exact (below1 _ _).drew | exact ((Below.refl _ _).drew).alloc (Nat.le_refl _) _ | exact (((Below.refl _ _).drew).alloc (Nat.le_refl _) _).drew) hg5))
              ((refine step_appP rfl _ _ rfl w.heap.size _ qs rfl (by first | exact HL.out.own.alloc _ | exact (World.ownsRow.drew HL.out.own).alloc _) _ _ (xi, yi) rfl (by first | exact (Gx.Bk.new _ #[.int .i64 xi.op, .string xi.nm, .int .i64 xi.day, .slice xi.A xi.ps.length xi.cap, .int .i64 yi.op, .string yi.nm, .int .i64 yi.day, .slice yi.A yi.ps.length yi.cap] _).el | exact (Gx.Bk.new _ #[.int .i64 xi.op, .string xi.nm, .int .i64 xi.day, .slice xi.A xi.ps.length xi.cap, .int .i64 yi.op, .string yi.nm, .int .i64 yi.day, .slice yi.A yi.ps.length yi.cap] _).drew.el) (by omega) (by have := HL.out.bel.size; simp; omega) ?_; intro a5 c5 w5 hown5 hg5 hat5))
            all_goals
              have HL5 : Hid (Lt w w5 x y (w.heap.size + 1 + 1) (s + 1) bx by_ lx b1 o1 b2 o2 (b1 :: V) (.slice a5 (qs.length + 1) c5) (qs ++ [(xi, yi)])) := Lib.hid (HL.out.app (by first | exact below1 _ _ | exact (below1 _ _).drew) hown5 hg5 hat5)
              have hl2 : qs.length + 1 = (qs ++ [(xi, yi)]).length := by simp
              rw [hl2] at HL5 ⊢
              clear hown5 hg5 hat5 hl2
              go_wp2_with fail
              go_roundw
              case rel => exact ⟨j + 1, a5, c5, qs ++ [(xi, yi)], by have := HJ.out; omega, by simp, by go_num, HQ2, HL5⟩
              case measure => (have := HJ.out; simp [intOf]; omega)
          · have HQE : Hid (qs = ps' ++ x.ps.zip y.ps) := Lib.hid (by rw [HQ.out, List.take_of_length_le (by rw [List.length_zip]; have := HLX.out; have := HLY.out; omega)])
            have HXY : Hid (x.ps.length = y.ps.length) := Lib.hid (by rw [← HLX.out, ← HLY.out])
            have HFQ : Hid (FB qs = FB ps' ++ blocks x.ps) := Lib.hid (by rw [HQE.out, FB_app, FB_zip _ _ HXY.out])
            have HPM : Hid (((b1 :: V) ++ FB qs).Perm (V ++ FB ps)) := Lib.hid (by
              rw [HFQ.out, HFF.out]
              have h1 : (V ++ FB ps' ++ b1 :: blocks x.ps).Perm (b1 :: (V ++ FB ps' ++ blocks x.ps)) := List.perm_middle
              simp only [List.append_assoc, List.cons_append] at h1 ⊢
              exact h1.symm)
            have HWE : Hid (Wt w wr k q (w.heap.size + 1 + 1) (s + 1) (b1 :: V) (.slice a qs.length c') qs) := Lib.hid (by
              refine ⟨HL.out.own, HL.out.map, HPM.out.nodup_iff.2 HW.out.nd, fun b hb => HW.out.cb b (HPM.out.mem_iff.1 hb), fun p hp => ?_, ?_, ?_, HL.out.bel⟩
              · rw [HQE.out] at hp
                rcases List.mem_append.1 hp with hp | hp
                · exact HW.out.li p (by rw [HPS.out]; exact List.mem_append.2 (.inl hp))
                · have hp' : (p.1, p.2) ∈ x.ps.zip y.ps := hp
                  have h1 := List.of_mem_zip hp'
                  exact ⟨lies_part HLI.out.1 h1.1, lies_part HLI.out.2 h1.2⟩
              · rw [HSR.out, HSC.out, same_zip _ _ HXY.out, HQE.out, List.all_append]
              · have h1 := HW.out.sum
                rw [HPS.out, SZ_app] at h1
                have h2 : SZ [(x, y)] = x.cond.size := by simp [SZ]
                have h3 := size_k x
                have h4 := SZ_zip _ _ HXY.out
                rw [HQE.out, SZ_app]
                omega)
            have HME : Hid ((N - msz wr (w.heap.size + 1 + 1)) * (N + 1) + qs.length < (N - s) * (N + 1) + n) := Lib.hid (by
              rw [msz_is HWE.out.map]
              refine meas2 HLB.out.2 ?_
              rw [HQE.out, List.length_append, List.length_zip]
              have := HLB.out.1
              have := HLX.out
              omega)
            have HMO := Lib.hid (msz_is HW.out.map)
            go_wp2_with fail
            go_roundw
            case rel => exact ⟨qs.length, a, c', s + 1, b1 :: V, qs, rfl, Lib.hid rfl, HWE⟩
            case measure =>
              rw [HMO.out]
              exact HME.out
    · obtain ⟨U, hU⟩ : ∃ U, U = ((wr.alloc (.cells #[.int .i64 y.op, .string y.nm, .int .i64 y.day, .slice y.A y.ps.length y.cap] 26)).alloc (.cells #[.int .i64 x.op, .string x.nm, .int .i64 x.day, .slice x.A x.ps.length x.cap] 26)).drew := ⟨_, rfl⟩
      have hbU : Below wr.heap.size wr U := by rw [hU]; exact ((below1 _ _).alloc (by simp) _).drew
      have F1 := (B4.new wr (.int .i64 y.op) (.string y.nm) (.int .i64 y.day) (.slice y.A y.ps.length y.cap) 26).alloc (.cells #[.int .i64 x.op, .string x.nm, .int .i64 x.day, .slice x.A x.ps.length x.cap] 26)
      have F2 := B4.new (wr.alloc (.cells #[.int .i64 y.op, .string y.nm, .int .i64 y.day, .slice y.A y.ps.length y.cap] 26)) (.int .i64 x.op) (.string x.nm) (.int .i64 x.day) (.slice x.A x.ps.length x.cap) 26
      rw [World.size_alloc] at F2
      have X8 : B4 (wr.heap.size + 1) U (.int .i64 x.op) (.string x.nm) (.int .i64 x.day) (.slice x.A x.ps.length x.cap) := by rw [hU]; exact (F2).alike rfl (Nat.le_refl _)
      have Y9 : B4 (wr.heap.size) U (.int .i64 y.op) (.string y.nm) (.int .i64 y.day) (.slice y.A y.ps.length y.cap) := by rw [hU]; exact (F1).alike rfl (Nat.le_refl _)
      rw [← hU]
      clear hU F1 F2
      obtain ⟨b2, hb2⟩ : ∃ b, b = wr.heap.size + 1 := ⟨_, rfl⟩
      obtain ⟨b1, hb1⟩ : ∃ b, b = wr.heap.size := ⟨_, rfl⟩
      have HB1 : Hid (wr.heap.size ≤ b1 ∧ wr.heap.size ≤ b2) := Lib.hid (by omega)
      rw [← hb2, ← hb1]
      rw [← hb2] at X8
      rw [← hb1] at Y9
      obtain ⟨bx, hbx⟩ : ∃ b, b = b2 := ⟨_, rfl⟩
      obtain ⟨by_, hby⟩ : ∃ b, b = b1 := ⟨_, rfl⟩
      rw [← hbx, ← hby]
      rw [← hbx] at X8
      rw [← hby] at Y9
      have HBB : Hid (wr.heap.size ≤ bx ∧ wr.heap.size ≤ by_) := Lib.hid (by have := HB1.out; omega)
      have HU := Lib.hid hbU
      have HX8 := Lib.hid X8
      have HY9 := Lib.hid Y9
      clear hbU X8 Y9 HB1 hb1 hb2 hbx hby b1 b2
      have HBW : Hid (Below w.heap.size w U) := Lib.hid (HW.out.bel.trans (HU.out.mono HW.out.bel.size))
      have HSR : Hid (sameC k.cond q.cond = ((ps'.all fun p => sameC p.1.cond p.2.cond) && sameC x.cond y.cond)) := Lib.hid (by rw [HW.out.res, HPS.out]; simp)
      have HSK := Lib.hid (same_k x y)
      obtain ⟨_, x0, x1, x2, x3, _⟩ := HX8.out
      obtain ⟨_, y0, y1, y2, y3, _⟩ := HY9.out
      clear e0 e1 e2 e3 e4 e5 e6 e7
      by_cases h1 : x.op = y.op
      rotate_left
      · have t1 : (x.op != y.op) = true := by simpa using h1
        have HR : Hid (sameC k.cond q.cond = false) := Lib.hid (by rw [HSR.out, HSK.out, decide_eq_false h1]; simp)
        clear h1
        go_wp2_with fail
        go_ret
        exact ⟨by rw [HR.out]; rfl, HBW.out⟩
      have t1 : (x.op != y.op) = false := by rw [h1]; simp
      have HP1 := Lib.hid h1
      clear h1
      by_cases h2 : x.nm.toList = y.nm.toList
      rotate_left
      · have t2 : (x.nm.toList == y.nm.toList) = false := by simpa using h2
        have t2' : (x.nm.toList != y.nm.toList) = true := by simpa using h2
        have HR : Hid (sameC k.cond q.cond = false) := Lib.hid (by rw [HSR.out, HSK.out, decide_eq_false h2]; simp)
        clear h2
        go_wp2_with fail
        go_ret
        exact ⟨by rw [HR.out]; rfl, HBW.out⟩
      have t2 : (x.nm.toList == y.nm.toList) = true := by simpa using h2
      have t2' : (x.nm.toList != y.nm.toList) = false := by simpa using h2
      have HP2 := Lib.hid h2
      clear h2
      by_cases h3 : x.day = y.day
      rotate_left
      · have t3 : (x.day != y.day) = true := by simpa using h3
        have HR : Hid (sameC k.cond q.cond = false) := Lib.hid (by rw [HSR.out, HSK.out, decide_eq_false h3]; simp)
        clear h3
        go_wp2_with fail
        go_ret
        exact ⟨by rw [HR.out]; rfl, HBW.out⟩
      have t3 : (x.day != y.day) = false := by rw [h3]; simp
      have HP3 := Lib.hid h3
      clear h3
      obtain ⟨lx, hlx⟩ : ∃ l, l = x.ps.length := ⟨_, rfl⟩
      obtain ⟨ly, hly⟩ : ∃ l, l = y.ps.length := ⟨_, rfl⟩
      rw [← hlx] at x3
      rw [← hly] at y3
      have HLX := Lib.hid hlx
      have HLY := Lib.hid hly
      clear hlx hly
      by_cases h4 : lx = ly
      rotate_left
      · have t4 : ((lx : Int) != (ly : Int)) = true := by rw [bne_iff_ne]; omega
        have HR : Hid (sameC k.cond q.cond = false) := Lib.hid (by rw [HSR.out, HSK.out, same_len x.ps y.ps (by rw [← HLX.out, ← HLY.out]; exact h4)]; simp)
        clear h4
        go_wp2_with fail
        go_ret
        exact ⟨by rw [HR.out]; rfl, HBW.out⟩
      subst h4
      have HSC : Hid (sameC x.cond y.cond = sameL (conds x.ps) (conds y.ps)) := Lib.hid (by rw [HSK.out, HP1.out, HP2.out, HP3.out]; simp)
      by_cases hz : lx = 0
      · have t5 : ((lx : Int) == 0) = true := by rw [hz]; rfl
        have hlx0 : (lx : Int) = 0 := by omega
        have HWL : Hid (Wt w U k q (w.heap.size + 1 + 1) s V (.slice (some ⟨g, 0, none⟩) m c) ps') := Lib.hid (HW.out.leaf HPS.out HMM.out HM.out HU.out (by rw [HSC.out, conds_nil (by rw [← HLX.out]; exact hz), conds_nil (by rw [← HLY.out]; exact hz)]; rfl))
        have HME : Hid ((N - msz U (w.heap.size + 1 + 1)) * (N + 1) + m < (N - msz wr (w.heap.size + 1 + 1)) * (N + 1) + n) := Lib.hid (by rw [msz_is HWL.out.map, msz_is HW.out.map]; exact meas1 HM.out)
        subst hz
        go_wp2_with fail
        go_roundw
        case rel => exact ⟨m, some ⟨g, 0, none⟩, c, s, V, ps', rfl, HMM, HWL⟩
        case measure => exact HME.out
      have t5 : ((lx : Int) == 0) = false := by rw [beq_eq_false_iff_ne]; omega
      have hlx1 : (0 : Int) < (lx : Int) := by omega
      have HLI : Hid (Lies w w.heap.size x ∧ Lies w w.heap.size y) := Lib.hid (HW.out.li (x, y) (by rw [HPS.out]; simp))
      obtain ⟨b1, o1, hA1, hB1, hE1⟩ := lies_A HLI.out.1 (by rw [← HLX.out]; omega)
      obtain ⟨b2, o2, hA2, hB2, hE2⟩ := lies_A HLI.out.2 (by rw [← HLY.out]; omega)
      rw [hA1] at x3
      rw [hA2] at y3
      have HB2L := Lib.hid hB2
      have HE1 := Lib.hid hE1
      have HE2 := Lib.hid hE2
      have HFF : Hid (FB ps = FB ps' ++ (b1 :: blocks x.ps)) := Lib.hid (by
        rw [HPS.out, FB_app]
        simp only [FB, List.flatMap_cons, List.flatMap_nil, List.append_nil]
        rw [blocks_k hA1 (by rw [← HLX.out]; omega)])
      have HAA := Lib.hid (And.intro hA1 hA2)
      have HNB : Hid (b1 ∉ V) := Lib.hid fun hb => by
        have h1 := HW.out.nd
        rw [HFF.out] at h1
        exact (List.nodup_append.1 h1).2.2 b1 hb b1 (by simp) rfl
      have HVB : Hid (∀ b ∈ V, PtK.Fre w b ∧ b < w.heap.size) := Lib.hid fun b hb => ⟨HCB.out b (HW.out.cb b (List.mem_append.2 (.inl hb))), HKL.out b (HW.out.cb b (List.mem_append.2 (.inl hb)))⟩
      have HB0 : Hid (PtK.Fre w b1 ∧ b1 < w.heap.size) := Lib.hid ⟨HCB.out b1 (HW.out.cb b1 (by rw [HFF.out]; simp)), hB1⟩
      have hub : bx < U.heap.size := HX8.out.lt
      have hub2 : by_ < U.heap.size := HY9.out.lt
      clear hz hA1 hA2 hE1 hE2 hB1 hB2
      go_wp2_with fail
      go_region
      all_goals
        obtain ⟨U2, hU2⟩ : ∃ U2, U2 = (U.alloc (.cells #[.pointer (some ⟨b1, o1, none⟩), .pointer (some ⟨b2, o2, none⟩), .int .i64 (lx : Int)] 86)).drew := ⟨_, rfl⟩
        have hb2 : Below U.heap.size U U2 := by rw [hU2]; exact (below1 _ _).drew
        have HP2 : Gx.Bk U.heap.size U2 [.pointer (some ⟨b1, o1, none⟩), .pointer (some ⟨b2, o2, none⟩), .int .i64 (lx : Int)] := by rw [hU2]; exact (Gx.Bk.new _ _ _).drew
        rw [← hU2]
        have d0 := HP2.c 0 (by simp)
        have d1 := HP2.c 1 (by simp)
        have d2 := HP2.c 2 (by simp)
        simp only [List.getElem_cons_succ, List.getElem_cons_zero] at d0 d1 d2
        have BW2 := Lib.hid (HBW.out.trans (hb2.mono HBW.out.size))
        have M2 := Lib.hid ((HW.out.map.same (HU.out.block _ HW.out.map.lt)).same (hb2.block _ (Nat.lt_of_lt_of_le HW.out.map.lt HU.out.size)))
        have X2 := Lib.hid (HX8.out.on hb2)
        have Y2 := Lib.hid (HY9.out.on hb2)
        have HV2 : Hid (∀ b ∈ V, PtK.Fre U2 b) := Lib.hid fun b hb => (HVB.out b hb).1.same (BW2.out.block b (HVB.out b hb).2)
        have HF2 : Hid (PtK.Fre U2 b1) := Lib.hid (HB0.out.1.same (BW2.out.block b1 HB0.out.2))
        have O2 : Hid (OwnP U2 w.heap.size (.slice (some ⟨g, 0, none⟩) ps'.length c) ps') := Lib.hid (ownC_on (ownC_on (takeP (by rw [HM.out, HMM.out]) HOW.out) HU.out) hb2)
        have HGN : Hid (g ≠ w.heap.size + 1 + 1) := Lib.hid (map_cells HW.out.map HOW.out)
        have HML : Hid (w.heap.size + 1 + 1 < wr.heap.size) := Lib.hid HW.out.map.lt
        clear hU2 hb2 HP2 x0 x1 x2 x3 y0 y1 y2 y3
        go_wp2_with (first
          | (at_lookup; refine wp_lookP rfl _ _ rfl (w.heap.size + 1 + 1) s V rfl b1 o1 ⟨b2, o2, none⟩ (lx : Int) rfl M2.out HV2.out HF2.out HNB.out ?_)
          | (at_mapUpdate; refine wp_storeP rfl _ _ _ rfl (w.heap.size + 1 + 1) s V rfl b1 o1 ⟨b2, o2, none⟩ (lx : Int) rfl rfl M2.out HV2.out HF2.out HNB.out ?_; intro U3 hm3 hg3; refine Hid.out ?_))
        refine Lib.hid ?_
        have HL3 : Hid (Lt w U3 x y (w.heap.size + 1 + 1) (s + 1) bx by_ lx b1 o1 b2 o2 (b1 :: V) (.slice (some ⟨g, 0, none⟩) ps'.length c) ps') := Lib.hid (by
          have h1 := HBB.out
          have h2 := HML.out
          have l1 := X2.out.lt
          have l2 := Y2.out.lt
          have hgg := HGE.out
          have e1 := X2.out
          have e2 := Y2.out
          rw [HAA.out.1, ← HLX.out] at e1
          rw [HAA.out.2, ← HLY.out] at e2
          refine ⟨World.ownsRow.kept O2.out hg3 (by simp [Value.ownBlock]; exact fun e => HGN.out e), hm3, e1.alike (hg3.block _ l1 (fun e => by injection e; omega)) hg3.size, e2.alike (hg3.block _ l2 (fun e => by injection e; omega)) hg3.size, fun g' e => ?_, BW2.out.grown hg3 BW2.out.size (fun j e => by injection e; omega)⟩
          have : g = g' := by injection e
          subst this
          exact ⟨by omega, by omega, HGN.out⟩)
        have HLB : Hid (ps'.length + lx + 1 ≤ N ∧ s < N) := Lib.hid (by
          have h1 := HW.out.sum
          rw [HPS.out, SZ_app] at h1
          have h2 : SZ [(x, y)] = x.cond.size := by simp [SZ]
          have h3 := size_k x
          have h4 := SZ_len (x.ps.zip y.ps)
          rw [SZ_zip _ _ (by rw [← HLX.out, ← HLY.out]), List.length_zip, ← HLX.out, ← HLY.out, Nat.min_self] at h4
          have h5 := SZ_len ps'
          have := HNN.out
          omega)
        have hlx2 : lx ≤ 2000000 := by have := HLB.out; omega
        have z3 := HL3.out.ex.c3
        clear hm3 hg3 M2 X2 Y2 HV2 HF2 O2 d0 d1 d2
        go_wp2_with fail
        go_loopw [6, 86] (fun v i wr2 => ∃ (j : Nat) (a : Option Addr) (c' : Nat) (qs : List (K × K)), j ≤ lx ∧ v = .slice a qs.length c' ∧ i = .int .i64 j ∧ Hid (qs = ps' ++ (x.ps.zip y.ps).take j) ∧ Hid (Lt w wr2 x y (w.heap.size + 1 + 1) (s + 1) bx by_ lx b1 o1 b2 o2 (b1 :: V) (.slice a qs.length c') qs)) (fun _ i _ => lx - (intOf i).toNat)
        case atStart => exact ⟨0, some ⟨g, 0, none⟩, c, ps', Nat.zero_le _, by rw [HMM.out], rfl, Lib.hid (by simp), HL3⟩
        case round =>
          clear HL3 z3
          obtain ⟨j, a, c', qs, hj, rfl, rfl, HQ, HL⟩ := hrel
          have hql : qs.length ≤ 2000000 := by
            rw [HQ.out, List.length_append, List.length_take, List.length_zip]
            have := HLB.out
            have := HLX.out
            omega
          by_cases hlt : j < lx
          · have hj1 : j < x.ps.length := by have := HLX.out; omega
            have hj2 : j < y.ps.length := by have := HLY.out; omega
            obtain ⟨xi, hxi⟩ : ∃ xi, xi = x.ps[j] := ⟨_, rfl⟩
            obtain ⟨yi, hyi⟩ : ∃ yi, yi = y.ps[j] := ⟨_, rfl⟩
            have f1 := (HE1.out j hj1).alike (HL.out.bel.block b1 HB0.out.2)
            have f2 := (HE2.out j hj2).alike (HL.out.bel.block b2 HB2L.out)
            rw [← hxi] at f1
            rw [← hyi] at f2
            obtain ⟨c0, c1, c2, c3⟩ := f1
            obtain ⟨d0, d1, d2, d3⟩ := f2
            have z3 := HL.out.ex.c3
            have zz3 := HL.out.ey.c3
            have i0' : (0 : Int) ≤ (j : Int) := by omega
            have i1' : (j : Int) < (lx : Int) := by omega
            have HQ2 : Hid (qs ++ [(xi, yi)] = ps' ++ (x.ps.zip y.ps).take (j + 1)) := Lib.hid (by
              have hz : j < (x.ps.zip y.ps).length := by rw [List.length_zip]; omega
              rw [List.take_succ_eq_append_getElem hz, List.getElem_zip, ← hxi, ← hyi, HQ.out, List.append_assoc])
            have KW : Hid (∀ v, Below wr.heap.size wr v → v.cell? ⟨bx, 3, none⟩ = some (.slice (some ⟨b1, o1, none⟩) lx x.cap) ∧ v.cell? ⟨by_, 3, none⟩ = some (.slice (some ⟨b2, o2, none⟩) lx y.cap) ∧ v.cell? ⟨b1, o1 + j * 4, none⟩ = some (.int .i64 xi.op) ∧ v.cell? ⟨b1, o1 + j * 4 + 1, none⟩ = some (.string xi.nm) ∧ v.cell? ⟨b1, o1 + j * 4 + 2, none⟩ = some (.int .i64 xi.day) ∧ v.cell? ⟨b1, o1 + j * 4 + 3, none⟩ = some (.slice xi.A xi.ps.length xi.cap) ∧ v.cell? ⟨b2, o2 + j * 4, none⟩ = some (.int .i64 yi.op) ∧ v.cell? ⟨b2, o2 + j * 4 + 1, none⟩ = some (.string yi.nm) ∧ v.cell? ⟨b2, o2 + j * 4 + 2, none⟩ = some (.int .i64 yi.day) ∧ v.cell? ⟨b2, o2 + j * 4 + 3, none⟩ = some (.slice yi.A yi.ps.length yi.cap)) := Lib.hid fun v hv => by
              have lx1 := HL.out.ex.lt
              have ly1 := HL.out.ey.lt
              have q1 : b1 < wr.heap.size := Nat.lt_of_lt_of_le HB0.out.2 HL.out.bel.size
              have q2 : b2 < wr.heap.size := Nat.lt_of_lt_of_le HB2L.out HL.out.bel.size
              exact ⟨(hv.cell (p := ⟨bx, 3, none⟩) lx1).trans z3, (hv.cell (p := ⟨by_, 3, none⟩) ly1).trans zz3, (hv.cell (p := ⟨b1, o1 + j * 4, none⟩) q1).trans c0, (hv.cell (p := ⟨b1, o1 + j * 4 + 1, none⟩) q1).trans c1, (hv.cell (p := ⟨b1, o1 + j * 4 + 2, none⟩) q1).trans c2, (hv.cell (p := ⟨b1, o1 + j * 4 + 3, none⟩) q1).trans c3, (hv.cell (p := ⟨b2, o2 + j * 4, none⟩) q2).trans d0, (hv.cell (p := ⟨b2, o2 + j * 4 + 1, none⟩) q2).trans d1, (hv.cell (p := ⟨b2, o2 + j * 4 + 2, none⟩) q2).trans d2, (hv.cell (p := ⟨b2, o2 + j * 4 + 3, none⟩) q2).trans d3⟩
            have KG : Hid (∀ u1 v, Below wr.heap.size wr u1 → u1.grownBy v (Value.slice a qs.length c').ownBlock → v.cell? ⟨bx, 3, none⟩ = some (.slice (some ⟨b1, o1, none⟩) lx x.cap) ∧ v.cell? ⟨by_, 3, none⟩ = some (.slice (some ⟨b2, o2, none⟩) lx y.cap) ∧ v.cell? ⟨b1, o1 + j * 4, none⟩ = some (.int .i64 xi.op) ∧ v.cell? ⟨b1, o1 + j * 4 + 1, none⟩ = some (.string xi.nm) ∧ v.cell? ⟨b1, o1 + j * 4 + 2, none⟩ = some (.int .i64 xi.day) ∧ v.cell? ⟨b1, o1 + j * 4 + 3, none⟩ = some (.slice xi.A xi.ps.length xi.cap) ∧ v.cell? ⟨b2, o2 + j * 4, none⟩ = some (.int .i64 yi.op) ∧ v.cell? ⟨b2, o2 + j * 4 + 1, none⟩ = some (.string yi.nm) ∧ v.cell? ⟨b2, o2 + j * 4 + 2, none⟩ = some (.int .i64 yi.day) ∧ v.cell? ⟨b2, o2 + j * 4 + 3, none⟩ = some (.slice yi.A yi.ps.length yi.cap)) := Lib.hid fun u1 v hu hg => by
              have lx1 := HL.out.ex.lt
              have ly1 := HL.out.ey.lt
              have hs := hu.size
              have q1 : b1 < wr.heap.size := Nat.lt_of_lt_of_le HB0.out.2 HL.out.bel.size
              have q2 : b2 < wr.heap.size := Nat.lt_of_lt_of_le HB2L.out HL.out.bel.size
              have hge : ∀ g', (Value.slice a qs.length c').ownBlock = some g' → w.heap.size ≤ g' := fun g' e => by
                rcases HL.out.own.2 with ⟨hv, _⟩ | ⟨g2, cc, cur, hv, hS, _⟩
                · rw [hv] at e; cases e
                · rw [hv] at e
                  injection e with e
                  rw [← e]; exact hS
              have r1 : v.heap[bx]? = u1.heap[bx]? := hg.block bx (by omega) (fun e => (HL.out.nx bx e.symm).1 rfl)
              have r2 : v.heap[by_]? = u1.heap[by_]? := hg.block by_ (by omega) (fun e => (HL.out.nx by_ e.symm).2.1 rfl)
              have r3 : v.heap[b1]? = u1.heap[b1]? := hg.block b1 (by omega) (fun e => by have := hge b1 e.symm; have := HB0.out.2; omega)
              have r4 : v.heap[b2]? = u1.heap[b2]? := hg.block b2 (by omega) (fun e => by have := hge b2 e.symm; have := HB2L.out; omega)
              obtain ⟨k0, k1, k2, k3, k4, k5, k6, k7, k8, k9⟩ := KW.out u1 hu
              exact ⟨(World.cell?_of_block (a := ⟨bx, 3, none⟩) r1).trans k0, (World.cell?_of_block (a := ⟨by_, 3, none⟩) r2).trans k1, (World.cell?_of_block (a := ⟨b1, o1 + j * 4, none⟩) r3).trans k2, (World.cell?_of_block (a := ⟨b1, o1 + j * 4 + 1, none⟩) r3).trans k3, (World.cell?_of_block (a := ⟨b1, o1 + j * 4 + 2, none⟩) r3).trans k4, (World.cell?_of_block (a := ⟨b1, o1 + j * 4 + 3, none⟩) r3).trans k5, (World.cell?_of_block (a := ⟨b2, o2 + j * 4, none⟩) r4).trans k6, (World.cell?_of_block (a := ⟨b2, o2 + j * 4 + 1, none⟩) r4).trans k7, (World.cell?_of_block (a := ⟨b2, o2 + j * 4 + 2, none⟩) r4).trans k8, (World.cell?_of_block (a := ⟨b2, o2 + j * 4 + 3, none⟩) r4).trans k9⟩
            have HJ := Lib.hid hlt
            clear hxi hyi hj1 hj2
            go_wp2_with fail
            go_region_held_law (fun v => v.cell? ⟨bx, 3, none⟩ = some (.slice (some ⟨b1, o1, none⟩) lx x.cap) ∧ v.cell? ⟨by_, 3, none⟩ = some (.slice (some ⟨b2, o2, none⟩) lx y.cap) ∧ v.cell? ⟨b1, o1 + j * 4, none⟩ = some (.int .i64 xi.op) ∧ v.cell? ⟨b1, o1 + j * 4 + 1, none⟩ = some (.string xi.nm) ∧ v.cell? ⟨b1, o1 + j * 4 + 2, none⟩ = some (.int .i64 xi.day) ∧ v.cell? ⟨b1, o1 + j * 4 + 3, none⟩ = some (.slice xi.A xi.ps.length xi.cap) ∧ v.cell? ⟨b2, o2 + j * 4, none⟩ = some (.int .i64 yi.op) ∧ v.cell? ⟨b2, o2 + j * 4 + 1, none⟩ = some (.string yi.nm) ∧ v.cell? ⟨b2, o2 + j * 4 + 2, none⟩ = some (.int .i64 yi.day) ∧ v.cell? ⟨b2, o2 + j * 4 + 3, none⟩ = some (.slice yi.A yi.ps.length yi.cap)) (first | (refine KW.out _ ?_; (first | exact Below.refl _ _ | exact (Below.refl _ _).drew | exact below1 _ _ | exact (below1 _ _).drew | exact ((Below.refl _ _).drew).alloc (Nat.le_refl _) _ | exact (((Below.refl _ _).drew).alloc (Nat.le_refl _) _).drew); done) | (exact KG.out _ _ (by first | exact Below.refl _ _ | exact (Below.refl _ _).drew | exact below1 _ _ | exact (below1 _ _).drew | exact ((Below.refl _ _).drew).alloc (Nat.le_refl _) _ | exact (((Below.refl _ _).drew).alloc (Nat.le_refl _) _).drew) hg5))
              ((refine step_appP rfl _ _ rfl w.heap.size _ qs rfl (by first | exact HL.out.own.alloc _ | exact (World.ownsRow.drew HL.out.own).alloc _) _ _ (xi, yi) rfl (by first | exact (Gx.Bk.new _ #[.int .i64 xi.op, .string xi.nm, .int .i64 xi.day, .slice xi.A xi.ps.length xi.cap, .int .i64 yi.op, .string yi.nm, .int .i64 yi.day, .slice yi.A yi.ps.length yi.cap] _).el | exact (Gx.Bk.new _ #[.int .i64 xi.op, .string xi.nm, .int .i64 xi.day, .slice xi.A xi.ps.length xi.cap, .int .i64 yi.op, .string yi.nm, .int .i64 yi.day, .slice yi.A yi.ps.length yi.cap] _).drew.el) (by omega) (by have := HL.out.bel.size; simp; omega) ?_; intro a5 c5 w5 hown5 hg5 hat5))
            all_goals
              have HL5 : Hid (Lt w w5 x y (w.heap.size + 1 + 1) (s + 1) bx by_ lx b1 o1 b2 o2 (b1 :: V) (.slice a5 (qs.length + 1) c5) (qs ++ [(xi, yi)])) := Lib.hid (HL.out.app (by first | exact below1 _ _ | exact (below1 _ _).drew) hown5 hg5 hat5)
              have hl2 : qs.length + 1 = (qs ++ [(xi, yi)]).length := by simp
              rw [hl2] at HL5 ⊢
              clear hown5 hg5 hat5 hl2
              go_wp2_with fail
              go_roundw
              case rel => exact ⟨j + 1, a5, c5, qs ++ [(xi, yi)], by have := HJ.out; omega, by simp, by go_num, HQ2, HL5⟩
              case measure => (have := HJ.out; simp [intOf]; omega)
          · have HQE : Hid (qs = ps' ++ x.ps.zip y.ps) := Lib.hid (by rw [HQ.out, List.take_of_length_le (by rw [List.length_zip]; have := HLX.out; have := HLY.out; omega)])
            have HXY : Hid (x.ps.length = y.ps.length) := Lib.hid (by rw [← HLX.out, ← HLY.out])
            have HFQ : Hid (FB qs = FB ps' ++ blocks x.ps) := Lib.hid (by rw [HQE.out, FB_app, FB_zip _ _ HXY.out])
            have HPM : Hid (((b1 :: V) ++ FB qs).Perm (V ++ FB ps)) := Lib.hid (by
              rw [HFQ.out, HFF.out]
              have h1 : (V ++ FB ps' ++ b1 :: blocks x.ps).Perm (b1 :: (V ++ FB ps' ++ blocks x.ps)) := List.perm_middle
              simp only [List.append_assoc, List.cons_append] at h1 ⊢
              exact h1.symm)
            have HWE : Hid (Wt w wr k q (w.heap.size + 1 + 1) (s + 1) (b1 :: V) (.slice a qs.length c') qs) := Lib.hid (by
              refine ⟨HL.out.own, HL.out.map, HPM.out.nodup_iff.2 HW.out.nd, fun b hb => HW.out.cb b (HPM.out.mem_iff.1 hb), fun p hp => ?_, ?_, ?_, HL.out.bel⟩
              · rw [HQE.out] at hp
                rcases List.mem_append.1 hp with hp | hp
                · exact HW.out.li p (by rw [HPS.out]; exact List.mem_append.2 (.inl hp))
                · have hp' : (p.1, p.2) ∈ x.ps.zip y.ps := hp
                  have h1 := List.of_mem_zip hp'
                  exact ⟨lies_part HLI.out.1 h1.1, lies_part HLI.out.2 h1.2⟩
              · rw [HSR.out, HSC.out, same_zip _ _ HXY.out, HQE.out, List.all_append]
              · have h1 := HW.out.sum
                rw [HPS.out, SZ_app] at h1
                have h2 : SZ [(x, y)] = x.cond.size := by simp [SZ]
                have h3 := size_k x
                have h4 := SZ_zip _ _ HXY.out
                rw [HQE.out, SZ_app]
                omega)
            have HME : Hid ((N - msz wr (w.heap.size + 1 + 1)) * (N + 1) + qs.length < (N - s) * (N + 1) + n) := Lib.hid (by
              rw [msz_is HWE.out.map]
              refine meas2 HLB.out.2 ?_
              rw [HQE.out, List.length_append, List.length_zip]
              have := HLB.out.1
              have := HLX.out
              omega)
            have HMO := Lib.hid (msz_is HW.out.map)
            go_wp2_with fail
            go_roundw
            case rel => exact ⟨qs.length, a, c', s + 1, b1 :: V, qs, rfl, Lib.hid rfl, HWE⟩
            case measure =>
              rw [HMO.out]
              exact HME.out

end Go.Proofs.YtmgjeplbhnfakaaGreatDoor.PtR
