/-
  l5Simple of the model.
-/
import Derived.Test.YtencedbohnbogaaSmS
import Derived.Deep.RegionHeld3
namespace Go.Proofs.Ytencedbohnbogaa.Cond
open Go.RowKit
set_option linter.unusedVariables false
set_option linter.unusedSimpArgs false

theorem res_b4 {w : World} {S kb : Nat} {q : Q} {v : World} {r : K} {x0 x1 x2 x3 : Value} (hb : Below w.heap.size w v) (hr : r.cond = q.c) (hw : Wr v r) (hs : ∀ x ∈ r.blocks, S ≤ x) (hk : kb ∉ r.blocks) (hkb : w.heap.size ≤ kb) : Res S q w (.returned r.val) (put4 v kb 0 x0 x1 x2 x3) :=
  ⟨r, rfl, hr, put_wr hw hk, hs, put4_below hb hkb⟩

set_option maxHeartbeats 2000000 in
theorem l5Own (op : Int) (nm : ByteArray) (day : Int) (A : Option Addr) (cap : Nat) (w : World) :
    Calls Try.prog 39 #[.agg #[.int .i64 op, .string nm, .int .i64 day, .slice A 0 cap]] w fun e w' => e = .returned (.agg #[.int .i64 op, .string nm, .int .i64 day, .slice none 0 0]) ∧ Below w.heap.size w w' := by
  obtain ⟨X, hX⟩ : ∃ X, X = ((w.alloc (.cells #[.int .i64 op, .string nm, .int .i64 day, .slice A 0 cap] 28)).alloc (.cells #[.int .i64 0, .string ⟨#[]⟩, .int .i64 0, .slice none 0 0] 28)).alloc (.cells #[.int .i64 op, .string nm, .int .i64 day, .slice none 0 0] 28) := ⟨_, rfl⟩
  have HB : Hid (Below w.heap.size w X) := Lib.hid (by rw [hX]; exact ((below1 _ _).alloc (by simp) _).alloc (by simp; omega) _)
  have X0 : Hid (B4 w.heap.size X (.int .i64 op) (.string nm) (.int .i64 day) (.slice A 0 cap)) := Lib.hid (by rw [hX]; exact ((B4.new w _ _ _ _ _).alloc _).alloc _)
  have Y0 : Hid (B4 (w.heap.size + 1) X (.int .i64 0) (.string ⟨#[]⟩) (.int .i64 0) (.slice none 0 0)) := Lib.hid (by rw [hX]; have := (B4.new (w.alloc (.cells #[.int .i64 op, .string nm, .int .i64 day, .slice A 0 cap] 28)) (.int .i64 0) (.string ⟨#[]⟩) (.int .i64 0) (.slice none 0 0) 28).alloc (.cells #[.int .i64 op, .string nm, .int .i64 day, .slice none 0 0] 28); simpa using this)
  have Z0 : Hid (B4 (w.heap.size + 1 + 1) X (.int .i64 op) (.string nm) (.int .i64 day) (.slice none 0 0)) := Lib.hid (by rw [hX]; have := B4.new ((w.alloc (.cells #[.int .i64 op, .string nm, .int .i64 day, .slice A 0 cap] 28)).alloc (.cells #[.int .i64 0, .string ⟨#[]⟩, .int .i64 0, .slice none 0 0] 28)) (.int .i64 op) (.string nm) (.int .i64 day) (.slice none 0 0) 28; simpa using this)
  have HX := Lib.hid hX
  clear hX
  go_enter Try.func39, Try.ntmps39
  go_wp2_with fail
  go_loopw [4] (fun i wr => i = .int .i64 0 ∧ X = wr) (fun i _ => 0)
  case atStart => exact ⟨rfl, HX.out⟩
  case round =>
    obtain ⟨rfl, rfl⟩ := hrel
    obtain ⟨_, x0, x1, x2, x3, _⟩ := X0.out
    obtain ⟨_, y0, y1, y2, y3, yf⟩ := Y0.out
    obtain ⟨_, z0, z1, z2, z3, _⟩ := Z0.out
    have yf0 := yf 0
    have yf1 := yf 1
    have yf2 := yf 2
    have yf3 := yf 3
    clear yf
    go_wp2_with fail
    obtain ⟨_, t0, t1, t2, t3, _⟩ := Y0.out.put (.int .i64 op) (.string nm) (.int .i64 day) (.slice none 0 0)
    simp only [put4] at t0 t1 t2 t3
    exact bodyPost_ret (v := .agg #[.int .i64 op, .string nm, .int .i64 day, .slice none 0 0]) (by simp [results, Try.results39, go_sem, t0, t1, t2, t3]) rfl ⟨rfl, put4_below HB.out (by omega)⟩

theorem Two' {w : World} {B : Nat} {op : Int} {nm : ByteArray} {day : Int} {A : Option Addr} {cap : Nat} {p q : K} (h : Lies w B (.mk op nm day A cap [p, q])) : ∃ b o, A = some ⟨b, o, none⟩ ∧ b < B ∧ El w b o p ∧ El w b (o + 4) q := by
  obtain ⟨b, o, rfl, hb, he⟩ := h.at (by simp)
  exact ⟨b, o, rfl, hb, by simpa using he 0 (by simp), by simpa using he 1 (by simp)⟩

theorem mk_op (op : Int) (nm : ByteArray) (day : Int) (A : Option Addr) (cap : Nat) (ps : List K) : (K.mk op nm day A cap ps).op = op := rfl
theorem mk_nm (op : Int) (nm : ByteArray) (day : Int) (A : Option Addr) (cap : Nat) (ps : List K) : (K.mk op nm day A cap ps).nm = nm := rfl
theorem mk_day (op : Int) (nm : ByteArray) (day : Int) (A : Option Addr) (cap : Nat) (ps : List K) : (K.mk op nm day A cap ps).day = day := rfl
theorem mk_A (op : Int) (nm : ByteArray) (day : Int) (A : Option Addr) (cap : Nat) (ps : List K) : (K.mk op nm day A cap ps).A = A := rfl
theorem mk_cap (op : Int) (nm : ByteArray) (day : Int) (A : Option Addr) (cap : Nat) (ps : List K) : (K.mk op nm day A cap ps).cap = cap := rfl
theorem mk_ps (op : Int) (nm : ByteArray) (day : Int) (A : Option Addr) (cap : Nat) (ps : List K) : (K.mk op nm day A cap ps).ps = ps := rfl
theorem mk_val (op : Int) (nm : ByteArray) (day : Int) (A : Option Addr) (cap : Nat) (ps : List K) : (K.mk op nm day A cap ps).val = .agg #[.int .i64 op, .string nm, .int .i64 day, .slice A ps.length cap] := rfl

/-- The parts of a condition that may be written may be written. -/
theorem Wr.part {w : World} {op : Int} {nm : ByteArray} {day : Int} {A : Option Addr} {cap : Nat} {p : K} (h : Wr w (.mk op nm day A cap [p])) : Wr w p := by
  have hnd := h.nd
  have hp : p ∈ [p] := by simp
  refine ⟨h.has.part hp, fun x hx => h.lt x (part_blocks hp hx), ?_, fun x hx => h.fz x (part_blocks hp hx)⟩
  simp only [K.blocks, blocks, List.append_nil] at hnd
  exact (List.nodup_append.1 hnd).2.1

set_option maxRecDepth 100000 in
set_option maxHeartbeats 4000000 in
theorem simpleLeaf (op : Int) (nm : ByteArray) (day : Int) (A : Option Addr) (cap : Nat) (w : World) (hop : op = 1 ∨ op = 2 ∨ (op = 3 ∧ day ≠ 0)) :
    Calls Try.prog 19 #[.agg #[.int .i64 op, .string nm, .int .i64 day, .slice A 0 cap]] w fun e w' => e = .returned (.agg #[.int .i64 op, .string nm, .int .i64 day, .slice none 0 0]) ∧ Below w.heap.size w w' := by
  obtain ⟨X, hX⟩ : ∃ X, X = (w.alloc (.cells #[.int .i64 op, .string nm, .int .i64 day, .slice A 0 cap] 28)).alloc (.cells #[.int .i64 0, .string ⟨#[]⟩, .int .i64 0, .slice none 0 0] 28) := ⟨_, rfl⟩
  have B0 : Hid (Below w.heap.size w X) := Lib.hid (by rw [hX]; exact (below1 _ _).alloc (by simp) _)
  have Y0 : Hid (B4 (w.heap.size + 1) X (.int .i64 0) (.string ⟨#[]⟩) (.int .i64 0) (.slice none 0 0)) := Lib.hid (by rw [hX]; have := B4.new (w.alloc (.cells #[.int .i64 op, .string nm, .int .i64 day, .slice A 0 cap] 28)) (.int .i64 0) (.string ⟨#[]⟩) (.int .i64 0) (.slice none 0 0) 28; simpa using this)
  have HO := Lib.hid (l5Own op nm day A cap X)
  have HX := Lib.hid hX
  clear hX
  rcases hop with rfl | rfl | ⟨rfl, hd⟩
  all_goals go_enter Try.func19, Try.ntmps19
  all_goals go_wp2_with (go_at_call 39; (try rw [← HX.out]); refine HO.out.mono ?_; rintro e w2 ⟨rfl, hb2⟩; obtain ⟨_, y0, y1, y2, y3, yf⟩ := Y0.out.on hb2; have yf0 := yf 0; have yf1 := yf 1; have yf2 := yf 2; have yf3 := yf 3; clear yf)
  · obtain ⟨_, t0, t1, t2, t3, _⟩ := (Y0.out.on hb2).put (.int .i64 1) (.string nm) (.int .i64 day) (.slice none 0 0)
    simp only [put4] at t0 t1 t2 t3
    exact bodyPost_ret (v := .agg #[.int .i64 1, .string nm, .int .i64 day, .slice none 0 0]) (by simp [results, Try.results19, go_sem, t0, t1, t2, t3]) rfl ⟨rfl, put4_below (B0.out.trans (hb2.mono B0.out.size)) (by omega)⟩
  · obtain ⟨_, t0, t1, t2, t3, _⟩ := (Y0.out.on hb2).put (.int .i64 2) (.string nm) (.int .i64 day) (.slice none 0 0)
    simp only [put4] at t0 t1 t2 t3
    exact bodyPost_ret (v := .agg #[.int .i64 2, .string nm, .int .i64 day, .slice none 0 0]) (by simp [results, Try.results19, go_sem, t0, t1, t2, t3]) rfl ⟨rfl, put4_below (B0.out.trans (hb2.mono B0.out.size)) (by omega)⟩
  · obtain ⟨_, t0, t1, t2, t3, _⟩ := (Y0.out.on hb2).put (.int .i64 3) (.string nm) (.int .i64 day) (.slice none 0 0)
    simp only [put4] at t0 t1 t2 t3
    exact bodyPost_ret (v := .agg #[.int .i64 3, .string nm, .int .i64 day, .slice none 0 0]) (by simp [results, Try.results19, go_sem, t0, t1, t2, t3]) rfl ⟨rfl, put4_below (B0.out.trans (hb2.mono B0.out.size)) (by omega)⟩

set_option maxRecDepth 100000 in
set_option maxHeartbeats 4000000 in
theorem simpleZero (A : Option Addr) (cap : Nat) (w : World) :
    Calls Try.prog 19 #[.agg #[.int .i64 3, .string .empty, .int .i64 0, .slice A 0 cap]] w fun e w' => e = .returned (.agg #[.int .i64 1, .string .empty, .int .i64 0, .slice none 0 0]) ∧ Below w.heap.size w w' := by
  have HB : Hid (∀ x y, Below w.heap.size w ((w.alloc x).alloc y)) := Lib.hid fun x y => (below1 _ _).alloc (by simp) _
  go_enter Try.func19, Try.ntmps19
  go_wp2_with fail
  exact bodyPost_ret (v := .agg #[.int .i64 1, .string .empty, .int .i64 0, .slice none 0 0]) (by simp [results, Try.results19, go_sem]; try rfl) rfl ⟨rfl, HB.out _ _⟩

set_option maxRecDepth 100000 in
set_option maxHeartbeats 8000000 in
theorem l5Simple (q : Q) : q.size ≤ 1000 → ∀ (k : K) (w : World), k.cond = q.c → Lies w w.heap.size k → Calls Try.prog 19 #[k.val] w (Res w.heap.size (smp q) w) := by
  induction q with
  | tru =>
    intro _ k w hk hin
    obtain ⟨A, cap, rfl⟩ := K.leaf hk
    refine (simpleLeaf 1 .empty 0 A cap w (Or.inl rfl)).mono ?_
    rintro e w' ⟨rfl, hb⟩
    exact ⟨.mk 1 .empty 0 none 0 [], rfl, rfl, wr_none 1 .empty 0 (by simp [maxLen]), by simp [K.blocks, blocks], hb⟩
  | fact s =>
    intro _ k w hk hin
    obtain ⟨A, cap, rfl⟩ := K.leaf hk
    refine (simpleLeaf 2 s 0 A cap w (Or.inr (Or.inl rfl))).mono ?_
    rintro e w' ⟨rfl, hb⟩
    exact ⟨.mk 2 s 0 none 0 [], rfl, rfl, wr_none 2 s 0 hin.has.2.1.1, by simp [K.blocks, blocks], hb⟩
  | frm d =>
    intro _ k w hk hin
    obtain ⟨A, cap, rfl⟩ := K.leaf hk
    by_cases h0 : d = 0
    · subst h0
      refine (simpleZero A cap w).mono ?_
      rintro e w' ⟨rfl, hb⟩
      exact ⟨.mk 1 .empty 0 none 0 [], rfl, rfl, wr_none 1 .empty 0 (by simp [maxLen]), by simp [K.blocks, blocks], hb⟩
    · refine (simpleLeaf 3 .empty d A cap w (Or.inr (Or.inr ⟨rfl, h0⟩))).mono ?_
      rintro e w' ⟨rfl, hb⟩
      refine ⟨.mk 3 .empty d none 0 [], rfl, ?_, wr_none 3 .empty d (by simp [maxLen]), by simp [K.blocks, blocks], hb⟩
      simp only [smp, if_neg h0]
      rfl
  | neg a ih =>
    intro hsz k w hk hin
    obtain ⟨A, cap, p, rfl, hp⟩ := K.one hk
    obtain ⟨b, o, rfl, hb, hE⟩ := One' hin
    simp only [Q.size] at hsz
    obtain ⟨X, hX⟩ : ∃ X, X = (w.alloc (.cells #[.int .i64 4, .string .empty, .int .i64 0, .slice (some ⟨b, o, none⟩) 1 cap] 28)).alloc (.cells #[.int .i64 0, .string ⟨#[]⟩, .int .i64 0, .slice none 0 0] 28) := ⟨_, rfl⟩
    have B0 : Hid (Below w.heap.size w X) := Lib.hid (by rw [hX]; exact (below1 _ _).alloc (by simp) _)
    have HZ : Hid (X.heap.size = w.heap.size + 1 + 1) := Lib.hid (by rw [hX]; simp)
    have Y0 : Hid (B4 (w.heap.size + 1) X (.int .i64 0) (.string ⟨#[]⟩) (.int .i64 0) (.slice none 0 0)) := Lib.hid (by rw [hX]; have := B4.new (w.alloc (.cells #[.int .i64 4, .string .empty, .int .i64 0, .slice (some ⟨b, o, none⟩) 1 cap] 28)) (.int .i64 0) (.string ⟨#[]⟩) (.int .i64 0) (.slice none 0 0) 28; simpa using this)
    have HI := Lib.hid (ih (by omega) p X hp ((hin.part (by simp)).on B0.out))
    obtain ⟨c0, c1, c2, c3⟩ := hE.alike (B0.out.block b hb)
    have HX := Lib.hid hX
    have HS : Hid (smp (.neg a) = negQ (smp a)) := Lib.hid rfl
    rw [hX] at c0 c1 c2 c3
    clear hk hin ih hE hp hX
    generalize smp a = qa at *
    rw [HS.out]
    show Calls Try.prog 19 #[.agg #[.int .i64 4, .string .empty, .int .i64 0, .slice (some ⟨b, o, none⟩) 1 cap]] w (Res w.heap.size (negQ qa) w)
    go_enter Try.func19, Try.ntmps19
    go_wp2_with (go_at_call 19; rw [← HX.out]; refine HI.out.mono ?_; rintro e w2 ⟨r, rfl, hr, hwr, hge, hb2⟩; refine Hid.out ?_)
    refine Lib.hid ?_
    have hop := op_is hr
    have HR := Lib.hid hr
    have HW := Lib.hid hwr
    have HG := Lib.hid hge
    have B2 := Lib.hid (B0.out.trans (hb2.mono B0.out.size))
    have b3 := below1 w2 (.cells #[.int .i64 r.op, .string r.nm, .int .i64 r.day, .slice r.A r.ps.length r.cap] 28)
    have Y3 := Lib.hid ((Y0.out.on hb2).on b3)
    have B3 := Lib.hid (B2.out.trans (b3.mono B2.out.size))
    have HZ2 := Lib.hid hb2.size
    by_cases h4 : ∃ c, qa = .neg c
    · obtain ⟨c, rfl⟩ := h4
      obtain ⟨rA, rc, rp, rfl, hrp⟩ := K.one hr
      obtain ⟨b', o', rfl, hb', hE'⟩ := One' (⟨hwr.has, hwr.lt⟩ : Lies w2 w2.heap.size _)
      obtain ⟨d0, d1, d2, d3⟩ := hE'
      obtain ⟨_, y0, y1, y2, y3, yf⟩ := Y0.out.on hb2
      have yf0 := yf 0
      have yf1 := yf 1
      have yf2 := yf 2
      have yf3 := yf 3
      have Y2 := Lib.hid (Y0.out.on hb2)
      have HRP := Lib.hid hrp
      clear yf hb2 hwr hge hr b3 hop hrp
      simp only [mk_op, mk_nm, mk_day, mk_A, mk_cap, mk_ps, mk_val, List.length_cons, List.length_nil, Nat.zero_add]
      go_wp2_with fail
      have hz := HZ.out
      have hz2 := HZ2.out
      have hrw := HW.out.part
      have hge : ∀ x ∈ rp.blocks, X.heap.size ≤ x := fun x hx => HG.out x (part_blocks (by simp) hx)
      obtain ⟨_, t0, t1, t2, t3, _⟩ := (Y2.out.put (.int .i64 rp.op) (.string rp.nm) (.int .i64 rp.day) (.slice rp.A rp.ps.length rp.cap)).alloc (.cells #[.int .i64 4, .string .empty, .int .i64 0, .slice (some ⟨b', o', none⟩) 1 rc] 28)
      simp only [put4] at t0 t1 t2 t3
      refine bodyPost_ret (v := rp.val) (by simp [results, Try.results19, go_sem, t0, t1, t2, t3]) rfl ?_
      refine ⟨rp, rfl, HRP.out, (put_wr hrw (fun h => by have := hge _ h; omega)).on (below1 _ _), fun x hx => by have := hge x hx; omega, ?_⟩
      exact (put4_below B2.out (by omega)).alloc (by rw [put4_size]; omega) _
    · obtain ⟨_, y0, y1, y2, y3, yf⟩ := Y0.out.on hb2
      have yf0 := yf 0
      have yf1 := yf 1
      have yf2 := yf 2
      have yf3 := yf 3
      have h5 : ¬ r.op = 4 := by rw [hop]; cases qa <;> simp [opQ] at h4 ⊢
      have Y2 := Lib.hid (Y0.out.on hb2)
      have hlt2 : w.heap.size < w2.heap.size := by have := HZ.out; have := HZ2.out; omega
      have HN : Hid (negQ qa = .neg qa) := Lib.hid (by cases qa <;> first | rfl | exact absurd ⟨_, rfl⟩ h4)
      clear yf hb2 hwr hge hr b3 hop
      go_wp2_with fail
      have hz := HZ.out
      have hz2 := HZ2.out
      have hge := HG.out
      have hlt := HW.out.lt
      obtain ⟨_, t0, t1, t2, t3, _⟩ := ((Y2.out.put (.int .i64 4) (.string ⟨#[]⟩) (.int .i64 0) (.slice (some ⟨w2.heap.size + 1, 0, none⟩) 1 1)).alloc (.cells #[.int .i64 r.op, .string r.nm, .int .i64 r.day, .slice r.A r.ps.length r.cap] 28)).alloc (.cells #[.int .i64 r.op, .string r.nm, .int .i64 r.day, .slice r.A r.ps.length r.cap] 28)
      simp only [put4] at t0 t1 t2 t3
      refine bodyPost_ret (v := (K.mk 4 .empty 0 (some ⟨w2.heap.size + 1, 0, none⟩) 1 [r]).val) (by simp [results, Try.results19, go_sem, t0, t1, t2, t3]; exact ⟨rfl, rfl, rfl, rfl, rfl, rfl⟩) rfl ?_
      rw [HN.out]
      obtain ⟨U, hU⟩ : ∃ U, U = (put4 w2 (w.heap.size + 1) 0 (.int .i64 4) (.string ⟨#[]⟩) (.int .i64 0) (.slice (some ⟨w2.heap.size + 1, 0, none⟩) 1 1)).alloc (.cells #[.int .i64 r.op, .string r.nm, .int .i64 r.day, .slice r.A r.ps.length r.cap] 28) := ⟨_, rfl⟩
      have hUs : U.heap.size = w2.heap.size + 1 := by rw [hU]; simp [put4_size]
      have hUb : Below w.heap.size w U := by rw [hU]; exact (put4_below B2.out (by omega)).alloc (by rw [put4_size]; omega) _
      have hUw : Wr U r := by rw [hU]; exact (put_wr HW.out (fun h => by have := hge _ h; omega)).on (below1 _ _)
      have bk := blk_lit U [.int .i64 r.op, .string r.nm, .int .i64 r.day, .slice r.A r.ps.length r.cap] 28
      have e1 : El (U.alloc (.cells #[.int .i64 r.op, .string r.nm, .int .i64 r.day, .slice r.A r.ps.length r.cap] 28)) U.heap.size 0 r := ⟨by simp [go_sem], by simp [go_sem], by simp [go_sem], by simp [go_sem]⟩
      have hfin := wr_one (op := 4) (hUw.on (below1 _ (.cells #[.int .i64 r.op, .string r.nm, .int .i64 r.day, .slice r.A r.ps.length r.cap] 28))) bk e1 (fun h => by have := hlt _ h; omega)
      rw [hUs] at hfin
      have hUb2 := hUb.alloc (by omega) (.cells #[.int .i64 r.op, .string r.nm, .int .i64 r.day, .slice r.A r.ps.length r.cap] 28)
      rw [hU] at hfin hUb2
      refine ⟨_, rfl, ?_, hfin, fun x hx => ?_, hUb2⟩
      · simp only [K.cond, conds, Q.c, HR.out]
      · simp only [K.blocks, blocks, List.append_nil, List.mem_cons, List.mem_append, List.not_mem_nil, or_false] at hx
        rcases hx with rfl | hx
        · omega
        · have := hge x hx; omega
  | and a b iha ihb =>
    intro hsz k w hk hin
    obtain ⟨A, cap, p1, p2, rfl, hp1, hp2⟩ := K.two hk
    obtain ⟨b', o, rfl, hb, hE1, hE2⟩ := Two' hin
    simp only [Q.size] at hsz
    obtain ⟨X, hX⟩ : ∃ X, X = (w.alloc (.cells #[.int .i64 5, .string .empty, .int .i64 0, .slice (some ⟨b', o, none⟩) 2 cap] 28)).alloc (.cells #[.int .i64 0, .string ⟨#[]⟩, .int .i64 0, .slice none 0 0] 28) := ⟨_, rfl⟩
    have B0 : Hid (Below w.heap.size w X) := Lib.hid (by rw [hX]; exact (below1 _ _).alloc (by simp) _)
    have HZ : Hid (X.heap.size = w.heap.size + 1 + 1) := Lib.hid (by rw [hX]; simp)
    have X0 : Hid (B4 w.heap.size X (.int .i64 5) (.string .empty) (.int .i64 0) (.slice (some ⟨b', o, none⟩) 2 cap)) := Lib.hid (by rw [hX]; exact (B4.new _ _ _ _ _ _).alloc _)
    have Y0 : Hid (B4 (w.heap.size + 1) X (.int .i64 0) (.string ⟨#[]⟩) (.int .i64 0) (.slice none 0 0)) := Lib.hid (by rw [hX]; have := B4.new (w.alloc (.cells #[.int .i64 5, .string .empty, .int .i64 0, .slice (some ⟨b', o, none⟩) 2 cap] 28)) (.int .i64 0) (.string ⟨#[]⟩) (.int .i64 0) (.slice none 0 0) 28; simpa using this)
    have HI1 : Hid (∀ u, Below X.heap.size X u → Calls Try.prog 19 #[p1.val] u fun e w' => ∃ r : K, e = .returned r.val ∧ r.cond = (smp a).c ∧ Wr w' r ∧ (∀ x ∈ r.blocks, X.heap.size ≤ x) ∧ Below u.heap.size u w') := Lib.hid fun u hu => (iha (by omega) p1 u hp1 (((hin.part (by simp)).on B0.out).on hu)).mono fun e w' ⟨r, he, hr, hw, hg, hb⟩ => ⟨r, he, hr, hw, fun x hx => Nat.le_trans hu.size (hg x hx), hb⟩
    have HI2 : Hid (∀ (u : World) (r1 : K), Below X.heap.size X u → Wr u r1 → Calls Try.prog 19 #[p2.val] u fun e w' => ∃ r : K, e = .returned r.val ∧ r.cond = (smp b).c ∧ Wr w' r ∧ (∀ x ∈ r.blocks, X.heap.size ≤ x) ∧ Below u.heap.size u w' ∧ Dj r1 r ∧ Wr w' r1) := Lib.hid fun u r1 hu h1 => (ihb (by omega) p2 u hp2 (((hin.part (by simp)).on B0.out).on hu)).mono fun e w' ⟨r, he, hr, hw, hg, hb⟩ => ⟨r, he, hr, hw, fun x hx => Nat.le_trans hu.size (hg x hx), hb, fun x hx hy => by have := h1.lt x hx; have := hg x hy; omega, h1.on hb⟩
    have HP : Hid (∀ (u : World) (r1 r2 : K), Below X.heap.size X u → r1.cond = (smp a).c → r2.cond = (smp b).c → Wr u r1 → Wr u r2 → Dj r1 r2 → (∀ x ∈ r1.blocks, X.heap.size ≤ x) → (∀ x ∈ r2.blocks, X.heap.size ≤ x) → Calls Try.prog 38 #[.int .i64 5, r1.val, r2.val] u (Res X.heap.size (smp (.and a b)) u)) := Lib.hid fun u r1 r2 hu h1 h2 w1 w2 hd g1 g2 => by
      have := l5Pair true (smp a) (smp b) r1 r2 X.heap.size u h1 h2 w1 w2 hd g1 g2 hu.size
      exact this
    have KX : Hid (∀ v', Below X.heap.size X v' → v'.cell? ⟨w.heap.size, 0, none⟩ = some (.int .i64 5) ∧ v'.cell? ⟨w.heap.size, 3, none⟩ = some (.slice (some ⟨b', o, none⟩) 2 cap) ∧ (v'.cell? ⟨b', o, none⟩ = some (.int .i64 p1.op) ∧ v'.cell? ⟨b', o + 1, none⟩ = some (.string p1.nm) ∧ v'.cell? ⟨b', o + 2, none⟩ = some (.int .i64 p1.day) ∧ v'.cell? ⟨b', o + 3, none⟩ = some (.slice p1.A p1.ps.length p1.cap)) ∧ v'.cell? ⟨b', o + 4, none⟩ = some (.int .i64 p2.op) ∧ v'.cell? ⟨b', o + 4 + 1, none⟩ = some (.string p2.nm) ∧ v'.cell? ⟨b', o + 4 + 2, none⟩ = some (.int .i64 p2.day) ∧ v'.cell? ⟨b', o + 4 + 3, none⟩ = some (.slice p2.A p2.ps.length p2.cap)) := Lib.hid fun v' hv => by
      have e := X0.out.on hv
      have hb2 : v'.heap[b']? = w.heap[b']? := (hv.block b' (by have := B0.out.size; omega)).trans (B0.out.block b' hb)
      have f1 := hE1.alike hb2
      have f2 := hE2.alike hb2
      exact ⟨e.c0, e.c3, ⟨f1.c0, f1.c1, f1.c2, f1.c3⟩, f2.c0, f2.c1, f2.c2, f2.c3⟩
    have KX2 : Hid (∀ v0 x0 x1 x2 x3, Below X.heap.size X v0 → ∀ v', v' = put4 v0 (w.heap.size + 1) 0 x0 x1 x2 x3 → v'.cell? ⟨w.heap.size, 0, none⟩ = some (.int .i64 5) ∧ v'.cell? ⟨w.heap.size, 3, none⟩ = some (.slice (some ⟨b', o, none⟩) 2 cap) ∧ (v'.cell? ⟨b', o, none⟩ = some (.int .i64 p1.op) ∧ v'.cell? ⟨b', o + 1, none⟩ = some (.string p1.nm) ∧ v'.cell? ⟨b', o + 2, none⟩ = some (.int .i64 p1.day) ∧ v'.cell? ⟨b', o + 3, none⟩ = some (.slice p1.A p1.ps.length p1.cap)) ∧ v'.cell? ⟨b', o + 4, none⟩ = some (.int .i64 p2.op) ∧ v'.cell? ⟨b', o + 4 + 1, none⟩ = some (.string p2.nm) ∧ v'.cell? ⟨b', o + 4 + 2, none⟩ = some (.int .i64 p2.day) ∧ v'.cell? ⟨b', o + 4 + 3, none⟩ = some (.slice p2.A p2.ps.length p2.cap)) := Lib.hid fun v0 x0 x1 x2 x3 hv v' hv' => by
      have hq : ∀ j, j ≠ w.heap.size + 1 → v'.heap[j]? = v0.heap[j]? := fun j hj => by rw [hv']; exact put4_block hj
      have e := (X0.out.on hv).alike (hq _ (by omega)) (by rw [hv', put4_size]; exact Nat.le_refl _)
      have hb2 : v'.heap[b']? = w.heap[b']? := (hq _ (by omega)).trans ((hv.block b' (by have := B0.out.size; omega)).trans (B0.out.block b' hb))
      have f1 := hE1.alike hb2
      have f2 := hE2.alike hb2
      exact ⟨e.c0, e.c3, ⟨f1.c0, f1.c1, f1.c2, f1.c3⟩, f2.c0, f2.c1, f2.c2, f2.c3⟩
    have HF : Hid (∀ (u : World) (r : K) x0 x1 x2 x3, Below X.heap.size X u → r.cond = (smp (.and a b)).c → Wr u r → (∀ x ∈ r.blocks, X.heap.size ≤ x) → Res w.heap.size (smp (.and a b)) w (.returned r.val) (put4 u (w.heap.size + 1) 0 x0 x1 x2 x3)) := Lib.hid fun u r x0 x1 x2 x3 hu hr hw hg => by
      have hz := HZ.out
      exact res_b4 (B0.out.trans (hu.mono B0.out.size)) hr hw (fun x hx => by have := hg x hx; omega) (fun h => by have := hg _ h; omega) (by omega)
    show Calls Try.prog 19 #[.agg #[.int .i64 5, .string .empty, .int .i64 0, .slice (some ⟨b', o, none⟩) 2 cap]] w (Res w.heap.size (smp (.and a b)) w)
    have HXX := Lib.hid hX
    clear hk hin iha ihb hE1 hE2 hp1 hp2 hX
    generalize smp (.and a b) = qr at *
    generalize smp a = qa at *
    generalize smp b = qb at *
    go_enter Try.func19, Try.ntmps19
    go_wp2_with fail
    rw [← HXX.out]
    have hc0 := KX.out X (Below.refl _ _)
    clear X0 HXX
    go_region_held3 (fun u => u.cell? ⟨w.heap.size, 0, none⟩ = some (.int .i64 5) ∧ u.cell? ⟨w.heap.size, 3, none⟩ = some (.slice (some ⟨b', o, none⟩) 2 cap) ∧ (u.cell? ⟨b', o, none⟩ = some (.int .i64 p1.op) ∧ u.cell? ⟨b', o + 1, none⟩ = some (.string p1.nm) ∧ u.cell? ⟨b', o + 2, none⟩ = some (.int .i64 p1.day) ∧ u.cell? ⟨b', o + 3, none⟩ = some (.slice p1.A p1.ps.length p1.cap)) ∧ u.cell? ⟨b', o + 4, none⟩ = some (.int .i64 p2.op) ∧ u.cell? ⟨b', o + 4 + 1, none⟩ = some (.string p2.nm) ∧ u.cell? ⟨b', o + 4 + 2, none⟩ = some (.int .i64 p2.day) ∧ u.cell? ⟨b', o + 4 + 3, none⟩ = some (.slice p2.A p2.ps.length p2.cap)) (first | (refine KX.out _ ?_; (repeat (first | exact Below.refl _ _ | exact b3 | exact b2 | exact b1 | apply Below.drew)); done) | (refine KX2.out _ _ _ _ _ ?_ _ rfl; (repeat (first | exact Below.refl _ _ | exact b3 | exact b2 | exact b1 | apply Below.drew)); done))
      (first
        | (go_at_call 19; (with_reducible refine (HI1.out _ (by (repeat (first | exact Below.refl _ _ | exact b3 | exact b2 | exact b1 | apply Below.drew)))).mono ?_); rintro e wa ⟨r1, rfl, hr1, hw1, hg1, hb⟩; have b1 : Below X.heap.size X wa := (Below.trans (by (repeat (first | exact Below.refl _ _ | exact b3 | exact b2 | exact b1 | apply Below.drew))) (hb.mono (by first | omega | (simp; done) | (simp; omega)))); clear hb)
        | (go_at_call 19; (with_reducible refine (HI2.out _ r1 (by (repeat (first | exact Below.refl _ _ | exact b3 | exact b2 | exact b1 | apply Below.drew))) (hw1.on (by (repeat (first | exact Below.refl _ _ | apply Below.drew))))).mono ?_); rintro e wb ⟨r2, rfl, hr2, hw2, hg2, hb, hdj, hw1b⟩; have b2 : Below X.heap.size X wb := (Below.trans (by (repeat (first | exact Below.refl _ _ | exact b3 | exact b2 | exact b1 | apply Below.drew))) (hb.mono (by first | exact b1.size | (have := b1.size; simp; omega)))); clear hb)
        | (go_at_call 38; (with_reducible refine (HP.out _ r1 r2 (by (repeat (first | exact Below.refl _ _ | exact b3 | exact b2 | exact b1 | apply Below.drew))) hr1 hr2 (hw1b.on (by (repeat (first | exact Below.refl _ _ | apply Below.drew)))) (hw2.on (by (repeat (first | exact Below.refl _ _ | apply Below.drew)))) hdj hg1 hg2).mono ?_); rintro e wc ⟨r3, rfl, hr3, hw3, hg3, hb⟩; have b3 : Below X.heap.size X wc := (Below.trans (by (repeat (first | exact Below.refl _ _ | exact b3 | exact b2 | exact b1 | apply Below.drew))) (hb.mono (by first | exact b2.size | (have := b2.size; simp; omega)))); clear hb; obtain ⟨_, y0, y1, y2, y3, yf⟩ := Y0.out.on b3; have yf0 := yf 0; have yf1 := yf 1; have yf2 := yf 2; have yf3 := yf 3; clear yf))
    all_goals go_wp2_with fail
    all_goals obtain ⟨_, t0, t1, t2, t3, _⟩ := (Y0.out.on b3).put (.int .i64 r3.op) (.string r3.nm) (.int .i64 r3.day) (.slice r3.A r3.ps.length r3.cap)
    all_goals simp only [put4] at t0 t1 t2 t3
    all_goals exact bodyPost_ret (v := r3.val) (by simp [results, Try.results19, go_sem, t0, t1, t2, t3]) rfl (HF.out _ r3 _ _ _ _ (by (repeat (first | exact Below.refl _ _ | exact b3 | exact b2 | exact b1 | apply Below.drew))) hr3 hw3 hg3)
  | or a b iha ihb =>
    intro hsz k w hk hin
    obtain ⟨A, cap, p1, p2, rfl, hp1, hp2⟩ := K.two hk
    obtain ⟨b', o, rfl, hb, hE1, hE2⟩ := Two' hin
    simp only [Q.size] at hsz
    obtain ⟨X, hX⟩ : ∃ X, X = (w.alloc (.cells #[.int .i64 6, .string .empty, .int .i64 0, .slice (some ⟨b', o, none⟩) 2 cap] 28)).alloc (.cells #[.int .i64 0, .string ⟨#[]⟩, .int .i64 0, .slice none 0 0] 28) := ⟨_, rfl⟩
    have B0 : Hid (Below w.heap.size w X) := Lib.hid (by rw [hX]; exact (below1 _ _).alloc (by simp) _)
    have HZ : Hid (X.heap.size = w.heap.size + 1 + 1) := Lib.hid (by rw [hX]; simp)
    have X0 : Hid (B4 w.heap.size X (.int .i64 6) (.string .empty) (.int .i64 0) (.slice (some ⟨b', o, none⟩) 2 cap)) := Lib.hid (by rw [hX]; exact (B4.new _ _ _ _ _ _).alloc _)
    have Y0 : Hid (B4 (w.heap.size + 1) X (.int .i64 0) (.string ⟨#[]⟩) (.int .i64 0) (.slice none 0 0)) := Lib.hid (by rw [hX]; have := B4.new (w.alloc (.cells #[.int .i64 6, .string .empty, .int .i64 0, .slice (some ⟨b', o, none⟩) 2 cap] 28)) (.int .i64 0) (.string ⟨#[]⟩) (.int .i64 0) (.slice none 0 0) 28; simpa using this)
    have HI1 : Hid (∀ u, Below X.heap.size X u → Calls Try.prog 19 #[p1.val] u fun e w' => ∃ r : K, e = .returned r.val ∧ r.cond = (smp a).c ∧ Wr w' r ∧ (∀ x ∈ r.blocks, X.heap.size ≤ x) ∧ Below u.heap.size u w') := Lib.hid fun u hu => (iha (by omega) p1 u hp1 (((hin.part (by simp)).on B0.out).on hu)).mono fun e w' ⟨r, he, hr, hw, hg, hb⟩ => ⟨r, he, hr, hw, fun x hx => Nat.le_trans hu.size (hg x hx), hb⟩
    have HI2 : Hid (∀ (u : World) (r1 : K), Below X.heap.size X u → Wr u r1 → Calls Try.prog 19 #[p2.val] u fun e w' => ∃ r : K, e = .returned r.val ∧ r.cond = (smp b).c ∧ Wr w' r ∧ (∀ x ∈ r.blocks, X.heap.size ≤ x) ∧ Below u.heap.size u w' ∧ Dj r1 r ∧ Wr w' r1) := Lib.hid fun u r1 hu h1 => (ihb (by omega) p2 u hp2 (((hin.part (by simp)).on B0.out).on hu)).mono fun e w' ⟨r, he, hr, hw, hg, hb⟩ => ⟨r, he, hr, hw, fun x hx => Nat.le_trans hu.size (hg x hx), hb, fun x hx hy => by have := h1.lt x hx; have := hg x hy; omega, h1.on hb⟩
    have HP : Hid (∀ (u : World) (r1 r2 : K), Below X.heap.size X u → r1.cond = (smp a).c → r2.cond = (smp b).c → Wr u r1 → Wr u r2 → Dj r1 r2 → (∀ x ∈ r1.blocks, X.heap.size ≤ x) → (∀ x ∈ r2.blocks, X.heap.size ≤ x) → Calls Try.prog 38 #[.int .i64 6, r1.val, r2.val] u (Res X.heap.size (smp (.or a b)) u)) := Lib.hid fun u r1 r2 hu h1 h2 w1 w2 hd g1 g2 => by
      have := l5Pair false (smp a) (smp b) r1 r2 X.heap.size u h1 h2 w1 w2 hd g1 g2 hu.size
      exact this
    have KX : Hid (∀ v', Below X.heap.size X v' → v'.cell? ⟨w.heap.size, 0, none⟩ = some (.int .i64 6) ∧ v'.cell? ⟨w.heap.size, 3, none⟩ = some (.slice (some ⟨b', o, none⟩) 2 cap) ∧ (v'.cell? ⟨b', o, none⟩ = some (.int .i64 p1.op) ∧ v'.cell? ⟨b', o + 1, none⟩ = some (.string p1.nm) ∧ v'.cell? ⟨b', o + 2, none⟩ = some (.int .i64 p1.day) ∧ v'.cell? ⟨b', o + 3, none⟩ = some (.slice p1.A p1.ps.length p1.cap)) ∧ v'.cell? ⟨b', o + 4, none⟩ = some (.int .i64 p2.op) ∧ v'.cell? ⟨b', o + 4 + 1, none⟩ = some (.string p2.nm) ∧ v'.cell? ⟨b', o + 4 + 2, none⟩ = some (.int .i64 p2.day) ∧ v'.cell? ⟨b', o + 4 + 3, none⟩ = some (.slice p2.A p2.ps.length p2.cap)) := Lib.hid fun v' hv => by
      have e := X0.out.on hv
      have hb2 : v'.heap[b']? = w.heap[b']? := (hv.block b' (by have := B0.out.size; omega)).trans (B0.out.block b' hb)
      have f1 := hE1.alike hb2
      have f2 := hE2.alike hb2
      exact ⟨e.c0, e.c3, ⟨f1.c0, f1.c1, f1.c2, f1.c3⟩, f2.c0, f2.c1, f2.c2, f2.c3⟩
    have KX2 : Hid (∀ v0 x0 x1 x2 x3, Below X.heap.size X v0 → ∀ v', v' = put4 v0 (w.heap.size + 1) 0 x0 x1 x2 x3 → v'.cell? ⟨w.heap.size, 0, none⟩ = some (.int .i64 6) ∧ v'.cell? ⟨w.heap.size, 3, none⟩ = some (.slice (some ⟨b', o, none⟩) 2 cap) ∧ (v'.cell? ⟨b', o, none⟩ = some (.int .i64 p1.op) ∧ v'.cell? ⟨b', o + 1, none⟩ = some (.string p1.nm) ∧ v'.cell? ⟨b', o + 2, none⟩ = some (.int .i64 p1.day) ∧ v'.cell? ⟨b', o + 3, none⟩ = some (.slice p1.A p1.ps.length p1.cap)) ∧ v'.cell? ⟨b', o + 4, none⟩ = some (.int .i64 p2.op) ∧ v'.cell? ⟨b', o + 4 + 1, none⟩ = some (.string p2.nm) ∧ v'.cell? ⟨b', o + 4 + 2, none⟩ = some (.int .i64 p2.day) ∧ v'.cell? ⟨b', o + 4 + 3, none⟩ = some (.slice p2.A p2.ps.length p2.cap)) := Lib.hid fun v0 x0 x1 x2 x3 hv v' hv' => by
      have hq : ∀ j, j ≠ w.heap.size + 1 → v'.heap[j]? = v0.heap[j]? := fun j hj => by rw [hv']; exact put4_block hj
      have e := (X0.out.on hv).alike (hq _ (by omega)) (by rw [hv', put4_size]; exact Nat.le_refl _)
      have hb2 : v'.heap[b']? = w.heap[b']? := (hq _ (by omega)).trans ((hv.block b' (by have := B0.out.size; omega)).trans (B0.out.block b' hb))
      have f1 := hE1.alike hb2
      have f2 := hE2.alike hb2
      exact ⟨e.c0, e.c3, ⟨f1.c0, f1.c1, f1.c2, f1.c3⟩, f2.c0, f2.c1, f2.c2, f2.c3⟩
    have HF : Hid (∀ (u : World) (r : K) x0 x1 x2 x3, Below X.heap.size X u → r.cond = (smp (.or a b)).c → Wr u r → (∀ x ∈ r.blocks, X.heap.size ≤ x) → Res w.heap.size (smp (.or a b)) w (.returned r.val) (put4 u (w.heap.size + 1) 0 x0 x1 x2 x3)) := Lib.hid fun u r x0 x1 x2 x3 hu hr hw hg => by
      have hz := HZ.out
      exact res_b4 (B0.out.trans (hu.mono B0.out.size)) hr hw (fun x hx => by have := hg x hx; omega) (fun h => by have := hg _ h; omega) (by omega)
    show Calls Try.prog 19 #[.agg #[.int .i64 6, .string .empty, .int .i64 0, .slice (some ⟨b', o, none⟩) 2 cap]] w (Res w.heap.size (smp (.or a b)) w)
    have HXX := Lib.hid hX
    clear hk hin iha ihb hE1 hE2 hp1 hp2 hX
    generalize smp (.or a b) = qr at *
    generalize smp a = qa at *
    generalize smp b = qb at *
    go_enter Try.func19, Try.ntmps19
    go_wp2_with fail
    rw [← HXX.out]
    have hc0 := KX.out X (Below.refl _ _)
    clear X0 HXX
    go_region_held3 (fun u => u.cell? ⟨w.heap.size, 0, none⟩ = some (.int .i64 6) ∧ u.cell? ⟨w.heap.size, 3, none⟩ = some (.slice (some ⟨b', o, none⟩) 2 cap) ∧ (u.cell? ⟨b', o, none⟩ = some (.int .i64 p1.op) ∧ u.cell? ⟨b', o + 1, none⟩ = some (.string p1.nm) ∧ u.cell? ⟨b', o + 2, none⟩ = some (.int .i64 p1.day) ∧ u.cell? ⟨b', o + 3, none⟩ = some (.slice p1.A p1.ps.length p1.cap)) ∧ u.cell? ⟨b', o + 4, none⟩ = some (.int .i64 p2.op) ∧ u.cell? ⟨b', o + 4 + 1, none⟩ = some (.string p2.nm) ∧ u.cell? ⟨b', o + 4 + 2, none⟩ = some (.int .i64 p2.day) ∧ u.cell? ⟨b', o + 4 + 3, none⟩ = some (.slice p2.A p2.ps.length p2.cap)) (first | (refine KX.out _ ?_; (repeat (first | exact Below.refl _ _ | exact b3 | exact b2 | exact b1 | apply Below.drew)); done) | (refine KX2.out _ _ _ _ _ ?_ _ rfl; (repeat (first | exact Below.refl _ _ | exact b3 | exact b2 | exact b1 | apply Below.drew)); done))
      (first
        | (go_at_call 19; (with_reducible refine (HI1.out _ (by (repeat (first | exact Below.refl _ _ | exact b3 | exact b2 | exact b1 | apply Below.drew)))).mono ?_); rintro e wa ⟨r1, rfl, hr1, hw1, hg1, hb⟩; have b1 : Below X.heap.size X wa := (Below.trans (by (repeat (first | exact Below.refl _ _ | exact b3 | exact b2 | exact b1 | apply Below.drew))) (hb.mono (by first | omega | (simp; done) | (simp; omega)))); clear hb)
        | (go_at_call 19; (with_reducible refine (HI2.out _ r1 (by (repeat (first | exact Below.refl _ _ | exact b3 | exact b2 | exact b1 | apply Below.drew))) (hw1.on (by (repeat (first | exact Below.refl _ _ | apply Below.drew))))).mono ?_); rintro e wb ⟨r2, rfl, hr2, hw2, hg2, hb, hdj, hw1b⟩; have b2 : Below X.heap.size X wb := (Below.trans (by (repeat (first | exact Below.refl _ _ | exact b3 | exact b2 | exact b1 | apply Below.drew))) (hb.mono (by first | exact b1.size | (have := b1.size; simp; omega)))); clear hb)
        | (go_at_call 38; (with_reducible refine (HP.out _ r1 r2 (by (repeat (first | exact Below.refl _ _ | exact b3 | exact b2 | exact b1 | apply Below.drew))) hr1 hr2 (hw1b.on (by (repeat (first | exact Below.refl _ _ | apply Below.drew)))) (hw2.on (by (repeat (first | exact Below.refl _ _ | apply Below.drew)))) hdj hg1 hg2).mono ?_); rintro e wc ⟨r3, rfl, hr3, hw3, hg3, hb⟩; have b3 : Below X.heap.size X wc := (Below.trans (by (repeat (first | exact Below.refl _ _ | exact b3 | exact b2 | exact b1 | apply Below.drew))) (hb.mono (by first | exact b2.size | (have := b2.size; simp; omega)))); clear hb; obtain ⟨_, y0, y1, y2, y3, yf⟩ := Y0.out.on b3; have yf0 := yf 0; have yf1 := yf 1; have yf2 := yf 2; have yf3 := yf 3; clear yf))
    all_goals go_wp2_with fail
    all_goals obtain ⟨_, t0, t1, t2, t3, _⟩ := (Y0.out.on b3).put (.int .i64 r3.op) (.string r3.nm) (.int .i64 r3.day) (.slice r3.A r3.ps.length r3.cap)
    all_goals simp only [put4] at t0 t1 t2 t3
    all_goals exact bodyPost_ret (v := r3.val) (by simp [results, Try.results19, go_sem, t0, t1, t2, t3]) rfl (HF.out _ r3 _ _ _ _ (by (repeat (first | exact Below.refl _ _ | exact b3 | exact b2 | exact b1 | apply Below.drew))) hr3 hw3 hg3)

end Go.Proofs.Ytencedbohnbogaa.Cond
