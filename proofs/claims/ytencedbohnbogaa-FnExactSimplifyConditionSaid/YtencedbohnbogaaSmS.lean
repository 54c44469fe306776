/-
  Simplification in plain facts; l5Never, l5Pair of the model.
-/
import Derived.Test.YtencedbohnbogaaSmQ
namespace Go.Proofs.Ytencedbohnbogaa.Cond
open Go.RowKit
set_option linter.unusedVariables false
set_option linter.unusedSimpArgs false

def isTru : Q → Bool | .tru => true | _ => false
def isNev : Q → Bool | .neg .tru => true | _ => false
def pairQ (an : Bool) (a b : Q) : Q :=
  if an then (if isTru a then b else if isTru b then a else if isNev a then a else if isNev b then b else if sameC a.c b.c then a else .and a b)
  else (if isTru a then a else if isTru b then b else if isNev a then b else if isNev b then a else if sameC a.c b.c then a else .or a b)
def negQ : Q → Q | .neg b => b | q => .neg q
def smp : Q → Q
  | .tru => .tru
  | .fact s => .fact s
  | .frm d => if d = 0 then .tru else .frm d
  | .neg a => negQ (smp a)
  | .and a b => pairQ true (smp a) (smp b)
  | .or a b => pairQ false (smp a) (smp b)
def opQ : Q → Int | .tru => 1 | .fact _ => 2 | .frm _ => 3 | .neg _ => 4 | .and _ _ => 5 | .or _ _ => 6
theorem op_is {k : K} {q : Q} (h : k.cond = q.c) : k.op = opQ q := by
  cases k with
  | mk op nm day A cap ps =>
    cases q <;> simp only [K.cond, Q.c, C.mk.injEq] at h <;> exact h.1
theorem tru_op (q : Q) : (opQ q == 1) = isTru q := by cases q <;> rfl
/-- Two conditions have no block in common. -/
def Dj (a b : K) : Prop := ∀ x ∈ a.blocks, x ∉ b.blocks

theorem One' {w : World} {B : Nat} {op : Int} {nm : ByteArray} {day : Int} {A : Option Addr} {cap : Nat} {p : K} (h : Lies w B (.mk op nm day A cap [p])) : ∃ b o, A = some ⟨b, o, none⟩ ∧ b < B ∧ El w b o p := by
  obtain ⟨b, o, rfl, hb, he⟩ := h.at (by simp)
  exact ⟨b, o, rfl, hb, by simpa using he 0 (by simp)⟩

set_option maxHeartbeats 2000000 in
theorem l5Never (q : Q) (k : K) (w : World) (hk : k.cond = q.c) (hin : Lies w w.heap.size k) :
    Calls Try.prog 53 #[k.val] w fun e w' => e = .returned (.bool (isNev q)) ∧ Below w.heap.size w w' := by
  have ho := op_is hk
  by_cases h4 : ∃ a, q = .neg a
  · obtain ⟨a, rfl⟩ := h4
    obtain ⟨A, cap, p, rfl, hp⟩ := K.one hk
    obtain ⟨b, o, rfl, hb, hE⟩ := One' hin
    have B0 := Lib.hid (below1 w (.cells #[.int .i64 4, .string .empty, .int .i64 0, .slice (some ⟨b, o, none⟩) 1 cap] 28))
    have c0 := (hE.alike (B0.out.block b hb)).c0
    rw [op_is hp] at c0
    have HN : Hid (isNev (.neg a) = (opQ a == 1)) := Lib.hid (by rw [tru_op]; cases a <;> rfl)
    show Calls Try.prog 53 #[.agg #[.int .i64 4, .string .empty, .int .i64 0, .slice (some ⟨b, o, none⟩) 1 cap]] w fun e w' => e = .returned (.bool (isNev (.neg a))) ∧ Below w.heap.size w w'
    rw [HN.out]
    clear hk hin hE hp ho
    generalize opQ a = x at *
    go_enter Try.func53, Try.ntmps53
    go_wp2_with fail
    go_ret
    exact ⟨rfl, B0.out⟩
  · have HF : Hid (isNev q = false) := Lib.hid (by
      cases q with
      | neg a => exact absurd ⟨a, rfl⟩ h4
      | _ => rfl)
    have hne : ¬ k.op = 4 := by
      rw [ho]
      cases q with
      | neg a => exact absurd ⟨a, rfl⟩ h4
      | _ => simp [opQ]
    have B0 := Lib.hid (below1 w (.cells #[.int .i64 k.op, .string k.nm, .int .i64 k.day, .slice k.A k.ps.length k.cap] 28))
    rw [HF.out]
    clear hk hin ho h4
    go_enter Try.func53, Try.ntmps53
    go_wp2_with fail
    go_ret
    exact ⟨rfl, B0.out⟩

/-- An answer: a condition in memory of its own, from block S on. -/
def Res (S : Nat) (q : Q) (w : World) (e : Ending) (w' : World) : Prop :=
  ∃ r : K, e = .returned r.val ∧ r.cond = q.c ∧ Wr w' r ∧ (∀ x ∈ r.blocks, S ≤ x) ∧ Below w.heap.size w w'

theorem Wr.on {w w' : World} {k : K} (h : Wr w k) (hb : Below w.heap.size w w') : Wr w' k := h.same (fun b hb' => hb.block b (h.lt b hb')) hb.size

/-- A new condition of two parts. -/
theorem wr_two {w' : World} {a b : K} {g : Nat} {op : Int} (ha : Wr w' a) (hb : Wr w' b) (hd : Dj a b) (hg : Blk w' g 8) (e1 : El w' g 0 a) (e2 : El w' g 4 b) (hga : g ∉ a.blocks) (hgb : g ∉ b.blocks) : Wr w' (.mk op .empty 0 (some ⟨g, 0, none⟩) 2 [a, b]) := by
  have hbl : (K.mk op .empty 0 (some ⟨g, 0, none⟩) 2 [a, b]).blocks = g :: (a.blocks ++ b.blocks) := by simp [K.blocks, blocks]
  refine ⟨⟨fun _ => ⟨g, 0, rfl, fun i hi => ?_⟩, ⟨by simp [maxLen], by simp, by simp [maxLen]⟩, ins_mem.2 fun p hp => ?_⟩, fun x hx => ?_, ?_, fun x hx o => ?_⟩
  · match i, hi with
    | 0, _ => exact e1
    | 1, _ => exact e2
  · rcases List.mem_cons.1 hp with rfl | hp
    · exact ha.has
    · have : p = b := by simpa using hp
      subst this; exact hb.has
  · rw [hbl, List.mem_cons, List.mem_append] at hx
    rcases hx with rfl | hx | hx
    · exact hg.lt
    · exact ha.lt x hx
    · exact hb.lt x hx
  · rw [hbl, List.nodup_cons, List.mem_append]
    exact ⟨fun h => h.elim hga hgb, List.nodup_append.2 ⟨ha.nd, hb.nd, fun x hx y hy e => hd x hx (e ▸ hy)⟩⟩
  · rw [hbl, List.mem_cons, List.mem_append] at hx
    rcases hx with rfl | hx | hx
    · exact hg.frozen o
    · exact ha.fz x hx o
    · exact hb.fz x hx o
/-- A new condition of one part. -/
theorem wr_one {w' : World} {a : K} {g : Nat} {op : Int} (ha : Wr w' a) (hg : Blk w' g 4) (e1 : El w' g 0 a) (hga : g ∉ a.blocks) : Wr w' (.mk op .empty 0 (some ⟨g, 0, none⟩) 1 [a]) := by
  have hbl : (K.mk op .empty 0 (some ⟨g, 0, none⟩) 1 [a]).blocks = g :: a.blocks := by simp [K.blocks, blocks]
  refine ⟨⟨fun _ => ⟨g, 0, rfl, fun i hi => ?_⟩, ⟨by simp [maxLen], by simp, by simp [maxLen]⟩, ins_mem.2 fun p hp => ?_⟩, fun x hx => ?_, ?_, fun x hx o => ?_⟩
  · have : i = 0 := by simpa using hi
    subst this; exact e1
  · have : p = a := by simpa using hp
    subst this; exact ha.has
  · rw [hbl, List.mem_cons] at hx
    rcases hx with rfl | hx
    · exact hg.lt
    · exact ha.lt x hx
  · rw [hbl, List.nodup_cons]
    exact ⟨hga, ha.nd⟩
  · rw [hbl, List.mem_cons] at hx
    rcases hx with rfl | hx
    · exact hg.frozen o
    · exact ha.fz x hx o
theorem wr_none {w : World} (op : Int) (nm : ByteArray) (day : Int) (hn : nm.size ≤ maxLen) : Wr w (.mk op nm day none 0 []) :=
  ⟨⟨fun h => by simp at h, ⟨hn, by simp, by simp [maxLen]⟩, trivial⟩, fun b hb => by simp [K.blocks, blocks] at hb, by simp [K.blocks, blocks], fun b hb => by simp [K.blocks, blocks] at hb⟩
theorem blk_lit (w : World) (l : List Value) (T : TypeId) : Blk (w.alloc (.cells l.toArray T)) w.heap.size l.length := ⟨l.toArray, T, heap_alloc_new w _, by simp⟩

/-- The answer's block is stored; nothing else of S is touched. -/
theorem put_wr {w : World} {r : K} {kb : Nat} {a b c d : Value} (h : Wr w r) (hk : kb ∉ r.blocks) : Wr (put4 w kb 0 a b c d) r := h.same (fun x hx => put4_block (fun e => hk (e ▸ hx))) (by rw [put4_size]; exact Nat.le_refl _)

set_option maxRecDepth 100000 in
set_option maxHeartbeats 8000000 in
theorem l5Pair (an : Bool) (qa qb : Q) (a b : K) (S : Nat) (w : World) (ha : a.cond = qa.c) (hb : b.cond = qb.c) (wa : Wr w a) (wb : Wr w b) (hd : Dj a b) (sa : ∀ x ∈ a.blocks, S ≤ x) (sb : ∀ x ∈ b.blocks, S ≤ x) (hS : S ≤ w.heap.size) :
    Calls Try.prog 38 #[.int .i64 (if an then 5 else 6), a.val, b.val] w (Res S (pairQ an qa qb) w) := by
  have hoa := op_is ha
  have hob := op_is hb
  obtain ⟨X, hX⟩ : ∃ X, X = ((w.alloc (.cells #[.int .i64 a.op, .string a.nm, .int .i64 a.day, .slice a.A a.ps.length a.cap] 28)).alloc (.cells #[.int .i64 b.op, .string b.nm, .int .i64 b.day, .slice b.A b.ps.length b.cap] 28)).alloc (.cells #[.int .i64 0, .string ⟨#[]⟩, .int .i64 0, .slice none 0 0] 28) := ⟨_, rfl⟩
  have B0 : Hid (Below w.heap.size w X) := Lib.hid (by rw [hX]; exact ((below1 _ _).alloc (by simp) _).alloc (by simp; omega) _)
  have HZ : Hid (X.heap.size = w.heap.size + 1 + 1 + 1) := Lib.hid (by rw [hX]; simp)
  have KX : Hid (∀ v, Below X.heap.size X v → B4 w.heap.size v (.int .i64 a.op) (.string a.nm) (.int .i64 a.day) (.slice a.A a.ps.length a.cap) ∧ B4 (w.heap.size + 1) v (.int .i64 b.op) (.string b.nm) (.int .i64 b.day) (.slice b.A b.ps.length b.cap) ∧ B4 (w.heap.size + 1 + 1) v (.int .i64 0) (.string ⟨#[]⟩) (.int .i64 0) (.slice none 0 0)) := Lib.hid fun v hv => by
    refine ⟨B4.on ?_ hv, B4.on ?_ hv, B4.on ?_ hv⟩
    · rw [hX]; exact ((B4.new w _ _ _ _ _).alloc _).alloc _
    · rw [hX]; have := (B4.new (w.alloc (.cells #[.int .i64 a.op, .string a.nm, .int .i64 a.day, .slice a.A a.ps.length a.cap] 28)) (.int .i64 b.op) (.string b.nm) (.int .i64 b.day) (.slice b.A b.ps.length b.cap) 28).alloc (.cells #[.int .i64 0, .string ⟨#[]⟩, .int .i64 0, .slice none 0 0] 28); simpa using this
    · rw [hX]; have := B4.new ((w.alloc (.cells #[.int .i64 a.op, .string a.nm, .int .i64 a.day, .slice a.A a.ps.length a.cap] 28)).alloc (.cells #[.int .i64 b.op, .string b.nm, .int .i64 b.day, .slice b.A b.ps.length b.cap] 28)) (.int .i64 0) (.string ⟨#[]⟩) (.int .i64 0) (.slice none 0 0) 28; simpa using this
  have HNa : Hid (∀ v, Below X.heap.size X v → Calls Try.prog 53 #[a.val] v fun e w' => e = .returned (.bool (isNev qa)) ∧ Below v.heap.size v w') := Lib.hid fun v hv => l5Never qa a v ha ((Lies.on ⟨wa.has, wa.lt⟩ B0.out).on hv)
  have HNb : Hid (∀ v, Below X.heap.size X v → Calls Try.prog 53 #[b.val] v fun e w' => e = .returned (.bool (isNev qb)) ∧ Below v.heap.size v w') := Lib.hid fun v hv => l5Never qb b v hb ((Lies.on ⟨wb.has, wb.lt⟩ B0.out).on hv)
  have HSM : Hid (∀ v, Below X.heap.size X v → Calls Try.prog 48 #[a.val, b.val] v fun e w' => e = .returned (.bool (sameC qa.c qb.c)) ∧ Below v.heap.size v w') := Lib.hid fun v hv => by
    have := l5Same a b v ((Lies.on ⟨wa.has, wa.lt⟩ B0.out).on hv) ((Lies.on ⟨wb.has, wb.lt⟩ B0.out).on hv)
    rw [ha, hb] at this
    exact this
  have HFA : Hid (∀ v x0 x1 x2 x3, Below X.heap.size X v → Res S qa w (.returned a.val) (put4 v (w.heap.size + 1 + 1) 0 x0 x1 x2 x3)) := Lib.hid fun v x0 x1 x2 x3 hv =>
    ⟨a, rfl, ha, put_wr ((wa.on B0.out).on hv) (fun h => by have := wa.lt _ h; omega), sa, put4_below (B0.out.trans (hv.mono B0.out.size)) (by omega)⟩
  have HFB : Hid (∀ v x0 x1 x2 x3, Below X.heap.size X v → Res S qb w (.returned b.val) (put4 v (w.heap.size + 1 + 1) 0 x0 x1 x2 x3)) := Lib.hid fun v x0 x1 x2 x3 hv =>
    ⟨b, rfl, hb, put_wr ((wb.on B0.out).on hv) (fun h => by have := wb.lt _ h; omega), sb, put4_below (B0.out.trans (hv.mono B0.out.size)) (by omega)⟩
  have HGA : Hid (Res S qa w (.returned a.val) (((w.alloc (.cells #[.int .i64 a.op, .string a.nm, .int .i64 a.day, .slice a.A a.ps.length a.cap] 28)).alloc (.cells #[.int .i64 b.op, .string b.nm, .int .i64 b.day, .slice b.A b.ps.length b.cap] 28)).alloc (.cells #[.int .i64 a.op, .string a.nm, .int .i64 a.day, .slice a.A a.ps.length a.cap] 28))) := Lib.hid (have hB : Below w.heap.size w (((w.alloc (.cells #[.int .i64 a.op, .string a.nm, .int .i64 a.day, .slice a.A a.ps.length a.cap] 28)).alloc (.cells #[.int .i64 b.op, .string b.nm, .int .i64 b.day, .slice b.A b.ps.length b.cap] 28)).alloc (.cells #[.int .i64 a.op, .string a.nm, .int .i64 a.day, .slice a.A a.ps.length a.cap] 28)) := ((below1 _ _).alloc (by simp) _).alloc (by simp; omega) _; ⟨a, rfl, ha, wa.on hB, sa, hB⟩)
  have HGB : Hid (Res S qb w (.returned b.val) (((w.alloc (.cells #[.int .i64 a.op, .string a.nm, .int .i64 a.day, .slice a.A a.ps.length a.cap] 28)).alloc (.cells #[.int .i64 b.op, .string b.nm, .int .i64 b.day, .slice b.A b.ps.length b.cap] 28)).alloc (.cells #[.int .i64 b.op, .string b.nm, .int .i64 b.day, .slice b.A b.ps.length b.cap] 28))) := Lib.hid (have hB : Below w.heap.size w (((w.alloc (.cells #[.int .i64 a.op, .string a.nm, .int .i64 a.day, .slice a.A a.ps.length a.cap] 28)).alloc (.cells #[.int .i64 b.op, .string b.nm, .int .i64 b.day, .slice b.A b.ps.length b.cap] 28)).alloc (.cells #[.int .i64 b.op, .string b.nm, .int .i64 b.day, .slice b.A b.ps.length b.cap] 28)) := ((below1 _ _).alloc (by simp) _).alloc (by simp; omega) _; ⟨b, rfl, hb, wb.on hB, sb, hB⟩)
  have HFN : Hid (∀ v x0 x1 x2 x3, Below X.heap.size X v → Res S (if an then .and qa qb else .or qa qb) w (.returned (.agg #[.int .i64 (if an then 5 else 6), .string ⟨#[]⟩, .int .i64 0, .slice (some ⟨v.heap.size, 0, none⟩) 2 2])) ((put4 v (w.heap.size + 1 + 1) 0 x0 x1 x2 x3).alloc (.cells #[.int .i64 a.op, .string a.nm, .int .i64 a.day, .slice a.A a.ps.length a.cap, .int .i64 b.op, .string b.nm, .int .i64 b.day, .slice b.A b.ps.length b.cap] 28))) := Lib.hid fun v x0 x1 x2 x3 hv => by
    have hn := below1 (put4 v (w.heap.size + 1 + 1) 0 x0 x1 x2 x3) (.cells #[.int .i64 a.op, .string a.nm, .int .i64 a.day, .slice a.A a.ps.length a.cap, .int .i64 b.op, .string b.nm, .int .i64 b.day, .slice b.A b.ps.length b.cap] 28)
    have hvx := hv.size
    have hz := HZ.out
    have k1 : (K.mk (if an then 5 else 6) .empty 0 (some ⟨v.heap.size, 0, none⟩) 2 [a, b]).blocks = v.heap.size :: (a.blocks ++ b.blocks) := by simp [K.blocks, blocks]
    have la := wa.lt
    have lb := wb.lt
    have pa : Wr (put4 v (w.heap.size + 1 + 1) 0 x0 x1 x2 x3) a := put_wr ((wa.on B0.out).on hv) (fun h => by have := la _ h; omega)
    have pb : Wr (put4 v (w.heap.size + 1 + 1) 0 x0 x1 x2 x3) b := put_wr ((wb.on B0.out).on hv) (fun h => by have := lb _ h; omega)
    have bk := blk_lit (put4 v (w.heap.size + 1 + 1) 0 x0 x1 x2 x3) [.int .i64 a.op, .string a.nm, .int .i64 a.day, .slice a.A a.ps.length a.cap, .int .i64 b.op, .string b.nm, .int .i64 b.day, .slice b.A b.ps.length b.cap] 28
    have e1 : El ((put4 v (w.heap.size + 1 + 1) 0 x0 x1 x2 x3).alloc (.cells #[.int .i64 a.op, .string a.nm, .int .i64 a.day, .slice a.A a.ps.length a.cap, .int .i64 b.op, .string b.nm, .int .i64 b.day, .slice b.A b.ps.length b.cap] 28)) (put4 v (w.heap.size + 1 + 1) 0 x0 x1 x2 x3).heap.size 0 a := ⟨by simp [go_sem], by simp [go_sem], by simp [go_sem], by simp [go_sem]⟩
    have e2 : El ((put4 v (w.heap.size + 1 + 1) 0 x0 x1 x2 x3).alloc (.cells #[.int .i64 a.op, .string a.nm, .int .i64 a.day, .slice a.A a.ps.length a.cap, .int .i64 b.op, .string b.nm, .int .i64 b.day, .slice b.A b.ps.length b.cap] 28)) (put4 v (w.heap.size + 1 + 1) 0 x0 x1 x2 x3).heap.size 4 b := ⟨by simp [go_sem], by simp [go_sem], by simp [go_sem], by simp [go_sem]⟩
    rw [put4_size] at bk e1 e2
    refine ⟨.mk (if an then 5 else 6) .empty 0 (some ⟨v.heap.size, 0, none⟩) 2 [a, b], rfl, by cases an <;> simp [K.cond, conds, Q.c, ha, hb], wr_two (pa.on hn) (pb.on hn) hd bk e1 e2 (fun h => by have := la _ h; omega) (fun h => by have := lb _ h; omega), fun x hx => ?_, (put4_below (B0.out.trans (hv.mono B0.out.size)) (by omega)).trans (hn.mono (by rw [put4_size]; omega))⟩
    rw [k1, List.mem_cons, List.mem_append] at hx
    rcases hx with rfl | h | h
    · omega
    · exact sa x h
    · exact sb x h
  have hta : (a.op == 1) = isTru qa := by rw [hoa, tru_op]
  have htb : (b.op == 1) = isTru qb := by rw [hob, tru_op]
  have bl : Below X.heap.size X X := Below.refl _ _
  have HX := Lib.hid hX
  obtain ⟨R, hR⟩ : ∃ R, R = pairQ an qa qb := ⟨_, rfl⟩
  rw [← hR]
  have HR := Lib.hid hR
  have HSS := Lib.hid hS
  clear ha hb wa wb hd sa sb hoa hob hX hR hS
  obtain ⟨ta, ea⟩ : ∃ t, t = isTru qa := ⟨_, rfl⟩
  obtain ⟨tb, eb⟩ : ∃ t, t = isTru qb := ⟨_, rfl⟩
  obtain ⟨na, fa⟩ : ∃ t, t = isNev qa := ⟨_, rfl⟩
  obtain ⟨nb, fb⟩ : ∃ t, t = isNev qb := ⟨_, rfl⟩
  obtain ⟨sm, es⟩ : ∃ t, t = sameC qa.c qb.c := ⟨_, rfl⟩
  rw [← ea] at hta
  rw [← eb] at htb
  rw [← fa] at HNa
  rw [← fb] at HNb
  rw [← es] at HSM
  have HC := Lib.hid (And.intro ea.symm (And.intro eb.symm (And.intro fa.symm (And.intro fb.symm es.symm))))
  clear ea eb fa fb es
  cases an
  · skip
    cases ta
    · skip
      cases tb
      · skip
        cases na
        · skip
          cases nb
          · skip
            cases sm
            · skip
              have HE : Hid (R = .or qa qb) := Lib.hid (by obtain ⟨h1, h2, h3, h4, h5⟩ := HC.out; rw [HR.out]; simp only [pairQ, h1, h2, h3, h4, h5, if_true, if_false, Bool.false_eq_true])
              rw [HE.out]
              go_enter Try.func38, Try.ntmps38
              go_wp2_with (first | (go_at_call_of 53 (a.op); (try rw [← HX.out]); with_reducible refine (HNa.out _ bl).mono ?_; rintro e w2 ⟨rfl, hb⟩; have bl2 := bl.trans (hb.mono bl.size); clear bl hb; have bl := bl2; clear bl2; obtain ⟨⟨_, x0, x1, x2, x3, _⟩, ⟨_, y0, y1, y2, y3, _⟩, _, z0, z1, z2, z3, zf⟩ := KX.out _ bl; have zf0 := zf 0; have zf1 := zf 1; have zf2 := zf 2; have zf3 := zf 3; clear zf) | (go_at_call_of 53 (b.op); (try rw [← HX.out]); with_reducible refine (HNb.out _ bl).mono ?_; rintro e w2 ⟨rfl, hb⟩; have bl2 := bl.trans (hb.mono bl.size); clear bl hb; have bl := bl2; clear bl2; obtain ⟨⟨_, x0, x1, x2, x3, _⟩, ⟨_, y0, y1, y2, y3, _⟩, _, z0, z1, z2, z3, zf⟩ := KX.out _ bl; have zf0 := zf 0; have zf1 := zf 1; have zf2 := zf 2; have zf3 := zf 3; clear zf) | (go_at_call 48; (try rw [← HX.out]); with_reducible refine (HSM.out _ bl).mono ?_; rintro e w2 ⟨rfl, hb⟩; have bl2 := bl.trans (hb.mono bl.size); clear bl hb; have bl := bl2; clear bl2; obtain ⟨⟨_, x0, x1, x2, x3, _⟩, ⟨_, y0, y1, y2, y3, _⟩, _, z0, z1, z2, z3, zf⟩ := KX.out _ bl; have zf0 := zf 0; have zf1 := zf 1; have zf2 := zf 2; have zf3 := zf 3; clear zf))
              obtain ⟨_, t0, t1, t2, t3, _⟩ := ((KX.out _ bl).2.2.put (.int .i64 6) (.string ⟨#[]⟩) (.int .i64 0) (.slice (some ⟨w2.heap.size, 0, none⟩) 2 2)).alloc (.cells #[.int .i64 a.op, .string a.nm, .int .i64 a.day, .slice a.A a.ps.length a.cap, .int .i64 b.op, .string b.nm, .int .i64 b.day, .slice b.A b.ps.length b.cap] 28)
              simp only [put4] at t0 t1 t2 t3
              exact bodyPost_ret (v := .agg #[.int .i64 6, .string ⟨#[]⟩, .int .i64 0, .slice (some ⟨w2.heap.size, 0, none⟩) 2 2]) (by simp [results, Try.results38, go_sem, t0, t1, t2, t3]) rfl (HFN.out _ _ _ _ _ bl)
            · skip
              have HE : Hid (R = qa) := Lib.hid (by obtain ⟨h1, h2, h3, h4, h5⟩ := HC.out; rw [HR.out]; simp only [pairQ, h1, h2, h3, h4, h5, if_true, if_false, Bool.false_eq_true])
              rw [HE.out]
              go_enter Try.func38, Try.ntmps38
              go_wp2_with (first | (go_at_call_of 53 (a.op); (try rw [← HX.out]); with_reducible refine (HNa.out _ bl).mono ?_; rintro e w2 ⟨rfl, hb⟩; have bl2 := bl.trans (hb.mono bl.size); clear bl hb; have bl := bl2; clear bl2; obtain ⟨⟨_, x0, x1, x2, x3, _⟩, ⟨_, y0, y1, y2, y3, _⟩, _, z0, z1, z2, z3, zf⟩ := KX.out _ bl; have zf0 := zf 0; have zf1 := zf 1; have zf2 := zf 2; have zf3 := zf 3; clear zf) | (go_at_call_of 53 (b.op); (try rw [← HX.out]); with_reducible refine (HNb.out _ bl).mono ?_; rintro e w2 ⟨rfl, hb⟩; have bl2 := bl.trans (hb.mono bl.size); clear bl hb; have bl := bl2; clear bl2; obtain ⟨⟨_, x0, x1, x2, x3, _⟩, ⟨_, y0, y1, y2, y3, _⟩, _, z0, z1, z2, z3, zf⟩ := KX.out _ bl; have zf0 := zf 0; have zf1 := zf 1; have zf2 := zf 2; have zf3 := zf 3; clear zf) | (go_at_call 48; (try rw [← HX.out]); with_reducible refine (HSM.out _ bl).mono ?_; rintro e w2 ⟨rfl, hb⟩; have bl2 := bl.trans (hb.mono bl.size); clear bl hb; have bl := bl2; clear bl2; obtain ⟨⟨_, x0, x1, x2, x3, _⟩, ⟨_, y0, y1, y2, y3, _⟩, _, z0, z1, z2, z3, zf⟩ := KX.out _ bl; have zf0 := zf 0; have zf1 := zf 1; have zf2 := zf 2; have zf3 := zf 3; clear zf))
              all_goals obtain ⟨_, t0, t1, t2, t3, _⟩ := (KX.out _ bl).2.2.put (.int .i64 a.op) (.string a.nm) (.int .i64 a.day) (.slice a.A a.ps.length a.cap)
              all_goals simp only [put4] at t0 t1 t2 t3
              all_goals exact bodyPost_ret (v := .agg #[.int .i64 a.op, .string a.nm, .int .i64 a.day, .slice a.A a.ps.length a.cap]) (by simp [results, Try.results38, go_sem, t0, t1, t2, t3]) rfl (HFA.out _ _ _ _ _ bl)
          · skip
            have HE : Hid (R = qa) := Lib.hid (by obtain ⟨h1, h2, h3, h4, h5⟩ := HC.out; rw [HR.out]; simp only [pairQ, h1, h2, h3, h4, h5, if_true, if_false, Bool.false_eq_true])
            rw [HE.out]
            go_enter Try.func38, Try.ntmps38
            go_wp2_with (first | (go_at_call_of 53 (a.op); (try rw [← HX.out]); with_reducible refine (HNa.out _ bl).mono ?_; rintro e w2 ⟨rfl, hb⟩; have bl2 := bl.trans (hb.mono bl.size); clear bl hb; have bl := bl2; clear bl2; obtain ⟨⟨_, x0, x1, x2, x3, _⟩, ⟨_, y0, y1, y2, y3, _⟩, _, z0, z1, z2, z3, zf⟩ := KX.out _ bl; have zf0 := zf 0; have zf1 := zf 1; have zf2 := zf 2; have zf3 := zf 3; clear zf) | (go_at_call_of 53 (b.op); (try rw [← HX.out]); with_reducible refine (HNb.out _ bl).mono ?_; rintro e w2 ⟨rfl, hb⟩; have bl2 := bl.trans (hb.mono bl.size); clear bl hb; have bl := bl2; clear bl2; obtain ⟨⟨_, x0, x1, x2, x3, _⟩, ⟨_, y0, y1, y2, y3, _⟩, _, z0, z1, z2, z3, zf⟩ := KX.out _ bl; have zf0 := zf 0; have zf1 := zf 1; have zf2 := zf 2; have zf3 := zf 3; clear zf) | (go_at_call 48; (try rw [← HX.out]); with_reducible refine (HSM.out _ bl).mono ?_; rintro e w2 ⟨rfl, hb⟩; have bl2 := bl.trans (hb.mono bl.size); clear bl hb; have bl := bl2; clear bl2; obtain ⟨⟨_, x0, x1, x2, x3, _⟩, ⟨_, y0, y1, y2, y3, _⟩, _, z0, z1, z2, z3, zf⟩ := KX.out _ bl; have zf0 := zf 0; have zf1 := zf 1; have zf2 := zf 2; have zf3 := zf 3; clear zf))
            all_goals obtain ⟨_, t0, t1, t2, t3, _⟩ := (KX.out _ bl).2.2.put (.int .i64 a.op) (.string a.nm) (.int .i64 a.day) (.slice a.A a.ps.length a.cap)
            all_goals simp only [put4] at t0 t1 t2 t3
            all_goals exact bodyPost_ret (v := .agg #[.int .i64 a.op, .string a.nm, .int .i64 a.day, .slice a.A a.ps.length a.cap]) (by simp [results, Try.results38, go_sem, t0, t1, t2, t3]) rfl (HFA.out _ _ _ _ _ bl)
        · skip
          have HE : Hid (R = qb) := Lib.hid (by obtain ⟨h1, h2, h3, h4, h5⟩ := HC.out; rw [HR.out]; simp only [pairQ, h1, h2, h3, h4, h5, if_true, if_false, Bool.false_eq_true])
          rw [HE.out]
          go_enter Try.func38, Try.ntmps38
          go_wp2_with (first | (go_at_call_of 53 (a.op); (try rw [← HX.out]); with_reducible refine (HNa.out _ bl).mono ?_; rintro e w2 ⟨rfl, hb⟩; have bl2 := bl.trans (hb.mono bl.size); clear bl hb; have bl := bl2; clear bl2; obtain ⟨⟨_, x0, x1, x2, x3, _⟩, ⟨_, y0, y1, y2, y3, _⟩, _, z0, z1, z2, z3, zf⟩ := KX.out _ bl; have zf0 := zf 0; have zf1 := zf 1; have zf2 := zf 2; have zf3 := zf 3; clear zf) | (go_at_call_of 53 (b.op); (try rw [← HX.out]); with_reducible refine (HNb.out _ bl).mono ?_; rintro e w2 ⟨rfl, hb⟩; have bl2 := bl.trans (hb.mono bl.size); clear bl hb; have bl := bl2; clear bl2; obtain ⟨⟨_, x0, x1, x2, x3, _⟩, ⟨_, y0, y1, y2, y3, _⟩, _, z0, z1, z2, z3, zf⟩ := KX.out _ bl; have zf0 := zf 0; have zf1 := zf 1; have zf2 := zf 2; have zf3 := zf 3; clear zf) | (go_at_call 48; (try rw [← HX.out]); with_reducible refine (HSM.out _ bl).mono ?_; rintro e w2 ⟨rfl, hb⟩; have bl2 := bl.trans (hb.mono bl.size); clear bl hb; have bl := bl2; clear bl2; obtain ⟨⟨_, x0, x1, x2, x3, _⟩, ⟨_, y0, y1, y2, y3, _⟩, _, z0, z1, z2, z3, zf⟩ := KX.out _ bl; have zf0 := zf 0; have zf1 := zf 1; have zf2 := zf 2; have zf3 := zf 3; clear zf))
          all_goals obtain ⟨_, t0, t1, t2, t3, _⟩ := (KX.out _ bl).2.2.put (.int .i64 b.op) (.string b.nm) (.int .i64 b.day) (.slice b.A b.ps.length b.cap)
          all_goals simp only [put4] at t0 t1 t2 t3
          all_goals exact bodyPost_ret (v := .agg #[.int .i64 b.op, .string b.nm, .int .i64 b.day, .slice b.A b.ps.length b.cap]) (by simp [results, Try.results38, go_sem, t0, t1, t2, t3]) rfl (HFB.out _ _ _ _ _ bl)
      · skip
        have HE : Hid (R = qb) := Lib.hid (by obtain ⟨h1, h2, h3, h4, h5⟩ := HC.out; rw [HR.out]; simp only [pairQ, h1, h2, h3, h4, h5, if_true, if_false, Bool.false_eq_true])
        rw [HE.out]
        go_enter Try.func38, Try.ntmps38
        go_wp2_with (first | (go_at_call_of 53 (a.op); (try rw [← HX.out]); with_reducible refine (HNa.out _ bl).mono ?_; rintro e w2 ⟨rfl, hb⟩; have bl2 := bl.trans (hb.mono bl.size); clear bl hb; have bl := bl2; clear bl2; obtain ⟨⟨_, x0, x1, x2, x3, _⟩, ⟨_, y0, y1, y2, y3, _⟩, _, z0, z1, z2, z3, zf⟩ := KX.out _ bl; have zf0 := zf 0; have zf1 := zf 1; have zf2 := zf 2; have zf3 := zf 3; clear zf) | (go_at_call_of 53 (b.op); (try rw [← HX.out]); with_reducible refine (HNb.out _ bl).mono ?_; rintro e w2 ⟨rfl, hb⟩; have bl2 := bl.trans (hb.mono bl.size); clear bl hb; have bl := bl2; clear bl2; obtain ⟨⟨_, x0, x1, x2, x3, _⟩, ⟨_, y0, y1, y2, y3, _⟩, _, z0, z1, z2, z3, zf⟩ := KX.out _ bl; have zf0 := zf 0; have zf1 := zf 1; have zf2 := zf 2; have zf3 := zf 3; clear zf) | (go_at_call 48; (try rw [← HX.out]); with_reducible refine (HSM.out _ bl).mono ?_; rintro e w2 ⟨rfl, hb⟩; have bl2 := bl.trans (hb.mono bl.size); clear bl hb; have bl := bl2; clear bl2; obtain ⟨⟨_, x0, x1, x2, x3, _⟩, ⟨_, y0, y1, y2, y3, _⟩, _, z0, z1, z2, z3, zf⟩ := KX.out _ bl; have zf0 := zf 0; have zf1 := zf 1; have zf2 := zf 2; have zf3 := zf 3; clear zf))
        all_goals obtain ⟨_, t0, t1, t2, t3, _⟩ := (KX.out _ bl).2.2.put (.int .i64 b.op) (.string b.nm) (.int .i64 b.day) (.slice b.A b.ps.length b.cap)
        all_goals simp only [put4] at t0 t1 t2 t3
        all_goals exact bodyPost_ret (v := .agg #[.int .i64 b.op, .string b.nm, .int .i64 b.day, .slice b.A b.ps.length b.cap]) (by simp [results, Try.results38, go_sem, t0, t1, t2, t3]) rfl (HFB.out _ _ _ _ _ bl)
    · skip
      have HE : Hid (R = qa) := Lib.hid (by obtain ⟨h1, h2, h3, h4, h5⟩ := HC.out; rw [HR.out]; simp only [pairQ, h1, h2, h3, h4, h5, if_true, if_false, Bool.false_eq_true])
      rw [HE.out]
      go_enter Try.func38, Try.ntmps38
      go_wp2_with (first | (go_at_call_of 53 (a.op); (try rw [← HX.out]); with_reducible refine (HNa.out _ bl).mono ?_; rintro e w2 ⟨rfl, hb⟩; have bl2 := bl.trans (hb.mono bl.size); clear bl hb; have bl := bl2; clear bl2; obtain ⟨⟨_, x0, x1, x2, x3, _⟩, ⟨_, y0, y1, y2, y3, _⟩, _, z0, z1, z2, z3, zf⟩ := KX.out _ bl; have zf0 := zf 0; have zf1 := zf 1; have zf2 := zf 2; have zf3 := zf 3; clear zf) | (go_at_call_of 53 (b.op); (try rw [← HX.out]); with_reducible refine (HNb.out _ bl).mono ?_; rintro e w2 ⟨rfl, hb⟩; have bl2 := bl.trans (hb.mono bl.size); clear bl hb; have bl := bl2; clear bl2; obtain ⟨⟨_, x0, x1, x2, x3, _⟩, ⟨_, y0, y1, y2, y3, _⟩, _, z0, z1, z2, z3, zf⟩ := KX.out _ bl; have zf0 := zf 0; have zf1 := zf 1; have zf2 := zf 2; have zf3 := zf 3; clear zf) | (go_at_call 48; (try rw [← HX.out]); with_reducible refine (HSM.out _ bl).mono ?_; rintro e w2 ⟨rfl, hb⟩; have bl2 := bl.trans (hb.mono bl.size); clear bl hb; have bl := bl2; clear bl2; obtain ⟨⟨_, x0, x1, x2, x3, _⟩, ⟨_, y0, y1, y2, y3, _⟩, _, z0, z1, z2, z3, zf⟩ := KX.out _ bl; have zf0 := zf 0; have zf1 := zf 1; have zf2 := zf 2; have zf3 := zf 3; clear zf))
      all_goals obtain ⟨_, t0, t1, t2, t3, _⟩ := (KX.out _ bl).2.2.put (.int .i64 a.op) (.string a.nm) (.int .i64 a.day) (.slice a.A a.ps.length a.cap)
      all_goals simp only [put4] at t0 t1 t2 t3
      all_goals exact bodyPost_ret (v := .agg #[.int .i64 a.op, .string a.nm, .int .i64 a.day, .slice a.A a.ps.length a.cap]) (by simp [results, Try.results38, go_sem, t0, t1, t2, t3]) rfl (HFA.out _ _ _ _ _ bl)
  · skip
    cases ta
    · skip
      cases tb
      · skip
        cases na
        · skip
          cases nb
          · skip
            cases sm
            · skip
              have HE : Hid (R = .and qa qb) := Lib.hid (by obtain ⟨h1, h2, h3, h4, h5⟩ := HC.out; rw [HR.out]; simp only [pairQ, h1, h2, h3, h4, h5, if_true, if_false, Bool.false_eq_true])
              rw [HE.out]
              go_enter Try.func38, Try.ntmps38
              go_wp2_with (first | (go_at_call_of 53 (a.op); (try rw [← HX.out]); with_reducible refine (HNa.out _ bl).mono ?_; rintro e w2 ⟨rfl, hb⟩; have bl2 := bl.trans (hb.mono bl.size); clear bl hb; have bl := bl2; clear bl2; obtain ⟨⟨_, x0, x1, x2, x3, _⟩, ⟨_, y0, y1, y2, y3, _⟩, _, z0, z1, z2, z3, zf⟩ := KX.out _ bl; have zf0 := zf 0; have zf1 := zf 1; have zf2 := zf 2; have zf3 := zf 3; clear zf) | (go_at_call_of 53 (b.op); (try rw [← HX.out]); with_reducible refine (HNb.out _ bl).mono ?_; rintro e w2 ⟨rfl, hb⟩; have bl2 := bl.trans (hb.mono bl.size); clear bl hb; have bl := bl2; clear bl2; obtain ⟨⟨_, x0, x1, x2, x3, _⟩, ⟨_, y0, y1, y2, y3, _⟩, _, z0, z1, z2, z3, zf⟩ := KX.out _ bl; have zf0 := zf 0; have zf1 := zf 1; have zf2 := zf 2; have zf3 := zf 3; clear zf) | (go_at_call 48; (try rw [← HX.out]); with_reducible refine (HSM.out _ bl).mono ?_; rintro e w2 ⟨rfl, hb⟩; have bl2 := bl.trans (hb.mono bl.size); clear bl hb; have bl := bl2; clear bl2; obtain ⟨⟨_, x0, x1, x2, x3, _⟩, ⟨_, y0, y1, y2, y3, _⟩, _, z0, z1, z2, z3, zf⟩ := KX.out _ bl; have zf0 := zf 0; have zf1 := zf 1; have zf2 := zf 2; have zf3 := zf 3; clear zf))
              obtain ⟨_, t0, t1, t2, t3, _⟩ := ((KX.out _ bl).2.2.put (.int .i64 5) (.string ⟨#[]⟩) (.int .i64 0) (.slice (some ⟨w2.heap.size, 0, none⟩) 2 2)).alloc (.cells #[.int .i64 a.op, .string a.nm, .int .i64 a.day, .slice a.A a.ps.length a.cap, .int .i64 b.op, .string b.nm, .int .i64 b.day, .slice b.A b.ps.length b.cap] 28)
              simp only [put4] at t0 t1 t2 t3
              exact bodyPost_ret (v := .agg #[.int .i64 5, .string ⟨#[]⟩, .int .i64 0, .slice (some ⟨w2.heap.size, 0, none⟩) 2 2]) (by simp [results, Try.results38, go_sem, t0, t1, t2, t3]) rfl (HFN.out _ _ _ _ _ bl)
            · skip
              have HE : Hid (R = qa) := Lib.hid (by obtain ⟨h1, h2, h3, h4, h5⟩ := HC.out; rw [HR.out]; simp only [pairQ, h1, h2, h3, h4, h5, if_true, if_false, Bool.false_eq_true])
              rw [HE.out]
              go_enter Try.func38, Try.ntmps38
              go_wp2_with (first | (go_at_call_of 53 (a.op); (try rw [← HX.out]); with_reducible refine (HNa.out _ bl).mono ?_; rintro e w2 ⟨rfl, hb⟩; have bl2 := bl.trans (hb.mono bl.size); clear bl hb; have bl := bl2; clear bl2; obtain ⟨⟨_, x0, x1, x2, x3, _⟩, ⟨_, y0, y1, y2, y3, _⟩, _, z0, z1, z2, z3, zf⟩ := KX.out _ bl; have zf0 := zf 0; have zf1 := zf 1; have zf2 := zf 2; have zf3 := zf 3; clear zf) | (go_at_call_of 53 (b.op); (try rw [← HX.out]); with_reducible refine (HNb.out _ bl).mono ?_; rintro e w2 ⟨rfl, hb⟩; have bl2 := bl.trans (hb.mono bl.size); clear bl hb; have bl := bl2; clear bl2; obtain ⟨⟨_, x0, x1, x2, x3, _⟩, ⟨_, y0, y1, y2, y3, _⟩, _, z0, z1, z2, z3, zf⟩ := KX.out _ bl; have zf0 := zf 0; have zf1 := zf 1; have zf2 := zf 2; have zf3 := zf 3; clear zf) | (go_at_call 48; (try rw [← HX.out]); with_reducible refine (HSM.out _ bl).mono ?_; rintro e w2 ⟨rfl, hb⟩; have bl2 := bl.trans (hb.mono bl.size); clear bl hb; have bl := bl2; clear bl2; obtain ⟨⟨_, x0, x1, x2, x3, _⟩, ⟨_, y0, y1, y2, y3, _⟩, _, z0, z1, z2, z3, zf⟩ := KX.out _ bl; have zf0 := zf 0; have zf1 := zf 1; have zf2 := zf 2; have zf3 := zf 3; clear zf))
              all_goals obtain ⟨_, t0, t1, t2, t3, _⟩ := (KX.out _ bl).2.2.put (.int .i64 a.op) (.string a.nm) (.int .i64 a.day) (.slice a.A a.ps.length a.cap)
              all_goals simp only [put4] at t0 t1 t2 t3
              all_goals exact bodyPost_ret (v := .agg #[.int .i64 a.op, .string a.nm, .int .i64 a.day, .slice a.A a.ps.length a.cap]) (by simp [results, Try.results38, go_sem, t0, t1, t2, t3]) rfl (HFA.out _ _ _ _ _ bl)
          · skip
            have HE : Hid (R = qb) := Lib.hid (by obtain ⟨h1, h2, h3, h4, h5⟩ := HC.out; rw [HR.out]; simp only [pairQ, h1, h2, h3, h4, h5, if_true, if_false, Bool.false_eq_true])
            rw [HE.out]
            go_enter Try.func38, Try.ntmps38
            go_wp2_with (first | (go_at_call_of 53 (a.op); (try rw [← HX.out]); with_reducible refine (HNa.out _ bl).mono ?_; rintro e w2 ⟨rfl, hb⟩; have bl2 := bl.trans (hb.mono bl.size); clear bl hb; have bl := bl2; clear bl2; obtain ⟨⟨_, x0, x1, x2, x3, _⟩, ⟨_, y0, y1, y2, y3, _⟩, _, z0, z1, z2, z3, zf⟩ := KX.out _ bl; have zf0 := zf 0; have zf1 := zf 1; have zf2 := zf 2; have zf3 := zf 3; clear zf) | (go_at_call_of 53 (b.op); (try rw [← HX.out]); with_reducible refine (HNb.out _ bl).mono ?_; rintro e w2 ⟨rfl, hb⟩; have bl2 := bl.trans (hb.mono bl.size); clear bl hb; have bl := bl2; clear bl2; obtain ⟨⟨_, x0, x1, x2, x3, _⟩, ⟨_, y0, y1, y2, y3, _⟩, _, z0, z1, z2, z3, zf⟩ := KX.out _ bl; have zf0 := zf 0; have zf1 := zf 1; have zf2 := zf 2; have zf3 := zf 3; clear zf) | (go_at_call 48; (try rw [← HX.out]); with_reducible refine (HSM.out _ bl).mono ?_; rintro e w2 ⟨rfl, hb⟩; have bl2 := bl.trans (hb.mono bl.size); clear bl hb; have bl := bl2; clear bl2; obtain ⟨⟨_, x0, x1, x2, x3, _⟩, ⟨_, y0, y1, y2, y3, _⟩, _, z0, z1, z2, z3, zf⟩ := KX.out _ bl; have zf0 := zf 0; have zf1 := zf 1; have zf2 := zf 2; have zf3 := zf 3; clear zf))
            all_goals obtain ⟨_, t0, t1, t2, t3, _⟩ := (KX.out _ bl).2.2.put (.int .i64 b.op) (.string b.nm) (.int .i64 b.day) (.slice b.A b.ps.length b.cap)
            all_goals simp only [put4] at t0 t1 t2 t3
            all_goals exact bodyPost_ret (v := .agg #[.int .i64 b.op, .string b.nm, .int .i64 b.day, .slice b.A b.ps.length b.cap]) (by simp [results, Try.results38, go_sem, t0, t1, t2, t3]) rfl (HFB.out _ _ _ _ _ bl)
        · skip
          have HE : Hid (R = qa) := Lib.hid (by obtain ⟨h1, h2, h3, h4, h5⟩ := HC.out; rw [HR.out]; simp only [pairQ, h1, h2, h3, h4, h5, if_true, if_false, Bool.false_eq_true])
          rw [HE.out]
          go_enter Try.func38, Try.ntmps38
          go_wp2_with (first | (go_at_call_of 53 (a.op); (try rw [← HX.out]); with_reducible refine (HNa.out _ bl).mono ?_; rintro e w2 ⟨rfl, hb⟩; have bl2 := bl.trans (hb.mono bl.size); clear bl hb; have bl := bl2; clear bl2; obtain ⟨⟨_, x0, x1, x2, x3, _⟩, ⟨_, y0, y1, y2, y3, _⟩, _, z0, z1, z2, z3, zf⟩ := KX.out _ bl; have zf0 := zf 0; have zf1 := zf 1; have zf2 := zf 2; have zf3 := zf 3; clear zf) | (go_at_call_of 53 (b.op); (try rw [← HX.out]); with_reducible refine (HNb.out _ bl).mono ?_; rintro e w2 ⟨rfl, hb⟩; have bl2 := bl.trans (hb.mono bl.size); clear bl hb; have bl := bl2; clear bl2; obtain ⟨⟨_, x0, x1, x2, x3, _⟩, ⟨_, y0, y1, y2, y3, _⟩, _, z0, z1, z2, z3, zf⟩ := KX.out _ bl; have zf0 := zf 0; have zf1 := zf 1; have zf2 := zf 2; have zf3 := zf 3; clear zf) | (go_at_call 48; (try rw [← HX.out]); with_reducible refine (HSM.out _ bl).mono ?_; rintro e w2 ⟨rfl, hb⟩; have bl2 := bl.trans (hb.mono bl.size); clear bl hb; have bl := bl2; clear bl2; obtain ⟨⟨_, x0, x1, x2, x3, _⟩, ⟨_, y0, y1, y2, y3, _⟩, _, z0, z1, z2, z3, zf⟩ := KX.out _ bl; have zf0 := zf 0; have zf1 := zf 1; have zf2 := zf 2; have zf3 := zf 3; clear zf))
          all_goals obtain ⟨_, t0, t1, t2, t3, _⟩ := (KX.out _ bl).2.2.put (.int .i64 a.op) (.string a.nm) (.int .i64 a.day) (.slice a.A a.ps.length a.cap)
          all_goals simp only [put4] at t0 t1 t2 t3
          all_goals exact bodyPost_ret (v := .agg #[.int .i64 a.op, .string a.nm, .int .i64 a.day, .slice a.A a.ps.length a.cap]) (by simp [results, Try.results38, go_sem, t0, t1, t2, t3]) rfl (HFA.out _ _ _ _ _ bl)
      · skip
        have HE : Hid (R = qa) := Lib.hid (by obtain ⟨h1, h2, h3, h4, h5⟩ := HC.out; rw [HR.out]; simp only [pairQ, h1, h2, h3, h4, h5, if_true, if_false, Bool.false_eq_true])
        rw [HE.out]
        go_enter Try.func38, Try.ntmps38
        go_wp2_with (first | (go_at_call_of 53 (a.op); (try rw [← HX.out]); with_reducible refine (HNa.out _ bl).mono ?_; rintro e w2 ⟨rfl, hb⟩; have bl2 := bl.trans (hb.mono bl.size); clear bl hb; have bl := bl2; clear bl2; obtain ⟨⟨_, x0, x1, x2, x3, _⟩, ⟨_, y0, y1, y2, y3, _⟩, _, z0, z1, z2, z3, zf⟩ := KX.out _ bl; have zf0 := zf 0; have zf1 := zf 1; have zf2 := zf 2; have zf3 := zf 3; clear zf) | (go_at_call_of 53 (b.op); (try rw [← HX.out]); with_reducible refine (HNb.out _ bl).mono ?_; rintro e w2 ⟨rfl, hb⟩; have bl2 := bl.trans (hb.mono bl.size); clear bl hb; have bl := bl2; clear bl2; obtain ⟨⟨_, x0, x1, x2, x3, _⟩, ⟨_, y0, y1, y2, y3, _⟩, _, z0, z1, z2, z3, zf⟩ := KX.out _ bl; have zf0 := zf 0; have zf1 := zf 1; have zf2 := zf 2; have zf3 := zf 3; clear zf) | (go_at_call 48; (try rw [← HX.out]); with_reducible refine (HSM.out _ bl).mono ?_; rintro e w2 ⟨rfl, hb⟩; have bl2 := bl.trans (hb.mono bl.size); clear bl hb; have bl := bl2; clear bl2; obtain ⟨⟨_, x0, x1, x2, x3, _⟩, ⟨_, y0, y1, y2, y3, _⟩, _, z0, z1, z2, z3, zf⟩ := KX.out _ bl; have zf0 := zf 0; have zf1 := zf 1; have zf2 := zf 2; have zf3 := zf 3; clear zf))
        exact bodyPost_ret (v := .agg #[.int .i64 a.op, .string a.nm, .int .i64 a.day, .slice a.A a.ps.length a.cap]) (by simp [results, Try.results38, go_sem]) rfl HGA.out
    · skip
      have HE : Hid (R = qb) := Lib.hid (by obtain ⟨h1, h2, h3, h4, h5⟩ := HC.out; rw [HR.out]; simp only [pairQ, h1, h2, h3, h4, h5, if_true, if_false, Bool.false_eq_true])
      rw [HE.out]
      go_enter Try.func38, Try.ntmps38
      go_wp2_with (first | (go_at_call_of 53 (a.op); (try rw [← HX.out]); with_reducible refine (HNa.out _ bl).mono ?_; rintro e w2 ⟨rfl, hb⟩; have bl2 := bl.trans (hb.mono bl.size); clear bl hb; have bl := bl2; clear bl2; obtain ⟨⟨_, x0, x1, x2, x3, _⟩, ⟨_, y0, y1, y2, y3, _⟩, _, z0, z1, z2, z3, zf⟩ := KX.out _ bl; have zf0 := zf 0; have zf1 := zf 1; have zf2 := zf 2; have zf3 := zf 3; clear zf) | (go_at_call_of 53 (b.op); (try rw [← HX.out]); with_reducible refine (HNb.out _ bl).mono ?_; rintro e w2 ⟨rfl, hb⟩; have bl2 := bl.trans (hb.mono bl.size); clear bl hb; have bl := bl2; clear bl2; obtain ⟨⟨_, x0, x1, x2, x3, _⟩, ⟨_, y0, y1, y2, y3, _⟩, _, z0, z1, z2, z3, zf⟩ := KX.out _ bl; have zf0 := zf 0; have zf1 := zf 1; have zf2 := zf 2; have zf3 := zf 3; clear zf) | (go_at_call 48; (try rw [← HX.out]); with_reducible refine (HSM.out _ bl).mono ?_; rintro e w2 ⟨rfl, hb⟩; have bl2 := bl.trans (hb.mono bl.size); clear bl hb; have bl := bl2; clear bl2; obtain ⟨⟨_, x0, x1, x2, x3, _⟩, ⟨_, y0, y1, y2, y3, _⟩, _, z0, z1, z2, z3, zf⟩ := KX.out _ bl; have zf0 := zf 0; have zf1 := zf 1; have zf2 := zf 2; have zf3 := zf 3; clear zf))
      exact bodyPost_ret (v := .agg #[.int .i64 b.op, .string b.nm, .int .i64 b.day, .slice b.A b.ps.length b.cap]) (by simp [results, Try.results38, go_sem]) rfl HGB.out

end Go.Proofs.Ytencedbohnbogaa.Cond
