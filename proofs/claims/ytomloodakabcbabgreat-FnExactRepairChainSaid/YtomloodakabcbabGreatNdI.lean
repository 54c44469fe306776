/-
  The names and the days of conditions, as the program collects them: namesAndDays.
-/
import Derived.Test.YtomloodakabcbabGreatGoodI
import Derived.Test.YtomloodakabcbabGreatSrtR
namespace Go.Proofs.YtomloodakabcbabGreat.NdI
open Go.RowKit Go.Sort Go.Proofs.YtomloodakabcbabGreat.Cond Go.Proofs.YtomloodakabcbabGreat.SrtR
set_option linter.unusedVariables false

abbrev Sg := List (List UInt8) × List Int
def okN (_ : Sg) (_ : C) : Bool := true
def nxN (s : Sg) : C → Sg
  | .mk op nm day _ => if op = 2 then (s.1 ++ [nm.toList], s.2) else if op = 3 then (s.1, s.2 ++ [day]) else s
def fitN (s : Sg) (m : Nat) : Prop := s.1.length + m ≤ 1000 ∧ s.2.length + m ≤ 1000

theorem str_enc (s : ByteArray) : Value.string s = encStr s.toList := by
  unfold encStr
  rw [Go.ByteArray.toList_eq]

/-- Two variables with slices, and their rows. -/
structure StN (B p0 p1 : Nat) (s : Sg) (g1 n1 c1 g2 n2 c2 : Nat) (v : World) : Prop where
  q0 : v.cell? ⟨p0, 0, none⟩ = some (.slice (some ⟨g1, 0, none⟩) n1 c1)
  q1 : v.cell? ⟨p1, 0, none⟩ = some (.slice (some ⟨g2, 0, none⟩) n2 c2)
  f0 : v.frozen? ⟨p0, 0, none⟩ = false
  f1 : v.frozen? ⟨p1, 0, none⟩ = false
  o1 : UniT.Own v B (.slice (some ⟨g1, 0, none⟩) n1 c1) s.1
  o2 : UniS.Own v B (.slice (some ⟨g2, 0, none⟩) n2 c2) s.2
  l1 : n1 = s.1.length
  l2 : n2 = s.2.length
  ge0 : B ≤ p0
  ge1 : B ≤ p1
  ne : p0 ≠ p1 ∧ p0 ≠ g1 ∧ p0 ≠ g2 ∧ p1 ≠ g1 ∧ p1 ≠ g2 ∧ g1 ≠ g2
theorem StN.lt {B p0 p1 : Nat} {s : Sg} {g1 n1 c1 g2 n2 c2 : Nat} {v : World} (h : StN B p0 p1 s g1 n1 c1 g2 n2 c2 v) : p0 < v.heap.size ∧ p1 < v.heap.size ∧ g1 < v.heap.size ∧ g2 < v.heap.size ∧ B ≤ g1 ∧ B ≤ g2 :=
  ⟨World.block_lt_of_cell? v ⟨p0, 0, none⟩ h.q0, World.block_lt_of_cell? v ⟨p1, 0, none⟩ h.q1, (h.o1.lt g1 rfl).2, (h.o2.lt g2 rfl).2, (h.o1.lt g1 rfl).1, (h.o2.lt g2 rfl).1⟩
def ownN (p0 p1 g1 g2 : Nat) (b : Nat) : Prop := b = p0 ∨ b = p1 ∨ b = g1 ∨ b = g2
theorem own_same {B e n c g : Nat} {v v' : World} {xs : List Value} (h : v.ownsRow B e 1 (.slice (some ⟨g, 0, none⟩) n c) n xs) (hb : v'.heap[g]? = v.heap[g]?) : v'.ownsRow B e 1 (.slice (some ⟨g, 0, none⟩) n c) n xs := by
  refine ⟨h.1, ?_⟩
  rcases h.2 with ⟨hv, _⟩ | ⟨g', cap, cur, hv, hB, hh, r⟩
  · cases hv
  · injection hv with e1 e2 e3
    injection e1 with e1
    injection e1 with e1
    subst e1; subst e3
    exact .inr ⟨g, c, cur, rfl, hB, hb.trans hh, r⟩
theorem StN.same {B p0 p1 : Nat} {s : Sg} {g1 n1 c1 g2 n2 c2 : Nat} {v v' : World} (h : StN B p0 p1 s g1 n1 c1 g2 n2 c2 v) (hb : ∀ b, ownN p0 p1 g1 g2 b → v'.heap[b]? = v.heap[b]?) : StN B p0 p1 s g1 n1 c1 g2 n2 c2 v' :=
  have e0 := hb p0 (.inl rfl)
  have e1 := hb p1 (.inr (.inl rfl))
  ⟨(World.cell?_of_block (a := ⟨p0, 0, none⟩) e0).trans h.q0, (World.cell?_of_block (a := ⟨p1, 0, none⟩) e1).trans h.q1, (World.frozen?_of_block (a := ⟨p0, 0, none⟩) e0).trans h.f0, (World.frozen?_of_block (a := ⟨p1, 0, none⟩) e1).trans h.f1,
   by have := h.o1; unfold UniT.Own at this ⊢; rw [← h.l1] at this ⊢; exact own_same this (hb g1 (.inr (.inr (.inl rfl)))), by have := h.o2; unfold UniS.Own at this ⊢; rw [← h.l2] at this ⊢; exact own_same this (hb g2 (.inr (.inr (.inr rfl)))), h.l1, h.l2, h.ge0, h.ge1, h.ne⟩
def StE (B p0 p1 : Nat) (s : Sg) (own : Nat → Prop) (v : World) : Prop := ∃ g1 n1 c1 g2 n2 c2, own = ownN p0 p1 g1 g2 ∧ StN B p0 p1 s g1 n1 c1 g2 n2 c2 v

theorem seesN (B p0 p1 : Nat) : Sees B okN nxN (StE B p0 p1) fitN where
  lt := fun s own v ⟨g1, n1, c1, g2, n2, c2, ho, h⟩ b hb => by
    subst ho
    obtain ⟨a1, a2, a3, a4, a5, a6⟩ := h.lt
    rcases hb with rfl | rfl | rfl | rfl
    · exact ⟨h.ge0, a1⟩
    · exact ⟨h.ge1, a2⟩
    · exact ⟨a5, a3⟩
    · exact ⟨a6, a4⟩
  fr := fun s own v v' ⟨g1, n1, c1, g2, n2, c2, ho, h⟩ hb => by
    subst ho
    exact ⟨g1, n1, c1, g2, n2, c2, rfl, h.same hb⟩
  less := fun s m m' h hm => by unfold fitN at *; omega
  fits := fun s m c h => by
    cases c with
    | mk op nm day ps =>
      unfold fitN at h ⊢
      by_cases h2 : op = 2
      · simp only [nxN, if_pos h2, List.length_append, List.length_singleton]; omega
      · by_cases h3 : op = 3
        · simp only [nxN, if_neg h2, if_pos h3, List.length_append, List.length_singleton]; omega
        · simp only [nxN, if_neg h2, if_neg h3]; omega

theorem CalOwnLe {w : World} {base base' : Nat} {D : List Int} {v : Value} (h : UniS.Own w base v D) (hb : base' ≤ base) : UniS.Own w base' v D := by
  refine ⟨h.1, ?_⟩
  rcases h.2 with h2 | ⟨g, cap, cur, hv, hg, r⟩
  · exact .inl h2
  · exact .inr ⟨g, cap, cur, hv, by omega, r⟩
theorem grown_set (w : World) (p : Nat) (x : Value) : w.grownBy (w.setCell ⟨p, 0, none⟩ x) (some p) :=
  ⟨rfl, rfl, rfl, by rw [World.size_setCell]; exact Nat.le_refl _, fun k _ hne => Below.heap_setCell _ _ _ _ (fun e => hne (by rw [e]))⟩

/-- A string is put behind the names. -/
theorem StN.app1 {B p0 p1 : Nat} {s : Sg} {g1 n1 c1 g2 n2 c2 : Nat} {v u w1 : World} (h : StN B p0 p1 s g1 n1 c1 g2 n2 c2 v) (hb : Below v.heap.size v u) {x : List UInt8} {a3 : Option Addr} {N c3 : Nat} (hN : N = s.1.length + 1)
    (ho : UniT.Own w1 B (.slice a3 N c3) (s.1 ++ [x])) (hg : u.grownBy w1 (some g1)) (hat : (Value.slice a3 N c3).ownBlock = some g1 ∨ (Value.slice a3 N c3).ownBlock = some u.heap.size) :
    ∃ g3, a3 = some ⟨g3, 0, none⟩ ∧ StN B p0 p1 (s.1 ++ [x], s.2) g3 N c3 g2 n2 c2 (w1.setCell ⟨p0, 0, none⟩ (.slice a3 N c3)) ∧ Mv (ownN p0 p1 g1 g2) (ownN p0 p1 g3 g2) v (w1.setCell ⟨p0, 0, none⟩ (.slice a3 N c3)) ∧ w1.cell? ⟨p0, 0, none⟩ = some (.slice (some ⟨g1, 0, none⟩) n1 c1) ∧ w1.frozen? ⟨p0, 0, none⟩ = false := by
  obtain ⟨l0, l1, l2, l3, l4, l5⟩ := h.lt
  obtain ⟨d1, d2, d3, d4, d5, d6⟩ := h.ne
  have hus := hb.size
  rcases ho.2 with ⟨hv, _⟩ | ⟨g3, c', cur, hv, hB3, r⟩
  · rw [hv] at hat
    rcases hat with hat | hat <;> cases hat
  · injection hv with e1 e2 e3
    subst e1; subst e3
    have hg3 : g3 = g1 ∨ g3 = u.heap.size := by
      rcases hat with hat | hat
      · exact .inl (by injection hat)
      · exact .inr (by injection hat)
    have blk : ∀ b, b < v.heap.size → b ≠ g1 → w1.heap[b]? = v.heap[b]? := fun b hb' hne => (hg.block b (by omega) (fun e => hne (by injection e))).trans (hb.block b hb')
    have k0 := blk p0 l0 d2
    have k1 := blk p1 l1 d4
    have k2 := blk g2 l3 (fun e => d6 e.symm)
    have q0 := (World.cell?_of_block (a := ⟨p0, 0, none⟩) k0).trans h.q0
    have f0 := (World.frozen?_of_block (a := ⟨p0, 0, none⟩) k0).trans h.f0
    have s1 : ∀ b, b ≠ p0 → (w1.setCell ⟨p0, 0, none⟩ (.slice (some ⟨g3, 0, none⟩) N c3)).heap[b]? = w1.heap[b]? := fun b hne => Below.heap_setCell _ _ _ _ hne
    have hp3 : p0 ≠ g3 := by rcases hg3 with e | e <;> omega
    have hp4 : p1 ≠ g3 := by rcases hg3 with e | e <;> omega
    have hp5 : g3 ≠ g2 := by rcases hg3 with e | e <;> omega
    refine ⟨g3, rfl, ⟨World.cell?_setCell_same _ _ _ q0, ?_, by simp [f0], ?_, ?_, ?_, by simp [hN], h.l2, h.ge0, h.ge1, d1, hp3, d3, hp4, d5, hp5⟩, ?_, q0, f0⟩
    · exact (World.cell?_of_block (a := ⟨p1, 0, none⟩) ((s1 p1 (fun e => d1 e.symm)).trans k1)).trans h.q1
    · exact (World.frozen?_of_block (a := ⟨p1, 0, none⟩) ((s1 p1 (fun e => d1 e.symm)).trans k1)).trans h.f1
    · have := ho
      unfold UniT.Own at this ⊢
      rw [show (s.1 ++ [x]).length = N by simp [hN]] at this ⊢
      exact own_same this (s1 g3 (fun e => hp3 e.symm))
    · have := h.o2
      unfold UniS.Own at this ⊢
      rw [← h.l2] at this
      show (w1.setCell ⟨p0, 0, none⟩ (.slice (some ⟨g3, 0, none⟩) N c3)).ownsRow B _ 1 _ s.2.length _
      rw [← h.l2]
      exact own_same this ((s1 g2 (fun e => d3 e.symm)).trans k2)
    · refine ⟨hg.os.trans hb.os, hg.tape.trans hb.tape, hg.output.trans hb.output, by rw [World.size_setCell]; exact Nat.le_trans hb.size hg.size, fun b hb' hn => ?_, fun b ho' => ?_⟩
      · rw [s1 b (fun e => hn (.inl e))]
        exact blk b hb' (fun e => hn (.inr (.inr (.inl e))))
      · rcases ho' with e | e | e | e
        · exact .inl (.inl e)
        · exact .inl (.inr (.inl e))
        · rcases hg3 with e3 | e3
          · exact .inl (.inr (.inr (.inl (e.trans e3))))
          · exact .inr (by omega)
        · exact .inl (.inr (.inr (.inr e)))

/-- A day is put behind the days. -/
theorem StN.app2 {B p0 p1 : Nat} {s : Sg} {g1 n1 c1 g2 n2 c2 : Nat} {v u w1 : World} (h : StN B p0 p1 s g1 n1 c1 g2 n2 c2 v) (hb : Below v.heap.size v u) {x : Int} {a3 : Option Addr} {N c3 : Nat} (hN : N = s.2.length + 1)
    (ho : UniS.Own w1 B (.slice a3 N c3) (s.2 ++ [x])) (hg : u.grownBy w1 (some g2)) (hat : (Value.slice a3 N c3).ownBlock = some g2 ∨ (Value.slice a3 N c3).ownBlock = some u.heap.size) :
    ∃ g3, a3 = some ⟨g3, 0, none⟩ ∧ StN B p0 p1 (s.1, s.2 ++ [x]) g1 n1 c1 g3 N c3 (w1.setCell ⟨p1, 0, none⟩ (.slice a3 N c3)) ∧ Mv (ownN p0 p1 g1 g2) (ownN p0 p1 g1 g3) v (w1.setCell ⟨p1, 0, none⟩ (.slice a3 N c3)) ∧ w1.cell? ⟨p1, 0, none⟩ = some (.slice (some ⟨g2, 0, none⟩) n2 c2) ∧ w1.frozen? ⟨p1, 0, none⟩ = false := by
  obtain ⟨l0, l1, l2, l3, l4, l5⟩ := h.lt
  obtain ⟨d1, d2, d3, d4, d5, d6⟩ := h.ne
  have hus := hb.size
  rcases ho.2 with ⟨hv, _⟩ | ⟨g3, c', cur, hv, hB3, r⟩
  · rw [hv] at hat
    rcases hat with hat | hat <;> cases hat
  · injection hv with e1 e2 e3
    subst e1; subst e3
    have hg3 : g3 = g2 ∨ g3 = u.heap.size := by
      rcases hat with hat | hat
      · exact .inl (by injection hat)
      · exact .inr (by injection hat)
    have blk : ∀ b, b < v.heap.size → b ≠ g2 → w1.heap[b]? = v.heap[b]? := fun b hb' hne => (hg.block b (by omega) (fun e => hne (by injection e))).trans (hb.block b hb')
    have k0 := blk p0 l0 d3
    have k1 := blk p1 l1 d5
    have k2 := blk g1 l2 d6
    have q1 := (World.cell?_of_block (a := ⟨p1, 0, none⟩) k1).trans h.q1
    have f1 := (World.frozen?_of_block (a := ⟨p1, 0, none⟩) k1).trans h.f1
    have s1 : ∀ b, b ≠ p1 → (w1.setCell ⟨p1, 0, none⟩ (.slice (some ⟨g3, 0, none⟩) N c3)).heap[b]? = w1.heap[b]? := fun b hne => Below.heap_setCell _ _ _ _ hne
    have hp3 : p0 ≠ g3 := by rcases hg3 with e | e <;> omega
    have hp4 : p1 ≠ g3 := by rcases hg3 with e | e <;> omega
    have hp5 : g1 ≠ g3 := by rcases hg3 with e | e <;> omega
    refine ⟨g3, rfl, ⟨?_, World.cell?_setCell_same _ _ _ q1, ?_, by simp [f1], ?_, ?_, h.l1, by simp [hN], h.ge0, h.ge1, d1, d2, hp3, d4, hp4, hp5⟩, ?_, q1, f1⟩
    · exact (World.cell?_of_block (a := ⟨p0, 0, none⟩) ((s1 p0 d1).trans k0)).trans h.q0
    · exact (World.frozen?_of_block (a := ⟨p0, 0, none⟩) ((s1 p0 d1).trans k0)).trans h.f0
    · have := h.o1
      unfold UniT.Own at this ⊢
      rw [← h.l1] at this
      show (w1.setCell ⟨p1, 0, none⟩ (.slice (some ⟨g3, 0, none⟩) N c3)).ownsRow B _ 1 _ s.1.length _
      rw [← h.l1]
      exact own_same this ((s1 g1 (fun e => d4 e.symm)).trans k2)
    · have := ho
      unfold UniS.Own at this ⊢
      rw [show (s.2 ++ [x]).length = N by simp [hN]] at this ⊢
      exact own_same this (s1 g3 (fun e => hp4 e.symm))
    · refine ⟨hg.os.trans hb.os, hg.tape.trans hb.tape, hg.output.trans hb.output, by rw [World.size_setCell]; exact Nat.le_trans hb.size hg.size, fun b hb' hn => ?_, fun b ho' => ?_⟩
      · rw [s1 b (fun e => hn (.inr (.inl e)))]
        exact blk b hb' (fun e => hn (.inr (.inr (.inr e))))
      · rcases ho' with e | e | e | e
        · exact .inl (.inl e)
        · exact .inl (.inr (.inl e))
        · exact .inl (.inr (.inr (.inl e)))
        · rcases hg3 with e3 | e3
          · exact .inl (.inr (.inr (.inr (e.trans e3))))
          · exact .inr (by omega)

set_option maxHeartbeats 2000000 in
theorem seeN (B p0 p1 : Nat) (s : Sg) (own : Nat → Prop) (v : World) (k : K) (hf : fitN s 1) (hst : StE B p0 p1 s own v) (hin : Lies v B k) (hB : B ≤ v.heap.size) :
    Calls Tryz.prog 69 #[k.val, .pointer (some ⟨p0, 0, none⟩), .pointer (some ⟨p1, 0, none⟩)] v fun e w' => ∃ own', e = .returned (.bool (okN s k.cond)) ∧ StE B p0 p1 (nxN s k.cond) own' w' ∧ Mv own own' v w' := by
  cases k with
  | mk op nm day A cap ps =>
    obtain ⟨g1, n1, c1, g2, n2, c2, rfl, h⟩ := hst
    unfold fitN at hf
    show Calls Tryz.prog 69 #[.agg #[.int .i64 op, .string nm, .int .i64 day, .slice A ps.length cap], .pointer (some ⟨p0, 0, none⟩), .pointer (some ⟨p1, 0, none⟩)] v fun e w' => ∃ own', e = .returned (.bool true) ∧ StE B p0 p1 (if op = 2 then (s.1 ++ [nm.toList], s.2) else if op = 3 then (s.1, s.2 ++ [day]) else s) own' w' ∧ Mv (ownN p0 p1 g1 g2) own' v w'
    generalize ps.length = l at *
    have b1 := below1 v (.cells #[.int .i64 op, .string nm, .int .i64 day, .slice A l cap] 68)
    have H0 := h.same (fun b hb => b1.block b (by obtain ⟨l0, l1, l2, l3, _, _⟩ := h.lt; rcases hb with rfl | rfl | rfl | rfl <;> assumption))
    have q0 := H0.q0
    have q1 := H0.q1
    have B1 := Lib.hid b1
    have H := Lib.hid h
    have H0H := Lib.hid H0
    by_cases h2 : op = 2
    · subst h2
      have b2 : Below v.heap.size v ((v.alloc (.cells #[.int .i64 2, .string nm, .int .i64 day, .slice A l cap] 68)).alloc (.cells #[.string nm] 9)) := b1.alloc (by simp) _
      have H2 := Lib.hid (h.same (fun b hb => b2.block b (by obtain ⟨l0, l1, l2, l3, _, _⟩ := h.lt; rcases hb with rfl | rfl | rfl | rfl <;> assumption)))
      have HL : Hid (UniT.Is ((v.alloc (.cells #[.int .i64 2, .string nm, .int .i64 day, .slice A l cap] 68)).alloc (.cells #[.string nm] 9)) (v.heap.size + 2) (some ⟨v.heap.size + 1, 0, none⟩) [nm.toList]) := Lib.hid fun _ => ⟨_, rfl, by simp, fun j hj => by
        have : j = 0 := by simpa using hj
        subst this
        rw [show ([nm.toList] : List (List UInt8))[0] = nm.toList from rfl, ← str_enc]
        simp [Addr.add, go_sem]⟩
      have B2 := Lib.hid b2
      clear h H0 b1 b2
      go_enter Tryz.func69, Tryz.ntmps69
      go_wp2_with (at_builtin; refine UniT.wp_app rfl _ _ rfl B _ s.1 rfl H2.out.o1 (some ⟨v.heap.size + 1, 0, none⟩) 1 1 (v.heap.size + 2) [nm.toList] rfl rfl HL.out (fun e => by cases e) (by omega) (by simp; omega) ?_; intro a3 c3 w1 hown hg hat; refine Hid.out ?_)
      refine Lib.hid ?_
      obtain ⟨g3, rfl, hs3, hm3, e0, e1⟩ := H.out.app1 B2.out rfl hown hg hat
      have HS := Lib.hid hs3
      have HM := Lib.hid hm3
      clear hown hg hat hs3 hm3 q0 q1
      go_wp2_with fail
      go_ret
      first
        | exact ⟨rfl, _, ⟨g3, _, c3, g2, n2, c2, rfl, HS.out⟩, HM.out⟩
        | exact ⟨_, rfl, ⟨g3, _, c3, g2, n2, c2, rfl, HS.out⟩, HM.out⟩
    by_cases h3 : op = 3
    · subst h3
      have b2 : Below v.heap.size v ((v.alloc (.cells #[.int .i64 3, .string nm, .int .i64 day, .slice A l cap] 68)).alloc (.cells #[.int .i64 day] 3)) := b1.alloc (by simp) _
      have H2 := Lib.hid (h.same (fun b hb => b2.block b (by obtain ⟨l0, l1, l2, l3, _, _⟩ := h.lt; rcases hb with rfl | rfl | rfl | rfl <;> assumption)))
      have HL : Hid (IRow.Is ((v.alloc (.cells #[.int .i64 3, .string nm, .int .i64 day, .slice A l cap] 68)).alloc (.cells #[.int .i64 day] 3)) (v.heap.size + 2) (some ⟨v.heap.size + 1, 0, none⟩) [day]) := Lib.hid fun _ => ⟨_, rfl, by simp, fun j hj => by
        have : j = 0 := by simpa using hj
        subst this
        simp [Addr.add, go_sem]⟩
      have B2 := Lib.hid b2
      clear h H0 b1 b2
      go_enter Tryz.func69, Tryz.ntmps69
      go_wp2_with (at_builtin; refine UniS.wp_app rfl _ _ rfl B _ s.2 rfl H2.out.o2 (some ⟨v.heap.size + 1, 0, none⟩) 1 1 (v.heap.size + 2) [day] rfl rfl HL.out (fun e => by cases e) (by omega) (by simp; omega) ?_; intro a3 c3 w1 hown hg hat; refine Hid.out ?_)
      refine Lib.hid ?_
      obtain ⟨g3, rfl, hs3, hm3, e0, e1⟩ := H.out.app2 B2.out rfl hown hg hat
      have HS := Lib.hid hs3
      have HM := Lib.hid hm3
      clear hown hg hat hs3 hm3 q0 q1
      go_wp2_with fail
      go_ret
      first
        | exact ⟨rfl, _, ⟨g1, n1, c1, g3, _, c3, rfl, HS.out⟩, HM.out⟩
        | exact ⟨_, rfl, ⟨g1, n1, c1, g3, _, c3, rfl, HS.out⟩, HM.out⟩
    · clear h H0 b1
      have h2' : (op == 2) = false := by simpa using h2
      have h3' : (op == 3) = false := by simpa using h3
      rw [if_neg h2, if_neg h3]
      go_enter Tryz.func69, Tryz.ntmps69
      go_wp2_with fail
      go_ret
      first
        | exact ⟨rfl, _, ⟨g1, n1, c1, g2, n2, c2, rfl, H0H.out⟩, Mv.of_below B1.out⟩
        | exact ⟨_, rfl, ⟨g1, n1, c1, g2, n2, c2, rfl, H0H.out⟩, Mv.of_below B1.out⟩

/-- What is collected of a condition. -/
def col (c : C) (s : Sg) : Sg := (vis okN nxN c s).2
def cols (cs : List C) (s : Sg) : Sg := cs.foldl (fun s c => col c s) s

mutual
theorem vis_all : ∀ (c : C) (s : Sg), (vis okN nxN c s).1 = true
  | .mk op nm day ps, s => by unfold vis; rw [if_pos (show okN s (.mk op nm day ps) = true from rfl)]; exact visL_all ps _
theorem visL_all : ∀ (ps : List C) (s : Sg), (visL okN nxN ps s).1 = true
  | [], s => rfl
  | p :: ps, s => by unfold visL; rw [if_pos (vis_all p s)]; exact visL_all ps _
end

/-- The answer's two rows. -/
structure NdAns (w : World) (s : Sg) (g1 m1 c1 g2 m2 c2 : Nat) (w' : World) : Prop where
  o1 : UniT.Own w' w.heap.size (.slice (some ⟨g1, 0, none⟩) m1 c1) (Lib.compact (srtT s.1))
  o2 : UniS.Own w' w.heap.size (.slice (some ⟨g2, 0, none⟩) m2 c2) (Lib.compact (srtI s.2))
  l1 : m1 = (Lib.compact (srtT s.1)).length
  l2 : m2 = (Lib.compact (srtI s.2)).length
  ne : g1 ≠ g2
  bel : Below w.heap.size w w'

theorem StN.row1 {B p0 p1 : Nat} {s : Sg} {g1 n1 c1 g2 n2 c2 : Nat} {v v' : World} (h : StN B p0 p1 s g1 n1 c1 g2 n2 c2 v) {D : List (List UInt8)} (o : UniT.Own v' B (.slice (some ⟨g1, 0, none⟩) n1 c1) D) (hl : n1 = D.length) (hg : v.grownBy v' (some g1)) : StN B p0 p1 (D, s.2) g1 n1 c1 g2 n2 c2 v' := by
  obtain ⟨l0, l1, l2, l3, _, _⟩ := h.lt
  obtain ⟨d1, d2, d3, d4, d5, d6⟩ := h.ne
  have e0 := hg.block p0 l0 (fun e => d2 (by injection e))
  have e1 := hg.block p1 l1 (fun e => d4 (by injection e))
  have e2 := hg.block g2 l3 (fun e => d6 (by injection e with e; exact e.symm))
  refine ⟨(World.cell?_of_block (a := ⟨p0, 0, none⟩) e0).trans h.q0, (World.cell?_of_block (a := ⟨p1, 0, none⟩) e1).trans h.q1, (World.frozen?_of_block (a := ⟨p0, 0, none⟩) e0).trans h.f0, (World.frozen?_of_block (a := ⟨p1, 0, none⟩) e1).trans h.f1, o, ?_, hl, h.l2, h.ge0, h.ge1, h.ne⟩
  have := h.o2
  unfold UniS.Own at this ⊢
  rw [← h.l2] at this ⊢
  exact own_same this e2
theorem StN.row2 {B p0 p1 : Nat} {s : Sg} {g1 n1 c1 g2 n2 c2 : Nat} {v v' : World} (h : StN B p0 p1 s g1 n1 c1 g2 n2 c2 v) {D : List Int} (o : UniS.Own v' B (.slice (some ⟨g2, 0, none⟩) n2 c2) D) (hl : n2 = D.length) (hg : v.grownBy v' (some g2)) : StN B p0 p1 (s.1, D) g1 n1 c1 g2 n2 c2 v' := by
  obtain ⟨l0, l1, l2, l3, _, _⟩ := h.lt
  obtain ⟨d1, d2, d3, d4, d5, d6⟩ := h.ne
  have e0 := hg.block p0 l0 (fun e => d3 (by injection e))
  have e1 := hg.block p1 l1 (fun e => d5 (by injection e))
  have e2 := hg.block g1 l2 (fun e => d6 (by injection e))
  refine ⟨(World.cell?_of_block (a := ⟨p0, 0, none⟩) e0).trans h.q0, (World.cell?_of_block (a := ⟨p1, 0, none⟩) e1).trans h.q1, (World.frozen?_of_block (a := ⟨p0, 0, none⟩) e0).trans h.f0, (World.frozen?_of_block (a := ⟨p1, 0, none⟩) e1).trans h.f1, ?_, o, h.l1, hl, h.ge0, h.ge1, h.ne⟩
  have := h.o1
  unfold UniT.Own at this ⊢
  rw [← h.l1] at this ⊢
  exact own_same this e2
theorem below_grown {B g : Nat} {w v v' : World} (h : RowKit.Below B w v) (hg : v.grownBy v' (some g)) (hB : B ≤ v.heap.size) (hg' : B ≤ g) : RowKit.Below B w v' := h.grown hg hB (fun k e => by injection e with e; omega)
theorem cols_step {ps : List C} {j : Nat} (hj : j < ps.length) (s : Sg) : cols (ps.take (j + 1)) s = col ps[j] (cols (ps.take j) s) := by
  unfold cols
  rw [List.take_succ_eq_append_getElem hj, List.foldl_append]
  rfl

theorem stN_new (w : World) : StE w.heap.size (w.heap.size + 1 + 1) (w.heap.size + 1 + 1 + 1) ([], []) (ownN (w.heap.size + 1 + 1) (w.heap.size + 1 + 1 + 1) w.heap.size (w.heap.size + 1))
    ((((w.alloc (.cells #[] 9)).alloc (.cells #[] 3)).alloc (.cells #[.slice (some ⟨w.heap.size, 0, none⟩) 0 0] 22)).alloc (.cells #[.slice (some ⟨w.heap.size + 1, 0, none⟩) 0 0] 27)) := by
  refine ⟨w.heap.size, 0, 0, w.heap.size + 1, 0, 0, rfl, by simp [go_sem], by simp [go_sem], by simp [go_sem], by simp [go_sem], ?_, ?_, rfl, rfl, by omega, by omega, by omega⟩
  · exact (((UniT.own_new w).alloc _).alloc _).alloc _
  · have := ((UniS.own_new (w.alloc (.cells #[] 9))).alloc (.cells #[.slice (some ⟨w.heap.size, 0, none⟩) 0 0] 22)).alloc (.cells #[.slice (some ⟨w.heap.size + 1, 0, none⟩) 0 0] 27)
    have h2 := CalOwnLe (base' := w.heap.size) this (by simp)
    simpa using h2

set_option maxHeartbeats 4000000 in
theorem names (A : Option Addr) (cap : Nat) (ps : List K) (w : World) (hA : At w w.heap.size A ps) (hin : ∀ p ∈ ps, Lies w w.heap.size p) (hn : ps.length ≤ 13) (hsz : ∀ p ∈ ps, p.cond.size ≤ 15) :
    Calls Tryz.prog 54 #[.slice A ps.length cap] w fun e w' => ∃ g1 m1 c1 g2 m2 c2, e = .returned (.tuple #[.slice (some ⟨g1, 0, none⟩) m1 c1, .slice (some ⟨g2, 0, none⟩) m2 c2]) ∧ NdAns w (cols (conds ps) ([], [])) g1 m1 c1 g2 m2 c2 w' := by
  obtain ⟨n, hnn⟩ : ∃ n, n = ps.length := ⟨_, rfl⟩
  have HN := Lib.hid hnn
  rw [← hnn] at hn ⊢
  clear hnn
  have HA := Lib.hid hA
  have HIN := Lib.hid hin
  have HSZ := Lib.hid hsz
  have HS0 := Lib.hid (stN_new w)
  have HC := Lib.hid (conds_len ps)
  have hmf : ∀ (fn : Fn) (first cap : Array Value) (w : World), (Instr.makeFunc fn first cap).run Tryz.prog w = .ok (.func fn first cap) w := fun _ _ _ _ => rfl
  obtain ⟨w0, hw0⟩ : ∃ w0, w0 = ((((w.alloc (.cells #[] 9)).alloc (.cells #[] 3)).alloc (.cells #[.slice (some ⟨w.heap.size, 0, none⟩) 0 0] 22)).alloc (.cells #[.slice (some ⟨w.heap.size + 1, 0, none⟩) 0 0] 27)) := ⟨_, rfl⟩
  have B0 : Hid (Below w.heap.size w w0) := Lib.hid (by rw [hw0]; exact (((below1 _ _).alloc (by simp) _).alloc (by simp; omega) _).alloc (by simp; omega) _)
  rw [← hw0] at HS0
  have HW0 := Lib.hid hw0
  clear hA hin hsz hw0
  go_enter Tryz.func54, Tryz.ntmps54
  go_wp2_with fail
  go_loopw [12] (fun i wr => ∃ (j : Nat) (t : Sg) (ow : Nat → Prop), j ≤ n ∧ i = .int .i64 j ∧ Hid (t = cols ((conds ps).take j) ([], [])) ∧ Hid (fitN t (200 - 15 * j)) ∧ Hid (StE w.heap.size (w.heap.size + 1 + 1) (w.heap.size + 1 + 1 + 1) t ow wr) ∧ Hid (RowKit.Below w.heap.size w wr)) (fun i _ => n - (intOf i).toNat)
  case atStart => exact ⟨0, ([], []), _, Nat.zero_le _, rfl, Lib.hid rfl, Lib.hid (by unfold fitN; simp), by rw [← HW0.out]; exact HS0, by rw [← HW0.out]; exact B0⟩
  case round =>
    obtain ⟨j, t, ow, hj, rfl, HT, HFT, HST, HB⟩ := hrel
    by_cases hlt : j < n
    · have hj' : j < ps.length := by have := HN.out; omega
      obtain ⟨b, o, rfl, hBb, hc⟩ := HA.out (by omega)
      obtain ⟨p, hp⟩ : ∃ p, p = ps[j] := ⟨_, rfl⟩
      have hE := (hc j hj').alike (HB.out.block b hBb)
      rw [← hp] at hE
      obtain ⟨c0, c1, c2, c3⟩ := hE
      have hjc : j < (conds ps).length := by have := HC.out; omega
      have HP : Hid ((conds ps)[j] = p.cond) := Lib.hid (by simp [conds_map, hp])
      have hpm : p ∈ ps := by rw [hp]; exact List.getElem_mem hj'
      have BP := Lib.hid (below1 wr (.cells #[.int .i64 p.op, .string p.nm, .int .i64 p.day, .slice p.A p.ps.length p.cap] 68))
      have hsp := HSZ.out p hpm
      have HV := visitN (seesN w.heap.size (w.heap.size + 1 + 1) (w.heap.size + 1 + 1 + 1)) (w.heap.size + 1 + 1) (w.heap.size + 1 + 1 + 1) (fun s own v k hf hst hin hB => seeN _ _ _ s own v k hf hst hin hB) p t ow (wr.alloc (.cells #[.int .i64 p.op, .string p.nm, .int .i64 p.day, .slice p.A p.ps.length p.cap] 68))
        ((seesN w.heap.size 0 0).less _ _ _ HFT.out (by omega)) ((seesN w.heap.size _ _).fr _ _ _ _ HST.out (fun b hb => BP.out.block b ((seesN w.heap.size _ _).lt _ _ _ HST.out b hb).2)) (((HIN.out p hpm).below HB.out).below (BP.out.mono HB.out.size)) (Nat.le_trans HB.out.size BP.out.size)
      have HFN : Hid (fitN (col p.cond t) (200 - 15 * (j + 1))) := Lib.hid ((seesN w.heap.size 0 0).vis p.cond t _ ((seesN w.heap.size 0 0).less _ _ _ HFT.out (by omega)) (vis_all _ _))
      have HTN : Hid (col p.cond t = cols ((conds ps).take (j + 1)) ([], [])) := Lib.hid (by rw [cols_step hjc, HP.out, ← HT.out])
      rw [vis_all] at HV
      have HGE : Hid (∀ b, ow b → w.heap.size ≤ b) := Lib.hid fun b hb => ((seesN w.heap.size _ _).lt _ _ _ HST.out b hb).1
      have HVH := Lib.hid HV
      clear hp hc HV hsp hpm
      go_wp2_with (go_at_call 66; refine HVH.out.mono ?_; rintro e w3 ⟨own3, rfl, hst3, hm3⟩; refine Hid.out ?_)
      refine Lib.hid ?_
      have HS3 := Lib.hid hst3
      have HB3 := Lib.hid (HB.out.trans (((Mv.of_below (o := ow) BP.out).trans hm3).below HGE.out HB.out.size))
      clear hst3 hm3 c0 c1 c2 c3
      go_wp2_with fail
      go_roundw
      case rel => exact ⟨j + 1, col p.cond t, own3, by omega, by go_num, HTN, HFN, HS3, HB3⟩
      case measure => simp [intOf]; omega
    · have HE : Hid (t = cols (conds ps) ([], [])) := Lib.hid (by rw [HT.out, List.take_of_length_le (by have := HN.out; have := HC.out; omega)])
      obtain ⟨g1, n1, c1, g2, n2, c2, _, hst⟩ := HST.out
      have hle1 : n1 ≤ 5000 := by rw [hst.l1]; have := HFT.out.1; omega
      have hle2 : n2 ≤ 5000 := by rw [hst.l2]; have := HFT.out.2; omega
      have q0 := hst.q0
      have HSO := Lib.hid (sortT wr w.heap.size g1 n1 c1 t.1 hst.l1 hle1 hst.o1)
      have HSN := Lib.hid hst
      clear hst HST
      go_wp2_with (go_at_call 55; refine HSO.out.mono ?_; rintro e w3 ⟨rfl, ho3, hg3⟩; refine Hid.out ?_)
      refine Lib.hid ?_
      have HL1 : Hid ((srtT t.1).length = t.1.length) := Lib.hid (List.length_mergeSort _)
      have HS3 := Lib.hid (HSN.out.row1 ho3 (by rw [HL1.out]; exact HSN.out.l1) hg3)
      have HB3 := Lib.hid (below_grown HB.out hg3 HB.out.size HSN.out.lt.2.2.2.2.1)
      have q1 := HS3.out.q1
      have HSI := Lib.hid (sortI w3 w.heap.size g2 n2 c2 t.2 HS3.out.l2 hle2 HS3.out.o2)
      clear ho3 hg3 q0
      go_wp2_with (go_at_call 70; refine HSI.out.mono ?_; rintro e w4 ⟨rfl, ho4, hg4⟩; refine Hid.out ?_)
      refine Lib.hid ?_
      have HL2 : Hid ((srtI t.2).length = t.2.length) := Lib.hid (List.length_mergeSort _)
      have HS4 := Lib.hid (HS3.out.row2 ho4 (by rw [HL2.out]; exact HS3.out.l2) hg4)
      have HB4 := Lib.hid (below_grown HB3.out hg4 HB3.out.size HS3.out.lt.2.2.2.2.2)
      clear ho4 hg4 q1
      have HS5 : Hid (StN w.heap.size (w.heap.size + 1 + 1) (w.heap.size + 1 + 1 + 1) (srtT t.1, srtI t.2) g1 n1 c1 g2 n2 c2 w4.drew) := Lib.hid (HS4.out.same fun _ _ => rfl)
      have q0 : w4.drew.cell? ⟨w.heap.size + 1 + 1, 0, none⟩ = _ := HS5.out.q0
      have q1 : w4.drew.cell? ⟨w.heap.size + 1 + 1 + 1, 0, none⟩ = _ := HS5.out.q1
      have HC1 := Lib.hid (compT w4.drew w.heap.size g1 n1 c1 (srtT t.1) HS5.out.l1 hle1 HS5.out.o1)
      have HC2 : Hid (∀ v, w4.drew.grownBy v (some g1) → v.cell? ⟨w.heap.size + 1 + 1 + 1, 0, none⟩ = some (.slice (some ⟨g2, 0, none⟩) n2 c2) ∧ Calls Tryz.prog 71 #[.slice (some ⟨g2, 0, none⟩) n2 c2] v fun e w' => ∃ n3, n3 = (Lib.compact (srtI t.2)).length ∧ e = .returned (.slice (some ⟨g2, 0, none⟩) n3 c2) ∧ UniS.Own w' w.heap.size (.slice (some ⟨g2, 0, none⟩) n3 c2) (Lib.compact (srtI t.2)) ∧ v.grownBy w' (some g2)) := Lib.hid fun v hg => by
        obtain ⟨_, l1, _, l3, _, _⟩ := HS5.out.lt
        obtain ⟨_, _, _, d4, d5, d6⟩ := HS5.out.ne
        have e1 := hg.block _ l1 (fun e => d4 (by injection e))
        have e2 := hg.block g2 l3 (fun e => d6 (by injection e with e; exact e.symm))
        refine ⟨(World.cell?_of_block (a := ⟨w.heap.size + 1 + 1 + 1, 0, none⟩) e1).trans HS5.out.q1, compI v w.heap.size g2 n2 c2 (srtI t.2) HS5.out.l2 hle2 ?_⟩
        have := HS5.out.o2
        unfold UniS.Own at this ⊢
        rw [← HS5.out.l2] at this ⊢
        exact own_same this e2
      have HAN : Hid (∀ v v' m1 m2, w4.drew.grownBy v (some g1) → UniT.Own v w.heap.size (.slice (some ⟨g1, 0, none⟩) m1 c1) (Lib.compact (srtT t.1)) → m1 = (Lib.compact (srtT t.1)).length → v.grownBy v' (some g2) → UniS.Own v' w.heap.size (.slice (some ⟨g2, 0, none⟩) m2 c2) (Lib.compact (srtI t.2)) → m2 = (Lib.compact (srtI t.2)).length → NdAns w t g1 m1 c1 g2 m2 c2 v') := Lib.hid fun v v' m1 m2 hg ho hl hg' ho' hl' => by
        obtain ⟨_, _, l2, l3, l4, l5⟩ := HS5.out.lt
        obtain ⟨_, _, _, d4, d5, d6⟩ := HS5.out.ne
        have hv : g1 < v.heap.size := Nat.lt_of_lt_of_le l2 hg.size
        refine ⟨?_, ho', hl, hl', d6, below_grown (below_grown HB4.out.drew hg (HB4.out.drew).size l4) hg' (Nat.le_trans (HB4.out.drew).size hg.size) l5⟩
        unfold UniT.Own at ho ⊢
        rw [← hl] at ho ⊢
        exact own_same ho (hg'.block g1 hv (fun e => d6 (by injection e)))
      clear HC HT HB HB3 HS3 HS4
      generalize w.heap.size + 1 + 1 = p0 at *
      generalize p0 + 1 = p1 at *
      go_wp2_with fail
      go_region_with (first
        | (go_at_call 56; refine HC1.out.mono ?_; rintro e w5 ⟨m1, hm1, rfl, ho5, hg5⟩; have HG5 := Lib.hid hg5; have HO5 := Lib.hid ho5; have HM1 := Lib.hid hm1; have q5 := (HC2.out w5 hg5).1; clear hg5 ho5 hm1)
        | (go_at_call 71; refine (HC2.out _ HG5.out).2.mono ?_; rintro e w6 ⟨m2, hm2, rfl, ho6, hg6⟩; have HG6 := Lib.hid hg6; have HO6 := Lib.hid ho6; have HM2 := Lib.hid hm2; clear hg6 ho6 hm2))
      all_goals
        go_wp2_with fail
        go_ret2
        exact ⟨g1, m1, c1, g2, m2, c2, rfl, by rw [← HE.out]; exact HAN.out _ _ _ _ HG5.out HO5.out HM1.out HG6.out HO6.out HM2.out⟩

end Go.Proofs.YtomloodakabcbabGreat.NdI
