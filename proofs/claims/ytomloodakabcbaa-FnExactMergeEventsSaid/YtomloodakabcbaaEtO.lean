/-
  Rows of events that a call makes: by append, by transform; a cloned event.
-/
import Derived.Test.YtomloodakabcbaaEtR
import Derived.Test.YtomloodakabcbaaShelfCl
import Derived.Maps.AppendAt
import Derived.Deep.RegionWith
namespace Go.Proofs.Ytomloodakabcbaa.Et
open Go.RowKit Go.Proofs.Ytomloodakabcbaa.Cond Go.Proofs.Ytomloodakabcbaa.Gx
set_option linter.unusedVariables false
set_option linter.unusedSimpArgs false

abbrev OwnE (w : World) (S : Nat) (v : Value) (rs : List E) : Prop := w.ownsRow S 38 4 v rs.length (flat E.cells rs)
theorem one_cellsE (r : E) : ∀ u ∈ r.cells, u.oneCell' = true := fun u hu => by
  simp only [E.cells, List.mem_cons, List.not_mem_nil, or_false] at hu
  rcases hu with rfl | rfl | rfl | rfl <;> rfl
theorem ownE_form {S : Nat} {w : World} {v : Value} {n : Nat} {xs : List Value} (h : w.ownsRow S 38 4 v n xs) : ∃ a c, v = .slice a n c := by
  rcases h.2 with ⟨hv, h0⟩ | ⟨g', c, cur, hv, _⟩
  · exact ⟨none, 0, by rw [hv, h0]⟩
  · exact ⟨_, c, hv⟩
theorem ownE_lt {w : World} {S : Nat} {v : Value} {n : Nat} {xs : List Value} (h : w.ownsRow S 38 4 v n xs) {g : Nat} (hg : v.ownBlock = some g) : S ≤ g ∧ g < w.heap.size ∧ ∀ o, w.frozen? ⟨g, o, none⟩ = false := by
  rcases h.2 with ⟨hv, _⟩ | ⟨g', c, cur, hv, hS, hh, _⟩
  · rw [hv] at hg; cases hg
  · rw [hv] at hg
    injection hg with hg
    subst hg
    exact ⟨hS, (Array.getElem?_eq_some_iff.1 hh).1, fun o => by simp [World.frozen?, hh]⟩
/-- A row of one's own, as a row that lies. -/
theorem OwnE.re {w : World} {S g n c : Nat} {rs : List E} (h : OwnE w S (.slice (some ⟨g, 0, none⟩) n c) rs) (hn : n = rs.length) (hs : ∀ m ∈ rs, m.act.size ≤ maxLen) : RE w S g n c rs := by
  subst hn
  have h1 := ownE_lt h (g := g) rfl
  rcases h.2 with ⟨hv, _⟩ | ⟨g', c', cur, hv, _, hh, hle, hcm, _⟩
  · cases hv
  · injection hv with e1 e2 e3
    subst e3
    exact ⟨⟨⟨AtR.of_own E.len h, hs, rfl, hle, hcm⟩, fun b hb o => by rw [front_one hb]; exact h1.2.2 o⟩, h1.1, h1.2.1⟩
theorem OwnE.new {w : World} {S : Nat} (hS : S ≤ w.heap.size) : OwnE (w.alloc (.cells #[] 38)) S (.slice (some ⟨w.heap.size, 0, none⟩) 0 0) [] := by
  have := World.ownsRow_lit (base := S) (e := 38) (size := 4) w #[] 0 hS (by decide) (by simp)
  simpa [OwnE, flat] using this

/-- append of one event to a row of one's own. -/
theorem wp_appE {u : World} {ops : Array Oper} {rest : List Oper} {o : Oper} {a : Act} {Q : Exit → Act → World → Prop} (hgd : o.guard = none) (s x : Operand)
    (ho : o.op = .call { callee := .builtin .append, args := #[s, x], argTypes := #[24, 24] }) (S : Nat) (v : Value) (rs : List E) (hs : a.eval s = v) (h : OwnE u S v rs) (g c : Nat) (r : E) (hx : a.eval x = .slice (some ⟨g, 0, none⟩) 1 c) (he : El u g 0 r.cells) (hl : rs.length + 1 ≤ 1000000) (hS : S ≤ u.heap.size)
    (hK : ∀ a3 c3 w1, OwnE w1 S (.slice a3 (rs.length + 1) c3) (rs ++ [r]) → u.grownBy w1 v.ownBlock → ((Value.slice a3 (rs.length + 1) c3).ownBlock = v.ownBlock ∨ (Value.slice a3 (rs.length + 1) c3).ownBlock = some u.heap.size) → wpList Try.prog ops Q rest (a.put o.dst (.slice a3 (rs.length + 1) c3)) w1) :
    wpList Try.prog ops Q (o :: rest) a u := by
  refine wpList_plain hgd fun Kp hK' => ?_
  obtain ⟨i0, hi, hz0, hz1, hz2⟩ := info_parts infoEvent
  obtain ⟨v', w', hr, h2, h3, _, h5⟩ := run_append_own_at (P := Try.prog) u S 24 o.type 38 i0 _ 4 40 Try.underlying24 hi hz0 hz1 hz2 rfl (by decide) v rs.length (flat E.cells rs) h ⟨g, 0, none⟩ 1 c r.cells (by simp [E.cells])
    (fun j u' hu => by
      have hj : j < 4 := by
        rcases Nat.lt_or_ge j 4 with h | h
        · exact h
        · rw [List.getElem?_eq_none (by simpa [E.cells] using h)] at hu; cases hu
      have h0 := e4 he
      simp only [Nat.zero_add] at h0
      match j, hj with
      | 0, _ => simp [E.cells] at hu; subst hu; exact h0.1
      | 1, _ => simp [E.cells] at hu; subst hu; exact h0.2.1
      | 2, _ => simp [E.cells] at hu; subst hu; exact h0.2.2.1
      | 3, _ => simp [E.cells] at hu; subst hu; exact h0.2.2.2) (one_cellsE r) (by unfold maxLen; omega) (by omega) hS
  obtain ⟨a3, c3, rfl⟩ := ownE_form h2
  unfold Oper.wp execOp
  simp only [ho, resolve, invoke, builtin, Sem.run_bind, Sem.run_pure, Result.andThen_ok, List.map_toArray, List.map_cons, List.map_nil, hs, hx, hr]
  exact hK' _ _ (hK a3 c3 w' (by unfold OwnE; rw [flat_app, flat_one, List.length_append]; exact h2) h3 h5)

theorem strClone (s : ByteArray) (w : World) (hs : s.size ≤ 281474976710656) : Calls Try.prog 34 #[.string s] w fun e w' => e = .returned (.string s) ∧ Below w.heap.size w w' := by
  have HC := Lib.hid (Try.stringslite_Clone s w hs)
  go_enter Try.func34, Try.ntmps34
  go_wp2_with (go_at_call 45; refine HC.out.mono ?_; rintro e w2 ⟨rfl, hb⟩)
  go_ret
  exact ⟨rfl, hb⟩

set_option maxHeartbeats 4000000 in
theorem cloneE (m : E) (w : World) (hs : m.act.size ≤ 281474976710656) :
    Calls Try.prog 20 #[m.val] w fun e w' => e = .returned m.val ∧ Below w.heap.size w w' := by
  obtain ⟨X, hX⟩ : ∃ X, X = (w.alloc (.cells #[.int .i64 m.day, .int .i64 m.party, .string m.act, .int .i64 m.amt] 38)).alloc (.cells #[.int .i64 0, .int .i64 0, .string ⟨#[]⟩, .int .i64 0] 38) := ⟨_, rfl⟩
  have B0 := Lib.hid (show Below w.heap.size w X by rw [hX]; exact (below1 _ _).alloc (by simp) _)
  have S0 := Lib.hid (show X.heap.size = w.heap.size + 1 + 1 by rw [hX]; simp)
  have P0 : Hid (Bk w.heap.size X m.cells) := Lib.hid (by rw [hX]; exact (Bk.new w #[.int .i64 m.day, .int .i64 m.party, .string m.act, .int .i64 m.amt] 38).alloc _)
  have Y0 : Hid (Bk (w.heap.size + 1) X [.int .i64 0, .int .i64 0, .string ⟨#[]⟩, .int .i64 0]) := Lib.hid (by
    rw [hX]
    have := Bk.new (w.alloc (.cells #[.int .i64 m.day, .int .i64 m.party, .string m.act, .int .i64 m.amt] 38)) #[.int .i64 0, .int .i64 0, .string ⟨#[]⟩, .int .i64 0] 38
    rw [World.size_alloc] at this
    exact this)
  have HC := Lib.hid (strClone m.act X hs)
  have HX := Lib.hid hX
  clear hX hs
  go_enter Try.func20, Try.ntmps20
  go_wp2_with (go_at_call 34; (try rw [← HX.out]); refine HC.out.mono ?_; rintro e w2 ⟨rfl, hb⟩; refine Hid.out ?_)
  refine Lib.hid ?_
  have P2 := Lib.hid (P0.out.on hb)
  have Y2 := Lib.hid (Y0.out.on hb)
  have HB2 := Lib.hid (B0.out.trans (hb.mono B0.out.size))
  have P3 : Hid (Bk w.heap.size (w2.setCell ⟨w.heap.size, 2, none⟩ (.string m.act)) m.cells) := Lib.hid (P2.out.set 2 (by simp [E.len]) (.string m.act))
  have Y3 : Hid (Bk (w.heap.size + 1) (w2.setCell ⟨w.heap.size, 2, none⟩ (.string m.act)) [.int .i64 0, .int .i64 0, .string ⟨#[]⟩, .int .i64 0]) := Lib.hid (Y2.out.far (by simp) _)
  have Y4 := Lib.hid (Y3.out.put (us := m.cells) rfl)
  have HF : Hid (Below w.heap.size w (putL (w2.setCell ⟨w.heap.size, 2, none⟩ (.string m.act)) (w.heap.size + 1) 0 m.cells)) := Lib.hid (putL_below (by omega) _ _ (HB2.out.setCell (p := ⟨w.heap.size, 2, none⟩) (Nat.le_refl _) _))
  obtain ⟨p0, p1, p2, p3⟩ := b4 P2.out
  obtain ⟨v0, v1, v2, v3⟩ := b4 P3.out
  have zf2 := P2.out.fz 2
  have yf0 := Y2.out.fz 0
  have yf1 := Y2.out.fz 1
  have yf2 := Y2.out.fz 2
  have yf3 := Y2.out.fz 3
  have y0 := Y3.out.c 0 (by simp)
  have y1 := Y3.out.c 1 (by simp)
  have y2 := Y3.out.c 2 (by simp)
  have y3 := Y3.out.c 3 (by simp)
  simp only [List.getElem_cons_succ, List.getElem_cons_zero] at y0 y1 y2 y3
  clear hb
  go_wp2_with fail
  obtain ⟨t0, t1, t2, t3⟩ := b4 Y4.out
  have hf := HF.out
  simp only [putL, E.cells, Nat.reduceAdd, Nat.zero_add] at t0 t1 t2 t3 hf
  exact bodyPost_ret (v := m.val) (by simp [results, Try.results20, go_sem, t0, t1, t2, t3]) rfl ⟨rfl, hf⟩

end Go.Proofs.Ytomloodakabcbaa.Et
