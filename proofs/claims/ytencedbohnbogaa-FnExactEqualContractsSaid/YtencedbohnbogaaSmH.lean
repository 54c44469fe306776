/-
  slices.EqualFunc with equalClauses; EqualContracts of the program.
-/
import Derived.Test.YtencedbohnbogaaSmF
import Derived.Test.YtencedbohnbogaaSmG
namespace Go.Proofs.Ytencedbohnbogaa.Cl
open Go.RowKit Go.Proofs.Ytencedbohnbogaa.Cond Go.Proofs.Ytencedbohnbogaa.Gx
set_option linter.unusedVariables false
set_option linter.unusedSimpArgs false

theorem l_dec (a b : L) : ∃ u : Bool, u = true ↔ a = b := by
  by_cases h : a = b
  · exact ⟨true, by simp [h]⟩
  · exact ⟨false, by simp [h]⟩
/-- What a row of clauses needs to be compared by the program. -/
structure WrS (w : World) (ms : List M) : Prop where
  wr : ∀ m ∈ ms, Wr w m.k
  sz : ∀ m ∈ ms, m.k.cond.size ≤ 2000000
theorem WrS.on {w w' : World} {ms : List M} (h : WrS w ms) (hb : Below w.heap.size w w') : WrS w' ms := ⟨fun m hm => wr_on (h.wr m hm) hb, h.sz⟩

set_option maxRecDepth 100000 in
set_option maxHeartbeats 8000000 in
theorem eqFunc (A1 A2 : Option Addr) (n1 n2 c1 c2 : Nat) (ms qs : List M) (w : World) (h1 : LiR w w.heap.size A1 n1 c1 ms) (h2 : LiR w w.heap.size A2 n2 c2 qs) (hw : WrS w ms) (t : Bool) (ht : t = true ↔ ms.map M.cl = qs.map M.cl) :
    Calls Try.prog 32 #[.slice A1 n1 c1, .slice A2 n2 c2, .func (.func 33) #[] #[]] w fun e w' => e = .returned (.bool t) ∧ Below w.heap.size w w' := by
  have H1 := Lib.hid h1
  have H2 := Lib.hid h2
  have HW := Lib.hid hw
  have HT := Lib.hid ht
  have a1 : n1 = (ms.map M.cl).length := by rw [h1.len]; simp
  have a2 : n2 = (qs.map M.cl).length := by rw [h2.len]; simp
  have HLEN := Lib.hid (And.intro a1 a2)
  have m1 : n1 ≤ 9223372036854775807 := Nat.le_trans h1.nc h1.cm
  have m2 : n2 ≤ 9223372036854775807 := Nat.le_trans h2.nc h2.cm
  clear h1 h2 hw ht a1 a2
  go_enter Try.func32, Try.ntmps32
  by_cases q1 : n1 = n2
  · have q3 : (n1 : Int) = (n2 : Int) := by omega
    have Q1 := Lib.hid q1
    clear q1
    go_wp2_with fail
    clear q3
    go_loopw [17] (fun i wr => ∃ k : Nat, k ≤ n1 ∧ i = .int .i64 k ∧ Hid (EqL (ms.map M.cl) (qs.map M.cl) k) ∧ Hid (Below w.heap.size w wr)) (fun i _ => n1 - (intOf i).toNat)
    case atStart => exact ⟨0, Nat.zero_le _, rfl, Lib.hid fun _ _ _ h => by omega, Lib.hid (Below.refl _ _)⟩
    case round =>
      obtain ⟨k, hk, rfl, HK, HB⟩ := hrel
      by_cases hlt : k < n1
      · have hk1 : k < ms.length := by have := H1.out.len; omega
        have hk2 : k < qs.length := by have := H2.out.len; have := Q1.out; omega
        obtain ⟨b, o, rfl, hB, hc⟩ := H1.out.at_ (by omega)
        obtain ⟨b', o', rfl, hB', hc'⟩ := H2.out.at_ (by omega)
        obtain ⟨p, hp⟩ : ∃ p, p = ms[k] := ⟨_, rfl⟩
        obtain ⟨q, hq⟩ : ∃ q, q = qs[k] := ⟨_, rfl⟩
        have hE := (hc k hk1).alike (HB.out.block b hB)
        have hE' := (hc' k hk2).alike (HB.out.block b' hB')
        rw [← hp] at hE
        rw [← hq] at hE'
        obtain ⟨x0, x1, x2, x3, x4, x5, x6, x7, x8, x9, x10, x11⟩ := e12 hE
        obtain ⟨y0, y1, y2, y3, y4, y5, y6, y7, y8, y9, y10, y11⟩ := e12 hE'
        have hpm : p ∈ ms := by rw [hp]; exact List.getElem_mem hk1
        have hqm : q ∈ qs := by rw [hq]; exact List.getElem_mem hk2
        have l1 : k < (ms.map M.cl).length := by simpa using hk1
        have l2 : k < (qs.map M.cl).length := by simpa using hk2
        have HPQ : Hid ((ms.map M.cl)[k] = p.cl ∧ (qs.map M.cl)[k] = q.cl) := Lib.hid ⟨by rw [hp]; simp, by rw [hq]; simp⟩
        obtain ⟨u, hu⟩ := l_dec p.cl q.cl
        have IH : Hid (∀ v, Below wr.heap.size wr v → Calls Try.prog 33 #[p.val, q.val] v fun e w' => e = .returned (.bool u) ∧ Below v.heap.size v w') := Lib.hid fun v hv => by
          have hv2 := HB.out.trans (hv.mono HB.out.size)
          exact equalClauses p q v ((HW.out.on hv2).wr p hpm) (HW.out.sz p hpm) ((H2.out.on hv2).all q hqm) u hu
        have HU := Lib.hid hu
        have i0 : (0 : Int) ≤ (k : Int) := by omega
        have i1 : (k : Int) < (n1 : Int) := by omega
        have i2 : (k : Int) < (n2 : Int) := by have := Q1.out; omega
        obtain ⟨W1, hW1⟩ : ∃ W1, W1 = wr.alloc (.cells #[.string p.id, .int .i64 p.kind, .int .i64 p.party, .string p.act, .int .i64 p.other, .int .i64 p.amt, .int .i64 p.k.op, .string p.k.nm, .int .i64 p.k.day, .slice p.k.A p.k.ps.length p.k.cap, .int .i64 p.within, .string p.rep] 56) := ⟨_, rfl⟩
        obtain ⟨W2, hW2⟩ : ∃ W2, W2 = W1.alloc (.cells #[.string q.id, .int .i64 q.kind, .int .i64 q.party, .string q.act, .int .i64 q.other, .int .i64 q.amt, .int .i64 q.k.op, .string q.k.nm, .int .i64 q.k.day, .slice q.k.A q.k.ps.length q.k.cap, .int .i64 q.within, .string q.rep] 56) := ⟨_, rfl⟩
        have bW1 : Below wr.heap.size wr W1 := by rw [hW1]; exact below1 _ _
        have bW2 : Below wr.heap.size wr W2 := by rw [hW2]; exact bW1.alloc bW1.size _
        have hE2 := (hc' k hk2).alike ((HB.out.trans (bW1.mono HB.out.size)).block b' hB')
        rw [← hq] at hE2
        have P1 : Bk wr.heap.size W1 p.cells := by rw [hW1]; exact Bk.new wr #[.string p.id, .int .i64 p.kind, .int .i64 p.party, .string p.act, .int .i64 p.other, .int .i64 p.amt, .int .i64 p.k.op, .string p.k.nm, .int .i64 p.k.day, .slice p.k.A p.k.ps.length p.k.cap, .int .i64 p.within, .string p.rep] 56
        have P2 : Bk wr.heap.size W2 p.cells := by rw [hW2]; exact P1.alloc _
        have Q2 : Bk (wr.heap.size + 1) W2 q.cells := by
          have := Bk.new W1 #[.string q.id, .int .i64 q.kind, .int .i64 q.party, .string q.act, .int .i64 q.other, .int .i64 q.amt, .int .i64 q.k.op, .string q.k.nm, .int .i64 q.k.day, .slice q.k.A q.k.ps.length q.k.cap, .int .i64 q.within, .string q.rep] 56
          rw [← hW2, hW1, World.size_alloc] at this
          exact this
        obtain ⟨z0, z1, z2, z3, z4, z5, z6, z7, z8, z9, z10, z11⟩ := e12 hE2
        obtain ⟨p0, p1, p2, p3, p4, p5, p6, p7, p8, p9, p10, p11⟩ := b12 P2
        obtain ⟨r0, r1, r2, r3, r4, r5, r6, r7, r8, r9, r10, r11⟩ := b12 Q2
        rw [hW1] at z0 z1 z2 z3 z4 z5 z6 z7 z8 z9 z10 z11
        rw [hW2, hW1] at p0 p1 p2 p3 p4 p5 p6 p7 p8 p9 p10 p11 r0 r1 r2 r3 r4 r5 r6 r7 r8 r9 r10 r11
        have HW2 : Hid (W2 = (wr.alloc (.cells #[.string p.id, .int .i64 p.kind, .int .i64 p.party, .string p.act, .int .i64 p.other, .int .i64 p.amt, .int .i64 p.k.op, .string p.k.nm, .int .i64 p.k.day, .slice p.k.A p.k.ps.length p.k.cap, .int .i64 p.within, .string p.rep] 56)).alloc (.cells #[.string q.id, .int .i64 q.kind, .int .i64 q.party, .string q.act, .int .i64 q.other, .int .i64 q.amt, .int .i64 q.k.op, .string q.k.nm, .int .i64 q.k.day, .slice q.k.A q.k.ps.length q.k.cap, .int .i64 q.within, .string q.rep] 56)) := Lib.hid (by rw [hW2, hW1])
        have IH2 := Lib.hid (IH.out W2 bW2)
        have HB3 := Lib.hid (HB.out.trans (bW2.mono HB.out.size))
        clear hW1 hW2 bW1 bW2 hE2 P1 P2 Q2 IH
        clear hp hq hc hc' hE hE' hpm hqm hB hB' hk1 hk2 hu
        cases u
        · have hf : Hid (t = false) := Lib.hid (bool_no HT.out fun e => Bool.noConfusion (HU.out.2 (by rw [← HPQ.out.1, ← HPQ.out.2]; simp only [e])))
          clear HPQ l1 l2
          go_wp2_with (go_at_call 33; (try rw [← HW2.out]); refine IH2.out.mono ?_; rintro e w2 ⟨rfl, hb⟩)
          go_ret
          exact ⟨by rw [hf.out]; rfl, HB3.out.trans (hb.mono HB3.out.size)⟩
        · have HK2 : Hid (EqL (ms.map M.cl) (qs.map M.cl) (k + 1)) := Lib.hid (HK.out.snoc l1 l2 (by rw [HPQ.out.1, HPQ.out.2]; exact HU.out.1 rfl))
          clear HPQ l1 l2
          go_wp2_with (go_at_call 33; (try rw [← HW2.out]); refine IH2.out.mono ?_; rintro e w2 ⟨rfl, hb⟩)
          go_roundw
          case rel => exact ⟨k + 1, by omega, by go_num, HK2, Lib.hid (HB3.out.trans (hb.mono HB3.out.size))⟩
          case measure => simp [intOf]; omega
      · have i2 : ¬ (k : Int) < (n2 : Int) := by have := Q1.out; omega
        have hf : Hid (t = true) := Lib.hid (HT.out.2 (List.ext_getElem (by have := HLEN.out; have := Q1.out; omega) fun j h h' => HK.out j h h' (by have := HLEN.out.1; omega)))
        go_wp2_with fail
        go_ret
        exact ⟨by rw [hf.out]; rfl, HB.out⟩
  · have q3 : ¬ (n1 : Int) = (n2 : Int) := by omega
    have hf : Hid (t = false) := Lib.hid (bool_no HT.out fun e => q1 (by rw [HLEN.out.1, HLEN.out.2, e]))
    go_wp2_with fail
    go_ret
    exact ⟨by rw [hf.out]; rfl, Below.refl _ _⟩

end Go.Proofs.Ytencedbohnbogaa.Cl
