/-
  EqualContracts of the model.
-/
import Derived.Test.YtencedbohnbogaaSmE
import Derived.Test.YtencedbohnbogaaClG
import Derived.Test.YtencedbohnbogaaClEq
namespace Go.Proofs.Ytencedbohnbogaa.Cl
open Go.RowKit Go.Proofs.Ytencedbohnbogaa.Cond Go.Proofs.Ytencedbohnbogaa.Gx
set_option linter.unusedVariables false
set_option linter.unusedSimpArgs false

/-- The first k parties are the same. -/
def EqN (xs ys : List ByteArray) (k : Nat) : Prop := ∀ j, ∀ h1 : j < xs.length, ∀ h2 : j < ys.length, j < k → xs[j] = ys[j]
/-- The first k clauses are the same. -/
def EqL (xs ys : List L) (k : Nat) : Prop := ∀ j, ∀ h1 : j < xs.length, ∀ h2 : j < ys.length, j < k → xs[j] = ys[j]
theorem EqN.snoc {xs ys : List ByteArray} {k : Nat} (h : EqN xs ys k) (h1 : k < xs.length) (h2 : k < ys.length) (e : xs[k] = ys[k]) : EqN xs ys (k + 1) := fun j a b hj => by
  by_cases c : j = k
  · subst c; exact e
  · exact h j a b (by omega)
theorem EqL.snoc {xs ys : List L} {k : Nat} (h : EqL xs ys k) (h1 : k < xs.length) (h2 : k < ys.length) (e : xs[k] = ys[k]) : EqL xs ys (k + 1) := fun j a b hj => by
  by_cases c : j = k
  · subst c; exact e
  · exact h j a b (by omega)
theorem ct_eq {x y : Ct} (e1 : x.ss.length = y.ss.length) (e2 : x.ls.length = y.ls.length) (h1 : EqN x.ss y.ss x.ss.length) (h2 : EqL x.ls y.ls x.ls.length) : x = y := by
  have a1 : x.ss = y.ss := List.ext_getElem e1 fun j h h' => h1 j h h' h
  have a2 : x.ls = y.ls := List.ext_getElem e2 fun j h h' => h2 j h h' h
  cases x; cases y; simp only at a1 a2; rw [a1, a2]
theorem ct_ne_n {x y : Ct} {k : Nat} (h1 : k < x.ss.length) (h2 : k < y.ss.length) (e : ¬ x.ss[k] = y.ss[k]) : ¬ x = y := fun h => e (by subst h; rfl)
theorem ct_ne_l {x y : Ct} {k : Nat} (h1 : k < x.ls.length) (h2 : k < y.ls.length) (e : ¬ x.ls[k] = y.ls[k]) : ¬ x = y := fun h => e (by subst h; rfl)
theorem bool_no {t : Bool} {p : Prop} (h : t = true ↔ p) (hp : ¬ p) : t = false := by
  cases t
  · rfl
  · exact absurd (h.1 rfl) hp

/-- A party's name as it lies in a world after this one. -/
theorem LiN.cell {X : World} {A : Option Addr} {n c : Nat} {ss : List ByteArray} (h : LiN X X.heap.size A n c ss) {k : Nat} (hk : k < n) :
    ∃ (b oo : Nat) (hk' : k < ss.length), A = some ⟨b, oo, none⟩ ∧ ∀ v, Below X.heap.size X v → v.cell? ⟨b, oo + k, none⟩ = some (.string ss[k]) := by
  have hk' : k < ss.length := by have := h.len; omega
  obtain ⟨ad, e, hB, hc⟩ := h.is (by omega)
  have had := h.sp ad e (by omega)
  obtain ⟨b, oo, had2⟩ : ∃ b oo, ad = ⟨b, oo, none⟩ := ⟨_, _, had⟩
  refine ⟨b, oo, hk', by rw [e, had2], fun v hv => ?_⟩
  rw [← World.cell?_of_block (hv.block b (by rw [had2] at hB; exact hB)) |>.symm]
  have := hc k hk'
  rw [had2, add_none] at this
  exact this

set_option maxRecDepth 100000 in
set_option maxHeartbeats 8000000 in
theorem specEq (x y : Kt) (w : World) (hx : LiC w w.heap.size x) (hy : LiC w w.heap.size y) (t : Bool) (ht : t = true ↔ x.ct = y.ct) :
    Calls Try.prog 13 #[x.val, y.val] w fun e w' => e = .returned (.bool t) ∧ Below w.heap.size w w' := by
  obtain ⟨X, hX⟩ : ∃ X, X = (w.alloc (.cells #[.slice x.A1 x.n1 x.c1, .slice x.A2 x.n2 x.c2] 43)).alloc (.cells #[.slice y.A1 y.n1 y.c1, .slice y.A2 y.n2 y.c2] 43) := ⟨_, rfl⟩
  have B0 : Below w.heap.size w X := by rw [hX]; exact (below1 _ _).alloc (by simp) _
  have P0 : Hid (Bk w.heap.size X [.slice x.A1 x.n1 x.c1, .slice x.A2 x.n2 x.c2]) := Lib.hid (by rw [hX]; exact (Bk.new w #[.slice x.A1 x.n1 x.c1, .slice x.A2 x.n2 x.c2] 43).alloc _)
  have Q0 : Hid (Bk (w.heap.size + 1) X [.slice y.A1 y.n1 y.c1, .slice y.A2 y.n2 y.c2]) := Lib.hid (by
    rw [hX]
    have := Bk.new (w.alloc (.cells #[.slice x.A1 x.n1 x.c1, .slice x.A2 x.n2 x.c2] 43)) #[.slice y.A1 y.n1 y.c1, .slice y.A2 y.n2 y.c2] 43
    rw [World.size_alloc] at this
    exact this)
  have KX : Hid (∀ v, Below X.heap.size X v → v.cell? ⟨w.heap.size, 0, none⟩ = some (.slice x.A1 x.n1 x.c1) ∧ v.cell? ⟨w.heap.size, 1, none⟩ = some (.slice x.A2 x.n2 x.c2) ∧ v.cell? ⟨w.heap.size + 1, 0, none⟩ = some (.slice y.A1 y.n1 y.c1) ∧ v.cell? ⟨w.heap.size + 1, 1, none⟩ = some (.slice y.A2 y.n2 y.c2)) := Lib.hid fun v hv => by
    have h0 := (P0.out.on hv).c 0 (by simp)
    have h1 := (P0.out.on hv).c 1 (by simp)
    have h2 := (Q0.out.on hv).c 0 (by simp)
    have h3 := (Q0.out.on hv).c 1 (by simp)
    simp only [List.getElem_cons_succ, List.getElem_cons_zero] at h0 h1 h2 h3
    exact ⟨h0, h1, h2, h3⟩
  have HLx := Lib.hid (hx.on B0)
  have HLy := Lib.hid (hy.on B0)
  have HX := Lib.hid hX
  have HB := Lib.hid B0
  have HT := Lib.hid ht
  have a1 : x.n1 = x.ct.ss.length := hx.p.len
  have a2 : x.n2 = x.ct.ls.length := by rw [hx.c.len]; simp [Kt.ct]
  have b1 : y.n1 = y.ct.ss.length := hy.p.len
  have b2 : y.n2 = y.ct.ls.length := by rw [hy.c.len]; simp [Kt.ct]
  have HLEN := Lib.hid (And.intro a1 (And.intro a2 (And.intro b1 b2)))
  have m1 : x.n1 ≤ 9223372036854775807 := Nat.le_trans hx.p.nc hx.p.cm
  have m2 : x.n2 ≤ 9223372036854775807 := Nat.le_trans hx.c.nc hx.c.cm
  have hcells := KX.out X (Below.refl _ _)
  rw [hX] at hcells
  obtain ⟨c0, c1, c2, c3⟩ := hcells
  clear hx hy B0 P0 Q0 hX ht a1 a2 b1 b2
  go_enter Try.func13, Try.ntmps13
  by_cases q1 : x.n1 = y.n1
  · by_cases q2 : x.n2 = y.n2
    · have q3 : (x.n1 : Int) = (y.n1 : Int) := by omega
      have q4 : (x.n2 : Int) = (y.n2 : Int) := by omega
      have Q1 := Lib.hid q1
      have Q2 := Lib.hid q2
      clear q1 q2
      go_wp2_with fail
      clear q3 q4
      go_loopw [5] (fun i wr => ∃ k : Nat, k ≤ x.n1 ∧ i = .int .i64 k ∧ Hid (EqN x.ct.ss y.ct.ss k) ∧ Hid (Below X.heap.size X wr)) (fun i _ => x.n1 - (intOf i).toNat)
      case atStart => exact ⟨0, Nat.zero_le _, rfl, Lib.hid fun _ _ _ h => by omega, by rw [← HX.out]; exact Lib.hid (Below.refl _ _)⟩
      case round =>
        obtain ⟨k, hk, rfl, HK, HB2⟩ := hrel
        clear c0 c1 c2 c3
        obtain ⟨c0, c1, c2, c3⟩ := KX.out _ HB2.out
        have HBW := Lib.hid (HB.out.trans (HB2.out.mono HB.out.size))
        by_cases hlt : k < x.n1
        · have hlt2 : k < y.n1 := by have := Q1.out; omega
          obtain ⟨b, oo, hk1, e1, hc1⟩ := HLx.out.p.cell hlt
          obtain ⟨b', oo', hk2, e2, hc2⟩ := HLy.out.p.cell hlt2
          have d1 := hc1 _ HB2.out
          have d2 := hc2 _ HB2.out
          rw [e1] at c0
          rw [e2] at c2
          obtain ⟨p, hp⟩ : ∃ p, p = x.ss[k] := ⟨_, rfl⟩
          obtain ⟨q, hq⟩ : ∃ q, q = y.ss[k] := ⟨_, rfl⟩
          rw [← hp] at d1
          rw [← hq] at d2
          have i0 : (0 : Int) ≤ (k : Int) := by omega
          have i1 : (k : Int) < (x.n1 : Int) := by omega
          have i2 : (k : Int) < (y.n1 : Int) := by omega
          have HPQ := Lib.hid (And.intro hp hq)
          by_cases hpq : p = q
          · have hb : (p.toList == q.toList) = true := by rw [hpq]; exact beq_self_eq_true _
            have HK2 : Hid (EqN x.ct.ss y.ct.ss (k + 1)) := Lib.hid (HK.out.snoc hk1 hk2 (by show x.ss[k] = y.ss[k]; rw [← HPQ.out.1, ← HPQ.out.2]; exact hpq))
            clear HPQ hp hq hpq hc1 hc2 e1 e2 hk1 hk2
            go_wp2_with fail
            go_quiet (fail)
            go_wp2_with fail
            go_roundw
            case rel => exact ⟨k + 1, by omega, by go_num, HK2, Lib.hid (below_drewN HB2.out _)⟩
            case measure => simp [intOf]; omega
          · have hb : (p.toList == q.toList) = false := by rw [beq_eq_false_iff_ne]; exact fun e => hpq (bytes_eq e)
            have hf : Hid (t = false) := Lib.hid (bool_no HT.out (ct_ne_n (x := x.ct) (y := y.ct) hk1 hk2 (by show ¬ x.ss[k] = y.ss[k]; rw [← HPQ.out.1, ← HPQ.out.2]; exact hpq)))
            clear HPQ hp hq hpq hc1 hc2 e1 e2 hk1 hk2
            go_wp2_with fail
            go_quiet (fail)
            go_wp2_with fail
            go_ret
            exact ⟨by rw [hf.out]; rfl, below_drewN HBW.out _⟩
        · have HN : Hid (EqN x.ct.ss y.ct.ss x.ct.ss.length) := Lib.hid fun j h1 h2 _ => HK.out j h1 h2 (by have := HLEN.out.1; omega)
          go_wp2_with fail
          obtain ⟨Y, hY⟩ : ∃ Y, Y = wr := ⟨_, rfl⟩
          have HY := Lib.hid hY
          clear hY c0 c1 c2 c3 HK hlt
          go_loopw [6] (fun i wr => ∃ k : Nat, k ≤ x.n2 ∧ i = .int .i64 k ∧ Hid (EqL x.ct.ls y.ct.ls k) ∧ Hid (Below X.heap.size X wr)) (fun i _ => x.n2 - (intOf i).toNat)
          case atStart => exact ⟨0, Nat.zero_le _, rfl, Lib.hid fun _ _ _ h => by omega, HB2⟩
          case round =>
            clear HB2 HBW
            obtain ⟨k, hk, rfl, HK, HB2⟩ := hrel
            obtain ⟨c0, c1, c2, c3⟩ := KX.out _ HB2.out
            have HBW := Lib.hid (HB.out.trans (HB2.out.mono HB.out.size))
            by_cases hlt : k < x.n2
            · have hk1 : k < x.ms.length := by have := HLx.out.c.len; omega
              have hk2 : k < y.ms.length := by have := HLy.out.c.len; have := Q2.out; omega
              obtain ⟨b, o, e1, hB, hc⟩ := HLx.out.c.at_ (by omega)
              obtain ⟨b', o', e2, hB', hc'⟩ := HLy.out.c.at_ (by omega)
              obtain ⟨p, hp⟩ : ∃ p, p = x.ms[k] := ⟨_, rfl⟩
              obtain ⟨q, hq⟩ : ∃ q, q = y.ms[k] := ⟨_, rfl⟩
              have hE := (hc k hk1).alike (HB2.out.block b hB)
              have hE' := (hc' k hk2).alike (HB2.out.block b' hB')
              rw [← hp] at hE
              rw [← hq] at hE'
              obtain ⟨x0, x1, x2, x3, x4, x5, x6, x7, x8, x9, x10, x11⟩ := e12 hE
              obtain ⟨y0, y1, y2, y3, y4, y5, y6, y7, y8, y9, y10, y11⟩ := e12 hE'
              have hpm : p ∈ x.ms := by rw [hp]; exact List.getElem_mem hk1
              have hqm : q ∈ y.ms := by rw [hq]; exact List.getElem_mem hk2
              have l1 : k < x.ct.ls.length := by simpa [Kt.ct] using hk1
              have l2 : k < y.ct.ls.length := by simpa [Kt.ct] using hk2
              have HPQ : Hid (x.ct.ls[k] = p.cl ∧ y.ct.ls[k] = q.cl) := Lib.hid ⟨by rw [hp]; simp [Kt.ct], by rw [hq]; simp [Kt.ct]⟩
              obtain ⟨u, hu⟩ : ∃ u : Bool, u = true ↔ p.cl = q.cl := by
                by_cases h : p.cl = q.cl
                · exact ⟨true, by simp [h]⟩
                · exact ⟨false, by simp [h]⟩
              have IH := Lib.hid (l6Same p q wr.drew ((((HLx.out.c.all p hpm)).below (HB2.out.trans (drew_below _ _))).more HB2.out.size) ((((HLy.out.c.all q hqm)).below (HB2.out.trans (drew_below _ _))).more HB2.out.size) u hu)
              have HU := Lib.hid hu
              rw [e1] at c1
              rw [e2] at c3
              have i0 : (0 : Int) ≤ (k : Int) := by omega
              have i1 : (k : Int) < (x.n2 : Int) := by omega
              have i2 : (k : Int) < (y.n2 : Int) := by have := Q2.out; omega
              clear hp hq hc hc' hE hE' hpm hqm e1 e2 hB hB' hk1 hk2 hu
              cases u
              · have hf : Hid (t = false) := Lib.hid (bool_no HT.out (ct_ne_l (x := x.ct) (y := y.ct) l1 l2 (by rw [HPQ.out.1, HPQ.out.2]; exact fun e => Bool.noConfusion (HU.out.2 e))))
                clear HPQ l1 l2
                go_wp2_with fail
                go_region_with (go_at_call 28; refine IH.out.mono ?_; rintro e w3 ⟨rfl, hb3⟩)
                all_goals go_wp2
                all_goals go_ret
                all_goals exact ⟨by rw [hf.out]; rfl, HBW.out.trans ((below_of_drew hb3).mono HBW.out.size)⟩
              · have HK2 : Hid (EqL x.ct.ls y.ct.ls (k + 1)) := Lib.hid (HK.out.snoc l1 l2 (by rw [HPQ.out.1, HPQ.out.2]; exact HU.out.1 rfl))
                clear HPQ l1 l2
                go_wp2_with fail
                go_region_with (go_at_call 28; refine IH.out.mono ?_; rintro e w3 ⟨rfl, hb3⟩)
                all_goals go_wp2
                all_goals go_roundw
                all_goals first
                  | exact ⟨k + 1, by omega, by go_num, HK2, Lib.hid (HB2.out.trans ((below_of_drew hb3).mono HB2.out.size))⟩
                  | (simp [intOf]; omega)
            · have HL2 : Hid (EqL x.ct.ls y.ct.ls x.ct.ls.length) := Lib.hid fun j h1 h2 _ => HK.out j h1 h2 (by have := HLEN.out.2.1; omega)
              have hf : Hid (t = true) := Lib.hid (HT.out.2 (ct_eq (by rw [← HLEN.out.1, ← HLEN.out.2.2.1]; exact Q1.out) (by rw [← HLEN.out.2.1, ← HLEN.out.2.2.2]; exact Q2.out) HN.out HL2.out))
              go_wp2_with fail
              go_ret
              exact ⟨by rw [hf.out]; rfl, HBW.out⟩
    · have q3 : (x.n1 : Int) = (y.n1 : Int) := by omega
      have q4 : ¬ (x.n2 : Int) = (y.n2 : Int) := by omega
      have hf : Hid (t = false) := Lib.hid (bool_no HT.out fun e => q2 (by rw [HLEN.out.2.1, HLEN.out.2.2.2, e]))
      clear q1
      go_wp2_with fail
      go_ret
      exact ⟨by rw [hf.out]; rfl, by rw [← HX.out]; exact HB.out⟩
  · have q3 : ¬ (x.n1 : Int) = (y.n1 : Int) := by omega
    have hf : Hid (t = false) := Lib.hid (bool_no HT.out fun e => q1 (by rw [HLEN.out.1, HLEN.out.2.2.1, e]))
    go_wp2_with fail
    go_ret
    exact ⟨by rw [hf.out]; rfl, by rw [← HX.out]; exact HB.out⟩

end Go.Proofs.Ytencedbohnbogaa.Cl
