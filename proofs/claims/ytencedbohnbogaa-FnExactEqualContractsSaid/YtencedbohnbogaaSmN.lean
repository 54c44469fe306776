/-
  slices.Equal of parties; EqualContracts of the program.
-/
import Derived.Test.YtencedbohnbogaaSmH
import Derived.Test.YtencedbohnbogaaShelfEq
import Derived.Test.YtencedbohnbogaaClTo
namespace Go.Proofs.Ytencedbohnbogaa.Cl
open Go.RowKit Go.Proofs.Ytencedbohnbogaa.Cond Go.Proofs.Ytencedbohnbogaa.Gx
set_option linter.unusedVariables false
set_option linter.unusedSimpArgs false

theorem eqStr (A1 A2 : Option Addr) (n1 n2 c1 c2 : Nat) (ss ts : List ByteArray) (w : World) (h1 : LiN w w.heap.size A1 n1 c1 ss) (h2 : LiN w w.heap.size A2 n2 c2 ts) (t : Bool) (ht : t = true ↔ ss = ts) :
    Calls Try.prog 31 #[.slice A1 n1 c1, .slice A2 n2 c2] w fun e w' => e = .returned (.bool t) ∧ Below w.heap.size w w' := by
  have m1 : n1 ≤ 9223372036854775807 := Nat.le_trans h1.nc h1.cm
  have m2 : n2 ≤ 9223372036854775807 := Nat.le_trans h2.nc h2.cm
  by_cases q : n1 = n2
  · by_cases h0 : n1 = 0
    · have e1 : ss = [] := List.length_eq_zero_iff.1 (by have := h1.len; omega)
      have e2 : ts = [] := List.length_eq_zero_iff.1 (by have := h2.len; omega)
      have e3 : t = true := ht.2 (by rw [e1, e2])
      have e4 : n2 = 0 := by omega
      subst h0
      refine (Try.slices_Equal_string_empty A1 A2 c1 n2 c2 w m2).mono fun e w' h => ⟨?_, by rw [h.2]; exact Below.refl _ _⟩
      rw [h.1, e3, decide_eq_true e4]
    · obtain ⟨b, o, -, e1, g1⟩ := h1.cell (k := 0) (by omega)
      obtain ⟨b', o', -, e2, g2⟩ := h2.cell (k := 0) (by omega)
      subst e1
      subst e2
      have l1 := h1.len
      have l2 := h2.len
      refine (Try.slices_Equal_string b o n1 c1 b' o' n2 c2 ss ts w (by omega) (by omega) m1 m2 (fun j hj => ?_) (fun j hj => ?_)).mono fun e w' h => ⟨?_, by obtain ⟨z, hz⟩ := h.2; rw [hz]; exact below_drewN (Below.refl _ _) _⟩
      · obtain ⟨b2, o2, hk, e, hc⟩ := h1.cell (k := j) (by omega)
        injection e with e
        injection e with e1 e2
        subst e1
        subst e2
        rw [hc w (Below.refl _ _)]
        simp [List.getD, hk]
      · obtain ⟨b2, o2, hk, e, hc⟩ := h2.cell (k := j) (by omega)
        injection e with e
        injection e with e1 e2
        subst e1
        subst e2
        rw [hc w (Below.refl _ _)]
        simp [List.getD, hk]
      · rw [h.1]
        refine congrArg (fun x => Ending.returned (.bool x)) ?_
        rw [Bool.eq_iff_iff, ht, decide_eq_true_iff, List.take_of_length_le (by omega), List.take_of_length_le (by omega)]
  · have q3 : ¬ (n1 : Int) = (n2 : Int) := by omega
    have hf : Hid (t = false) := Lib.hid (bool_no ht fun e => q (by rw [h1.len, h2.len, e]))
    clear h1 h2 ht
    go_enter Try.func31, Try.ntmps31
    go_wp2_with fail
    go_ret
    exact ⟨by rw [hf.out]; rfl, Below.refl _ _⟩

theorem t_dec {α : Type} (a b : α) : ∃ u : Bool, u = true ↔ a = b := by
  by_cases h : a = b
  · exact ⟨true, by simp [h]⟩
  · exact ⟨false, by simp [h]⟩

set_option maxRecDepth 100000 in
set_option maxHeartbeats 8000000 in
theorem implEq (x y : Kt) (w : World) (hx : LiC w w.heap.size x) (hw : WrS w x.ms) (hy : LiC w w.heap.size y) (t : Bool) (ht : t = true ↔ x.ct = y.ct) :
    Calls Try.prog 15 #[x.val, y.val] w fun e w' => e = .returned (.bool t) ∧ Below w.heap.size w w' := by
  obtain ⟨X, hX⟩ : ∃ X, X = (w.alloc (.cells #[.slice x.A1 x.n1 x.c1, .slice x.A2 x.n2 x.c2] 43)).alloc (.cells #[.slice y.A1 y.n1 y.c1, .slice y.A2 y.n2 y.c2] 43) := ⟨_, rfl⟩
  have B0 : Below w.heap.size w X := by rw [hX]; exact (below1 _ _).alloc (by simp) _
  have P0 : Hid (Bk w.heap.size X [.slice x.A1 x.n1 x.c1, .slice x.A2 x.n2 x.c2]) := Lib.hid (by rw [hX]; exact (Bk.new w #[.slice x.A1 x.n1 x.c1, .slice x.A2 x.n2 x.c2] 43).alloc _)
  have Q0 : Hid (Bk (w.heap.size + 1) X [.slice y.A1 y.n1 y.c1, .slice y.A2 y.n2 y.c2]) := Lib.hid (by
    rw [hX]
    have := Bk.new (w.alloc (.cells #[.slice x.A1 x.n1 x.c1, .slice x.A2 x.n2 x.c2] 43)) #[.slice y.A1 y.n1 y.c1, .slice y.A2 y.n2 y.c2] 43
    rw [World.size_alloc] at this
    exact this)
  have KX : Hid (∀ v, Below X.heap.size X v → v.cell? ⟨w.heap.size, 0, none⟩ = some (.slice x.A1 x.n1 x.c1) ∧ v.cell? ⟨w.heap.size, 1, none⟩ = some (.slice x.A2 x.n2 x.c2) ∧ v.cell? ⟨w.heap.size + 1, 0, none⟩ = some (.slice y.A1 y.n1 y.c1) ∧ v.cell? ⟨w.heap.size + 1, 1, none⟩ = some (.slice y.A2 y.n2 y.c2)) := Lib.hid fun v hv => by
    have h0 := (P0.out.on hv).c 0 (by simp)
    have h1 := (P0.out.on hv).c 1 (by simp)
    have h2 := (Q0.out.on hv).c 0 (by simp)
    have h3 := (Q0.out.on hv).c 1 (by simp)
    simp only [List.getElem_cons_succ, List.getElem_cons_zero] at h0 h1 h2 h3
    exact ⟨h0, h1, h2, h3⟩
  obtain ⟨t1, ht1⟩ := t_dec x.ss y.ss
  obtain ⟨t2, ht2⟩ := t_dec (x.ms.map M.cl) (y.ms.map M.cl)
  have HT : Hid (t = (t1 && t2)) := Lib.hid (by
    rw [Bool.eq_iff_iff, ht, Bool.and_eq_true, ht1, ht2]
    constructor
    · intro e; exact ⟨congrArg Ct.ss e, congrArg Ct.ls e⟩
    · rintro ⟨e1, e2⟩; unfold Kt.ct; rw [e1, e2])
  have HS : Hid (Calls Try.prog 31 #[.slice x.A1 x.n1 x.c1, .slice y.A1 y.n1 y.c1] X fun e w' => e = .returned (.bool t1) ∧ Below X.heap.size X w') := Lib.hid (eqStr _ _ _ _ _ _ x.ss y.ss X (hx.on B0).p (hy.on B0).p t1 ht1)
  have HF : Hid (∀ v, Below X.heap.size X v → Calls Try.prog 32 #[.slice x.A2 x.n2 x.c2, .slice y.A2 y.n2 y.c2, .func (.func 33) #[] #[]] v fun e w' => e = .returned (.bool t2) ∧ Below v.heap.size v w') := Lib.hid fun v hv =>
    eqFunc _ _ _ _ _ _ x.ms y.ms v ((hx.on B0).on hv).c ((hy.on B0).on hv).c ((hw.on B0).on hv) t2 ht2
  have HX := Lib.hid hX
  have HB := Lib.hid B0
  have hcells := KX.out X (Below.refl _ _)
  rw [hX] at hcells
  obtain ⟨c0, c1, c2, c3⟩ := hcells
  clear hx hy hw B0 P0 Q0 hX ht ht1 ht2
  go_enter Try.func15, Try.ntmps15
  cases t1
  · go_wp2_with (go_at_call 31; (try rw [← HX.out]); refine HS.out.mono ?_; rintro e wa ⟨rfl, hb⟩)
    go_ret
    exact ⟨by rw [HT.out]; rfl, HB.out.trans (hb.mono HB.out.size)⟩
  · go_wp2_with (go_at_call 31; (try rw [← HX.out]); refine HS.out.mono ?_; rintro e wa ⟨rfl, hb⟩; refine Hid.out ?_)
    refine Lib.hid ?_
    clear c0 c1 c2 c3
    obtain ⟨c0, c1, c2, c3⟩ := KX.out wa hb
    have HF2 := Lib.hid (HF.out wa hb)
    have HB2 := Lib.hid (HB.out.trans (hb.mono HB.out.size))
    clear hb
    go_wp2_with (go_at_call 32; refine HF2.out.mono ?_; rintro e wb ⟨rfl, hb⟩)
    go_ret
    exact ⟨by rw [HT.out]; simp, HB2.out.trans (hb.mono HB2.out.size)⟩

/-- A copied contract may be compared by the program. -/
theorem WrC.wrs {w : World} {x : Kt} (h : WrC w x) (hw : x.ct.wt ≤ 1048576) : WrS w x.ms := by
  have nd : (Cond.blocks (x.ms.map M.k)).Nodup := (List.nodup_append.1 (List.nodup_append.1 h.nd).2.1).2.1
  refine ⟨fun m hm => ?_, fun m hm => ?_⟩
  · obtain ⟨i, hi, e⟩ := List.getElem_of_mem (List.mem_map_of_mem (f := M.k) hm)
    have h1 := part_nodup nd hi
    rw [e] at h1
    have hL := (h.has.c.all m hm).k
    exact ⟨hL.has, hL.lt, h1, fun b hb o => h.fz b (by simp only [Kt.blocks, List.mem_append]; exact .inr (.inr (mk_mem hm hb))) o⟩
  · have h1 := C.size_le m.k.cond
    have h2 : m.cl.wt ≤ wtL (x.ms.map M.cl) := wtL_mem (List.mem_map_of_mem hm)
    have h3 : m.k.cond.wt ≤ m.cl.wt := by simp only [L.wt, M.cl]; omega
    simp only [Ct.wt, Kt.ct] at hw
    omega

end Go.Proofs.Ytencedbohnbogaa.Cl
