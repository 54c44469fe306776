/-
  ImpliesCondition of the model.
-/
import Derived.Test.YthdiiocgemomoaaImT
import Derived.Test.YthdiiocgemomoaaGoodI
import Derived.Deep.RegionHeld3
import Derived.Deep.RegionWith
namespace Go.Proofs.Ythdiiocgemomoaa.Cond
open Go.RowKit Go.Proofs.Ythdiiocgemomoaa.NdI Go.Proofs.Ythdiiocgemomoaa.NdS
set_option linter.unusedVariables false
set_option linter.unusedSimpArgs false

theorem own_leT {w : World} {base base' : Nat} {D : List (List UInt8)} {v : Value} (h : UniT.Own w base v D) (hb : base' ≤ base) : UniT.Own w base' v D := by
  refine ⟨h.1, ?_⟩
  rcases h.2 with h2 | ⟨g, cap, cur, hv, hg, r⟩
  · exact .inl h2
  · exact .inr ⟨g, cap, cur, hv, by omega, r⟩

set_option maxRecDepth 100000 in
set_option maxHeartbeats 16000000 in
theorem specIm (ka kb : K) (w : World) (hla : Lies w w.heap.size ka) (hlb : Lies w w.heap.size kb) (hwa : ka.cond.wt ≤ 1048576) (hwb : kb.cond.wt ≤ 1048576) (x y : Bool) (hx : ImIs ka.cond kb.cond x y) :
    Calls Try.prog 12 #[ka.val, kb.val] w fun e w' => e = .returned (.tuple #[.bool x, .bool y]) ∧ Below w.heap.size w w' := by
  obtain ⟨X, hX⟩ : ∃ X, X = (w.alloc (.cells #[.int .i64 ka.op, .string ka.nm, .int .i64 ka.day, .slice ka.A ka.ps.length ka.cap] 28)).alloc (.cells #[.int .i64 kb.op, .string kb.nm, .int .i64 kb.day, .slice kb.A kb.ps.length kb.cap] 28) := ⟨_, rfl⟩
  have B0 : Hid (Below w.heap.size w X) := Lib.hid (by rw [hX]; exact (below1 _ _).alloc (by simp) _)
  have X0 : Hid (B4 w.heap.size X (.int .i64 ka.op) (.string ka.nm) (.int .i64 ka.day) (.slice ka.A ka.ps.length ka.cap)) := Lib.hid (by rw [hX]; exact (B4.new _ _ _ _ _ _).alloc _)
  have Y0 : Hid (B4 (w.heap.size + 1) X (.int .i64 kb.op) (.string kb.nm) (.int .i64 kb.day) (.slice kb.A kb.ps.length kb.cap)) := Lib.hid (by rw [hX]; have := B4.new (w.alloc (.cells #[.int .i64 ka.op, .string ka.nm, .int .i64 ka.day, .slice ka.A ka.ps.length ka.cap] 28)) (.int .i64 kb.op) (.string kb.nm) (.int .i64 kb.day) (.slice kb.A kb.ps.length kb.cap) 28; simpa using this)
  have KX : Hid (∀ v, Below X.heap.size X v → (v.cell? ⟨w.heap.size, 0, none⟩ = some (.int .i64 ka.op) ∧ v.cell? ⟨w.heap.size, 1, none⟩ = some (.string ka.nm) ∧ v.cell? ⟨w.heap.size, 2, none⟩ = some (.int .i64 ka.day) ∧ v.cell? ⟨w.heap.size, 3, none⟩ = some (.slice ka.A ka.ps.length ka.cap)) ∧ v.cell? ⟨w.heap.size + 1, 0, none⟩ = some (.int .i64 kb.op) ∧ v.cell? ⟨w.heap.size + 1, 1, none⟩ = some (.string kb.nm) ∧ v.cell? ⟨w.heap.size + 1, 2, none⟩ = some (.int .i64 kb.day) ∧ v.cell? ⟨w.heap.size + 1, 3, none⟩ = some (.slice kb.A kb.ps.length kb.cap)) := Lib.hid fun v hv => by
    have a := X0.out.on hv
    have b := Y0.out.on hv
    exact ⟨⟨a.c0, a.c1, a.c2, a.c3⟩, b.c0, b.c1, b.c2, b.c3⟩
  have HLA : Hid (∀ v, Below X.heap.size X v → Lies v v.heap.size ka) := Lib.hid fun v hv => (hla.on B0.out).on hv
  have HLB : Hid (∀ v, Below X.heap.size X v → Lies v v.heap.size kb) := Lib.hid fun v hv => (hlb.on B0.out).on hv
  have HGA := Lib.hid fun v (hv : Below X.heap.size X v) => l5Good ka v (HLA.out v hv) hwa
  have HGB := Lib.hid fun v (hv : Below X.heap.size X v) => l5Good kb v (HLB.out v hv) hwb
  have HX := Lib.hid hx
  have HXX := Lib.hid hX
  clear hla hlb hwa hwb hx hX
  obtain ⟨ga, hga⟩ : ∃ g, g = ka.cond.good := ⟨_, rfl⟩
  obtain ⟨gb, hgb⟩ : ∃ g, g = kb.cond.good := ⟨_, rfl⟩
  rw [← hga] at HGA
  rw [← hgb] at HGB
  have HGG := Lib.hid (And.intro hga hgb)
  clear hga hgb
  cases ga
  · have HE := Lib.hid (HX.out.no (by rw [← HGG.out.1]; rfl))
    go_enter Try.func12, Try.ntmps12
    go_wp2_with fail
    rw [← HXX.out]
    have hc0 := KX.out X (Below.refl _ _)
    first | (go_region_with (go_at_call 15; refine (HGA.out _ (by (repeat (first | exact Below.refl _ _ | apply Below.drew)))).mono ?_; rintro e w2 ⟨rfl, hb⟩; have b1 : Below X.heap.size X w2 := Below.trans (by (repeat (first | exact Below.refl _ _ | apply Below.drew))) (hb.mono (by first | omega | (simp; done) | (simp; omega))); clear hb)) | fail
    all_goals go_wp2_with fail
    all_goals go_ret2
    all_goals exact ⟨by rw [HE.out.1, HE.out.2]; rfl, B0.out.trans (b1.mono B0.out.size)⟩
  cases gb
  · have HE := Lib.hid (HX.out.no (by rw [← HGG.out.1, ← HGG.out.2]; rfl))
    go_enter Try.func12, Try.ntmps12
    go_wp2_with fail
    rw [← HXX.out]
    have hc0 := KX.out X (Below.refl _ _)
    have HK1 : Hid (∀ v, Below X.heap.size X v → v.cell? ⟨w.heap.size + 1, 0, none⟩ = some (.int .i64 kb.op) ∧ v.cell? ⟨w.heap.size + 1, 1, none⟩ = some (.string kb.nm) ∧ v.cell? ⟨w.heap.size + 1, 2, none⟩ = some (.int .i64 kb.day) ∧ v.cell? ⟨w.heap.size + 1, 3, none⟩ = some (.slice kb.A kb.ps.length kb.cap)) := Lib.hid fun v hv => (KX.out v hv).2
    first | (go_region_with (first | (go_at_call 15; (with_reducible refine (HGA.out _ (by (repeat (first | exact Below.refl _ _ | apply Below.drew)))).mono ?_); rintro e w2 ⟨rfl, hb⟩; have b1 : Below X.heap.size X w2 := Below.trans (by (repeat (first | exact Below.refl _ _ | apply Below.drew))) (hb.mono (by first | omega | (simp; done) | (simp; omega))); clear hb; obtain ⟨y0, y1, y2, y3⟩ := HK1.out w2 b1) | (go_at_call 15; (with_reducible refine (HGB.out _ (by (repeat (first | exact Below.refl _ _ | exact b1 | apply Below.drew)))).mono ?_); rintro e w3 ⟨rfl, hb⟩; have b2 : Below X.heap.size X w3 := Below.trans (by (repeat (first | exact Below.refl _ _ | exact b1 | apply Below.drew))) (hb.mono (by have := b1.size; first | omega | (simp; omega))); clear hb))) | fail
    all_goals go_wp2_with fail
    all_goals go_ret2
    all_goals exact ⟨by rw [HE.out.1, HE.out.2]; rfl, B0.out.trans (b2.mono B0.out.size)⟩
  obtain ⟨qa, hqa, _, hsa⟩ := good_q HGG.out.1.symm
  obtain ⟨qb, hqb, _, hsb⟩ := good_q HGG.out.2.symm
  have hsa' : ka.cond.size ≤ 15 := by rw [hqa, Q.size_c]; exact hsa
  have hsb' : kb.cond.size ≤ 15 := by rw [hqb, Q.size_c]; exact hsb
  have HL1 : Hid ((UniTM.uni [] (nms ka.cond)).length ≤ 15) := Lib.hid (by have h1 := UniTM.length_uni (nms ka.cond) []; have h2 := nms_len ka.cond; simp at h1; omega)
  have HI1 : Hid (∀ u v, Below X.heap.size X u → Below (u.alloc (.cells #[] 9)).heap.size (u.alloc (.cells #[] 9)) v → Calls Try.prog 23 #[.slice (some ⟨u.heap.size, 0, none⟩) 0 0, ka.val] v (UniT.PutAns X.heap.size (UniTM.uni [] (nms ka.cond)) v)) := Lib.hid fun u v hu hv => l5Names ka u.heap.size 0 0 [] v X.heap.size rfl (by omega) (by have h7 := hv.size; have h8 := hu.size; simp at h7; omega) (row_on (own_leT (UniT.own_new u) hu.size) hv) (HLA.out v (hu.trans (((below1 _ _).trans (hv.mono (by simp))).mono hu.size)))
  have HI2 : Hid (∀ v g n c, n = (UniTM.uni [] (nms ka.cond)).length → UniT.Own v X.heap.size (.slice (some ⟨g, 0, none⟩) n c) (UniTM.uni [] (nms ka.cond)) → Below X.heap.size X v → Calls Try.prog 23 #[.slice (some ⟨g, 0, none⟩) n c, kb.val] v (UniT.PutAns X.heap.size (NN ka.cond kb.cond) v)) := Lib.hid fun v g n c hn ho hv => by
    have h := l5Names kb g n c _ v X.heap.size hn (by have := HL1.out; omega) hv.size ho (HLB.out v hv)
    rw [NN_two] at h
    exact h
  have HIM : Hid ((NN ka.cond kb.cond).length ≤ 10 → ∀ v, Below X.heap.size X v → Calls Try.prog 24 #[ka.val, kb.val] v fun e w' => e = .returned (.bool (imp qa qb (NN ka.cond kb.cond) (DD ka.cond kb.cond))) ∧ Below v.heap.size v w') := Lib.hid fun hl v hv => l5Implies qa qb ka kb v hqa hqb (HLA.out v hv) (HLB.out v hv) hsa' hsb' hl
  have HQ := Lib.hid (And.intro hqa hqb)
  clear hqa hqb hsa hsb hsa' hsb'
  by_cases hl : (NN ka.cond kb.cond).length ≤ 10
  · have HE := Lib.hid (HX.out.yes qa qb HGG.out.1.symm HGG.out.2.symm hl HQ.out.1 HQ.out.2)
    have HIM2 := Lib.hid (HIM.out hl)
    have HLL := Lib.hid hl
    clear hl HIM
    go_enter Try.func12, Try.ntmps12
    go_wp2_with fail
    rw [← HXX.out]
    have hc0 := KX.out X (Below.refl _ _)
    go_region_held3 (fun v => (v.cell? ⟨w.heap.size, 0, none⟩ = some (.int .i64 ka.op) ∧ v.cell? ⟨w.heap.size, 1, none⟩ = some (.string ka.nm) ∧ v.cell? ⟨w.heap.size, 2, none⟩ = some (.int .i64 ka.day) ∧ v.cell? ⟨w.heap.size, 3, none⟩ = some (.slice ka.A ka.ps.length ka.cap)) ∧ v.cell? ⟨w.heap.size + 1, 0, none⟩ = some (.int .i64 kb.op) ∧ v.cell? ⟨w.heap.size + 1, 1, none⟩ = some (.string kb.nm) ∧ v.cell? ⟨w.heap.size + 1, 2, none⟩ = some (.int .i64 kb.day) ∧ v.cell? ⟨w.heap.size + 1, 3, none⟩ = some (.slice kb.A kb.ps.length kb.cap)) (first | (refine KX.out _ ?_; (repeat (first | exact Below.refl _ _ | exact b4 | exact b3 | exact b2 | exact b1 | exact (b2.alloc b2.size _) | apply Below.drew)); done))
      (first
        | (go_at_call 15; (with_reducible refine (HGA.out _ (by (repeat (first | exact Below.refl _ _ | apply Below.drew)))).mono ?_); rintro e wa ⟨rfl, hb⟩; have b1 : Below X.heap.size X wa := (Below.trans (by (repeat (first | exact Below.refl _ _ | apply Below.drew))) (hb.mono (by first | omega | (simp; done) | (simp; omega) | (have := b1.size; simp; omega)))); clear hb)
        | (go_at_call 15; (with_reducible refine (HGB.out _ (by (repeat (first | exact Below.refl _ _ | exact b1 | apply Below.drew)))).mono ?_); rintro e wb ⟨rfl, hb⟩; have b2 : Below X.heap.size X wb := (Below.trans (by (repeat (first | exact Below.refl _ _ | exact b1 | apply Below.drew))) (hb.mono (by first | omega | (simp; done) | (simp; omega) | (have := b1.size; simp; omega)))); clear hb)
        | (go_at_call 23; (with_reducible refine (HI1.out wb _ b2 (by (repeat (first | exact Below.refl _ _ | apply Below.drew)))).mono ?_); rintro e wc ⟨g0, n0, c0, hn0, rfl, ho0, hb⟩; have b3 : Below X.heap.size X wc := (Below.trans (by (repeat (first | exact (b2.alloc b2.size _) | apply Below.drew))) (hb.mono (by have := b2.size; first | omega | (simp; omega)))); have NC := Lib.hid hn0; have OC := Lib.hid ho0; clear hb hn0 ho0)
        | (go_at_call 23; (with_reducible refine (HI2.out _ g0 n0 c0 NC.out (row_on OC.out (by (repeat (first | exact Below.refl _ _ | apply Below.drew)))) (by (repeat (first | exact Below.refl _ _ | exact b3 | apply Below.drew)))).mono ?_); rintro e wd ⟨g1, n1, c1, hn1, rfl, ho1, hb⟩; have b4 : Below X.heap.size X wd := (Below.trans (by (repeat (first | exact Below.refl _ _ | exact b3 | apply Below.drew))) (hb.mono (by first | omega | (simp; done) | (simp; omega) | (have := b3.size; simp; omega)))); have ND := Lib.hid hn1; have hdec : decide ((10 : Int) < (n1 : Int)) = false := decide_eq_false (by have h1 := HLL.out; have h2 := ND.out; omega); clear hb hn1 ho1))
    all_goals (obtain ⟨⟨x0, x1, x2, x3⟩, y0, y1, y2, y3⟩ := KX.out wd b4)
    all_goals go_wp2_with (go_at_call 24; refine (HIM2.out _ b4).mono ?_; rintro e we ⟨rfl, hb5⟩)
    all_goals go_ret2
    all_goals exact ⟨by rw [HE.out.1, HE.out.2]; rfl, B0.out.trans ((b4.trans (hb5.mono b4.size)).mono B0.out.size)⟩
  · have HE := Lib.hid (HX.out.big HGG.out.1.symm HGG.out.2.symm (by omega))
    have HLL : Hid (10 < (NN ka.cond kb.cond).length) := Lib.hid (by omega)
    clear hl HIM
    go_enter Try.func12, Try.ntmps12
    go_wp2_with fail
    rw [← HXX.out]
    have hc0 := KX.out X (Below.refl _ _)
    go_region_held3 (fun v => (v.cell? ⟨w.heap.size, 0, none⟩ = some (.int .i64 ka.op) ∧ v.cell? ⟨w.heap.size, 1, none⟩ = some (.string ka.nm) ∧ v.cell? ⟨w.heap.size, 2, none⟩ = some (.int .i64 ka.day) ∧ v.cell? ⟨w.heap.size, 3, none⟩ = some (.slice ka.A ka.ps.length ka.cap)) ∧ v.cell? ⟨w.heap.size + 1, 0, none⟩ = some (.int .i64 kb.op) ∧ v.cell? ⟨w.heap.size + 1, 1, none⟩ = some (.string kb.nm) ∧ v.cell? ⟨w.heap.size + 1, 2, none⟩ = some (.int .i64 kb.day) ∧ v.cell? ⟨w.heap.size + 1, 3, none⟩ = some (.slice kb.A kb.ps.length kb.cap)) (first | (refine KX.out _ ?_; (repeat (first | exact Below.refl _ _ | exact b4 | exact b3 | exact b2 | exact b1 | exact (b2.alloc b2.size _) | apply Below.drew)); done))
      (first
        | (go_at_call 15; (with_reducible refine (HGA.out _ (by (repeat (first | exact Below.refl _ _ | apply Below.drew)))).mono ?_); rintro e wa ⟨rfl, hb⟩; have b1 : Below X.heap.size X wa := (Below.trans (by (repeat (first | exact Below.refl _ _ | apply Below.drew))) (hb.mono (by first | omega | (simp; done) | (simp; omega) | (have := b1.size; simp; omega)))); clear hb)
        | (go_at_call 15; (with_reducible refine (HGB.out _ (by (repeat (first | exact Below.refl _ _ | exact b1 | apply Below.drew)))).mono ?_); rintro e wb ⟨rfl, hb⟩; have b2 : Below X.heap.size X wb := (Below.trans (by (repeat (first | exact Below.refl _ _ | exact b1 | apply Below.drew))) (hb.mono (by first | omega | (simp; done) | (simp; omega) | (have := b1.size; simp; omega)))); clear hb)
        | (go_at_call 23; (with_reducible refine (HI1.out wb _ b2 (by (repeat (first | exact Below.refl _ _ | apply Below.drew)))).mono ?_); rintro e wc ⟨g0, n0, c0, hn0, rfl, ho0, hb⟩; have b3 : Below X.heap.size X wc := (Below.trans (by (repeat (first | exact (b2.alloc b2.size _) | apply Below.drew))) (hb.mono (by have := b2.size; first | omega | (simp; omega)))); have NC := Lib.hid hn0; have OC := Lib.hid ho0; clear hb hn0 ho0)
        | (go_at_call 23; (with_reducible refine (HI2.out _ g0 n0 c0 NC.out (row_on OC.out (by (repeat (first | exact Below.refl _ _ | apply Below.drew)))) (by (repeat (first | exact Below.refl _ _ | exact b3 | apply Below.drew)))).mono ?_); rintro e wd ⟨g1, n1, c1, hn1, rfl, ho1, hb⟩; have b4 : Below X.heap.size X wd := (Below.trans (by (repeat (first | exact Below.refl _ _ | exact b3 | apply Below.drew))) (hb.mono (by first | omega | (simp; done) | (simp; omega) | (have := b3.size; simp; omega)))); have ND := Lib.hid hn1; have hdec : decide ((10 : Int) < (n1 : Int)) = true := decide_eq_true (by have h1 := HLL.out; have h2 := ND.out; omega); clear hb hn1 ho1))
    all_goals go_wp2_with fail
    all_goals go_ret2
    all_goals exact ⟨by rw [HE.out.1, HE.out.2]; rfl, B0.out.trans (b4.mono B0.out.size)⟩

end Go.Proofs.Ythdiiocgemomoaa.Cond
