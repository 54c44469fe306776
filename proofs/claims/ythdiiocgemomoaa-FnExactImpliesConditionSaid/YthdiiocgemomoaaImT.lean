/-
  l5Implies of the model.
-/
import Derived.Test.YthdiiocgemomoaaImS
import Derived.Deep.RegionHeld3
import Derived.Deep.RegionWith
namespace Go.Proofs.Ythdiiocgemomoaa.Cond
open Go.RowKit Go.Proofs.Ythdiiocgemomoaa.NdI Go.Proofs.Ythdiiocgemomoaa.NdS
set_option linter.unusedVariables false
set_option linter.unusedSimpArgs false

theorem own_cellI {w : World} {S g n c : Nat} {ys : List Int} (h : UniS.Own w S (.slice (some ⟨g, 0, none⟩) n c) ys) (hn : n = ys.length) {k : Nat} (hk : k < ys.length) : w.cell? ⟨g, k, none⟩ = some (.int .i64 ys[k]) := by
  unfold UniS.Own at h
  rw [← hn] at h
  rw [h.cellAt k (by omega)]
  simp [hk]
theorem row_on {B : Nat} {e : TypeId} {k : Nat} {v : Value} {n : Nat} {xs : List Value} {w w' : World} (h : w.ownsRow B e k v n xs) (hb : Below w.heap.size w w') : w'.ownsRow B e k v n xs :=
  h.kept (row := none) ⟨hb.os, hb.tape, hb.output, hb.size, fun j hj _ => hb.block j hj⟩ (by cases hv : v.ownBlock <;> simp)
/-- The days that the model tries. -/
abbrev D1 (a b : C) : List Int := UniMath.putL (UniMath.uni (UniMath.uni [] (dys a)) (dys b)) 0
theorem mem_D1 (a b : C) (d : Int) : d ∈ D1 a b ↔ d ∈ DD a b := by
  simp only [D1, DD, UniMath.mem_putL, UniMath.mem_uni, List.mem_cons, List.mem_append, List.not_mem_nil, false_or]
theorem D1_len (a b : C) : (D1 a b).length ≤ a.size + b.size + 1 := by
  have h1 := UniMath.length_putL (UniMath.uni (UniMath.uni [] (dys a)) (dys b)) 0
  have h2 := UniMath.length_uni (dys b) (UniMath.uni [] (dys a))
  have h3 := UniMath.length_uni (dys a) []
  have h4 := dys_len a
  have h5 := dys_len b
  simp at h3
  show (UniMath.putL (UniMath.uni (UniMath.uni [] (dys a)) (dys b)) 0).length ≤ _
  omega

/-- The names and the days of two conditions, with the boxes in which these lie. -/
def NdPost (w X : World) (ka kb : K) (g1 n1 c1 g2 n2 c2 : Nat) (u : World) : Prop :=
  n1 = (NN ka.cond kb.cond).length ∧ UniT.Own u X.heap.size (.slice (some ⟨g1, 0, none⟩) n1 c1) (NN ka.cond kb.cond) ∧ n2 = (D1 ka.cond kb.cond).length ∧ UniS.Own u X.heap.size (.slice (some ⟨g2, 0, none⟩) n2 c2) (D1 ka.cond kb.cond) ∧ Below X.heap.size X u

set_option maxRecDepth 100000 in
set_option maxHeartbeats 8000000 in
theorem l5Implies (qa qb : Q) (ka kb : K) (w : World) (ha : ka.cond = qa.c) (hb : kb.cond = qb.c) (hla : Lies w w.heap.size ka) (hlb : Lies w w.heap.size kb) (hsa : ka.cond.size ≤ 15) (hsb : kb.cond.size ≤ 15) (hN : (NN ka.cond kb.cond).length ≤ 10) :
    Calls Try.prog 24 #[ka.val, kb.val] w fun e w' => e = .returned (.bool (imp qa qb (NN ka.cond kb.cond) (DD ka.cond kb.cond))) ∧ Below w.heap.size w w' := by
  obtain ⟨X, hX⟩ : ∃ X, X = (w.alloc (.cells #[.int .i64 ka.op, .string ka.nm, .int .i64 ka.day, .slice ka.A ka.ps.length ka.cap] 28)).alloc (.cells #[.int .i64 kb.op, .string kb.nm, .int .i64 kb.day, .slice kb.A kb.ps.length kb.cap] 28) := ⟨_, rfl⟩
  have B0 : Hid (Below w.heap.size w X) := Lib.hid (by rw [hX]; exact (below1 _ _).alloc (by simp) _)
  have X0 : Hid (B4 w.heap.size X (.int .i64 ka.op) (.string ka.nm) (.int .i64 ka.day) (.slice ka.A ka.ps.length ka.cap)) := Lib.hid (by rw [hX]; exact (B4.new _ _ _ _ _ _).alloc _)
  have Y0 : Hid (B4 (w.heap.size + 1) X (.int .i64 kb.op) (.string kb.nm) (.int .i64 kb.day) (.slice kb.A kb.ps.length kb.cap)) := Lib.hid (by rw [hX]; have := B4.new (w.alloc (.cells #[.int .i64 ka.op, .string ka.nm, .int .i64 ka.day, .slice ka.A ka.ps.length ka.cap] 28)) (.int .i64 kb.op) (.string kb.nm) (.int .i64 kb.day) (.slice kb.A kb.ps.length kb.cap) 28; simpa using this)
  have KX : Hid (∀ v, Below X.heap.size X v → (v.cell? ⟨w.heap.size, 0, none⟩ = some (.int .i64 ka.op) ∧ v.cell? ⟨w.heap.size, 1, none⟩ = some (.string ka.nm) ∧ v.cell? ⟨w.heap.size, 2, none⟩ = some (.int .i64 ka.day) ∧ v.cell? ⟨w.heap.size, 3, none⟩ = some (.slice ka.A ka.ps.length ka.cap)) ∧ v.cell? ⟨w.heap.size + 1, 0, none⟩ = some (.int .i64 kb.op) ∧ v.cell? ⟨w.heap.size + 1, 1, none⟩ = some (.string kb.nm) ∧ v.cell? ⟨w.heap.size + 1, 2, none⟩ = some (.int .i64 kb.day) ∧ v.cell? ⟨w.heap.size + 1, 3, none⟩ = some (.slice kb.A kb.ps.length kb.cap)) := Lib.hid fun v hv => by
    have a := X0.out.on hv
    have b := Y0.out.on hv
    exact ⟨⟨a.c0, a.c1, a.c2, a.c3⟩, b.c0, b.c1, b.c2, b.c3⟩
  have HLA : Hid (∀ v, Below X.heap.size X v → Lies v v.heap.size ka) := Lib.hid fun v hv => (hla.on B0.out).on hv
  have HLB : Hid (∀ v, Below X.heap.size X v → Lies v v.heap.size kb) := Lib.hid fun v hv => (hlb.on B0.out).on hv
  have HL1 : Hid ((UniTM.uni [] (nms ka.cond)).length ≤ 15) := Lib.hid (by have h1 := UniTM.length_uni (nms ka.cond) []; have h2 := nms_len ka.cond; simp at h1; omega)
  have HI1 : Hid (∀ v, Below (X.alloc (.cells #[] 9)).heap.size (X.alloc (.cells #[] 9)) v → Calls Try.prog 23 #[.slice (some ⟨X.heap.size, 0, none⟩) 0 0, ka.val] v (UniT.PutAns X.heap.size (UniTM.uni [] (nms ka.cond)) v)) := Lib.hid fun v hv => l5Names ka X.heap.size 0 0 [] v X.heap.size rfl (by omega) (by have := hv.size; simp at this; omega) (row_on (UniT.own_new X) hv) (HLA.out v ((below1 _ _).trans (hv.mono (by simp))))
  have HI2 : Hid (∀ v g n c, n = (UniTM.uni [] (nms ka.cond)).length → UniT.Own v X.heap.size (.slice (some ⟨g, 0, none⟩) n c) (UniTM.uni [] (nms ka.cond)) → Below X.heap.size X v → Calls Try.prog 23 #[.slice (some ⟨g, 0, none⟩) n c, kb.val] v (UniT.PutAns X.heap.size (NN ka.cond kb.cond) v)) := Lib.hid fun v g n c hn ho hv => by
    have h := l5Names kb g n c _ v X.heap.size hn (by have := HL1.out; omega) hv.size ho (HLB.out v hv)
    rw [NN_two] at h
    exact h
  have HD1 : Hid (∀ u v, Below X.heap.size X u → Below (u.alloc (.cells #[] 3)).heap.size (u.alloc (.cells #[] 3)) v → Calls Try.prog 40 #[.slice (some ⟨u.heap.size, 0, none⟩) 0 0, ka.val] v (UniS.PutAns X.heap.size (UniMath.uni [] (dys ka.cond)) v)) := Lib.hid fun u v hu hv => l5Days ka u.heap.size 0 0 [] v X.heap.size rfl (by omega) (by have h7 := hv.size; have h8 := hu.size; simp at h7; omega) (row_on (CalOwnLe (UniS.own_new u) hu.size) hv) (HLA.out v (hu.trans (((below1 _ _).trans (hv.mono (by simp))).mono hu.size)))
  have HL2 : Hid ((UniMath.uni [] (dys ka.cond)).length ≤ 15 ∧ (UniMath.uni (UniMath.uni [] (dys ka.cond)) (dys kb.cond)).length ≤ 30) := Lib.hid (by have h1 := UniMath.length_uni (dys ka.cond) []; have h2 := dys_len ka.cond; have h3 := UniMath.length_uni (dys kb.cond) (UniMath.uni [] (dys ka.cond)); have h4 := dys_len kb.cond; simp at h1; omega)
  have HD2 : Hid (∀ v g n c, n = (UniMath.uni [] (dys ka.cond)).length → UniS.Own v X.heap.size (.slice (some ⟨g, 0, none⟩) n c) (UniMath.uni [] (dys ka.cond)) → Below X.heap.size X v → Calls Try.prog 40 #[.slice (some ⟨g, 0, none⟩) n c, kb.val] v (UniS.PutAns X.heap.size (UniMath.uni (UniMath.uni [] (dys ka.cond)) (dys kb.cond)) v)) := Lib.hid fun v g n c hn ho hv => l5Days kb g n c _ v X.heap.size hn (by have := HL2.out; omega) hv.size ho (HLB.out v hv)
  have HD3 : Hid (∀ v g n c, n = (UniMath.uni (UniMath.uni [] (dys ka.cond)) (dys kb.cond)).length → UniS.Own v X.heap.size (.slice (some ⟨g, 0, none⟩) n c) (UniMath.uni (UniMath.uni [] (dys ka.cond)) (dys kb.cond)) → Below X.heap.size X v → Calls Try.prog 39 #[.slice (some ⟨g, 0, none⟩) n c, .int .i64 0] v (UniS.PutAns X.heap.size (D1 ka.cond kb.cond) v)) := Lib.hid fun v g n c hn ho hv => UniS.l1Put g n c _ 0 v X.heap.size hn (by have := HL2.out; omega) hv.size ho
  have HNN := Lib.hid hN
  have HDL : Hid ((D1 ka.cond kb.cond).length ≤ 31) := Lib.hid (by have := D1_len ka.cond kb.cond; omega)
  have HXX := Lib.hid hX
  have HQ := Lib.hid (And.intro ha hb)
  clear ha hb hla hlb hsa hsb hN hX
  go_enter Try.func24, Try.ntmps24
  go_wp2_with fail
  rw [← HXX.out]
  have hc0 := KX.out X (Below.refl _ _)
  go_region_held3 (fun v => (v.cell? ⟨w.heap.size, 0, none⟩ = some (.int .i64 ka.op) ∧ v.cell? ⟨w.heap.size, 1, none⟩ = some (.string ka.nm) ∧ v.cell? ⟨w.heap.size, 2, none⟩ = some (.int .i64 ka.day) ∧ v.cell? ⟨w.heap.size, 3, none⟩ = some (.slice ka.A ka.ps.length ka.cap)) ∧ v.cell? ⟨w.heap.size + 1, 0, none⟩ = some (.int .i64 kb.op) ∧ v.cell? ⟨w.heap.size + 1, 1, none⟩ = some (.string kb.nm) ∧ v.cell? ⟨w.heap.size + 1, 2, none⟩ = some (.int .i64 kb.day) ∧ v.cell? ⟨w.heap.size + 1, 3, none⟩ = some (.slice kb.A kb.ps.length kb.cap)) (first | (refine KX.out _ ?_; (repeat (first | exact Below.refl _ _ | exact b2 | exact b1 | exact below1 _ _ | apply Below.drew)); done))
    (first
      | (go_at_call 23; (with_reducible refine (HI1.out _ (by (repeat (first | exact Below.refl _ _ | apply Below.drew)))).mono ?_); rintro e wa ⟨g0, n0, c0, hn0, rfl, ho0, hb⟩; have b1 : Below X.heap.size X wa := (Below.trans (by (repeat (first | exact Below.refl _ _ | exact below1 _ _ | apply Below.drew))) (hb.mono (by first | omega | (simp; done) | (simp; omega) | (have := b1.size; simp; omega)))); have NA := Lib.hid hn0; have OA := Lib.hid ho0; clear hb hn0 ho0)
      | (go_at_call 23; (with_reducible refine (HI2.out _ g0 n0 c0 NA.out (row_on OA.out (by (repeat (first | exact Below.refl _ _ | apply Below.drew)))) (by (repeat (first | exact Below.refl _ _ | exact b1 | exact below1 _ _ | apply Below.drew)))).mono ?_); rintro e wb ⟨g1, n1, c1, hn1, rfl, ho1, hb⟩; have b2 : Below X.heap.size X wb := (Below.trans (by (repeat (first | exact Below.refl _ _ | exact b1 | exact below1 _ _ | apply Below.drew))) (hb.mono (by first | omega | (simp; done) | (simp; omega) | (have := b1.size; simp; omega)))); have NB := Lib.hid hn1; have OB := Lib.hid ho1; clear hb hn1 ho1))
  clear hc0 NA OA b1
  go_wp2_with fail
  have hc0 := KX.out _ b2
  go_region_held3 (fun v => (v.cell? ⟨w.heap.size, 0, none⟩ = some (.int .i64 ka.op) ∧ v.cell? ⟨w.heap.size, 1, none⟩ = some (.string ka.nm) ∧ v.cell? ⟨w.heap.size, 2, none⟩ = some (.int .i64 ka.day) ∧ v.cell? ⟨w.heap.size, 3, none⟩ = some (.slice ka.A ka.ps.length ka.cap)) ∧ v.cell? ⟨w.heap.size + 1, 0, none⟩ = some (.int .i64 kb.op) ∧ v.cell? ⟨w.heap.size + 1, 1, none⟩ = some (.string kb.nm) ∧ v.cell? ⟨w.heap.size + 1, 2, none⟩ = some (.int .i64 kb.day) ∧ v.cell? ⟨w.heap.size + 1, 3, none⟩ = some (.slice kb.A kb.ps.length kb.cap)) (first | (refine KX.out _ ?_; (repeat (first | exact (b2.alloc b2.size _) | exact Below.refl _ _ | exact b5 | exact b4 | exact b3 | exact b2 | exact below1 _ _ | apply Below.drew)); done))
    (first
      | (go_at_call 40; (with_reducible refine (HD1.out wb _ b2 (by (repeat (first | exact Below.refl _ _ | apply Below.drew)))).mono ?_); rintro e wc ⟨g3, n3, c3, hn3, rfl, ho3, hb⟩; have b3 : Below X.heap.size X wc := (Below.trans (by (repeat (first | exact (b2.alloc b2.size _) | apply Below.drew))) (hb.mono (by first | omega | (simp; done) | (have := b2.size; simp; omega)))); have e3 : Below wb.heap.size wb wc := Below.trans (by (repeat (first | exact below1 _ _ | apply Below.drew))) (hb.mono (by first | (simp; done) | (simp; omega))); have NC := Lib.hid hn3; have OC := Lib.hid ho3; clear hb hn3 ho3)
      | (go_at_call 40; (with_reducible refine (HD2.out _ g3 n3 c3 NC.out (row_on OC.out (by (repeat (first | exact Below.refl _ _ | apply Below.drew)))) (by (repeat (first | exact Below.refl _ _ | exact b3 | exact below1 _ _ | apply Below.drew)))).mono ?_); rintro e wd ⟨g4, n4, c4, hn4, rfl, ho4, hb⟩; have b4 : Below X.heap.size X wd := (Below.trans (by (repeat (first | exact Below.refl _ _ | exact b3 | exact below1 _ _ | apply Below.drew))) (hb.mono (by first | omega | (simp; done) | (simp; omega) | (have := b3.size; simp; omega)))); have e4 : Below wb.heap.size wb wd := Below.trans (by (repeat (first | exact e3 | apply Below.drew))) (hb.mono (by have := e3.size; first | omega | (simp; omega))); have ND := Lib.hid hn4; have OD := Lib.hid ho4; clear hb hn4 ho4)
      | (go_at_call 39; (with_reducible refine (HD3.out _ g4 n4 c4 ND.out (row_on OD.out (by (repeat (first | exact Below.refl _ _ | apply Below.drew)))) (by (repeat (first | exact Below.refl _ _ | exact b4 | exact below1 _ _ | apply Below.drew)))).mono ?_); rintro e we ⟨g5, n5, c5, hn5, rfl, ho5, hb⟩; have b5 : Below X.heap.size X we := (Below.trans (by (repeat (first | exact Below.refl _ _ | exact b4 | exact below1 _ _ | apply Below.drew))) (hb.mono (by first | omega | (simp; done) | (simp; omega) | (have := b4.size; simp; omega)))); have e5 : Below wb.heap.size wb we := Below.trans (by (repeat (first | exact e4 | apply Below.drew))) (hb.mono (by have := e4.size; first | omega | (simp; omega))); have NE := Lib.hid hn5; have OE := Lib.hid ho5; clear hb hn5 ho5))
  clear hc0
  have OF := Lib.hid (row_on OB.out e5)
  have B5 := Lib.hid b5
  have hn10 : n1 ≤ 10 := by rw [NB.out]; exact HNN.out
  have hn31 : n5 ≤ 31 := by rw [NE.out]; exact HDL.out
  clear b2 b3 b4 b5 e3 e4 e5 NC OC ND OD OB HI1 HI2 HD1 HD2 HD3 HL1 HL2
  go_wp2_with fail
  obtain ⟨M, hM⟩ : ∃ M : Nat, M = 2 ^ n1 := ⟨_, rfl⟩
  have hM1 : M ≤ 1024 := by rw [hM]; exact Nat.le_trans (Nat.pow_le_pow_right (by decide) hn10) (by decide)
  have hw64 : wrap64 ((2 : Int) ^ n1) = (M : Int) := by
    have e : ((2 : Int) ^ n1) = (M : Int) := by rw [hM, Int.natCast_pow]; rfl
    rw [e]
    unfold wrap64
    omega
  have HM := Lib.hid hM
  clear hM
  go_loopw [7] (fun t wr => ∃ m : Nat, m ≤ M ∧ t = .int .i64 m ∧ Hid (∀ m', m' < m → ∀ d ∈ D1 ka.cond kb.cond, okAt qa qb (NN ka.cond kb.cond) m' d) ∧ Hid (Below we.heap.size we wr)) (fun t _ => M - (intOf t).toNat)
  case atStart => exact ⟨0, Nat.zero_le _, rfl, Lib.hid fun m' h => by omega, Lib.hid (Below.refl _ _)⟩
  case round =>
    obtain ⟨m, hm, rfl, HJ, HB⟩ := hrel
    have HBX := Lib.hid (B5.out.trans (HB.out.mono B5.out.size))
    have HBW := Lib.hid (B0.out.trans (HBX.out.mono B0.out.size))
    by_cases hlt : m < M
    · have OG := Lib.hid (row_on OF.out HB.out)
      have hIs : UniT.Is wr wr.heap.size (some ⟨g1, 0, none⟩) (NN ka.cond kb.cond) := UniT.Is.of_own (base := X.heap.size) (n := n1) (cap := c1) (by have := OG.out; unfold UniT.Own at this; rw [← NB.out] at this; exact this) NB.out
      have HSUB := Lib.hid (l5Subset (some ⟨g1, 0, none⟩) n1 c1 m wr.heap.size (NN ka.cond kb.cond) wr NB.out (by omega) (by omega) hIs (Nat.le_refl _))
      clear hIs
      go_wp2_with (go_at_call 41; refine HSUB.out.mono ?_; rintro e w6 ⟨g6, n6, c6, hn6, rfl, ho6, hb6⟩; have HN60 := Lib.hid hn6; clear hn6; refine Hid.out ?_)
      refine Lib.hid ?_
      have hn6 := HN60.out
      have HN6 : Hid (n6 = (UniT.strs (sub (NN ka.cond kb.cond) m (NN ka.cond kb.cond).length)).length) := Lib.hid (by rw [hn6, NB.out]; simp)
      have hn6b : n6 ≤ 10 := by have := sub_len (NN ka.cond kb.cond) m n1; omega
      have HF6 : Hid (Row.Is w6 w6.heap.size (some ⟨g6, 0, none⟩) (UniT.strs (sub (NN ka.cond kb.cond) m (NN ka.cond kb.cond).length))) := Lib.hid (by
        refine Row.Is.of_own (base := wr.heap.size) (n := n6) (cap := c6) ?_ HN6.out
        rw [← UniT.map_strs, ← NB.out]
        have := ho6
        unfold UniT.Own at this
        rw [← hn6] at this
        exact this)
      have BX6 := Lib.hid (HBX.out.trans (hb6.mono HBX.out.size))
      have BE6 := Lib.hid (HB.out.trans (hb6.mono HB.out.size))
      clear hn6 ho6 hb6 HSUB
      go_wp2_with fail
      go_loopw [9] (fun t wi => ∃ j : Nat, j ≤ n5 ∧ t = .int .i64 j ∧ Hid (∀ j', j' < j → ∀ h : j' < (D1 ka.cond kb.cond).length, okAt qa qb (NN ka.cond kb.cond) m (D1 ka.cond kb.cond)[j']) ∧ Hid (Below w6.heap.size w6 wi)) (fun t _ => n5 - (intOf t).toNat)
      case atStart => exact ⟨0, Nat.zero_le _, rfl, Lib.hid fun j' h => by omega, Lib.hid (Below.refl _ _)⟩
      case round =>
        obtain ⟨j, hj, rfl, HJJ, HBI⟩ := hrel
        have BEI := Lib.hid (BE6.out.trans (HBI.out.mono BE6.out.size))
        have BXI := Lib.hid (BX6.out.trans (HBI.out.mono BX6.out.size))
        by_cases hjl : j < n5
        · have hj1 : j < (D1 ka.cond kb.cond).length := by have := NE.out; omega
          obtain ⟨d, hd⟩ : ∃ d, d = (D1 ka.cond kb.cond)[j] := ⟨_, rfl⟩
          have HDJ := Lib.hid hd
          have KI : Hid (∀ v, Below wr.heap.size wr v → ((v.cell? ⟨w.heap.size, 0, none⟩ = some (.int .i64 ka.op) ∧ v.cell? ⟨w.heap.size, 1, none⟩ = some (.string ka.nm) ∧ v.cell? ⟨w.heap.size, 2, none⟩ = some (.int .i64 ka.day) ∧ v.cell? ⟨w.heap.size, 3, none⟩ = some (.slice ka.A ka.ps.length ka.cap)) ∧ v.cell? ⟨w.heap.size + 1, 0, none⟩ = some (.int .i64 kb.op) ∧ v.cell? ⟨w.heap.size + 1, 1, none⟩ = some (.string kb.nm) ∧ v.cell? ⟨w.heap.size + 1, 2, none⟩ = some (.int .i64 kb.day) ∧ v.cell? ⟨w.heap.size + 1, 3, none⟩ = some (.slice kb.A kb.ps.length kb.cap)) ∧ v.cell? ⟨g5, j, none⟩ = some (.int .i64 d)) := Lib.hid fun v hv => ⟨KX.out v (BXI.out.trans (hv.mono BXI.out.size)), by rw [hd]; exact own_cellI (row_on (row_on OE.out BEI.out) hv) NE.out hj1⟩
          have HH : Hid (∀ (q : Q) (k : K) v, k.cond = q.c → Lies v v.heap.size k → Below wr.heap.size wr v → Calls Try.prog 42 #[k.val, .slice (some ⟨g6, 0, none⟩) n6 c6, .int .i64 d] v fun e w' => e = .returned (.bool (hv (NN ka.cond kb.cond) m q d)) ∧ Below v.heap.size v w') := Lib.hid fun q k v hk hin hv => l5Holds (some ⟨g6, 0, none⟩) n6 c6 _ d wr HN6.out (by omega) ((HF6.out.below HBI.out).more HBI.out.size) q k v hv hk hin
          have HA1 := Lib.hid fun v (hv : Below wr.heap.size wr v) => HH.out qa ka v HQ.out.1 (HLA.out v (BXI.out.trans (hv.mono BXI.out.size))) hv
          have HB1 := Lib.hid fun v (hv : Below wr.heap.size wr v) => HH.out qb kb v HQ.out.2 (HLB.out v (BXI.out.trans (hv.mono BXI.out.size))) hv
          obtain ⟨ra, hra⟩ : ∃ x, x = hv (NN ka.cond kb.cond) m qa d := ⟨_, rfl⟩
          obtain ⟨rb, hrb⟩ : ∃ x, x = hv (NN ka.cond kb.cond) m qb d := ⟨_, rfl⟩
          rw [← hra] at HA1
          rw [← hrb] at HB1
          have HRA := Lib.hid hra
          have HRB := Lib.hid hrb
          have i0 : (0 : Int) ≤ (j : Int) := by omega
          have i1 : (j : Int) < (n5 : Int) := by omega
          have hc0 := KI.out wr (Below.refl _ _)
          clear HH hra hrb hd
          have HNO : Hid (ra = true → rb = false → imp qa qb (NN ka.cond kb.cond) (DD ka.cond kb.cond) = false) := Lib.hid fun h1 h2 => imp_no (m := m) (d := d) (by rw [← NB.out, ← HM.out]; exact hlt) ((mem_D1 _ _ _).1 (by rw [HDJ.out]; exact List.getElem_mem hj1)) (by rw [← HRA.out]; exact h1) (by rw [← HRB.out]; exact h2)
          have HOK : Hid ((ra = true → rb = true) → ∀ j', j' < j + 1 → ∀ h : j' < (D1 ka.cond kb.cond).length, okAt qa qb (NN ka.cond kb.cond) m (D1 ka.cond kb.cond)[j']) := Lib.hid fun h0 j' h1 h => by
            by_cases e : j' = j
            · subst e
              unfold okAt
              rw [← HDJ.out, ← HRA.out, ← HRB.out]; exact h0
            · exact HJJ.out j' (by omega) h
          cases ra
          · have HOJ := Lib.hid (HOK.out (fun h => by cases h))
            clear HOK HNO
            go_wp2_with fail
            first | (go_region_with (go_at_call 42; refine (HA1.out _ (by (repeat (first | exact Below.refl _ _ | apply Below.drew)))).mono ?_; rintro e wx ⟨rfl, hb⟩; have c1b : Below wr.heap.size wr wx := Below.trans (by (repeat (first | exact Below.refl _ _ | apply Below.drew))) (hb.mono (by first | omega | (simp; done) | (simp; omega))); clear hb)) | fail
            all_goals go_wp2_with fail
            all_goals go_roundw
            all_goals first
              | exact ⟨j + 1, by omega, by go_num, HOJ, Lib.hid (HBI.out.trans (c1b.mono HBI.out.size))⟩
              | (simp [intOf]; omega)
          · cases rb
            · have HNF := Lib.hid (HNO.out rfl rfl)
              clear HOK HNO
              go_wp2_with fail
              go_region_held3 (fun v => ((v.cell? ⟨w.heap.size, 0, none⟩ = some (.int .i64 ka.op) ∧ v.cell? ⟨w.heap.size, 1, none⟩ = some (.string ka.nm) ∧ v.cell? ⟨w.heap.size, 2, none⟩ = some (.int .i64 ka.day) ∧ v.cell? ⟨w.heap.size, 3, none⟩ = some (.slice ka.A ka.ps.length ka.cap)) ∧ v.cell? ⟨w.heap.size + 1, 0, none⟩ = some (.int .i64 kb.op) ∧ v.cell? ⟨w.heap.size + 1, 1, none⟩ = some (.string kb.nm) ∧ v.cell? ⟨w.heap.size + 1, 2, none⟩ = some (.int .i64 kb.day) ∧ v.cell? ⟨w.heap.size + 1, 3, none⟩ = some (.slice kb.A kb.ps.length kb.cap)) ∧ v.cell? ⟨g5, j, none⟩ = some (.int .i64 d)) (first | (refine KI.out _ ?_; (repeat (first | exact Below.refl _ _ | exact c2b | exact c1b | apply Below.drew)); done))
                (first
                  | (go_at_call 42; (with_reducible refine (HA1.out _ (by (repeat (first | exact Below.refl _ _ | apply Below.drew)))).mono ?_); rintro e wx ⟨rfl, hb⟩; have c1b : Below wr.heap.size wr wx := Below.trans (by (repeat (first | exact Below.refl _ _ | apply Below.drew))) (hb.mono (by first | omega | (simp; done) | (simp; omega))); clear hb)
                  | (go_at_call 42; (with_reducible refine (HB1.out _ (by (repeat (first | exact Below.refl _ _ | exact c1b | apply Below.drew)))).mono ?_); rintro e wy ⟨rfl, hb⟩; have c2b : Below wr.heap.size wr wy := Below.trans (by (repeat (first | exact Below.refl _ _ | exact c1b | apply Below.drew))) (hb.mono (by have := c1b.size; first | omega | (simp; omega))); clear hb))
              all_goals go_wp2_with fail
              all_goals go_ret
              all_goals exact ⟨by rw [HNF.out]; rfl, (B0.out.trans ((BXI.out.trans (c2b.mono BXI.out.size)).mono B0.out.size))⟩
            · have HOJ := Lib.hid (HOK.out (fun _ => rfl))
              clear HOK HNO
              go_wp2_with fail
              go_region_held3 (fun v => ((v.cell? ⟨w.heap.size, 0, none⟩ = some (.int .i64 ka.op) ∧ v.cell? ⟨w.heap.size, 1, none⟩ = some (.string ka.nm) ∧ v.cell? ⟨w.heap.size, 2, none⟩ = some (.int .i64 ka.day) ∧ v.cell? ⟨w.heap.size, 3, none⟩ = some (.slice ka.A ka.ps.length ka.cap)) ∧ v.cell? ⟨w.heap.size + 1, 0, none⟩ = some (.int .i64 kb.op) ∧ v.cell? ⟨w.heap.size + 1, 1, none⟩ = some (.string kb.nm) ∧ v.cell? ⟨w.heap.size + 1, 2, none⟩ = some (.int .i64 kb.day) ∧ v.cell? ⟨w.heap.size + 1, 3, none⟩ = some (.slice kb.A kb.ps.length kb.cap)) ∧ v.cell? ⟨g5, j, none⟩ = some (.int .i64 d)) (first | (refine KI.out _ ?_; (repeat (first | exact Below.refl _ _ | exact c2b | exact c1b | apply Below.drew)); done))
                (first
                  | (go_at_call 42; (with_reducible refine (HA1.out _ (by (repeat (first | exact Below.refl _ _ | apply Below.drew)))).mono ?_); rintro e wx ⟨rfl, hb⟩; have c1b : Below wr.heap.size wr wx := Below.trans (by (repeat (first | exact Below.refl _ _ | apply Below.drew))) (hb.mono (by first | omega | (simp; done) | (simp; omega))); clear hb)
                  | (go_at_call 42; (with_reducible refine (HB1.out _ (by (repeat (first | exact Below.refl _ _ | exact c1b | apply Below.drew)))).mono ?_); rintro e wy ⟨rfl, hb⟩; have c2b : Below wr.heap.size wr wy := Below.trans (by (repeat (first | exact Below.refl _ _ | exact c1b | apply Below.drew))) (hb.mono (by have := c1b.size; first | omega | (simp; omega))); clear hb))
              all_goals go_wp2_with fail
              all_goals go_roundw
              all_goals first
                | exact ⟨j + 1, by omega, by go_num, HOJ, Lib.hid (HBI.out.trans (c2b.mono HBI.out.size))⟩
                | (simp [intOf]; omega)
        · have HNX : Hid (∀ m', m' < m + 1 → ∀ d ∈ D1 ka.cond kb.cond, okAt qa qb (NN ka.cond kb.cond) m' d) := Lib.hid fun m' h d hd => by
            by_cases e : m' = m
            · subst e
              obtain ⟨j', hj', rfl⟩ := List.mem_iff_getElem.1 hd
              exact HJJ.out j' (by have := NE.out; omega) hj'
            · exact HJ.out m' (by omega) d hd
          go_wp2_with fail
          go_roundw
          all_goals first
            | exact ⟨m + 1, by omega, by go_num, HNX, BEI⟩
            | (simp [intOf]; omega)
    · have HYES : Hid (imp qa qb (NN ka.cond kb.cond) (DD ka.cond kb.cond) = true) := Lib.hid (by
        rw [← imp_mem (fun d => mem_D1 ka.cond kb.cond d)]
        exact imp_yes fun m' h d hd => HJ.out m' (by have := HM.out; have := NB.out; rw [← NB.out, ← HM.out] at h; omega) d hd)
      go_wp2_with fail
      go_ret
      exact ⟨by rw [HYES.out]; rfl, HBW.out⟩

end Go.Proofs.Ythdiiocgemomoaa.Cond
