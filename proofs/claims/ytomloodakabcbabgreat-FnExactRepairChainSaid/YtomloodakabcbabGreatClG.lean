/-
  Valid contracts by the model: l6Parties, l6Names.
-/
import Derived.Test.YtomloodakabcbabGreatClS
import Derived.Deep.RegionHeld3
namespace Go.Proofs.YtomloodakabcbabGreat.Cl
open Go.RowKit Go.Proofs.YtomloodakabcbabGreat.Cond Go.Proofs.YtomloodakabcbabGreat.Gx Go.Proofs.YtomloodakabcbabGreat.NdS
set_option linter.unusedVariables false
set_option linter.unusedSimpArgs false

theorem is_prefix {w : World} {B : Nat} {A : Option Addr} {ss : List ByteArray} (h : Row.Is w B A ss) (k : Nat) : Row.Is w B A (ss.take k) := fun hp => by
  obtain ⟨ad, e, hB, hc⟩ := h (by have := List.length_take (i := k) (l := ss); omega)
  exact ⟨ad, e, hB, fun j hj => by
    have hj' : j < ss.length := by have := List.length_take (i := k) (l := ss); omega
    rw [List.getElem_take]; exact hc j hj'⟩
/-- The first k parties are names, each another. -/
def nOk (ss : List ByteArray) (k : Nat) : Prop := ∀ i, ∀ h : i < ss.length, i < k → isNm ss[i] = true ∧ has (ss.take i) ss[i] = false
theorem okN_no {ss : List ByteArray} {k : Nat} (hk : k < ss.length) (h : isNm ss[k] = false ∨ has (ss.take k) ss[k] = true) : okN ss = false := by
  unfold okN
  refine decide_eq_false fun hh => ?_
  obtain ⟨h1, h2⟩ := hh k hk
  rcases h with h | h
  · rw [h1] at h; cases h
  · rw [h2] at h; cases h
theorem okN_yes {ss : List ByteArray} (h : nOk ss ss.length) : okN ss = true := decide_eq_true fun i hi => h i hi hi

set_option maxHeartbeats 4000000 in
theorem l6Parties (x : Kt) (w : World) (h : LiC w w.heap.size x) (hn : x.n1 ≤ 1048576) (ok : Bool) (hok : ok = (okN x.ss && (decide (2 ≤ x.ss.length) && decide (x.ss.length ≤ 4)))) :
    Calls Tryz.prog 29 #[x.val] w fun e w' => e = .returned (.bool ok) ∧ Below w.heap.size w w' := by
  obtain ⟨X, hX⟩ : ∃ X, X = w.alloc (.cells #[.slice x.A1 x.n1 x.c1, .slice x.A2 x.n2 x.c2] 32) := ⟨_, rfl⟩
  have B0 : Below w.heap.size w X := by rw [hX]; exact below1 _ _
  have HP := Lib.hid ((h.p.below B0).more B0.size)
  have P0 : Hid (Bk w.heap.size X [.slice x.A1 x.n1 x.c1, .slice x.A2 x.n2 x.c2]) := Lib.hid (by rw [hX]; exact Bk.new _ _ _)
  have HB := Lib.hid B0
  have HX := Lib.hid hX
  have HOK := Lib.hid hok
  have HLN := Lib.hid h.p.len
  have hnc := h.p.nc
  clear h B0 hX hok
  go_enter Tryz.func29, Tryz.ntmps29
  go_wp2_with fail
  go_loopw [3] (fun i wr => ∃ k : Nat, k ≤ x.n1 ∧ i = .int .i64 k ∧ Hid (nOk x.ss k) ∧ Hid (Below X.heap.size X wr)) (fun i _ => x.n1 - (intOf i).toNat)
  case atStart => exact ⟨0, Nat.zero_le _, rfl, Lib.hid fun i _ h => by omega, by rw [← HX.out]; exact Lib.hid (Below.refl _ _)⟩
  case round =>
    obtain ⟨k, hk, rfl, HK, HB2⟩ := hrel
    have p0 := (P0.out.on HB2.out).c 0 (by simp)
    simp only [List.getElem_cons_zero] at p0
    have HBW := Lib.hid (HB.out.trans (HB2.out.mono HB.out.size))
    by_cases hlt : k < x.n1
    · have hk' : k < x.ss.length := by have := HLN.out; omega
      obtain ⟨ad, e, hB, hc⟩ := HP.out.is (by omega)
      obtain ⟨p, hp⟩ : ∃ p, p = x.ss[k] := ⟨_, rfl⟩
      have had := HP.out.sp ad e (by omega)
      obtain ⟨b, oo, had2⟩ : ∃ b oo, ad = ⟨b, oo, none⟩ := ⟨_, _, had⟩
      have hcell : wr.cell? ⟨b, oo + k, none⟩ = some (.string p) := by
        rw [hp, ← World.cell?_of_block (HB2.out.block b (by rw [had2] at hB; exact hB)) |>.symm]
        have := hc k hk'
        rw [had2, add_none] at this
        exact this
      rw [e, had2] at p0
      have HPP := Lib.hid hp
      have i0 : (0 : Int) ≤ (k : Int) := by omega
      have i1 : (k : Int) < (x.n1 : Int) := by omega
      have i2 : (k : Int) ≤ (x.c1 : Int) := by omega
      have HHAS : Hid (∀ v, Below wr.heap.size wr v → Calls Tryz.prog 45 #[.slice (some ⟨b, oo, none⟩) k x.c1, .string p] v fun e w' => e = .returned (.bool (has (x.ss.take k) p)) ∧ ∃ m, w' = v.drewN m) := Lib.hid fun v hv =>
        (l5Has (some ⟨b, oo, none⟩) k x.c1 (x.ss.take k) p X.heap.size v (by rw [List.length_take]; omega) (by omega) (by rw [← had2, ← e]; exact ((is_prefix HP.out.is k).below (HB2.out.trans (hv.mono HB2.out.size))))).mono fun e w' ⟨he, hw⟩ => ⟨he, 0, hw.symm⟩
      obtain ⟨t, ht⟩ : ∃ t, t = isNm p := ⟨_, rfl⟩
      obtain ⟨u, hu⟩ : ∃ u, u = has (x.ss.take k) p := ⟨_, rfl⟩
      rw [← hu] at HHAS
      have HNM : Hid (∀ v, Calls Tryz.prog 44 #[.string p] v fun e w' => e = .returned (.bool t) ∧ ∃ m, w' = v.drewN m) := Lib.hid fun v => by rw [ht]; exact (l5Name p v).mono fun e w' ⟨he, hw⟩ => ⟨he, 0, hw.symm⟩
      have HTU := Lib.hid (And.intro ht hu)
      clear hp hc e hB had had2 ht hu
      cases t
      · have HO : Hid (ok = false) := Lib.hid (by rw [HOK.out, okN_no hk' (.inl (by rw [← HPP.out, ← HTU.out.1]))]; rfl)
        go_wp2_with fail
        go_quiet ((go_at_call 44; with_reducible exact Calls.quiet_of (HNM.out _)))
        go_wp2_with fail
        go_ret
        exact ⟨by rw [HO.out]; rfl, below_drewN HBW.out _⟩
      cases u
      · have HK2 : Hid (nOk x.ss (k + 1)) := Lib.hid fun j hj hjk => by
          by_cases e : j = k
          · subst e; rw [← HPP.out]; exact ⟨HTU.out.1.symm, HTU.out.2.symm⟩
          · exact HK.out j hj (by omega)
        go_wp2_with fail
        go_quiet ((first | (go_at_call 44; with_reducible exact Calls.quiet_of (HNM.out _)) | (go_at_call 45; with_reducible exact Calls.quiet_of (HHAS.out _ (below_drewN (Below.refl _ _) _)))))
        go_wp2_with fail
        go_roundw
        case rel => exact ⟨k + 1, by omega, by go_num, HK2, Lib.hid (below_drewN HB2.out _)⟩
        case measure => simp [intOf]; omega
      · have HO : Hid (ok = false) := Lib.hid (by rw [HOK.out, okN_no hk' (.inr (by rw [← HPP.out, ← HTU.out.2]))]; rfl)
        go_wp2_with fail
        go_quiet ((first | (go_at_call 44; with_reducible exact Calls.quiet_of (HNM.out _)) | (go_at_call 45; with_reducible exact Calls.quiet_of (HHAS.out _ (below_drewN (Below.refl _ _) _)))))
        go_wp2_with fail
        go_ret
        exact ⟨by rw [HO.out]; rfl, below_drewN HBW.out _⟩
    · have HO : Hid (ok = (decide (2 ≤ x.ss.length) && decide (x.ss.length ≤ 4))) := Lib.hid (by rw [HOK.out, okN_yes (fun i hi _ => HK.out i hi (by have := HLN.out; omega)), Bool.true_and])
      have HIN : Hid (∀ v, Calls Tryz.prog 16 #[.int .i64 (x.n1 : Int), .int .i64 2, .int .i64 4] v fun e w' => e = .returned (.bool ok) ∧ v = w') := Lib.hid fun v => by
        have := l1In (x.n1 : Int) 2 4 v
        have e1 : decide ((2 : Int) ≤ (x.n1 : Int)) = decide (2 ≤ x.ss.length) := decide_eq_decide.2 (by have := HLN.out; omega)
        have e2 : decide ((x.n1 : Int) ≤ 4) = decide (x.ss.length ≤ 4) := decide_eq_decide.2 (by have := HLN.out; omega)
        rw [e1, e2, ← HO.out] at this
        exact this
      go_wp2_with (go_at_call 16; refine (HIN.out _).mono ?_; rintro e w' ⟨rfl, rfl⟩)
      go_ret
      exact ⟨rfl, HBW.out⟩

theorem own_on {S : Nat} {w w' : World} {v : Value} {zs : List (List UInt8)} (h : UniT.Own w S v zs) (hb : Below w.heap.size w w') : UniT.Own w' S v zs :=
  h.kept (row := none) ⟨hb.os, hb.tape, hb.output, hb.size, fun j hj _ => hb.block j hj⟩ (by cases hv : v.ownBlock <;> simp)
theorem nms_take {x : Kt} {k : Nat} {p : M} (h : CAt x k p) : names (x.ct.ls.take (k + 1)) = UniTM.uni (UniTM.putL (names (x.ct.ls.take k)) p.act.toList) (nms p.k.cond) := by
  obtain ⟨h1, h2⟩ := h.cl
  rw [names_step h1, h2]
  rfl
theorem str_back (s : ByteArray) : (⟨s.toList.toArray⟩ : ByteArray) = s := by rw [Go.ByteArray.toList_eq]

set_option maxRecDepth 100000 in
set_option maxHeartbeats 8000000 in
theorem l6Names (x : Kt) (w : World) (h : LiC w w.heap.size x) (hl : x.n2 ≤ 12) (hg : ∀ m ∈ x.ms, m.k.cond.size ≤ 15) :
    Calls Tryz.prog 32 #[x.val] w (UniT.PutAns w.heap.size (names x.ct.ls) w) := by
  obtain ⟨X, hX⟩ : ∃ X, X = (w.alloc (.cells #[.slice x.A1 x.n1 x.c1, .slice x.A2 x.n2 x.c2] 32)).alloc (.cells #[] 9) := ⟨_, rfl⟩
  have B0 : Below w.heap.size w X := by rw [hX]; exact (below1 _ _).alloc (by simp) _
  have HL := Lib.hid (h.on B0)
  have P0 : Hid (Bk w.heap.size X [.slice x.A1 x.n1 x.c1, .slice x.A2 x.n2 x.c2]) := Lib.hid (by rw [hX]; exact (Bk.new w #[.slice x.A1 x.n1 x.c1, .slice x.A2 x.n2 x.c2] 32).alloc _)
  have O0 : Hid (UniT.Own X w.heap.size (.slice (some ⟨w.heap.size + 1, 0, none⟩) 0 0) []) := Lib.hid (by
    have := World.ownsRow_lit (base := w.heap.size) (e := 9) (size := 1) (w.alloc (.cells #[.slice x.A1 x.n1 x.c1, .slice x.A2 x.n2 x.c2] 32)) #[] 0 (by simp) (by decide) (by simp)
    rw [World.size_alloc] at this
    rw [hX]
    simpa [UniT.Own] using this)
  have HB := Lib.hid B0
  have HX := Lib.hid hX
  have HG := Lib.hid hg
  have HLN := Lib.hid h.c.len
  have SX : Hid (w.heap.size ≤ X.heap.size) := Lib.hid B0.size
  clear h B0 hX hg
  go_enter Tryz.func32, Tryz.ntmps32
  go_wp2_with fail
  go_loopw [3, 4] (fun l i wr => ∃ (k g n c : Nat) (zs : List (List UInt8)), k ≤ x.n2 ∧ i = .int .i64 k ∧ l = .slice (some ⟨g, 0, none⟩) n c ∧ n ≤ 20 * k ∧ Hid (n = zs.length ∧ zs = names (x.ct.ls.take k) ∧ UniT.Own wr w.heap.size (.slice (some ⟨g, 0, none⟩) n c) zs) ∧ Hid (Below X.heap.size X wr)) (fun _ i _ => x.n2 - (intOf i).toNat)
  case atStart => exact ⟨0, _, 0, 0, [], Nat.zero_le _, rfl, rfl, Nat.le_refl _, Lib.hid ⟨rfl, by simp [names, nmsC, UniTM.uni], by rw [← HX.out]; exact O0.out⟩, by rw [← HX.out]; exact Lib.hid (Below.refl _ _)⟩
  case round =>
    clear O0
    obtain ⟨k, g, n, c, zs, hk, rfl, rfl, hn, HZ, HB2⟩ := hrel
    have p1 := (P0.out.on HB2.out).c 1 (by simp)
    simp only [List.getElem_cons_succ, List.getElem_cons_zero] at p1
    have HBW := Lib.hid (HB.out.trans (HB2.out.mono HB.out.size))
    by_cases hlt : k < x.n2
    · have hk' : k < x.ms.length := by have := HLN.out; omega
      obtain ⟨b, o, e, hB, hc⟩ := HL.out.c.at_ (by omega)
      obtain ⟨p, hp⟩ : ∃ p, p = x.ms[k] := ⟨_, rfl⟩
      have HCP : Hid (CAt x k p) := Lib.hid ⟨hk', hp⟩
      have hE := (hc k hk').alike (HB2.out.block b hB)
      rw [← hp] at hE
      obtain ⟨-, -, -, c3, -, -, c6, c7, c8, c9, -, -⟩ := e12 hE
      rw [e] at p1
      have hbw : b < wr.heap.size := Nat.lt_of_lt_of_le hB HB2.out.size
      have KX : Hid (∀ v, Below wr.heap.size wr v → v.cell? ⟨w.heap.size, 1, none⟩ = some (.slice (some ⟨b, o, none⟩) x.n2 x.c2) ∧ v.cell? ⟨b, o + k * 12 + 3, none⟩ = some (.string p.act) ∧ v.cell? ⟨b, o + k * 12 + 6, none⟩ = some (.int .i64 p.k.op) ∧ v.cell? ⟨b, o + k * 12 + 7, none⟩ = some (.string p.k.nm) ∧ v.cell? ⟨b, o + k * 12 + 8, none⟩ = some (.int .i64 p.k.day) ∧ v.cell? ⟨b, o + k * 12 + 9, none⟩ = some (.slice p.k.A p.k.ps.length p.k.cap)) := Lib.hid fun v hv => by
        have hw1 : w.heap.size < wr.heap.size := (P0.out.on HB2.out).lt
        exact ⟨(hv.cell (p := ⟨w.heap.size, 1, none⟩) hw1).trans p1, (hv.cell (p := ⟨b, o + k * 12 + 3, none⟩) hbw).trans c3, (hv.cell (p := ⟨b, o + k * 12 + 6, none⟩) hbw).trans c6, (hv.cell (p := ⟨b, o + k * 12 + 7, none⟩) hbw).trans c7, (hv.cell (p := ⟨b, o + k * 12 + 8, none⟩) hbw).trans c8, (hv.cell (p := ⟨b, o + k * 12 + 9, none⟩) hbw).trans c9⟩
      have hgp : p.k.cond.size ≤ 15 := by rw [hp]; exact HG.out _ (List.getElem_mem hk')
      have HPUT : Hid (∀ v, Below wr.heap.size wr v → Calls Tryz.prog 48 #[.slice (some ⟨g, 0, none⟩) n c, .string p.act] v (UniT.PutAns w.heap.size (UniTM.putL zs p.act.toList) v)) := Lib.hid fun v hv => by
        have := UniT.l5Put g n c zs p.act.toList v w.heap.size HZ.out.1 (by omega) (by have := HBW.out.size; have := hv.size; omega) (own_on HZ.out.2.2 hv)
        rw [str_back] at this
        exact this
      have HNMS : Hid (∀ v wa g3 n3 c3, Below wr.heap.size wr wa → n3 = (UniTM.putL zs p.act.toList).length → UniT.Own wa w.heap.size (.slice (some ⟨g3, 0, none⟩) n3 c3) (UniTM.putL zs p.act.toList) → Below wa.heap.size wa v → Calls Tryz.prog 47 #[.slice (some ⟨g3, 0, none⟩) n3 c3, p.k.val] v (UniT.PutAns w.heap.size (UniTM.uni (UniTM.putL zs p.act.toList) (nms p.k.cond)) v)) := Lib.hid fun v wa g3 n3 c3 ha hn3 ho hv => by
        have hzl := UniTM.length_putL zs p.act.toList
        have h1 := HZ.out.1
        exact NdS.l5Names p.k g3 n3 c3 (UniTM.putL zs p.act.toList) v w.heap.size hn3 (by omega) (by have := HBW.out.size; have := ha.size; have := hv.size; omega) (own_on ho hv) (((HL.out.clause HCP.out).k.on (HB2.out.trans (ha.mono HB2.out.size))).on hv)
      have HLE : Hid (n = zs.length ∧ zs = names (x.ct.ls.take k)) := Lib.hid ⟨HZ.out.1, HZ.out.2.1⟩
      have i0 : (0 : Int) ≤ (k : Int) := by omega
      have i1 : (k : Int) < (x.n2 : Int) := by omega
      have hcells := KX.out wr (Below.refl _ _)
      obtain ⟨e0, e1, e2, e3, e4, e5⟩ := hcells
      clear hp hc hE e hB hbw c3 c6 c7 c8 c9 p1 HZ
      go_wp2_with fail
      go_region_held3 (fun v => v.cell? ⟨w.heap.size, 1, none⟩ = some (.slice (some ⟨b, o, none⟩) x.n2 x.c2) ∧ v.cell? ⟨b, o + k * 12 + 3, none⟩ = some (.string p.act) ∧ v.cell? ⟨b, o + k * 12 + 6, none⟩ = some (.int .i64 p.k.op) ∧ v.cell? ⟨b, o + k * 12 + 7, none⟩ = some (.string p.k.nm) ∧ v.cell? ⟨b, o + k * 12 + 8, none⟩ = some (.int .i64 p.k.day) ∧ v.cell? ⟨b, o + k * 12 + 9, none⟩ = some (.slice p.k.A p.k.ps.length p.k.cap)) (first | (refine KX.out _ ?_; (repeat (first | exact Below.refl _ _ | exact b2 | exact b1 | apply Below.drew)); done))
        (first
          | (go_at_call 48; (with_reducible refine (HPUT.out _ (by (repeat (first | exact Below.refl _ _ | exact b2 | exact b1 | apply Below.drew)))).mono ?_); rintro e wa ⟨g3, n3, c3, hn3, rfl, hown, hb⟩; have HN3 := Lib.hid hn3; have OW := Lib.hid hown; have b1 : Below wr.heap.size wr wa := (Below.trans (by (repeat (first | exact Below.refl _ _ | exact b2 | exact b1 | apply Below.drew))) (hb.mono (by first | omega | (simp; done) | (simp; omega) | exact b1.size | (have := b1.size; simp; omega)))); clear hb hown hn3)
          | (go_at_call 47; (with_reducible refine (HNMS.out _ _ g3 n3 c3 b1 HN3.out OW.out (by (repeat (first | exact Below.refl _ _ | apply Below.drew)))).mono ?_); rintro e wb ⟨g4, n4, c4, hn4, rfl, hown2, hb⟩; have HN4 := Lib.hid hn4; have OW2 := Lib.hid hown2; have b2 : Below wr.heap.size wr wb := (Below.trans (by (repeat (first | exact Below.refl _ _ | exact b2 | exact b1 | apply Below.drew))) (hb.mono (by first | omega | (simp; done) | (simp; omega) | exact b1.size | (have := b1.size; simp; omega)))); clear hb hown2 hn4))
      all_goals clear e0 e1 e2 e3 e4 e5 KX HPUT HNMS
      all_goals
        have HF : Hid (n4 = (names (x.ct.ls.take (k + 1))).length ∧ UniT.Own wb w.heap.size (.slice (some ⟨g4, 0, none⟩) n4 c4) (names (x.ct.ls.take (k + 1)))) := Lib.hid (by
          have e1 : UniTM.uni (UniTM.putL zs p.act.toList) (nms p.k.cond) = names (x.ct.ls.take (k + 1)) := by rw [nms_take HCP.out, HLE.out.2]
          exact ⟨by rw [← e1]; exact HN4.out, by rw [← e1]; exact OW2.out⟩)
        have hn4' : n4 ≤ 20 * (k + 1) := by
          have h1 := UniTM.length_putL zs p.act.toList
          have h2 := UniTM.length_uni (nms p.k.cond) (UniTM.putL zs p.act.toList)
          have h3 := nms_len p.k.cond
          have h4 := HLE.out.1
          have h5 := HN4.out
          omega
        have B9 := Lib.hid (HB2.out.trans (b2.mono HB2.out.size))
        clear b2 HN4 OW2
        go_wp2_with fail
        go_roundw
        case rel => exact ⟨k + 1, g4, n4, c4, _, by omega, by go_num, rfl, hn4', Lib.hid ⟨HF.out.1, rfl, HF.out.2⟩, B9⟩
        case measure => simp [intOf]; omega
    · have HE : Hid (zs = names x.ct.ls) := Lib.hid (by rw [HZ.out.2.1, List.take_of_length_le (by have := HLN.out; simp [Kt.ct]; omega)])
      go_wp2_with fail
      go_ret
      exact ⟨g, n, c, by rw [← HE.out]; exact HZ.out.1, rfl, by rw [← HE.out]; exact HZ.out.2.2, HBW.out⟩

end Go.Proofs.YtomloodakabcbabGreat.Cl
