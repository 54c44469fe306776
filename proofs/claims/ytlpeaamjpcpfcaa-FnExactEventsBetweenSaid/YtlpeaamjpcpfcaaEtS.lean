/-
  A shifted event list: both ShiftEvents.
-/
import Derived.Test.YtlpeaamjpcpfcaaEtT
namespace Go.Proofs.Ytlpeaamjpcpfcaa.Et
open Go.RowKit Go.Proofs.Ytlpeaamjpcpfcaa.Cond Go.Proofs.Ytlpeaamjpcpfcaa.Gx
set_option linter.unusedVariables false
set_option linter.unusedSimpArgs false

/-- What ShiftEvents asks. -/
def shOk (ms : List E) (p d : Int) : Prop := goodE ms p ∧ (-36524 ≤ d ∧ d ≤ 36524) ∧ goodE (ms.map (shE d)) p

theorem good_day {ms : List E} {p : Int} (h : goodE ms p) {m : E} (hm : m ∈ ms) : 0 ≤ m.day ∧ m.day ≤ 36524 := by
  have h2 := h.2
  simp only [valE, Bool.and_eq_true, decide_eq_true_eq, List.all_eq_true, okE] at h2
  have := (h2.2.2 m hm).1
  simpa [isDy] using this
theorem good_act {ms : List E} {p : Int} (h : goodE ms p) {m : E} (hm : m ∈ ms) : m.act.size ≤ 8 := by
  have h2 := h.2
  simp only [valE, Bool.and_eq_true, decide_eq_true_eq, List.all_eq_true, okE] at h2
  have := (h2.2.2 m hm).2.2.1
  simp only [isNm, Bool.and_eq_true, decide_eq_true_eq] at this
  omega

set_option maxRecDepth 100000 in
set_option maxHeartbeats 8000000 in
theorem specSH (A : Option Addr) (n cap : Nat) (ms : List E) (p d : Int) (hp : -9223372036854775808 ≤ p) (hp2 : p ≤ 9223372036854775807) (hd : -9223372036854775808 ≤ d) (hd2 : d ≤ 9223372036854775807) (t : Bool) (ht : t = true ↔ shOk ms p d) (w : World) (h : LiE w w.heap.size A n cap ms) :
    Calls Try.prog 23 #[.slice A n cap, .int .i64 p, .int .i64 d] w (EAns w.heap.size (if t then ms.map (shE d) else []) t w) := by
  obtain ⟨t1, ht1⟩ := t_iff (goodE ms p)
  obtain ⟨t2, ht2⟩ : ∃ t, t = (decide (-36524 ≤ d) && decide (d ≤ 36524)) := ⟨_, rfl⟩
  obtain ⟨X, hX⟩ : ∃ X, X = w.alloc (.cells #[] 47) := ⟨_, rfl⟩
  have B0 : Below w.heap.size w X := by rw [hX]; exact below1 _ _
  have HG := Lib.hid (l8Good A n cap ms p hp hp2 t1 ht1 X (h.on B0))
  have HIN : Hid (∀ v, Calls Try.prog 56 #[.int .i64 d, .int .i64 (-36524), .int .i64 36524] v fun e w' => e = .returned (.bool t2) ∧ w' = v) := Lib.hid fun v => by rw [ht2]; exact (l1In _ _ _ v).mono fun e w' ⟨he, hw⟩ => ⟨he, hw.symm⟩
  have HO0 : Hid (OwnE X w.heap.size (.slice (some ⟨w.heap.size, 0, none⟩) 0 0) []) := Lib.hid (by rw [hX]; exact OwnE.new (Nat.le_refl _))
  have HN := Lib.hid h.len
  have HL := Lib.hid h
  have HT := Lib.hid (And.intro ht (And.intro ht1 ht2))
  have HB0 := Lib.hid B0
  have HX := Lib.hid hX
  have hnl : n ≤ 9223372036854775807 := h.n1
  obtain ⟨D, hD⟩ : ∃ D, D = if t then ms.map (shE d) else [] := ⟨_, rfl⟩
  have HD := Lib.hid hD
  rw [← hD]
  have HNO : Hid (∀ (g : Nat) (v : World), t = false → OwnE v w.heap.size (.slice (some ⟨g, 0, none⟩) 0 0) [] → Below w.heap.size w v → EAns w.heap.size D t w (.returned (.tuple #[.slice (some ⟨g, 0, none⟩) 0 0, .bool false])) v) := Lib.hid fun g v e ho hb => by
    subst e
    rw [HD.out]
    exact ⟨g, 0, 0, rfl, rfl, ho.re rfl (fun m hm => by simp at hm), hb⟩
  clear hD ht h B0 hX ht1 ht2
  go_enter Try.func23, Try.ntmps23
  cases t1
  · have HF : Hid (t = false) := Lib.hid (by rw [Bool.eq_false_iff]; intro e; have := HT.out.2.1.2 (HT.out.1.1 e).1; cases this)
    go_wp2_with (go_at_call 54; (try rw [← HX.out]); refine HG.out.mono ?_; rintro e w2 ⟨rfl, hb⟩)
    go_ret2
    exact HNO.out _ _ HF.out (ownK HO0.out hb) (HB0.out.trans (hb.mono HB0.out.size))
  cases t2
  · have HF : Hid (t = false) := Lib.hid (by
      rw [Bool.eq_false_iff]; intro e
      have h1 := HT.out.2.2
      have h2 := (HT.out.1.1 e).2.1
      simp [h2] at h1)
    go_wp2_with (first | (go_at_call 54; (try rw [← HX.out]); refine HG.out.mono ?_; rintro e w2 ⟨rfl, hb⟩) | (go_at_call 56; refine (HIN.out _).mono ?_; rintro e w3 ⟨rfl, hw⟩; rw [hw]; clear hw))
    go_ret2
    exact HNO.out _ _ HF.out (ownK HO0.out hb) (HB0.out.trans (hb.mono HB0.out.size))
  have HGD : Hid (goodE ms p) := Lib.hid (HT.out.2.1.1 rfl)
  have HDR : Hid (-36524 ≤ d ∧ d ≤ 36524) := Lib.hid (by simpa using HT.out.2.2.symm)
  go_wp2_with (first | (go_at_call 54; (try rw [← HX.out]); refine HG.out.mono ?_; rintro e w2 ⟨rfl, hb⟩) | (go_at_call 56; refine (HIN.out _).mono ?_; rintro e w3 ⟨rfl, hw⟩; rw [hw]; clear hw; refine Hid.out ?_))
  refine Lib.hid ?_
  have HO2 := Lib.hid (ownK HO0.out hb)
  have HB2 := Lib.hid (HB0.out.trans (hb.mono HB0.out.size))
  clear hb HO0 HG
  go_wp2_with fail
  go_loopw [8, 9] (fun v i wr => ∃ (j : Nat) (A3 : Option Addr) (c3 : Nat), j ≤ n ∧ i = .int .i64 j ∧ v = .slice A3 j c3 ∧ Hid (∃ g3, A3 = some ⟨g3, 0, none⟩) ∧ Hid (OwnE wr w.heap.size (.slice A3 j c3) ((ms.take j).map (shE d))) ∧ Hid (Below w.heap.size w wr)) (fun _ i _ => n - (intOf i).toNat)
  case atStart => exact ⟨0, _, 0, Nat.zero_le _, rfl, rfl, Lib.hid ⟨_, rfl⟩, HO2, HB2⟩
  case round =>
    obtain ⟨j, A3, c3, hj, rfl, rfl, HA3, HO3, HB⟩ := hrel
    by_cases hlt : j < n
    · obtain ⟨b, o, hj', rfl, hB, hc⟩ := HL.out.get hlt
      obtain ⟨m, hm⟩ : ∃ m, m = ms[j] := ⟨_, rfl⟩
      have hE := hc wr HB.out
      rw [← hm] at hE
      obtain ⟨c0, c1, c2, c3'⟩ := e4 hE
      have i0 : (0 : Int) ≤ (j : Int) := by omega
      have i1 : (j : Int) < (n : Int) := by omega
      have hmm : m ∈ ms := by rw [hm]; exact List.getElem_mem hj'
      have hday := good_day HGD.out hmm
      have hd1 : 0 ≤ m.day := hday.1
      have hd2 : m.day ≤ 36524 := hday.2
      have hd3 : -36524 ≤ d := HDR.out.1
      have hd4 : d ≤ 36524 := HDR.out.2
      have HTK : Hid (ms.take (j + 1) = ms.take j ++ [m]) := Lib.hid (by rw [hm]; exact List.take_succ_eq_append_getElem hj')
      obtain ⟨rs, hrs⟩ : ∃ rs, rs = (ms.take j).map (shE d) := ⟨_, rfl⟩
      rw [← hrs] at HO3
      have HRS : Hid (rs ++ [shE d m] = (ms.take (j + 1)).map (shE d)) := Lib.hid (by rw [HTK.out, List.map_append, hrs]; rfl)
      have HRL : Hid (rs.length = j) := Lib.hid (by rw [hrs, List.length_map, List.length_take]; omega)
      have hjb : j ≤ 100000 := by have := good_len HGD.out; omega
      obtain ⟨U, hU⟩ : ∃ U, U = (wr.alloc (.cells #[.int .i64 (m.day + d), .int .i64 m.party, .string m.act, .int .i64 m.amt] 47)).alloc (.cells #[.int .i64 (m.day + d), .int .i64 m.party, .string m.act, .int .i64 m.amt] 47) := ⟨_, rfl⟩
      have HBU := Lib.hid (show Below wr.heap.size wr U by rw [hU]; exact (below1 _ _).alloc (by simp) _)
      have HUO : Hid (OwnE U w.heap.size (.slice A3 j c3) rs) := Lib.hid (ownK HO3.out HBU.out)
      have HUE : Hid (El U (wr.heap.size + 1) 0 (shE d m).cells) := Lib.hid (by
        rw [hU]
        have := (Bk.new (wr.alloc (.cells #[.int .i64 (m.day + d), .int .i64 m.party, .string m.act, .int .i64 m.amt] 47)) #[.int .i64 (m.day + d), .int .i64 m.party, .string m.act, .int .i64 m.amt] 47).el
        rw [World.size_alloc] at this
        exact this)
      have HUS : Hid (w.heap.size ≤ U.heap.size) := Lib.hid (Nat.le_trans HB.out.size HBU.out.size)
      have HU := Lib.hid hU
      clear hE hc hm hmm hday hrs hU HO3
      obtain rfl : j = rs.length := HRL.out.symm
      go_wp2_with (at_builtin; (try rw [← HU.out]); refine wp_appE rfl _ _ rfl w.heap.size _ rs rfl HUO.out (wr.heap.size + 1) 1 (shE d m) rfl HUE.out (by omega) HUS.out ?_; intro a3 c4 w3 hown hg hat; refine Hid.out ?_)
      refine Lib.hid ?_
      have hb3 : Below w.heap.size w w3 := (HB.out.trans (HBU.out.mono HB.out.size)).grown hg HUS.out (fun k hk => (ownE_lt HUO.out hk).1)
      have HA4 : Hid (∃ g3, a3 = some ⟨g3, 0, none⟩) := Lib.hid (by
        have h0 : 0 < (rs ++ [shE d m]).length := by simp
        obtain ⟨g, e, _⟩ := own_el E.len (rs := rs ++ [shE d m]) hown h0
        exact ⟨g, e⟩)
      have HO4 : Hid (OwnE w3 w.heap.size (.slice a3 (rs.length + 1) c4) ((ms.take (rs.length + 1)).map (shE d))) := Lib.hid (by rw [← HRS.out]; exact hown)
      have HB4 := Lib.hid hb3
      clear hown hg hat hb3 HUO HUE HU HBU
      go_wp2_with fail
      go_roundw
      case rel => exact ⟨rs.length + 1, a3, c4, by omega, by go_num, rfl, HA4, HO4, HB4⟩
      case measure => simp [intOf]; omega
    · have HE : Hid (ms.take j = ms) := Lib.hid (List.take_of_length_le (by have := HN.out; omega))
      obtain rfl : j = n := by omega
      obtain ⟨g3, rfl⟩ := HA3.out
      have HRE : Hid (RE wr w.heap.size g3 j c3 (ms.map (shE d))) := Lib.hid (by
        have h := HO3.out
        rw [HE.out] at h
        exact h.re (by rw [List.length_map]; exact HN.out) (fun x hx => by
          obtain ⟨y, hy, rfl⟩ := List.mem_map.1 hx
          have := good_act HGD.out hy
          unfold maxLen; simp only [shE]; omega))
      have HT3 : t = true ↔ goodE (ms.map (shE d)) p := HT.out.1.trans ⟨fun h => h.2.2, fun h => ⟨HGD.out, HDR.out, h⟩⟩
      have HG3 := Lib.hid (l8Good (some ⟨g3, 0, none⟩) j c3 (ms.map (shE d)) p hp hp2 t HT3 wr HRE.out.wr.has)
      have HNL : Hid (j = (ms.map (shE d)).length) := Lib.hid (by rw [List.length_map]; exact HN.out)
      clear HT3
      cases t
      · go_wp2_with (go_at_call 54; refine HG3.out.mono ?_; rintro e w4 ⟨rfl, hb⟩; have HB4 := Lib.hid (HB.out.trans (hb.mono HB.out.size)); clear hb)
        go_ret2
        exact HNO.out _ _ (by first | trivial | rfl) (OwnE.new HB4.out.size) (HB4.out.alloc HB4.out.size _)
      · go_wp2_with (go_at_call 54; refine HG3.out.mono ?_; rintro e w4 ⟨rfl, hb⟩)
        go_ret2
        rw [show D = ms.map (shE d) from HD.out]
        exact ⟨g3, j, c3, HNL.out, rfl, HRE.out.on hb, HB.out.trans (hb.mono HB.out.size)⟩

set_option maxRecDepth 100000 in
set_option maxHeartbeats 8000000 in
theorem implSH (A : Option Addr) (n cap : Nat) (ms : List E) (p d : Int) (t : Bool) (ht : t = true ↔ shOk ms p d) (w : World) (h : LiE w w.heap.size A n cap ms) :
    Calls Try.prog 22 #[.slice A n cap, .int .i64 p, .int .i64 d] w (EAns w.heap.size (if t then ms.map (shE d) else []) t w) := by
  obtain ⟨t1, ht1⟩ := t_iff (goodE ms p)
  obtain ⟨X, hX⟩ : ∃ X, X = w.alloc (.cells #[.int .i64 d] 3) := ⟨_, rfl⟩
  have B0 : Below w.heap.size w X := by rw [hX]; exact below1 _ _
  have P0 : Hid (Bk w.heap.size X [.int .i64 d]) := Lib.hid (by rw [hX]; exact Bk.new _ _ _)
  have HG := Lib.hid (implValidEv A n cap ms p t1 ht1 X (h.on B0))
  have HN := Lib.hid h.len
  have HL := Lib.hid h
  have HT := Lib.hid (And.intro ht ht1)
  have HB0 := Lib.hid B0
  have HX := Lib.hid hX
  obtain ⟨D, hD⟩ : ∃ D, D = if t then ms.map (shE d) else [] := ⟨_, rfl⟩
  have HD := Lib.hid hD
  rw [← hD]
  have HNO : Hid (∀ (v : World), t = false → Below w.heap.size w v → EAns w.heap.size D t w (.returned (.tuple #[.slice (some ⟨v.heap.size, 0, none⟩) 0 0, .bool false])) (v.alloc (.cells #[] 47))) := Lib.hid fun v e hb => by
    subst e
    rw [HD.out]
    exact ⟨_, 0, 0, rfl, rfl, (OwnE.new hb.size).re rfl (fun m hm => by simp at hm), hb.alloc hb.size _⟩
  clear hD ht h B0 ht1
  have hlt : w.heap.size < X.heap.size := P0.out.lt
  have p0 := P0.out.c 0 (by simp)
  simp only [List.getElem_cons_zero] at p0
  rw [hX] at p0
  clear hX hlt
  have hmf := makeFn
  go_enter Try.func22, Try.ntmps22
  cases t1
  · have HF : Hid (t = false) := Lib.hid (by rw [Bool.eq_false_iff]; intro e; have := HT.out.2.2 (HT.out.1.1 e).1; cases this)
    go_wp2_with (go_at_call 16; (try rw [← HX.out]); refine HG.out.mono ?_; rintro e w2 ⟨rfl, hb⟩)
    go_ret2
    exact HNO.out _ HF.out (HB0.out.trans (hb.mono HB0.out.size))
  have HGD : Hid (goodE ms p) := Lib.hid (HT.out.2.1 rfl)
  by_cases hd3 : -36524 ≤ d
  · by_cases hd4 : d ≤ 36524
    · have HTR : Hid (∀ v, Below X.heap.size X v → Calls Try.prog 47 #[.slice A n cap, .func (.func 55) #[] #[.pointer (some ⟨w.heap.size, 0, none⟩)]] v fun e w' => ∃ g, Hid (g = v.heap.size) ∧ e = .returned (.slice (some ⟨g, 0, none⟩) n n) ∧ RE w' w.heap.size g n n (ms.map (shE d)) ∧ Below v.heap.size v w') := Lib.hid fun v hv => by
        have hbv := HB0.out.trans (hv.mono HB0.out.size)
        have hfs : ∀ m ∈ ms, (shE d m).act.size ≤ maxLen := fun m hm => by have := good_act HGD.out hm; unfold maxLen; simp only [shE]; omega
        have hnn : n ≤ 100000 := by have := good_len HGD.out; have := HN.out; omega
        refine (transS A n cap ms d w.heap.size v (HL.out.on hbv) hnn (fun m hm u hu => ?_) hfs).mono fun e w' ⟨he, hr, hb⟩ => ⟨v.heap.size, Lib.hid rfl, he, hr.re (by rw [List.length_map]; exact HN.out.symm) (by unfold maxLen; omega) hbv.size, hb⟩
        have hda := good_day HGD.out hm
        have hac := good_act HGD.out hm
        exact shiftFn m d w.heap.size u (by omega) (by omega) (by omega) (by omega) (by omega) (P0.out.on (hv.trans (hu.mono hv.size)))
      have HT3 : t = true ↔ goodE (ms.map (shE d)) p := HT.out.1.trans ⟨fun h => h.2.2, fun h => ⟨HGD.out, ⟨hd3, hd4⟩, h⟩⟩
      have HG3 : Hid (∀ v g, RE v w.heap.size g n n (ms.map (shE d)) → Calls Try.prog 16 #[.slice (some ⟨g, 0, none⟩) n n, .int .i64 p] v fun e w' => e = .returned (.bool t) ∧ Below v.heap.size v w') := Lib.hid fun v g hr => implValidEv (some ⟨g, 0, none⟩) n n (ms.map (shE d)) p t HT3 v hr.wr.has
      have HNL : Hid (n = (ms.map (shE d)).length) := Lib.hid (by rw [List.length_map]; exact HN.out)
      have hx1 : ¬ d < -36524 := by omega
      have hx2 : ¬ 36524 < d := by omega
      clear HT3
      go_wp2_with (go_at_call 16; (try rw [← HX.out]); refine HG.out.mono ?_; rintro e w2 ⟨rfl, hb⟩; have HBX2 := Lib.hid hb; refine Hid.out ?_)
      refine Lib.hid ?_
      clear hb HG
      have q0 := (P0.out.on HBX2.out).c 0 (by simp)
      simp only [List.getElem_cons_zero] at q0
      clear p0
      have HB2 := Lib.hid (HB0.out.trans (HBX2.out.mono HB0.out.size))
      cases t
      all_goals go_wp2_with (first
        | (go_at_call 47; refine (HTR.out _ HBX2.out).mono ?_; rintro e w3 ⟨g, hgg, rfl, hre, hb⟩; have HRE := Lib.hid hre; have HB3 := Lib.hid (HB2.out.trans (hb.mono HB2.out.size)); clear hgg hre hb)
        | (go_at_call 16; refine (HG3.out _ _ HRE.out).mono ?_; rintro e w4 ⟨rfl, hb⟩; have HRE4 := Lib.hid (HRE.out.on hb); have HB4 := Lib.hid (HB3.out.trans (hb.mono HB3.out.size)); clear hb))
      · go_ret2
        exact HNO.out _ (by first | trivial | rfl) HB4.out
      · go_ret2
        rw [show D = ms.map (shE d) from HD.out]
        exact ⟨_, n, n, HNL.out, rfl, HRE4.out, HB4.out⟩
    · have HF : Hid (t = false) := Lib.hid (by rw [Bool.eq_false_iff]; intro e; exact hd4 (HT.out.1.1 e).2.1.2)
      have hx1 : ¬ d < -36524 := by omega
      have hx2 : 36524 < d := by omega
      go_wp2_with (go_at_call 16; (try rw [← HX.out]); refine HG.out.mono ?_; rintro e w2 ⟨rfl, hb⟩; have HBX2 := Lib.hid hb; refine Hid.out ?_)
      refine Lib.hid ?_
      have q0 := (P0.out.on hb).c 0 (by simp)
      simp only [List.getElem_cons_zero] at q0
      have HB2 := Lib.hid (HB0.out.trans (hb.mono HB0.out.size))
      clear p0 hb HG
      go_wp2_with fail
      go_ret2
      exact HNO.out _ HF.out HB2.out
  · have HF : Hid (t = false) := Lib.hid (by rw [Bool.eq_false_iff]; intro e; exact hd3 (HT.out.1.1 e).2.1.1)
    have hx1 : d < -36524 := by omega
    go_wp2_with (go_at_call 16; (try rw [← HX.out]); refine HG.out.mono ?_; rintro e w2 ⟨rfl, hb⟩; have HBX2 := Lib.hid hb; refine Hid.out ?_)
    refine Lib.hid ?_
    have q0 := (P0.out.on hb).c 0 (by simp)
    simp only [List.getElem_cons_zero] at q0
    have HB2 := Lib.hid (HB0.out.trans (hb.mono HB0.out.size))
    clear p0 hb HG
    go_wp2_with fail
    go_ret2
    exact HNO.out _ HF.out HB2.out

end Go.Proofs.Ytlpeaamjpcpfcaa.Et
