/-
  The days of an event list: both EventDays.
-/
import Derived.Test.YtlpeaamjpcpfcaaEtL
import Derived.Test.YtlpeaamjpcpfcaaEtMk
import Derived.Test.YtlpeaamjpcpfcaaUniS
import Derived.Test.YtlpeaamjpcpfcaaSrtR
namespace Go.Proofs.Ytlpeaamjpcpfcaa.Et
open Go.RowKit Go.Proofs.Ytlpeaamjpcpfcaa.Cond Go.Proofs.Ytlpeaamjpcpfcaa.Gx Go.Proofs.Ytlpeaamjpcpfcaa.IRow
set_option linter.unusedVariables false
set_option linter.unusedSimpArgs false

/-- The days, each once, in ascending order. -/
def dyE (ms : List E) : List Int := UniMath.uni [] (ms.map E.day)
/-- A row of ints of the call's own, and a bool. -/
def IAns (S : Nat) (D : List Int) (ok : Bool) (w : World) (e : Ending) (w' : World) : Prop :=
  ∃ g n c, n = D.length ∧ e = .returned (.tuple #[.slice (some ⟨g, 0, none⟩) n c, .bool ok]) ∧ UniS.Own w' S (.slice (some ⟨g, 0, none⟩) n c) D ∧ Below w.heap.size w w'
theorem good_len {ms : List E} {p : Int} (h : goodE ms p) : ms.length ≤ 40 := by
  have h2 := h.2
  simp only [valE, Bool.and_eq_true, decide_eq_true_eq] at h2
  exact h2.2.1
theorem ownK {B : Nat} {e : TypeId} {k : Nat} {v : Value} {n : Nat} {xs : List Value} {w w' : World} (h : w.ownsRow B e k v n xs) (hb : Below w.heap.size w w') : w'.ownsRow B e k v n xs :=
  h.kept (row := none) ⟨hb.os, hb.tape, hb.output, hb.size, fun j hj _ => hb.block j hj⟩ (by cases hv : v.ownBlock <;> simp)
theorem own_lower {B B' : Nat} {e : TypeId} {k : Nat} {v : Value} {n : Nat} {xs : List Value} {w : World} (h : w.ownsRow B e k v n xs) (hb : B' ≤ B) : w.ownsRow B' e k v n xs := by
  refine ⟨h.1, ?_⟩
  rcases h.2 with h | ⟨g, c, cur, hv, hS, r⟩
  · exact .inl h
  · exact .inr ⟨g, c, cur, hv, by omega, r⟩
theorem dyE_len (ms : List E) : (dyE ms).length ≤ ms.length := by
  have := UniMath.length_uni (ms.map E.day) []
  simpa [dyE] using this
theorem dyE_snoc (ms : List E) (m : E) : dyE (ms ++ [m]) = UniMath.putL (dyE ms) m.day := by
  unfold dyE
  rw [List.map_append, List.map_cons, List.map_nil, UniMath.uni_snoc]

set_option maxRecDepth 100000 in
set_option maxHeartbeats 4000000 in
theorem specED (A : Option Addr) (n cap : Nat) (ms : List E) (p : Int) (hp : -9223372036854775808 ≤ p) (hp2 : p ≤ 9223372036854775807) (t : Bool) (ht : t = true ↔ goodE ms p) (w : World) (h : LiE w w.heap.size A n cap ms) :
    Calls Try.prog 38 #[.slice A n cap, .int .i64 p] w (IAns w.heap.size (if t then dyE ms else []) t w) := by
  obtain ⟨X, hX⟩ : ∃ X, X = w.alloc (.cells #[] 3) := ⟨_, rfl⟩
  have B0 : Below w.heap.size w X := by rw [hX]; exact below1 _ _
  have HG := Lib.hid (l8Good A n cap ms p hp hp2 t ht X (h.on B0))
  have HO0 : Hid (UniS.Own X w.heap.size (.slice (some ⟨w.heap.size, 0, none⟩) 0 0) []) := Lib.hid (by rw [hX]; exact (UniS.Pt.new (Below.refl _ _)).own)
  have HN := Lib.hid h.len
  have HL := Lib.hid h
  have HT := Lib.hid ht
  have HB0 := Lib.hid B0
  have HX := Lib.hid hX
  have hnl : n ≤ 9223372036854775807 := h.n1
  clear ht h B0 hX
  go_enter Try.func38, Try.ntmps38
  cases t
  · go_wp2_with (go_at_call 54; (try rw [← HX.out]); refine HG.out.mono ?_; rintro e w2 ⟨rfl, hb⟩)
    go_ret2
    exact ⟨_, 0, 0, rfl, rfl, ownK HO0.out hb, HB0.out.trans (hb.mono HB0.out.size)⟩
  have HM : Hid (ms.length ≤ 40) := Lib.hid (good_len (HT.out.1 rfl))
  go_wp2_with (go_at_call 54; (try rw [← HX.out]); refine HG.out.mono ?_; rintro e w2 ⟨rfl, hb⟩; refine Hid.out ?_)
  refine Lib.hid ?_
  have HO2 : Hid (UniS.Own w2 w.heap.size (.slice (some ⟨w.heap.size, 0, none⟩) 0 0) []) := Lib.hid (ownK HO0.out hb)
  have HB2 := Lib.hid (HB0.out.trans (hb.mono HB0.out.size))
  clear hb
  go_wp2_with fail
  go_loopw [6, 7] (fun v i wr => ∃ (j g3 n3 c3 : Nat) (ys : List Int), j ≤ n ∧ i = .int .i64 j ∧ v = .slice (some ⟨g3, 0, none⟩) n3 c3 ∧ Hid (n3 = ys.length) ∧ Hid (ys = dyE (ms.take j)) ∧ Hid (UniS.Own wr w.heap.size (.slice (some ⟨g3, 0, none⟩) n3 c3) ys) ∧ Hid (Below w.heap.size w wr)) (fun _ i _ => n - (intOf i).toNat)
  case atStart => exact ⟨0, _, 0, 0, [], Nat.zero_le _, rfl, rfl, Lib.hid rfl, Lib.hid rfl, HO2, HB2⟩
  case round =>
    obtain ⟨j, g3, n3, c3, ys, hj, rfl, rfl, HN3, HY, HO3, HB⟩ := hrel
    by_cases hlt : j < n
    · obtain ⟨b, o, hj', rfl, hB, hc⟩ := HL.out.get hlt
      obtain ⟨m, hm⟩ : ∃ m, m = ms[j] := ⟨_, rfl⟩
      have hE := hc wr HB.out
      rw [← hm] at hE
      obtain ⟨c0, c1, c2, c3⟩ := e4 hE
      have i0 : (0 : Int) ≤ (j : Int) := by omega
      have i1 : (j : Int) < (n : Int) := by omega
      have HTK : Hid (ms.take (j + 1) = ms.take j ++ [m]) := Lib.hid (by rw [hm]; exact List.take_succ_eq_append_getElem hj')
      have HP := Lib.hid (UniS.l1Put g3 n3 _ ys m.day wr w.heap.size HN3.out (by rw [HN3.out, HY.out]; have h1 := dyE_len (ms.take j); have h2 : (ms.take j).length ≤ ms.length := by rw [List.length_take]; omega
                                                                                 have h3 := HM.out; omega) HB.out.size HO3.out)
      clear hE hc hm
      go_wp2_with (go_at_call 65; refine HP.out.mono ?_; rintro e w3 ⟨g4, n4, c4, hn4, rfl, ho4, hb4⟩; have HN4 := Lib.hid hn4; have HO4 := Lib.hid ho4; clear hn4 ho4)
      go_roundw
      case rel => exact ⟨j + 1, g4, n4, c4, _, by omega, by go_num, rfl, HN4, Lib.hid (by rw [HTK.out, dyE_snoc, HY.out]), HO4, Lib.hid (HB.out.trans (hb4.mono HB.out.size))⟩
      case measure => simp [intOf]; omega
    · have HE : Hid (ms.take j = ms) := Lib.hid (List.take_of_length_le (by have := HN.out; omega))
      go_wp2_with fail
      go_ret2
      exact ⟨g3, n3, _, by rw [HN3.out, HY.out, HE.out], rfl, by have h := HO3.out; rw [HY.out, HE.out] at h; exact h, HB.out⟩

set_option maxHeartbeats 4000000 in
theorem dayFn (m : E) (w : World) : Calls Try.prog 68 #[m.val] w fun e w' => e = .returned (.int .i64 m.day) ∧ Below w.heap.size w w' := by
  have B0 := Lib.hid (below1 w (.cells #[.int .i64 m.day, .int .i64 m.party, .string m.act, .int .i64 m.amt] 47))
  go_enter Try.func68, Try.ntmps68
  go_wp2_with fail
  go_ret
  exact ⟨rfl, B0.out⟩

set_option maxRecDepth 100000 in
set_option maxHeartbeats 4000000 in
theorem transI (A : Option Addr) (n cap : Nat) (ms : List E) (w : World) (h : LiE w w.heap.size A n cap ms) (hm : n ≤ 40) :
    Calls Try.prog 67 #[.slice A n cap, .func (.func 68) #[] #[]] w fun e w' =>
      e = .returned (.slice (some ⟨w.heap.size, 0, none⟩) n n) ∧ w'.ownsRow w.heap.size 3 1 (.slice (some ⟨w.heap.size, 0, none⟩) n n) n ((ms.map E.day).map (Value.int .i64)) ∧ Below w.heap.size w w' := by
  have HDF := Lib.hid dayFn
  have HN := Lib.hid h.len
  have HL := Lib.hid h
  clear h
  obtain ⟨i0, hi, hz0, hz1, hz2⟩ := info_parts infoInt
  have HZ := Lib.hid hz2
  clear hz2
  go_enter Try.func67, Try.ntmps67
  go_wp2_with (at_make; refine wpList_make_full _ rfl _ _ 56 rfl w.heap.size 3 i0 (.int .i64 0) 1 Try.underlying56 hi hz0 hz1 .i64 .i64 _ _ n rfl rfl rfl rfl (by rw [HZ.out]; omega) (by unfold maxLen; omega) (Nat.le_refl _) ?_; intro w1 hown1 hgrow1; refine Hid.out ?_)
  refine Lib.hid ?_
  have hb1 : Below w.heap.size w w1 := (Below.refl _ _).grown hgrow1 (Nat.le_refl _) (fun k hk => by cases hk)
  have hown : w1.ownsRow w.heap.size 3 1 (.slice (some ⟨w.heap.size, 0, none⟩) n n) n (upTo (ms.map E.day) n 0) := by
    rw [made] at hown1
    simpa [upTo] using hown1
  clear hown1 hgrow1
  go_wp2_with fail
  go_loopw [13] (fun i wr => ∃ k : Nat, k ≤ n ∧ i = .int .i64 k ∧ Hid (wr.ownsRow w.heap.size 3 1 (.slice (some ⟨w.heap.size, 0, none⟩) n n) n (upTo (ms.map E.day) n k)) ∧ Hid (Below w.heap.size w wr)) (fun i _ => n - (intOf i).toNat)
  case atStart => exact ⟨0, Nat.zero_le _, rfl, Lib.hid hown, Lib.hid hb1⟩
  case round =>
    obtain ⟨k, hk, rfl, HO, HB⟩ := hrel
    clear hown hb1
    by_cases hlt : k < n
    · obtain ⟨b, o, hk', rfl, hB, hc⟩ := HL.out.get hlt
      obtain ⟨m, hm⟩ : ∃ m, m = ms[k] := ⟨_, rfl⟩
      have hE := hc wr HB.out
      rw [← hm] at hE
      obtain ⟨c0, c1, c2, c3⟩ := e4 hE
      have i0 : (0 : Int) ≤ (k : Int) := by omega
      have i1 : (k : Int) < (n : Int) := by omega
      have hkd : k < (ms.map E.day).length := by simpa using hk'
      have HMD : Hid ((ms.map E.day)[k] = m.day) := Lib.hid (by rw [hm]; simp)
      have HND : Hid (n = (ms.map E.day).length) := Lib.hid (by rw [List.length_map]; exact HN.out)
      have HBX : Hid (Below wr.heap.size wr (wr.alloc (.cells #[.int .i64 m.day, .int .i64 m.party, .string m.act, .int .i64 m.amt] 47))) := Lib.hid (below1 _ _)
      clear hE hc hm
      go_wp2_with (go_at_call 68; refine (HDF.out _ _).mono ?_; rintro e w2 ⟨rfl, hb⟩; refine Hid.out ?_)
      refine Lib.hid ?_
      have hbb := HBX.out.trans (hb.mono HBX.out.size)
      have ho2 := ownK HO.out hbb
      have hfz : w2.frozen? ⟨w.heap.size, k, none⟩ = false := ho2.frozenAt k
      obtain ⟨old, hold⟩ : ∃ old, w2.cell? ⟨w.heap.size, k, none⟩ = some old := by
        rw [ho2.cellAt k (by omega)]
        exact ⟨_, List.getElem?_eq_getElem (by rw [ho2.1]; omega)⟩
      have HR : Hid (∀ w3, w2.setCell ⟨w.heap.size, k, none⟩ (.int .i64 m.day) = w3 → w3.ownsRow w.heap.size 3 1 (.slice (some ⟨w.heap.size, 0, none⟩) n n) n (upTo (ms.map E.day) n (k + 1)) ∧ Below w.heap.size w w3) := Lib.hid (by
        rintro _ rfl
        refine ⟨?_, (HB.out.trans (hbb.mono HB.out.size)).setCell (Nat.le_refl _) _⟩
        have h1 := (ho2.stored k (.int .i64 m.day)).1
        rw [← HMD.out, upTo_set HND.out hlt] at h1
        rw [← HMD.out]; exact h1)
      clear hb hbb ho2 HO HBX
      go_wp2_with fail
      go_roundw
      case rel => exact ⟨k + 1, by omega, by go_num, Lib.hid (HR.out _ rfl).1, Lib.hid (HR.out _ rfl).2⟩
      case measure => simp [intOf]; omega
    · have HE : Hid (upTo (ms.map E.day) n k = (ms.map E.day).map (Value.int .i64)) := Lib.hid (by
        have h1 := HN.out
        unfold upTo
        rw [List.take_of_length_le (by simp; omega), show n - k = 0 by omega]; simp)
      go_wp2_with fail
      go_ret
      exact ⟨rfl, by rw [← HE.out]; exact HO.out, HB.out⟩

/-- The days of a rising list rise. -/
theorem cI_le {x y : Int} {zs : List Int} (h : orI (cI x y :: zs) ≤ 0) : x ≤ y := by
  unfold orI cI at h
  by_cases h1 : x < y
  · omega
  · by_cases h2 : y < x
    · simp [h1, h2] at h
    · omega
theorem days_up {ms : List E} (h : riseE ms) : (ms.map E.day).Pairwise (· ≤ ·) := by
  have key : ∀ d i, ∀ hd : i + d < ms.length, ms[i].day ≤ ms[i + d].day := by
    intro d
    induction d with
    | zero => intro i hd; exact Int.le_refl _
    | succ d ih =>
      intro i hd
      have h1 := ih i (by omega)
      have h2 := cI_le (h (i + d) hd)
      exact Int.le_trans h1 h2
  rw [List.pairwise_iff_getElem]
  intro i j hi hj hij
  have hi' : i < ms.length := by simpa using hi
  have hj' : j < ms.length := by simpa using hj
  have := key (j - i) i (by omega)
  simp only [List.getElem_map]
  have e : i + (j - i) = j := by omega
  simp only [e] at this
  exact this
theorem compact_dy {ms : List E} (h : riseE ms) : Lib.compact (ms.map E.day) = dyE ms := by
  have hs : ((ms.map E.day).mergeSort fun x y => decide (x ≤ y)) = ms.map E.day := List.mergeSort_of_pairwise (by simpa using days_up h)
  have := UniMath.compact_sort [] (ms.map E.day) List.Pairwise.nil
  rw [List.nil_append, hs] at this
  exact this

set_option maxRecDepth 100000 in
set_option maxHeartbeats 4000000 in
theorem implED (A : Option Addr) (n cap : Nat) (ms : List E) (p : Int) (t : Bool) (ht : t = true ↔ goodE ms p) (w : World) (h : LiE w w.heap.size A n cap ms) :
    Calls Try.prog 39 #[.slice A n cap, .int .i64 p] w (IAns w.heap.size (if t then dyE ms else []) t w) := by
  have HG := Lib.hid (implValidEv A n cap ms p t ht w h)
  have HN := Lib.hid h.len
  have HL := Lib.hid h
  have HT := Lib.hid ht
  clear ht h
  go_enter Try.func39, Try.ntmps39
  cases t
  · go_wp2_with (go_at_call 16; refine HG.out.mono ?_; rintro e w2 ⟨rfl, hb⟩; have HB2 := Lib.hid hb; clear hb)
    go_ret2
    exact ⟨_, 0, 0, rfl, rfl, (UniS.Pt.new HB2.out).own, HB2.out.alloc HB2.out.size _⟩
  have HM : Hid (ms.length ≤ 40) := Lib.hid (good_len (HT.out.1 rfl))
  have hmf := makeFn
  have HTR : Hid (∀ v, Below w.heap.size w v → Calls Try.prog 67 #[.slice A n cap, .func (.func 68) #[] #[]] v fun e w' => ∃ g, g = v.heap.size ∧ 
      e = .returned (.slice (some ⟨g, 0, none⟩) n n) ∧ UniS.Own w' w.heap.size (.slice (some ⟨g, 0, none⟩) n n) (ms.map E.day) ∧ Below v.heap.size v w') := Lib.hid fun v hv => (transI A n cap ms v (HL.out.on hv) (by have := HN.out; have := HM.out; omega)).mono fun e w' ⟨he, ho, hb⟩ => ⟨_, rfl, he, by
        unfold UniS.Own
        rw [List.length_map, ← HN.out]
        exact own_lower ho hv.size, hb⟩
  have HCO : Hid (∀ v g, UniS.Own v w.heap.size (.slice (some ⟨g, 0, none⟩) n n) (ms.map E.day) → Calls Try.prog 66 #[.slice (some ⟨g, 0, none⟩) n n] v fun e w' => ∃ n3, n3 = (dyE ms).length ∧ e = .returned (.slice (some ⟨g, 0, none⟩) n3 n) ∧ UniS.Own w' w.heap.size (.slice (some ⟨g, 0, none⟩) n3 n) (dyE ms) ∧ v.grownBy w' (some g)) := Lib.hid fun v g ho => by
    have := SrtR.compI v w.heap.size g n n (ms.map E.day) (by rw [List.length_map]; exact HN.out) (by have := HN.out; have := HM.out; omega) ho
    rw [compact_dy (HT.out.1 rfl).1] at this
    exact this
  go_wp2_with (first
    | (go_at_call 16; refine HG.out.mono ?_; rintro e w2 ⟨rfl, hb⟩; have HB2 := Lib.hid hb; clear hb)
    | (go_at_call 67; refine (HTR.out _ HB2.out).mono ?_; rintro e w3 ⟨g, hg, rfl, ho, hb⟩; have HO3 := Lib.hid ho; have HB3 := Lib.hid (HB2.out.trans (hb.mono HB2.out.size)); have HGG := Lib.hid (Nat.le_trans HB2.out.size (Nat.le_of_eq hg.symm)); clear ho hb hg)
    | (go_at_call 66; refine (HCO.out _ _ HO3.out).mono ?_; rintro e w4 ⟨n3, hn3, rfl, ho, hb⟩; have HN3 := Lib.hid hn3; clear hn3))
  go_ret2
  exact ⟨g, n3, n, HN3.out, rfl, ho, HB3.out.grown hb HB3.out.size (fun k hk => by cases hk; exact HGG.out)⟩

end Go.Proofs.Ytlpeaamjpcpfcaa.Et
