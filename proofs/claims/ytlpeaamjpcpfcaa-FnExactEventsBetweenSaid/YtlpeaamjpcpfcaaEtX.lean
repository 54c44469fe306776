/-
  slices.DeleteFunc over events, with EventsBetween's closure.
-/
import Derived.Test.YtlpeaamjpcpfcaaEtS
import Derived.Laws.IdiomCopy
import Derived.Lib.SliceRun
namespace Go.Proofs.Ytlpeaamjpcpfcaa.Et
open Go.RowKit Go.Proofs.Ytlpeaamjpcpfcaa.Cond Go.Proofs.Ytlpeaamjpcpfcaa.Gx
set_option linter.unusedVariables false
set_option linter.unusedSimpArgs false

/-- The day lies between the bounds. -/
def inR (f t : Int) (m : E) : Bool := decide (f ≤ m.day) && decide (m.day ≤ t)

set_option maxHeartbeats 4000000 in
theorem outFn (m : E) (k1 k2 : Nat) (f t : Int) (w : World) (h1 : Bk k1 w [.int .i64 f]) (h2 : Bk k2 w [.int .i64 t]) :
    Calls Try.prog 63 #[m.val, .pointer (some ⟨k1, 0, none⟩), .pointer (some ⟨k2, 0, none⟩)] w fun e w' => e = .returned (.bool !(inR f t m)) ∧ Below w.heap.size w w' := by
  obtain ⟨X, hX⟩ : ∃ X, X = w.alloc (.cells #[.int .i64 m.day, .int .i64 m.party, .string m.act, .int .i64 m.amt] 47) := ⟨_, rfl⟩
  have B0 : Below w.heap.size w X := by rw [hX]; exact below1 _ _
  have f0 := h1.c 0 (by simp)
  have t0 := h2.c 0 (by simp)
  simp only [List.getElem_cons_zero] at f0 t0
  have fl := h1.lt
  have tl := h2.lt
  have HB := Lib.hid B0
  have HX := Lib.hid hX
  clear h1 h2 B0 hX
  by_cases q1 : m.day < f
  · have HR : Hid ((!(inR f t m)) = true) := Lib.hid (by have : ¬ f ≤ m.day := by omega
                                                         simp [inR, this])
    go_enter Try.func63, Try.ntmps63
    go_wp2_with fail
    go_ret
    exact ⟨by rw [HR.out]; first | rfl | simp_all, by rw [← HX.out]; exact HB.out⟩
  · by_cases q2 : t < m.day
    · have HR : Hid ((!(inR f t m)) = true) := Lib.hid (by have : ¬ m.day ≤ t := by omega
                                                           simp [inR, this])
      go_enter Try.func63, Try.ntmps63
      go_wp2_with fail
      go_ret
      exact ⟨by rw [HR.out]; first | rfl | simp_all, by rw [← HX.out]; exact HB.out⟩
    · have HR : Hid ((!(inR f t m)) = false) := Lib.hid (by have h1 : f ≤ m.day := by omega
                                                            have h2 : m.day ≤ t := by omega
                                                            simp [inR, h1, h2])
      go_enter Try.func63, Try.ntmps63
      go_wp2_with fail
      go_ret
      exact ⟨by rw [HR.out]; first | rfl | simp_all, by rw [← HX.out]; exact HB.out⟩

/-- What IndexFunc answers. -/
def IxP (ms : List E) (ok : E → Bool) (z : Int) : Prop :=
  (z = -1 ∧ ∀ j, ∀ h : j < ms.length, ok ms[j] = true) ∨ ∃ i, ∃ h : i < ms.length, z = (i : Int) ∧ ok ms[i] = false ∧ ∀ j, ∀ hj : j < i, ok (ms[j]'(by omega)) = true

set_option maxHeartbeats 4000000 in
theorem outIx (A : Option Addr) (n cap : Nat) (ms : List E) (k1 k2 : Nat) (f t : Int) (w : World) (h : LiE w w.heap.size A n cap ms) (h1 : Bk k1 w [.int .i64 f]) (h2 : Bk k2 w [.int .i64 t]) :
    Calls Try.prog 85 #[.slice A n cap, .func (.func 63) #[] #[.pointer (some ⟨k1, 0, none⟩), .pointer (some ⟨k2, 0, none⟩)]] w fun e w' => ∃ z : Int, e = .returned (.int .i64 z) ∧ IxP ms (inR f t) z ∧ Below w.heap.size w w' := by
  have HFN : Hid (∀ v (m : E), Below w.heap.size w v → Calls Try.prog 63 #[m.val, .pointer (some ⟨k1, 0, none⟩), .pointer (some ⟨k2, 0, none⟩)] v fun e w' => e = .returned (.bool !(inR f t m)) ∧ Below v.heap.size v w') := Lib.hid fun v m hv => outFn m k1 k2 f t v (h1.on hv) (h2.on hv)
  have HL := Lib.hid h
  have HN := Lib.hid h.len
  have hnl : n ≤ 9223372036854775807 := h.n1
  clear h h1 h2
  go_enter Try.func85, Try.ntmps85
  go_wp2_with fail
  go_loopw [8] (fun i wr => ∃ j : Nat, j ≤ n ∧ i = .int .i64 j ∧ Hid (∀ i, ∀ h : i < ms.length, i < j → inR f t ms[i] = true) ∧ Hid (Below w.heap.size w wr)) (fun i _ => n - (intOf i).toNat)
  case atStart => exact ⟨0, Nat.zero_le _, rfl, Lib.hid fun j _ h => by omega, Lib.hid (Below.refl _ _)⟩
  case round =>
    obtain ⟨j, hj, rfl, HK, HB⟩ := hrel
    by_cases hlt : j < n
    · obtain ⟨b, o, hj', rfl, hB, hc⟩ := HL.out.get hlt
      obtain ⟨m, hm⟩ : ∃ m, m = ms[j] := ⟨_, rfl⟩
      have hE := hc wr HB.out
      rw [← hm] at hE
      obtain ⟨c0, c1, c2, c3⟩ := e4 hE
      have i0 : (0 : Int) ≤ (j : Int) := by omega
      have i1 : (j : Int) < (n : Int) := by omega
      obtain ⟨u, hu⟩ : ∃ u, u = inR f t m := ⟨_, rfl⟩
      have HF := HFN.out wr m HB.out
      rw [← hu] at HF
      have HFH := Lib.hid HF
      have HT := Lib.hid (And.intro hu hm)
      clear hE hc hm hu HF
      cases u
      · have HD : Hid (IxP ms (inR f t) (j : Int)) := Lib.hid (.inr ⟨j, hj', rfl, by rw [← HT.out.2]; exact HT.out.1.symm, fun i hi => HK.out i (by omega) hi⟩)
        go_wp2_with (go_at_call 63; refine HFH.out.mono ?_; rintro e w2 ⟨rfl, hb⟩)
        go_ret
        exact ⟨j, rfl, HD.out, HB.out.trans (hb.mono HB.out.size)⟩
      · have HK2 : Hid (∀ i, ∀ h : i < ms.length, i < j + 1 → inR f t ms[i] = true) := Lib.hid fun i h hi => by
          by_cases e : i = j
          · subst e; rw [← HT.out.2]; exact HT.out.1.symm
          · exact HK.out i h (by omega)
        go_wp2_with (go_at_call 63; refine HFH.out.mono ?_; rintro e w2 ⟨rfl, hb⟩)
        go_roundw
        case rel => exact ⟨j + 1, by omega, by go_num, HK2, Lib.hid (HB.out.trans (hb.mono HB.out.size))⟩
        case measure => simp [intOf]; omega
    · have HD : Hid (IxP ms (inR f t) (-1)) := Lib.hid (.inl ⟨rfl, fun i hi => HK.out i hi (by have := HN.out; omega)⟩)
      go_wp2_with fail
      go_ret
      exact ⟨-1, rfl, HD.out, HB.out⟩

theorem putL_set (b : Nat) : ∀ (vs : List Value) (o : Nat) (w : World), w.setCells b o vs = putL w b o vs
  | [], _, _ => rfl
  | v :: vs, o, w => by unfold World.setCells putL; exact putL_set b vs (o + 1) _
theorem zeroEvent (w : World) : Sem.run Try.prog (zeroValue 47) w = .ok (.agg #[.int .i64 0, .int .i64 0, .string ByteArray.empty, .int .i64 0]) w := by kernel_rfl
/-- clear of a row of events. -/
theorem clearE (w : World) (ty : TypeId) (g o n c : Nat) (hn : 0 < n) (hc : ∀ j, j < n * 4 → (w.cell? ⟨g, o + j, none⟩).isSome = true) (hf : ∀ j, j < n * 4 → w.frozen? ⟨g, o + j, none⟩ = false) :
    ∃ L : List Value, L.length = n * 4 ∧ (Builtin.clear_ #[24] ty #[.slice (some ⟨g, o, none⟩) n c]).run Try.prog w = .ok (.tuple #[]) (putL w g o L) := by
  obtain ⟨z, hz⟩ : ∃ z : Array Value, z = #[.int .i64 0, .int .i64 0, .string ByteArray.empty, .int .i64 0] := ⟨_, rfl⟩
  have hzs : z.size = 4 := by rw [hz]; rfl
  have h1 : ∀ v ∈ (Builtin.zeroCells z n).toList, v.oneCell' = true := fun v hv => by
    simp only [Builtin.zeroCells, Array.toList_map, List.mem_map] at hv
    obtain ⟨i, _, rfl⟩ := hv
    have hi : i % z.size < 4 := by rw [hzs]; exact Nat.mod_lt _ (by omega)
    generalize i % z.size = k at hi
    rw [hz]
    match k, hi with
    | 0, _ => rfl
    | 1, _ => rfl
    | 2, _ => rfl
    | 3, _ => rfl
  have hl : (Builtin.zeroCells z n).toList.length = n * 4 := by simp [Builtin.zeroCells, hzs]
  have hst := run_storeCells_cells (P := Try.prog) g o (Builtin.zeroCells z n).toList 0 w (by rw [hl]; simpa using hc) (by rw [hl]; simpa using hf) h1
  simp only [Nat.add_zero] at hst
  refine ⟨(Builtin.zeroCells z n).toList, hl, ?_⟩
  obtain ⟨m, rfl⟩ : ∃ m, n = m + 1 := ⟨n - 1, by omega⟩
  rw [← putL_set]
  have hzc : (Value.agg #[.int .i64 0, .int .i64 0, .string ByteArray.empty, .int .i64 0]).cells = z := by rw [hz]; rfl
  have hzc2 : (Value.agg #[.int .i64 0, .int .i64 0, .string ⟨#[]⟩, .int .i64 0]).cells = z := hzc
  simp [Builtin.clear_, run_underlying Try.underlying24, zeroEvent, hzc, hzc2, hst]

/-- While a row of events is thinned out: up to kj it holds those that stay, from kj on what it held. -/
structure MidD (w : World) (g n : Nat) (ms : List E) (ok : E → Bool) (kj : Nat) : Prop where
  blk : Blk w g (n * 4)
  lo : ∀ a, ∀ h : a < ((ms.take kj).filter ok).length, El w g (a * 4) ((ms.take kj).filter ok)[a].cells
  hi : ∀ a, ∀ h : a < ms.length, kj ≤ a → El w g (a * 4) ms[a].cells
theorem MidD.alike {w w' : World} {g n : Nat} {ms : List E} {ok : E → Bool} {kj : Nat} (h : MidD w g n ms ok kj) (hg : w'.heap[g]? = w.heap[g]?) : MidD w' g n ms ok kj :=
  ⟨h.blk.alike hg, fun a ha => (h.lo a ha).alike hg, fun a ha hk => (h.hi a ha hk).alike hg⟩
theorem MidD.on {w w' : World} {g n : Nat} {ms : List E} {ok : E → Bool} {kj : Nat} (h : MidD w g n ms ok kj) (hb : Below w.heap.size w w') : MidD w' g n ms ok kj := h.alike (hb.block g h.blk.lt)
theorem fil_len (ms : List E) (ok : E → Bool) (k : Nat) : ((ms.take k).filter ok).length ≤ k := Nat.le_trans (List.length_filter_le _ _) (by rw [List.length_take]; omega)
theorem fil_no {ms : List E} {ok : E → Bool} {k : Nat} (hk : k < ms.length) (h : ok ms[k] = false) : (ms.take (k + 1)).filter ok = (ms.take k).filter ok := by
  rw [List.take_succ_eq_append_getElem hk, List.filter_append]
  simp [h]
theorem fil_yes {ms : List E} {ok : E → Bool} {k : Nat} (hk : k < ms.length) (h : ok ms[k] = true) : (ms.take (k + 1)).filter ok = (ms.take k).filter ok ++ [ms[k]] := by
  rw [List.take_succ_eq_append_getElem hk, List.filter_append]
  simp [h]
theorem MidD.skip {w : World} {g n : Nat} {ms : List E} {ok : E → Bool} {kj : Nat} (h : MidD w g n ms ok kj) (hk : kj < ms.length) (ho : ok ms[kj] = false) : MidD w g n ms ok (kj + 1) := by
  have e := fil_no hk ho
  refine ⟨h.blk, fun a ha => ?_, fun a ha hk' => h.hi a ha (by omega)⟩
  have ha' : a < ((ms.take kj).filter ok).length := by rw [← e]; exact ha
  have := h.lo a ha'
  simp only [e]
  exact this
theorem MidD.put {w : World} {g n : Nat} {ms : List E} {ok : E → Bool} {kj : Nat} (h : MidD w g n ms ok kj) (hk : kj < ms.length) (hn : ms.length ≤ n) (ho : ok ms[kj] = true) : MidD (putL w g (((ms.take kj).filter ok).length * 4) ms[kj].cells) g n ms ok (kj + 1) := by
  have e := fil_yes hk ho
  have hl := fil_len ms ok kj
  have hml := E.len ms[kj]
  refine ⟨putL_blk _ _ h.blk, fun a ha => ?_, fun a ha hk' => ?_⟩
  · simp only [e]
    by_cases ea : a = ((ms.take kj).filter ok).length
    · subst ea
      rw [List.getElem_append_right (Nat.le_refl _)]
      simp only [Nat.sub_self, List.getElem_cons_zero]
      exact putL_el _ _ h.blk (by rw [hml]; omega)
    · have ha' : a < ((ms.take kj).filter ok).length := by simp only [e, List.length_append, List.length_singleton] at ha; omega
      rw [List.getElem_append_left ha']
      exact putL_els (h.lo a ha') (by rw [E.len]; omega)
  · exact putL_els (h.hi a ha (by omega)) (by rw [E.len, hml]; omega)

set_option maxRecDepth 100000 in
set_option maxHeartbeats 8000000 in
theorem delE (g n : Nat) (ms : List E) (k1 k2 S : Nat) (f t : Int) (w : World) (h : RwE w g n ms) (hn : ms.length = n) (hm : n ≤ 40) (hS : S ≤ g) (hS2 : S ≤ w.heap.size) (h1 : Bk k1 w [.int .i64 f]) (h2 : Bk k2 w [.int .i64 t]) (hk1 : k1 ≠ g) (hk2 : k2 ≠ g) :
    Calls Try.prog 64 #[.slice (some ⟨g, 0, none⟩) n n, .func (.func 63) #[] #[.pointer (some ⟨k1, 0, none⟩), .pointer (some ⟨k2, 0, none⟩)]] w fun e w' => e = .returned (.slice (some ⟨g, 0, none⟩) (ms.filter (inR f t)).length n) ∧ RE w' S g (ms.filter (inR f t)).length n (ms.filter (inR f t)) ∧ Below S w w' := by
  have HIX := Lib.hid (outIx (some ⟨g, 0, none⟩) n n ms k1 k2 f t w (h.lie hn (by unfold maxLen; omega)) h1 h2)
  have HFN : Hid (∀ v (m : E), Bk k1 v [.int .i64 f] → Bk k2 v [.int .i64 t] → Calls Try.prog 63 #[m.val, .pointer (some ⟨k1, 0, none⟩), .pointer (some ⟨k2, 0, none⟩)] v fun e w' => e = .returned (.bool !(inR f t m)) ∧ Below v.heap.size v w') := Lib.hid fun v m h1 h2 => outFn m k1 k2 f t v h1 h2
  have HR := Lib.hid h
  have HNN := Lib.hid hn
  have K1 := Lib.hid h1
  have K2 := Lib.hid h2
  have HSZ := Lib.hid (And.intro hS hS2)
  clear h h1 h2 hn
  go_enter Try.func64, Try.ntmps64
  go_wp2_with (go_at_call 85; refine HIX.out.mono ?_; rintro e w2 ⟨z, rfl, hz, hb⟩; have HZ := Lib.hid hz; have HB2 := Lib.hid hb; clear hz hb; refine Hid.out ?_)
  refine Lib.hid ?_
  rcases HZ.out with ⟨rfl, hall⟩ | ⟨i, hi, rfl, hno, hyes⟩
  · have HA := Lib.hid hall
    clear hall
    go_wp2_with fail
    go_ret
    have hfl : ms.filter (inR f t) = ms := List.filter_eq_self.2 fun x hx => by
      obtain ⟨j, hj, rfl⟩ := List.mem_iff_getElem.1 hx
      exact HA.out j hj
    rw [hfl, HNN.out]
    exact ⟨rfl, (HR.out.on HB2.out).re HNN.out (by unfold maxLen; omega) hS, HB2.out.mono hS2⟩
  · have HM0 : Hid (MidD w2 g n ms (inR f t) (i + 1) ∧ i = ((ms.take (i + 1)).filter (inR f t)).length) := Lib.hid (by
      have e := fil_no hi hno
      have e2 : (ms.take i).filter (inR f t) = ms.take i := List.filter_eq_self.2 fun x hx => by
        obtain ⟨j, hj, rfl⟩ := List.mem_iff_getElem.1 hx
        rw [List.length_take] at hj
        rw [List.getElem_take]
        exact hyes j (by omega)
      have hr := HR.out.on HB2.out
      have e3 : (ms.take (i + 1)).filter (inR f t) = ms.take i := by rw [e, e2]
      refine ⟨⟨hr.blk, fun a ha => ?_, fun a ha _ => hr.el a ha⟩, by rw [e3, List.length_take]; omega⟩
      simp only [e3]
      rw [List.getElem_take]
      exact hr.el a _)
    have K12 := Lib.hid (K1.out.on HB2.out)
    have K22 := Lib.hid (K2.out.on HB2.out)
    have HBS2 : Hid (Below S w w2) := Lib.hid (HB2.out.mono hS2)
    have hin : i < n := by have := HNN.out; omega
    have hne : ((i : Int) == -1) = false := by
      rw [beq_eq_false_iff_ne]; omega
    clear hno hyes HIX HZ HB2
    go_wp2_with fail
    go_loopw [5, 6] (fun a b wr => ∃ (kj ki : Nat), kj ≤ n ∧ ki < kj ∧ b = .int .i64 (kj : Int) ∧ a = .int .i64 (ki : Int) ∧ Hid (MidD wr g n ms (inR f t) kj ∧ ki = ((ms.take kj).filter (inR f t)).length) ∧ Hid (Bk k1 wr [.int .i64 f]) ∧ Hid (Bk k2 wr [.int .i64 t]) ∧ Hid (Below S w wr)) (fun _ b _ => n - (intOf b).toNat)
    case atStart => exact ⟨i + 1, i, by omega, by omega, by go_num, rfl, HM0, K12, K22, HBS2⟩
    case round =>
      obtain ⟨kj, ki, hkj, hki, rfl, rfl, HM, K13, K23, HB⟩ := hrel
      clear HM0 K12 K22 HBS2
      have hml := HNN.out
      by_cases hlt : kj < n
      · have hk' : kj < ms.length := by omega
        obtain ⟨m, hmm⟩ : ∃ m, m = ms[kj] := ⟨_, rfl⟩
        have hE := HM.out.1.hi kj hk' (Nat.le_refl _)
        rw [← hmm] at hE
        obtain ⟨c0, c1, c2, c3⟩ := e4 hE
        have hgw : g < wr.heap.size := HM.out.1.blk.lt
        have i0 : (0 : Int) ≤ (kj : Int) := by omega
        have i1 : (kj : Int) < (n : Int) := by omega
        have i2 : (0 : Int) ≤ (ki : Int) := by omega
        have i3 : (ki : Int) < (n : Int) := by omega
        obtain ⟨X, hX⟩ : ∃ X, X = wr.alloc (.cells #[.int .i64 m.day, .int .i64 m.party, .string m.act, .int .i64 m.amt] 47) := ⟨_, rfl⟩
        have HBX := Lib.hid (show Below wr.heap.size wr X by rw [hX]; exact below1 _ _)
        have VX : Hid (Bk wr.heap.size X m.cells) := Lib.hid (by rw [hX]; exact Bk.new _ _ _)
        obtain ⟨u, hu⟩ : ∃ u, u = inR f t m := ⟨_, rfl⟩
        have HF := HFN.out X m (K13.out.on HBX.out) (K23.out.on HBX.out)
        rw [← hu] at HF
        have HFH := Lib.hid HF
        have HU : Hid (inR f t ms[kj] = u ∧ m = ms[kj]) := Lib.hid ⟨by rw [hu, hmm], hmm⟩
        have HX := Lib.hid hX
        clear hE hmm hu HF hX hml
        cases u
        · go_wp2_with (go_at_call 63; (try rw [← HX.out]); refine HFH.out.mono ?_; rintro e w3 ⟨rfl, hb⟩; refine Hid.out ?_)
          refine Lib.hid ?_
          have hbb := HBX.out.trans (hb.mono HBX.out.size)
          have HM3 : Hid (MidD w3 g n ms (inR f t) (kj + 1) ∧ ki = ((ms.take (kj + 1)).filter (inR f t)).length) := Lib.hid ⟨(HM.out.1.on hbb).skip hk' HU.out.1, by rw [fil_no hk' HU.out.1]; exact HM.out.2⟩
          have K14 := Lib.hid (K13.out.on hbb)
          have K24 := Lib.hid (K23.out.on hbb)
          have HB4 := Lib.hid (HB.out.trans (hbb.mono (Nat.le_trans hS2 HB.out.size)))
          clear hb hbb
          go_wp2_with fail
          go_roundw
          case rel => exact ⟨kj + 1, ki, by omega, by omega, by go_num, rfl, HM3, K14, K24, HB4⟩
          case measure => simp [intOf]; omega
        · go_wp2_with (go_at_call 63; (try rw [← HX.out]); refine HFH.out.mono ?_; rintro e w3 ⟨rfl, hb⟩; refine Hid.out ?_)
          refine Lib.hid ?_
          have hbb := HBX.out.trans (hb.mono HBX.out.size)
          have HMW := Lib.hid (HM.out.1.on hbb)
          have HM3 : Hid (MidD (putL w3 g (ki * 4) m.cells) g n ms (inR f t) (kj + 1) ∧ ki + 1 = ((ms.take (kj + 1)).filter (inR f t)).length) := Lib.hid (by
            have h1 := HMW.out.put hk' (by have := HNN.out; omega) HU.out.1
            rw [← HM.out.2, ← HU.out.2] at h1
            exact ⟨h1, by rw [fil_yes hk' HU.out.1, List.length_append, ← HM.out.2]; rfl⟩)
          have K14 : Hid (Bk k1 (putL w3 g (ki * 4) m.cells) [.int .i64 f]) := Lib.hid ((K13.out.on hbb).alike (putL_block hk1 _ _ _))
          have K24 : Hid (Bk k2 (putL w3 g (ki * 4) m.cells) [.int .i64 t]) := Lib.hid ((K23.out.on hbb).alike (putL_block hk2 _ _ _))
          have HB4 := Lib.hid (putL_below hS m.cells (ki * 4) (HB.out.trans (hbb.mono (Nat.le_trans hS2 HB.out.size))))
          obtain ⟨v0, v1, v2, v3⟩ := b4 (VX.out.on hb)
          have hblk := HMW.out.blk
          obtain ⟨x0, d0⟩ := hblk.cell (o := ki * 4) (by omega)
          have f0 := hblk.frozen (ki * 4)
          obtain ⟨x1, d1⟩ := hblk.cell (o := ki * 4 + 1) (by omega)
          have f1 := hblk.frozen (ki * 4 + 1)
          obtain ⟨x2, d2⟩ := hblk.cell (o := ki * 4 + 2) (by omega)
          have f2 := hblk.frozen (ki * 4 + 2)
          obtain ⟨x3, d3⟩ := hblk.cell (o := ki * 4 + 3) (by omega)
          have f3 := hblk.frozen (ki * 4 + 3)
          clear hb hbb hblk
          go_wp2_with fail
          go_roundw
          case rel =>
            have h6 := HM3.out
            have h7 := K14.out
            have h8 := K24.out
            have h9 := HB4.out
            simp only [putL, E.cells, Nat.add_assoc, Nat.reduceAdd] at h6 h7 h8 h9
            exact ⟨kj + 1, ki + 1, by omega, by omega, by go_num, by go_num, Lib.hid h6, Lib.hid h7, Lib.hid h8, Lib.hid h9⟩
          case measure => simp [intOf]; omega
      · obtain rfl : kj = n := by omega
        have hft : (ms.take kj).filter (inR f t) = ms.filter (inR f t) := by rw [List.take_of_length_le (by omega)]
        have hblk := HM.out.1.blk
        obtain ⟨L, hL, hcl⟩ := clearE wr 0 g (ki * 4) (kj - ki) (kj - ki) (by omega) (fun j hj => by obtain ⟨x, hx⟩ := hblk.cell (o := ki * 4 + j) (by omega); rw [hx]; rfl) (fun j hj => hblk.frozen _)
        have hle : ki = (ms.filter (inR f t)).length := by rw [← hft]; exact HM.out.2
        have HRE : Hid (RE (putL wr g (ki * 4) L) S g (ms.filter (inR f t)).length kj (ms.filter (inR f t))) := Lib.hid (by
          have hk1' : (ms.filter (inR f t)).length ≤ kj := by omega
          refine ⟨⟨⟨fun _ => ⟨g, 0, rfl, by rw [putL_size]; exact hblk.lt, fun a ha => ?_⟩, fun m hm => HR.out.asz m ((List.mem_filter.1 hm).1), rfl, hk1', by unfold maxLen; omega⟩, fun b hb o => ?_⟩, hS, by rw [putL_size]; exact hblk.lt⟩
          · rw [Nat.zero_add]
            have ha' : a < ((ms.take kj).filter (inR f t)).length := by rw [hft]; exact ha
            have h4 := HM.out.1.lo a ha'
            simp only [hft] at h4
            exact putL_els h4 (by rw [E.len]; omega)
          · rw [front_one hb, putL_fz]; exact hblk.frozen o)
        have HBL := Lib.hid (putL_below hS L (ki * 4) HB.out)
        have HLE := Lib.hid hle
        clear hft hblk hL hle
        go_wp2_with fail
        go_ret
        refine ⟨?_, HRE.out, HBL.out⟩
        rw [← HLE.out]; rfl

set_option maxRecDepth 100000 in
set_option maxHeartbeats 8000000 in
theorem specEB (A : Option Addr) (n cap : Nat) (ms : List E) (p f t : Int) (hp : -9223372036854775808 ≤ p) (hp2 : p ≤ 9223372036854775807) (x : Bool) (hx : x = true ↔ goodE ms p) (w : World) (h : LiE w w.heap.size A n cap ms) :
    Calls Try.prog 35 #[.slice A n cap, .int .i64 p, .int .i64 f, .int .i64 t] w (EAns w.heap.size (if x then ms.filter (inR f t) else []) x w) := by
  obtain ⟨X, hX⟩ : ∃ X, X = w.alloc (.cells #[] 47) := ⟨_, rfl⟩
  have B0 : Below w.heap.size w X := by rw [hX]; exact below1 _ _
  have HG := Lib.hid (l8Good A n cap ms p hp hp2 x hx X (h.on B0))
  have HIN : Hid (∀ (m : E) v, Calls Try.prog 56 #[.int .i64 m.day, .int .i64 f, .int .i64 t] v fun e w' => e = .returned (.bool (inR f t m)) ∧ w' = v) := Lib.hid fun m v => (l1In _ _ _ v).mono fun e w' ⟨he, hw⟩ => ⟨he, hw.symm⟩
  have HO0 : Hid (OwnE X w.heap.size (.slice (some ⟨w.heap.size, 0, none⟩) 0 0) []) := Lib.hid (by rw [hX]; exact OwnE.new (Nat.le_refl _))
  have HN := Lib.hid h.len
  have HL := Lib.hid h
  have HT := Lib.hid hx
  have HB0 := Lib.hid B0
  have HX := Lib.hid hX
  have hnl : n ≤ 9223372036854775807 := h.n1
  obtain ⟨D, hD⟩ : ∃ D, D = if x then ms.filter (inR f t) else [] := ⟨_, rfl⟩
  have HD := Lib.hid hD
  rw [← hD]
  clear hD hx h B0 hX
  go_enter Try.func35, Try.ntmps35
  cases x
  · go_wp2_with (go_at_call 54; (try rw [← HX.out]); refine HG.out.mono ?_; rintro e w2 ⟨rfl, hb⟩)
    go_ret2
    rw [show D = [] from HD.out]
    exact ⟨_, 0, 0, rfl, rfl, (show OwnE w2 w.heap.size _ [] from ownK HO0.out hb).re rfl (fun m hm => by simp at hm), HB0.out.trans (hb.mono HB0.out.size)⟩
  have HGD : Hid (goodE ms p) := Lib.hid (HT.out.1 rfl)
  go_wp2_with (go_at_call 54; (try rw [← HX.out]); refine HG.out.mono ?_; rintro e w2 ⟨rfl, hb⟩; refine Hid.out ?_)
  refine Lib.hid ?_
  have HO2 : Hid (OwnE w2 w.heap.size (.slice (some ⟨w.heap.size, 0, none⟩) 0 0) []) := Lib.hid (ownK HO0.out hb)
  have HB2 := Lib.hid (HB0.out.trans (hb.mono HB0.out.size))
  clear hb HO0 HG
  go_wp2_with fail
  go_loopw [10, 11] (fun v i wr => ∃ (j : Nat) (g3 c3 l3 : Nat), j ≤ n ∧ i = .int .i64 j ∧ v = .slice (some ⟨g3, 0, none⟩) l3 c3 ∧ Hid (l3 = ((ms.take j).filter (inR f t)).length) ∧ Hid (OwnE wr w.heap.size (.slice (some ⟨g3, 0, none⟩) l3 c3) ((ms.take j).filter (inR f t))) ∧ Hid (Below w.heap.size w wr)) (fun _ i _ => n - (intOf i).toNat)
  case atStart => exact ⟨0, _, 0, 0, Nat.zero_le _, rfl, rfl, Lib.hid rfl, HO2, HB2⟩
  case round =>
    obtain ⟨j, g3, c3, l3, hj, rfl, rfl, HL3, HO3, HB⟩ := hrel
    by_cases hlt : j < n
    · obtain ⟨b, o, hj', rfl, hB, hc⟩ := HL.out.get hlt
      obtain ⟨m, hm⟩ : ∃ m, m = ms[j] := ⟨_, rfl⟩
      have hE := hc wr HB.out
      rw [← hm] at hE
      obtain ⟨c0, c1, c2, c3'⟩ := e4 hE
      have i0 : (0 : Int) ≤ (j : Int) := by omega
      have i1 : (j : Int) < (n : Int) := by omega
      have hjb : j ≤ 40 := by have := good_len HGD.out; have := HN.out; omega
      obtain ⟨u, hu⟩ : ∃ u, u = inR f t m := ⟨_, rfl⟩
      have HF := HIN.out m
      rw [← hu] at HF
      have HFH := Lib.hid HF
      have HU : Hid (inR f t ms[j] = u ∧ m = ms[j]) := Lib.hid ⟨by rw [hu, hm], hm⟩
      have hl3 : l3 ≤ j := by rw [HL3.out]; exact fil_len ms (inR f t) j
      cases u
      · clear hE hc hm hu HF
        have HO4 : Hid (OwnE wr w.heap.size (.slice (some ⟨g3, 0, none⟩) l3 c3) ((ms.take (j + 1)).filter (inR f t))) := Lib.hid (by rw [fil_no hj' HU.out.1]; exact HO3.out)
        have HL4 : Hid (l3 = ((ms.take (j + 1)).filter (inR f t)).length) := Lib.hid (by rw [fil_no hj' HU.out.1]; exact HL3.out)
        go_wp2_with (go_at_call 56; refine (HFH.out _).mono ?_; rintro e w3 ⟨rfl, hw⟩; rw [hw]; clear hw)
        go_roundw
        case rel => exact ⟨j + 1, g3, c3, l3, by omega, by go_num, rfl, HL4, HO4, HB⟩
        case measure => simp [intOf]; omega
      · obtain ⟨rs, hrs⟩ : ∃ rs, rs = (ms.take j).filter (inR f t) := ⟨_, rfl⟩
        rw [← hrs] at HO3 HL3
        have HRS : Hid (rs ++ [m] = (ms.take (j + 1)).filter (inR f t)) := Lib.hid (by rw [fil_yes hj' HU.out.1, hrs, HU.out.2])
        obtain ⟨U, hU⟩ : ∃ U, U = wr.alloc (.cells #[.int .i64 m.day, .int .i64 m.party, .string m.act, .int .i64 m.amt] 47) := ⟨_, rfl⟩
        have HBU := Lib.hid (show Below wr.heap.size wr U by rw [hU]; exact below1 _ _)
        have HUE : Hid (El U wr.heap.size 0 m.cells) := Lib.hid (by rw [hU]; exact (Bk.new wr _ _).el)
        have HUS : Hid (w.heap.size ≤ U.heap.size) := Lib.hid (Nat.le_trans HB.out.size HBU.out.size)
        have HU2 := Lib.hid hU
        obtain rfl : l3 = rs.length := HL3.out
        have HUO : Hid (OwnE U w.heap.size (.slice (some ⟨g3, 0, none⟩) rs.length c3) rs) := Lib.hid (ownK HO3.out HBU.out)
        clear hE hc hm hu HF hrs hU HO3
        go_wp2_with (first
          | (go_at_call 56; refine (HFH.out _).mono ?_; rintro e w3 ⟨rfl, hw⟩; rw [hw]; clear hw)
          | (at_builtin; (try rw [← HU2.out]); refine wp_appE rfl _ _ rfl w.heap.size _ rs rfl HUO.out wr.heap.size 1 m rfl HUE.out (by omega) HUS.out ?_; intro a3 c4 w3 hown hg hat; refine Hid.out ?_))
        refine Lib.hid ?_
        have hb3 : Below w.heap.size w w3 := (HB.out.trans (HBU.out.mono HB.out.size)).grown hg HUS.out (fun k hk => (ownE_lt HUO.out hk).1)
        obtain ⟨g4, rfl⟩ : ∃ g3, a3 = some ⟨g3, 0, none⟩ := by
          have h0 : 0 < (rs ++ [m]).length := by simp
          obtain ⟨g, e, _⟩ := own_el E.len (rs := rs ++ [m]) hown h0
          exact ⟨g, e⟩
        have HO4 : Hid (OwnE w3 w.heap.size (.slice (some ⟨g4, 0, none⟩) (rs.length + 1) c4) ((ms.take (j + 1)).filter (inR f t))) := Lib.hid (by rw [← HRS.out]; exact hown)
        have HL4 : Hid (rs.length + 1 = ((ms.take (j + 1)).filter (inR f t)).length) := Lib.hid (by rw [← HRS.out]; simp)
        have HB4 := Lib.hid hb3
        clear hown hg hat hb3 HUO HUE HU2 HBU
        go_wp2_with fail
        go_roundw
        case rel => exact ⟨j + 1, g4, c4, rs.length + 1, by omega, by go_num, rfl, HL4, HO4, HB4⟩
        case measure => simp [intOf]; omega
    · have HE : Hid (ms.take j = ms) := Lib.hid (List.take_of_length_le (by have := HN.out; omega))
      go_wp2_with fail
      go_ret2
      rw [show D = ms.filter (inR f t) from HD.out]
      have h1 := HL3.out
      have h2 := HO3.out
      rw [HE.out] at h1 h2
      exact ⟨g3, l3, c3, h1, rfl, h2.re h1 (fun y hy => by have := good_act HGD.out (List.mem_filter.1 hy).1; unfold maxLen; omega), HB.out⟩

set_option maxRecDepth 100000 in
set_option maxHeartbeats 8000000 in
theorem implEB (A : Option Addr) (n cap : Nat) (ms : List E) (p f t : Int) (x : Bool) (hx : x = true ↔ goodE ms p) (w : World) (h : LiE w w.heap.size A n cap ms) :
    Calls Try.prog 36 #[.slice A n cap, .int .i64 p, .int .i64 f, .int .i64 t] w (EAns w.heap.size (if x then ms.filter (inR f t) else []) x w) := by
  obtain ⟨X, hX⟩ : ∃ X, X = (w.alloc (.cells #[.int .i64 f] 3)).alloc (.cells #[.int .i64 t] 3) := ⟨_, rfl⟩
  have B0 : Below w.heap.size w X := by rw [hX]; exact (below1 _ _).alloc (by simp) _
  have P0 : Hid (Bk w.heap.size X [.int .i64 f]) := Lib.hid (by rw [hX]; exact (Bk.new w #[.int .i64 f] 3).alloc _)
  have Q0 : Hid (Bk (w.heap.size + 1) X [.int .i64 t]) := Lib.hid (by
    rw [hX]
    have := Bk.new (w.alloc (.cells #[.int .i64 f] 3)) #[.int .i64 t] 3
    rw [World.size_alloc] at this
    exact this)
  have SX := Lib.hid (show X.heap.size = w.heap.size + 1 + 1 by rw [hX]; simp)
  have HG := Lib.hid (implValidEv A n cap ms p x hx X (h.on B0))
  have HN := Lib.hid h.len
  have HL := Lib.hid h
  have HT := Lib.hid hx
  have HB0 := Lib.hid B0
  have HX := Lib.hid hX
  obtain ⟨D, hD⟩ : ∃ D, D = if x then ms.filter (inR f t) else [] := ⟨_, rfl⟩
  have HD := Lib.hid hD
  rw [← hD]
  have hmf := makeFn
  clear hD hx h B0 hX
  go_enter Try.func36, Try.ntmps36
  cases x
  · go_wp2_with (go_at_call 16; (try rw [← HX.out]); refine HG.out.mono ?_; rintro e w2 ⟨rfl, hb⟩)
    go_ret2
    rw [show D = [] from HD.out]
    have hbb := HB0.out.trans (hb.mono HB0.out.size)
    exact ⟨_, 0, 0, rfl, rfl, (OwnE.new hbb.size).re rfl (fun m hm => by simp at hm), hbb.alloc hbb.size _⟩
  have HGD : Hid (goodE ms p) := Lib.hid (HT.out.1 rfl)
  have HN40 : Hid (n ≤ 40) := Lib.hid (by have := good_len HGD.out; have := HN.out; omega)
  have HTR : Hid (∀ v, Below X.heap.size X v → Calls Try.prog 47 #[.slice A n cap, .func (.func 48) #[] #[]] v fun e w' => ∃ g, Hid (X.heap.size ≤ g) ∧ e = .returned (.slice (some ⟨g, 0, none⟩) n n) ∧ RwE w' g n ms ∧ Below v.heap.size v w') := Lib.hid fun v hv => by
    have hbv := HB0.out.trans (hv.mono HB0.out.size)
    have hfs : ∀ m ∈ ms, (id m).act.size ≤ maxLen := fun m hm => by have := good_act HGD.out hm; unfold maxLen; simp only [id]; omega
    refine (transC A n cap ms v (HL.out.on hbv) (by have := HN40.out; omega) (fun m hm u hu => ?_) hfs).mono fun e w' ⟨he, hr, hb⟩ => ⟨v.heap.size, Lib.hid hv.size, he, by rw [List.map_id] at hr; exact hr, hb⟩
    have hac := good_act HGD.out hm
    exact cloneE m u (by omega)
  have HDE : Hid (∀ v g, X.heap.size ≤ g → Below X.heap.size X v → RwE v g n ms → Calls Try.prog 64 #[.slice (some ⟨g, 0, none⟩) n n, .func (.func 63) #[] #[.pointer (some ⟨w.heap.size, 0, none⟩), .pointer (some ⟨w.heap.size + 1, 0, none⟩)]] v fun e w' => e = .returned (.slice (some ⟨g, 0, none⟩) (ms.filter (inR f t)).length n) ∧ RE w' w.heap.size g (ms.filter (inR f t)).length n (ms.filter (inR f t)) ∧ Below w.heap.size v w') := Lib.hid fun v g hg hv hr => by
    have sx := SX.out
    exact delE g n ms w.heap.size (w.heap.size + 1) w.heap.size f t v hr HN.out.symm HN40.out (by omega) (by have := hv.size; omega) (P0.out.on hv) (Q0.out.on hv) (by omega) (by omega)
  go_wp2_with (first
    | (go_at_call 16; (try rw [← HX.out]); refine HG.out.mono ?_; rintro e w2 ⟨rfl, hb⟩; have HBX2 := Lib.hid hb; clear hb)
    | (go_at_call 47; refine (HTR.out _ HBX2.out).mono ?_; rintro e w3 ⟨g, hgg, rfl, hre, hb⟩; have HRE := Lib.hid hre; have HBX3 := Lib.hid (HBX2.out.trans (hb.mono HBX2.out.size)); clear hre hb)
    | (go_at_call 64; refine (HDE.out _ _ hgg.out HBX3.out HRE.out).mono ?_; rintro e w4 ⟨rfl, hre4, hb4⟩))
  go_ret2
  rw [show D = ms.filter (inR f t) from HD.out]
  exact ⟨g, _, n, rfl, rfl, hre4, (HB0.out.trans (HBX3.out.mono HB0.out.size)).trans hb4⟩

end Go.Proofs.Ytlpeaamjpcpfcaa.Et
