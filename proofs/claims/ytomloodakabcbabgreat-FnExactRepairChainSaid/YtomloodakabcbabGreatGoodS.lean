/-
  Valid conditions by the model: l5Forms, l5Size, l5Good.
-/
import Derived.Test.YtomloodakabcbabGreatFm
import Derived.Test.YtomloodakabcbabGreatCoEq
namespace Go.Proofs.YtomloodakabcbabGreat.Cond
open Go.RowKit

theorem forms_part {ps : List C} {i : Nat} (hi : i < ps.length) : allForms (ps.take (i + 1)) = (allForms (ps.take i) && ps[i].forms) := by
  rw [allForms_all, allForms_all, List.take_succ_eq_append_getElem hi, List.all_append]
  simp only [List.all_cons, List.all_nil, Bool.and_true]
theorem forms_no {ps : List C} {i : Nat} (hi : i < ps.length) (h : ps[i].forms = false) : allForms ps = false := by
  rw [allForms_all, List.all_eq_false]
  exact ⟨ps[i], List.getElem_mem hi, by simp [h]⟩

set_option maxHeartbeats 2000000 in
theorem l5Forms (k : K) : ∀ (w : World), Lies w w.heap.size k →
    Calls Tryz.prog 60 #[k.val] w fun e w' => e = .returned (.bool k.cond.forms) ∧ Below w.heap.size w w' := by
  induction k using K.ind with
  | h op nm day A cap ps ih =>
    intro w hin
    have hz := hin.sz
    have hA := Lib.hid hin.at
    have IH : Hid (∀ p ∈ ps, ∀ (v : World), Below w.heap.size w v → Calls Tryz.prog 60 #[p.val] v fun e w' => e = .returned (.bool p.cond.forms) ∧ Below v.heap.size v w') :=
      Lib.hid fun p hp v hb => ih p hp v ((hin.part hp).on hb)
    have hn := hz.2
    unfold maxLen at hn
    have HC := Lib.hid (conds_len ps)
    clear hin ih hz
    show Calls Tryz.prog 60 #[.agg #[.int .i64 op, .string nm, .int .i64 day, .slice A ps.length cap]] w fun e w' => e = .returned (.bool (form op nm day (conds ps).length && allForms (conds ps))) ∧ Below w.heap.size w w'
    rw [conds_len]
    obtain ⟨n, hnn⟩ : ∃ n, n = ps.length := ⟨_, rfl⟩
    have HN := Lib.hid hnn
    rw [← hnn] at hn ⊢
    clear hnn
    have X0 := Lib.hid (B4.new w (.int .i64 op) (.string nm) (.int .i64 day) (.slice A n cap) 68)
    have B0 := Lib.hid (below1 w (.cells #[.int .i64 op, .string nm, .int .i64 day, .slice A n cap] 68))
    have HF := l5Form op nm day A n cap (w.alloc (.cells #[.int .i64 op, .string nm, .int .i64 day, .slice A n cap] 68))
    obtain ⟨f, hf⟩ : ∃ f, f = form op nm day n := ⟨_, rfl⟩
    rw [← hf] at HF ⊢
    have HFH := Lib.hid HF
    clear hf HF
    cases f
    · go_enter Tryz.func60, Tryz.ntmps60
      go_wp2_with (go_at_call 75; refine HFH.out.mono ?_; rintro e w2 ⟨rfl, hb2⟩)
      go_ret
      exact ⟨rfl, B0.out.trans (hb2.mono B0.out.size)⟩
    · go_enter Tryz.func60, Tryz.ntmps60
      go_wp2_with (go_at_call 75; refine HFH.out.mono ?_; rintro e w2 ⟨rfl, hb2⟩; refine Hid.out ?_)
      refine Lib.hid ?_
      have HB2 := Lib.hid (B0.out.trans (hb2.mono B0.out.size))
      have HX2 := Lib.hid (X0.out.on hb2)
      clear hb2
      go_wp2_with fail
      go_loopw [3] (fun i wr => ∃ k : Nat, k ≤ n ∧ i = .int .i64 k ∧ Hid (allForms ((conds ps).take k) = true) ∧ Hid (Below w.heap.size w wr) ∧ Hid (B4 w.heap.size wr (.int .i64 op) (.string nm) (.int .i64 day) (.slice A n cap))) (fun i _ => n - (intOf i).toNat)
      case atStart => exact ⟨0, Nat.zero_le _, rfl, Lib.hid rfl, HB2, HX2⟩
      case round =>
        obtain ⟨k, hk, rfl, HK, HB, HX⟩ := hrel
        obtain ⟨_, x0, x1, x2, x3, _⟩ := HX.out
        by_cases hlt : k < n
        · have hk' : k < ps.length := by have := HN.out; omega
          obtain ⟨b, o, rfl, hB, hc⟩ := hA.out (by omega)
          obtain ⟨p, hp⟩ : ∃ p, p = ps[k] := ⟨_, rfl⟩
          have hE := (hc k hk').alike (HB.out.block b hB)
          rw [← hp] at hE
          obtain ⟨c0, c1, c2, c3⟩ := hE
          have hkc : k < (conds ps).length := by have := HC.out; omega
          have HP : Hid ((conds ps)[k] = p.cond) := Lib.hid (by simp [conds_map, hp])
          have IHp := IH.out p (by rw [hp]; exact List.getElem_mem hk') wr HB.out
          clear hp hc
          obtain ⟨q, hq⟩ : ∃ q, q = p.cond.forms := ⟨_, rfl⟩
          rw [← hq] at IHp
          have HQ := Lib.hid hq
          have IHH := Lib.hid IHp
          clear hq IHp
          cases q
          · go_wp2_with (go_at_call 60; refine IHH.out.mono ?_; rintro e w3 ⟨rfl, hb3⟩)
            go_ret
            refine ⟨?_, HB.out.trans (hb3.mono HB.out.size)⟩
            rw [forms_no hkc (by rw [HP.out, ← HQ.out])]; rfl
          · go_wp2_with (go_at_call 60; refine IHH.out.mono ?_; rintro e w3 ⟨rfl, hb3⟩)
            go_roundw
            case rel => exact ⟨k + 1, by omega, by go_num, Lib.hid (by rw [forms_part hkc, HK.out, HP.out, ← HQ.out]; rfl), Lib.hid (HB.out.trans (hb3.mono HB.out.size)), Lib.hid (HX.out.on hb3)⟩
            case measure => simp [intOf]; omega
        · have HE : Hid ((conds ps).take k = conds ps) := Lib.hid (List.take_of_length_le (by have := HN.out; have := HC.out; omega))
          go_wp2_with fail
          go_ret
          refine ⟨?_, HB.out⟩
          have := HK.out
          rw [HE.out] at this
          rw [this]; rfl

set_option maxHeartbeats 2000000 in
theorem l5Size (k : K) : ∀ (w : World), Lies w w.heap.size k → k.cond.size ≤ 1048577 →
    Calls Tryz.prog 61 #[k.val] w fun e w' => e = .returned (.int .i64 (k.cond.size : Int)) ∧ Below w.heap.size w w' := by
  induction k using K.ind with
  | h op nm day A cap ps ih =>
    intro w hin hsz
    have hz := hin.sz
    have hA := Lib.hid hin.at
    simp only [K.cond, C.size] at hsz
    have IH : Hid (∀ p ∈ ps, ∀ (v : World), Below w.heap.size w v → Calls Tryz.prog 61 #[p.val] v fun e w' => e = .returned (.int .i64 (p.cond.size : Int)) ∧ Below v.heap.size v w') :=
      Lib.hid fun p hp v hb => ih p hp v ((hin.part hp).on hb) (by
        have : ∀ l : List K, p ∈ l → p.cond.size ≤ sizes (conds l) := fun l => by
          induction l with
          | nil => intro h; simp at h
          | cons x l ihl =>
            intro h
            rcases List.mem_cons.1 h with rfl | h
            · simp only [conds, sizes]; omega
            · have := ihl h; simp only [conds, sizes]; omega
        have := this ps hp
        omega)
    have hn := hz.2
    unfold maxLen at hn
    have HC := Lib.hid (conds_len ps)
    have HZ := Lib.hid hsz
    have HLE := Lib.hid (fun i => sizes_take_le (conds ps) i)
    clear hin ih hz hsz
    show Calls Tryz.prog 61 #[.agg #[.int .i64 op, .string nm, .int .i64 day, .slice A ps.length cap]] w fun e w' => e = .returned (.int .i64 ((1 + sizes (conds ps) : Nat) : Int)) ∧ Below w.heap.size w w'
    obtain ⟨n, hnn⟩ : ∃ n, n = ps.length := ⟨_, rfl⟩
    have HN := Lib.hid hnn
    rw [← hnn] at hn ⊢
    clear hnn
    have X0 := Lib.hid (B4.new w (.int .i64 op) (.string nm) (.int .i64 day) (.slice A n cap) 68)
    have B0 := Lib.hid (below1 w (.cells #[.int .i64 op, .string nm, .int .i64 day, .slice A n cap] 68))
    go_enter Tryz.func61, Tryz.ntmps61
    go_wp2_with fail
    go_loopw [3, 4] (fun m i wr => ∃ k t : Nat, k ≤ n ∧ i = .int .i64 k ∧ m = .int .i64 (t : Int) ∧ t ≤ 1048577 ∧ Hid (t = 1 + sizes ((conds ps).take k)) ∧ Hid (Below w.heap.size w wr) ∧ Hid (B4 w.heap.size wr (.int .i64 op) (.string nm) (.int .i64 day) (.slice A n cap))) (fun _ i _ => n - (intOf i).toNat)
    case atStart => exact ⟨0, 1, Nat.zero_le _, rfl, rfl, by omega, Lib.hid (by simp [sizes]), B0, X0⟩
    case round =>
      obtain ⟨k, t, hk, rfl, rfl, ht, HT, HB, HX⟩ := hrel
      obtain ⟨_, x0, x1, x2, x3, _⟩ := HX.out
      by_cases hlt : k < n
      · have hk' : k < ps.length := by have := HN.out; omega
        obtain ⟨b, o, rfl, hB, hc⟩ := hA.out (by omega)
        obtain ⟨p, hp⟩ : ∃ p, p = ps[k] := ⟨_, rfl⟩
        have hE := (hc k hk').alike (HB.out.block b hB)
        rw [← hp] at hE
        obtain ⟨c0, c1, c2, c3⟩ := hE
        have hkc : k < (conds ps).length := by have := HC.out; omega
        have HP : Hid ((conds ps)[k] = p.cond) := Lib.hid (by simp [conds_map, hp])
        have IHp := Lib.hid (IH.out p (by rw [hp]; exact List.getElem_mem hk') wr HB.out)
        have HS : Hid (t + p.cond.size = 1 + sizes ((conds ps).take (k + 1))) := Lib.hid (by rw [size_part hkc, HP.out, HT.out]; omega)
        have hts : t + p.cond.size ≤ 1048577 := by rw [HS.out]; have := HLE.out (k + 1); have := HZ.out; omega
        clear hp hc
        go_wp2_with (go_at_call 61; refine IHp.out.mono ?_; rintro e w3 ⟨rfl, hb3⟩)
        go_roundw
        case rel => exact ⟨k + 1, t + p.cond.size, by omega, by go_num, by go_num, hts, HS, Lib.hid (HB.out.trans (hb3.mono HB.out.size)), Lib.hid (HX.out.on hb3)⟩
        case measure => simp [intOf]; omega
      · have HE : Hid ((conds ps).take k = conds ps) := Lib.hid (List.take_of_length_le (by have := HN.out; have := HC.out; omega))
        go_wp2_with fail
        go_ret
        refine ⟨?_, HB.out⟩
        have := HT.out
        rw [HE.out] at this
        rw [← this]; rfl

set_option maxHeartbeats 2000000 in
theorem l5Good (k : K) (w : World) (hin : Lies w w.heap.size k) (hw : k.cond.wt ≤ 1048576) :
    Calls Tryz.prog 46 #[k.val] w fun e w' => e = .returned (.bool k.cond.good) ∧ Below w.heap.size w w' := by
  have hs : k.cond.size ≤ 1048577 := by have := C.size_le k.cond; omega
  have B0 := Lib.hid (below1 w (.cells #[.int .i64 k.op, .string k.nm, .int .i64 k.day, .slice k.A k.ps.length k.cap] 68))
  have X0 := Lib.hid (B4.new w (.int .i64 k.op) (.string k.nm) (.int .i64 k.day) (.slice k.A k.ps.length k.cap) 68)
  have HF := l5Forms k _ (hin.on B0.out)
  have HS : Hid (∀ v, Below w.heap.size w v → Calls Tryz.prog 61 #[k.val] v fun e w' => e = .returned (.int .i64 (k.cond.size : Int)) ∧ Below v.heap.size v w') := Lib.hid fun v hb => l5Size k v (hin.on hb) hs
  obtain ⟨f, hf⟩ : ∃ f, f = k.cond.forms := ⟨_, rfl⟩
  rw [← hf] at HF
  unfold C.good
  rw [← hf]
  have HFH := Lib.hid HF
  clear HF hf hin
  cases f
  · go_enter Tryz.func46, Tryz.ntmps46
    go_wp2_with (go_at_call 60; refine HFH.out.mono ?_; rintro e w2 ⟨rfl, hb2⟩)
    go_ret
    exact ⟨rfl, B0.out.trans (hb2.mono B0.out.size)⟩
  · go_enter Tryz.func46, Tryz.ntmps46
    go_wp2_with (go_at_call 60; refine HFH.out.mono ?_; rintro e w2 ⟨rfl, hb2⟩; refine Hid.out ?_)
    refine Lib.hid ?_
    have HB2 := Lib.hid (B0.out.trans (hb2.mono B0.out.size))
    have HX2 := Lib.hid (X0.out.on hb2)
    obtain ⟨_, x0, x1, x2, x3, _⟩ := HX2.out
    have HS2 := Lib.hid (HS.out w2 HB2.out)
    clear hb2
    go_wp2_with (go_at_call 61; refine HS2.out.mono ?_; rintro e w3 ⟨rfl, hb3⟩)
    go_ret
    refine ⟨?_, HB2.out.trans (hb3.mono HB2.out.size)⟩
    simp
    omega

end Go.Proofs.YtomloodakabcbabGreat.Cond
