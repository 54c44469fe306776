/-
  Both NextChange.
-/
import Derived.Test.YtbpoalhiaedcgaaNdS
namespace Go.Proofs.Ytbpoalhiaedcgaa.NcF
open Go.RowKit Go.Proofs.Ytbpoalhiaedcgaa.Cond Go.Proofs.Ytbpoalhiaedcgaa.SrtR Go.Proofs.Ytbpoalhiaedcgaa.NdI Go.Proofs.Ytbpoalhiaedcgaa.NdS
set_option linter.unusedVariables false

def nx (ys : List Int) (d : Int) : Int := (ys.find? fun x => decide (d < x)).getD (-1)
theorem nx_hit {ys : List Int} {d : Int} {k : Nat} (hk : k < ys.length) (h : ∀ j, ∀ hj : j < ys.length, j < k → ys[j] ≤ d) (h2 : d < ys[k]) : nx ys d = ys[k] := by
  unfold nx
  have : ys.find? (fun x => decide (d < x)) = some ys[k] := by
    rw [List.find?_eq_some_iff_getElem]
    exact ⟨by simpa using h2, k, hk, rfl, fun j hj => by simpa using h j (by omega) hj⟩
  rw [this]; rfl
theorem nx_none {ys : List Int} {d : Int} (h : ∀ j, ∀ hj : j < ys.length, ys[j] ≤ d) : nx ys d = -1 := by
  unfold nx
  have : ys.find? (fun x => decide (d < x)) = none := by
    rw [List.find?_eq_none]
    intro x hx
    obtain ⟨j, hj, rfl⟩ := List.mem_iff_getElem.1 hx
    simpa using h j hj
  rw [this]; rfl

/-- What NextChange answers. -/
structure NcIs (c : C) (d : Int) (x : Int) (y : Bool) : Prop where
  no : (c.good && isDy d) = false → x = 0 ∧ y = false
  yes : (c.good && isDy d) = true → x = nx (UniMath.uni [] (dys c)) d ∧ y = true
theorem nc_is (c : C) (d : Int) : ∃ x y, NcIs c d x y := by
  cases h : (c.good && isDy d) with
  | false => exact ⟨0, false, ⟨fun _ => ⟨rfl, rfl⟩, fun h2 => (by rw [h] at h2; cases h2)⟩⟩
  | true => exact ⟨nx (UniMath.uni [] (dys c)) d, true, ⟨fun h2 => (by rw [h] at h2; cases h2), fun _ => ⟨rfl, rfl⟩⟩⟩

theorem own_cell {w : World} {S g n c : Nat} {ys : List Int} (h : UniS.Own w S (.slice (some ⟨g, 0, none⟩) n c) ys) (hn : n = ys.length) {k : Nat} (hk : k < ys.length) : w.cell? ⟨g, k, none⟩ = some (.int .i64 ys[k]) := by
  unfold UniS.Own at h
  rw [← hn] at h
  rw [h.cellAt k (by omega)]
  simp [hk]

set_option maxHeartbeats 4000000 in
theorem specNc (k : K) (d : Int) (w : World) (hin : Lies w w.heap.size k) (hw : k.cond.wt ≤ 1048576) (x : Int) (y : Bool) (hx : NcIs k.cond d x y) :
    Calls Try.prog 27 #[k.val, .int .i64 d] w fun e w' => e = .returned (.tuple #[.int .i64 x, .bool y]) ∧ Below w.heap.size w w' := by
  have B0 := Lib.hid (below1 w (.cells #[.int .i64 k.op, .string k.nm, .int .i64 k.day, .slice k.A k.ps.length k.cap] 30))
  have X0 := Lib.hid (B4.new w (.int .i64 k.op) (.string k.nm) (.int .i64 k.day) (.slice k.A k.ps.length k.cap) 30)
  have HG := l5Good k _ (hin.on B0.out) hw
  have HD : Hid (∀ v, Calls Try.prog 45 #[.int .i64 d] v fun e w' => e = .returned (.bool (isDy d)) ∧ v = w') := Lib.hid fun v => l3Good d v
  have HX := Lib.hid hx
  have HIN := Lib.hid hin
  have HQ : Hid (k.cond.good = true → k.cond.size ≤ 15) := Lib.hid fun h => by simp only [C.good, Bool.and_eq_true, decide_eq_true_eq] at h; exact h.2
  clear hin hw hx
  obtain ⟨g, hg⟩ : ∃ g, g = k.cond.good := ⟨_, rfl⟩
  rw [← hg] at HG
  have HGG := Lib.hid hg
  have HGH := Lib.hid HG
  clear hg HG
  obtain ⟨t, ht⟩ : ∃ t, t = isDy d := ⟨_, rfl⟩
  rw [← ht] at HD
  have HT := Lib.hid ht
  clear ht
  cases g
  · have HE : Hid (x = 0 ∧ y = false) := Lib.hid (HX.out.no (by rw [← HGG.out]; rfl))
    go_enter Try.func27, Try.ntmps27
    go_wp2_with (go_at_call 38; refine HGH.out.mono ?_; rintro e w2 ⟨rfl, hb2⟩)
    go_ret2
    exact ⟨by rw [HE.out.1, HE.out.2]; rfl, B0.out.trans (hb2.mono B0.out.size)⟩
  go_enter Try.func27, Try.ntmps27
  go_wp2_with (go_at_call 38; refine HGH.out.mono ?_; rintro e w2 ⟨rfl, hb2⟩; refine Hid.out ?_)
  refine Lib.hid ?_
  have B2 := Lib.hid (B0.out.trans (hb2.mono B0.out.size))
  have X2 := Lib.hid (X0.out.on hb2)
  clear hb2
  cases t
  · have HE : Hid (x = 0 ∧ y = false) := Lib.hid (HX.out.no (by rw [← HGG.out, ← HT.out]; rfl))
    go_wp2_with (go_at_call 45; refine (HD.out _).mono ?_; rintro e w4 ⟨rfl, rfl⟩)
    go_ret2
    exact ⟨by rw [HE.out.1, HE.out.2]; rfl, B2.out⟩
  have HE : Hid (x = nx (UniMath.uni [] (dys k.cond)) d ∧ y = true) := Lib.hid (HX.out.yes (by rw [← HGG.out, ← HT.out]; rfl))
  have b3 := below1 w2 (.cells #[] 3)
  have X3 := Lib.hid (X2.out.on b3)
  obtain ⟨_, x0, x1, x2, x3, _⟩ := X3.out
  have B3 := Lib.hid (B2.out.trans (b3.mono B2.out.size))
  have HDD := Lib.hid (l5Days k w2.heap.size 0 0 [] (w2.alloc (.cells #[] 3)) w2.heap.size rfl (by have := HQ.out HGG.out.symm; omega) b3.size (UniS.own_new w2) (HIN.out.on B3.out))
  have HLY : Hid ((UniMath.uni [] (dys k.cond)).length ≤ 15) := Lib.hid (by have := UniMath.length_uni (dys k.cond) []; have := dys_len k.cond; have := HQ.out HGG.out.symm; simp at *; omega)
  clear b3
  generalize UniMath.uni [] (dys k.cond) = ys at *
  go_wp2_with (first | (go_at_call 45; refine (HD.out _).mono ?_; rintro e w4 ⟨rfl, rfl⟩) | (go_at_call 56; refine HDD.out.mono ?_; rintro e w4 ⟨g4, n4, c4, hn4, rfl, ho4, hb4⟩; have HN4 := Lib.hid hn4; clear hn4; refine Hid.out ?_))
  refine Lib.hid ?_
  have HO4 := Lib.hid ho4
  have B4' := Lib.hid (B3.out.trans (hb4.mono B3.out.size))
  have hle : n4 ≤ 1000 := by rw [HN4.out]; have := HLY.out; omega
  clear ho4 hb4 x0 x1 x2 x3 HD HX
  go_wp2_with fail
  go_loopw [7] (fun i wr => ∃ j : Nat, j ≤ n4 ∧ i = .int .i64 j ∧ Hid (∀ t, ∀ ht : t < ys.length, t < j → ys[t] ≤ d) ∧ w4 = wr) (fun i _ => n4 - (intOf i).toNat)
  case atStart => exact ⟨0, Nat.zero_le _, rfl, Lib.hid fun t _ h => by omega, rfl⟩
  case round =>
    obtain ⟨j, hj, rfl, HJ, rfl⟩ := hrel
    by_cases hlt : j < n4
    · have hj' : j < ys.length := by have := HN4.out; omega
      obtain ⟨p, hp⟩ : ∃ p, p = ys[j] := ⟨_, rfl⟩
      have hcell : w4.cell? ⟨g4, j, none⟩ = some (.int .i64 p) := by rw [hp]; exact own_cell HO4.out HN4.out hj'
      have HP := Lib.hid hp
      clear hp
      by_cases hd : d < p
      · go_wp2_with fail
        go_ret2
        exact ⟨by rw [HE.out.1, HE.out.2, nx_hit hj' HJ.out (by rw [← HP.out]; exact hd), ← HP.out]; rfl, B4'.out⟩
      · go_wp2_with fail
        go_roundw
        case rel => exact ⟨j + 1, by omega, by go_num, Lib.hid fun t ht htj => by
          by_cases e : t = j
          · subst e; rw [← HP.out]; omega
          · exact HJ.out t ht (by omega), trivial⟩
        case measure => simp [intOf]; omega
    · go_wp2_with fail
      go_ret2
      exact ⟨by rw [HE.out.1, HE.out.2, nx_none (fun t ht => HJ.out t ht (by have := HN4.out; omega))]; rfl, B4'.out⟩

theorem at_one (w : World) (k : K) : At (w.alloc (.cells #[.int .i64 k.op, .string k.nm, .int .i64 k.day, .slice k.A k.ps.length k.cap] 30)) (w.heap.size + 1) (some ⟨w.heap.size, 0, none⟩) [k] := fun _ => ⟨w.heap.size, 0, rfl, by omega, fun i hi => by
  have : i = 0 := by simpa using hi
  subst this
  have h := B4.new w (.int .i64 k.op) (.string k.nm) (.int .i64 k.day) (.slice k.A k.ps.length k.cap) 30
  exact ⟨h.c0, h.c1, h.c2, h.c3⟩⟩

set_option maxHeartbeats 4000000 in
theorem implNc (k : K) (d : Int) (w : World) (hin : Lies w w.heap.size k) (hw : k.cond.wt ≤ 1048576) (x : Int) (y : Bool) (hx : NcIs k.cond d x y) :
    Calls Try.prog 28 #[k.val, .int .i64 d] w fun e w' => e = .returned (.tuple #[.int .i64 x, .bool y]) ∧ Below w.heap.size w w' := by
  have B0 := Lib.hid (below1 w (.cells #[.int .i64 k.op, .string k.nm, .int .i64 k.day, .slice k.A k.ps.length k.cap] 30))
  have X0 := Lib.hid (B4.new w (.int .i64 k.op) (.string k.nm) (.int .i64 k.day) (.slice k.A k.ps.length k.cap) 30)
  have HG := implGood k _ (hin.on B0.out) hw
  have HD : Hid (∀ v, Calls Try.prog 48 #[.int .i64 d] v fun e w' => e = .returned (.bool (isDy d)) ∧ v = w') := Lib.hid fun v => isDay d v
  have HX := Lib.hid hx
  have HIN := Lib.hid hin
  have HQ : Hid (k.cond.good = true → k.cond.size ≤ 15 ∧ ∃ q : Q, k.cond = q.c) := Lib.hid fun h => by
    obtain ⟨q, hq, _, _⟩ := good_q h
    simp only [C.good, Bool.and_eq_true, decide_eq_true_eq] at h
    exact ⟨h.2, q, hq⟩
  clear hin hw hx
  obtain ⟨g, hg⟩ : ∃ g, g = k.cond.good := ⟨_, rfl⟩
  rw [← hg] at HG
  have HGG := Lib.hid hg
  have HGH := Lib.hid HG
  clear hg HG
  obtain ⟨t, ht⟩ : ∃ t, t = isDy d := ⟨_, rfl⟩
  rw [← ht] at HD
  have HT := Lib.hid ht
  clear ht
  cases g
  · have HE : Hid (x = 0 ∧ y = false) := Lib.hid (HX.out.no (by rw [← HGG.out]; rfl))
    go_enter Try.func28, Try.ntmps28
    go_wp2_with (go_at_call 15; refine HGH.out.mono ?_; rintro e w2 ⟨rfl, hb2⟩)
    go_ret2
    exact ⟨by rw [HE.out.1, HE.out.2]; rfl, B0.out.trans (hb2.mono B0.out.size)⟩
  go_enter Try.func28, Try.ntmps28
  go_wp2_with (go_at_call 15; refine HGH.out.mono ?_; rintro e w2 ⟨rfl, hb2⟩; refine Hid.out ?_)
  refine Lib.hid ?_
  have B2 := Lib.hid (B0.out.trans (hb2.mono B0.out.size))
  have X2 := Lib.hid (X0.out.on hb2)
  clear hb2
  cases t
  · have HE : Hid (x = 0 ∧ y = false) := Lib.hid (HX.out.no (by rw [← HGG.out, ← HT.out]; rfl))
    go_wp2_with (go_at_call 48; refine (HD.out _).mono ?_; rintro e w4 ⟨rfl, rfl⟩)
    go_ret2
    exact ⟨by rw [HE.out.1, HE.out.2]; rfl, B2.out⟩
  have HE : Hid (x = nx (UniMath.uni [] (dys k.cond)) d ∧ y = true) := Lib.hid (HX.out.yes (by rw [← HGG.out, ← HT.out]; rfl))
  obtain ⟨hs15, q, hq⟩ := HQ.out HGG.out.symm
  have b3 := below1 w2 (.cells #[.int .i64 k.op, .string k.nm, .int .i64 k.day, .slice k.A k.ps.length k.cap] 30)
  have B3 := Lib.hid (B2.out.trans (b3.mono B2.out.size))
  obtain ⟨_, x0, x1, x2, x3, _⟩ := X2.out
  have HDD := names (some ⟨w2.heap.size, 0, none⟩) 1 [k] (w2.alloc (.cells #[.int .i64 k.op, .string k.nm, .int .i64 k.day, .slice k.A k.ps.length k.cap] 30)) ((at_one w2 k).more (by simp)) (fun p hp => by
    have : p = k := by simpa using hp
    subst this
    exact HIN.out.on B3.out) (by simp) (fun p hp => by
    have : p = k := by simpa using hp
    subst this
    exact hs15)
  have HCL : Hid (cols (conds [k]) ([], []) = (nms k.cond, dys k.cond)) := Lib.hid (by
    simp only [conds, cols, List.foldl_cons, List.foldl_nil]
    rw [hq, col_q]; simp)
  rw [HCL.out] at HDD
  have HDH := Lib.hid HDD
  have HLY : Hid ((UniMath.uni [] (dys k.cond)).length ≤ 15) := Lib.hid (by have := UniMath.length_uni (dys k.cond) []; have := dys_len k.cond; simp at *; omega)
  have HYS : Hid (Lib.compact (srtI (dys k.cond)) = UniMath.uni [] (dys k.cond)) := Lib.hid (comp_dys _)
  clear b3 HDD hs15 hq
  generalize UniMath.uni [] (dys k.cond) = ys at *
  go_wp2_with (first | (go_at_call 48; refine (HD.out _).mono ?_; rintro e w4 ⟨rfl, rfl⟩) | (go_at_call 53; refine HDH.out.mono ?_; rintro e w4 ⟨g1, m1, c1, g4, n4, c4, rfl, hnd⟩; have HND := Lib.hid hnd; clear hnd; refine Hid.out ?_))
  refine Lib.hid ?_
  have HN4 : Hid (n4 = ys.length) := Lib.hid (by have := HND.out.l2; rw [HYS.out] at this; exact this)
  have HO4 := Lib.hid (show UniS.Own w4 _ (.slice (some ⟨g4, 0, none⟩) n4 c4) ys by have := HND.out.o2; rw [HYS.out] at this; exact this)
  have B4' := Lib.hid (B3.out.trans (HND.out.bel.mono B3.out.size))
  have hle : n4 ≤ 1000 := by rw [HN4.out]; have := HLY.out; omega
  clear x0 x1 x2 x3 HD HX
  go_wp2_with fail
  go_loopw [26] (fun i wr => ∃ j : Nat, j ≤ n4 ∧ i = .int .i64 j ∧ Hid (∀ t, ∀ ht : t < ys.length, t < j → ys[t] ≤ d) ∧ w4 = wr) (fun i _ => n4 - (intOf i).toNat)
  case atStart => exact ⟨0, Nat.zero_le _, rfl, Lib.hid fun t _ h => by omega, rfl⟩
  case round =>
    obtain ⟨j, hj, rfl, HJ, rfl⟩ := hrel
    by_cases hlt : j < n4
    · have hj' : j < ys.length := by have := HN4.out; omega
      obtain ⟨p, hp⟩ : ∃ p, p = ys[j] := ⟨_, rfl⟩
      have hcell : w4.cell? ⟨g4, j, none⟩ = some (.int .i64 p) := by rw [hp]; exact own_cell HO4.out HN4.out hj'
      have HP := Lib.hid hp
      clear hp
      by_cases hd : d < p
      · go_wp2_with fail
        go_ret2
        exact ⟨by rw [HE.out.1, HE.out.2, nx_hit hj' HJ.out (by rw [← HP.out]; exact hd), ← HP.out]; rfl, B4'.out⟩
      · go_wp2_with fail
        go_roundw
        case rel => exact ⟨j + 1, by omega, by go_num, Lib.hid fun t ht htj => by
          by_cases e : t = j
          · subst e; rw [← HP.out]; omega
          · exact HJ.out t ht (by omega), trivial⟩
        case measure => simp [intOf]; omega
    · go_wp2_with fail
      go_ret2
      exact ⟨by rw [HE.out.1, HE.out.2, nx_none (fun t ht => HJ.out t ht (by have := HN4.out; omega))]; rfl, B4'.out⟩

end Go.Proofs.Ytbpoalhiaedcgaa.NcF
