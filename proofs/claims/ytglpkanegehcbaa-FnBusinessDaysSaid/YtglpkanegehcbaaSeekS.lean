/-
  l4Seek and AddBusinessDays of the model.
-/
import Derived.Test.YtglpkanegehcbaaIsBiz
namespace Go.Proofs.Ytglpkanegehcbaa.SeekS
open Go.RowKit Go.Proofs.Ytglpkanegehcbaa.IRow Go.Proofs.Ytglpkanegehcbaa.Cal Go.Proofs.Ytglpkanegehcbaa.Biz Go.Proofs.Ytglpkanegehcbaa.Wd Go.Proofs.Ytglpkanegehcbaa.Asc Go.Proofs.Ytglpkanegehcbaa.CalLaw Go.Proofs.Ytglpkanegehcbaa.Opn Go.Proofs.Ytglpkanegehcbaa.IsBiz

theorem left_out_up {p : Int → Bool} {d : Int} (h : ¬ Day d) (h0 : 0 ≤ d) : seek p 1 (left 1 d) d = none := by
  have : left 1 d = 0 := by rw [left_up]; unfold Day at h; omega
  rw [this]; rfl
theorem left_out_dn {p : Int → Bool} {d : Int} (h : ¬ Day d) (h0 : d ≤ 36524) : seek p (-1) (left (-1) d) d = none := by
  have : left (-1) d = 0 := by rw [left_dn]; unfold Day at h; omega
  rw [this]; rfl
theorem left_in_up {d : Int} (h : Day d) : left 1 d = left 1 (d + 1) + 1 := by rw [left_up, left_up]; unfold Day at h; omega
theorem left_in_dn {d : Int} (h : Day d) : left (-1) d = left (-1) (d + -1) + 1 := by rw [left_dn, left_dn]; unfold Day at h; omega
theorem ret_one {a b : Int} (h : a = b) : Ending.returned (.int .i64 a) = .returned (.int .i64 b) := by rw [h]

def addT (we ho : List Int) (d n : Int) : Option Int := if n = 0 then some d else if 0 < n then hop (opn we ho) 1 n.toNat d else hop (opn we ho) (-1) (-n).toNat d
def AddOk (we ho : List Int) (d n : Int) : Prop := GoodC we ho ∧ Day d ∧ -1000 ≤ n ∧ n ≤ 1000
instance (we ho : List Int) (d n : Int) : Decidable (AddOk we ho d n) := inferInstanceAs (Decidable (_ ∧ _ ∧ _ ∧ _))
def addO (we ho : List Int) (d n : Int) : Option Int := if AddOk we ho d n then addT we ho d n else none
def addV (we ho : List Int) (d n : Int) : Int := (addO we ho d n).getD 0
def addF (we ho : List Int) (d n : Int) : Bool := (addO we ho d n).isSome
theorem ret_opt {o : Option Int} {a : Int} {f : Bool} (h : (a = o.getD 0) ∧ f = o.isSome) : Ending.returned (.tuple #[.int .i64 a, .bool f]) = .returned (.tuple #[.int .i64 (o.getD 0), .bool o.isSome]) := by rw [h.1, h.2]

set_option maxHeartbeats 2000000 in
theorem seek_up (A1 A2 : Option Addr) (n1 c1 n2 c2 : Nat) (we ho : List Int) (d : Int) (w : World) (h : Cl w w.heap.size A1 n1 A2 n2 we ho) (d0 : 0 ≤ d) (d1 : d ≤ 36525) :
    Calls Try.prog 36 #[.agg #[.slice A1 n1 c1, .slice A2 n2 c2], .int .i64 d, .int .i64 1] w fun e w' => e = .returned (.int .i64 ((seek (opn we ho) 1 (left 1 d) d).getD (-1))) ∧ Below w.heap.size w w' := by
  obtain ⟨T, hT⟩ : ∃ T, T = seek (opn we ho) 1 (left 1 d) d := ⟨_, rfl⟩
  rw [← hT]
  have HT := Lib.hid hT
  have H0 := Lib.hid (h.on (below1 w (.cells #[.slice A1 n1 c1, .slice A2 n2 c2] 26)))
  have X0 := Lib.hid (Bx.new w (.slice A1 n1 c1) (.slice A2 n2 c2) 26)
  have B0 := Lib.hid (below1 w (.cells #[.slice A1 n1 c1, .slice A2 n2 c2] 26))
  have HO : Hid (∀ w d o, Cl w w.heap.size A1 n1 A2 n2 we ho → Day d → opn we ho d = o → Calls Try.prog 46 #[.agg #[.slice A1 n1 c1, .slice A2 n2 c2], .int .i64 d] w fun e w' => e = .returned (.bool o) ∧ Below w.heap.size w w') := Lib.hid fun w d o h hd ho' => by rw [← ho']; exact l4Open A1 A2 n1 c1 n2 c2 we ho d w h hd
  clear hT h
  generalize opn we ho = p at *
  go_enter Try.func36, Try.ntmps36
  go_wp2_with fail
  go_loopw [1] (fun i wr => ∃ x : Int, 0 ≤ x ∧ x ≤ 36525 ∧ i = .int .i64 x ∧ Hid (T = seek p 1 (left 1 x) x) ∧ Hid (Below (w.alloc (.cells #[.slice A1 n1 c1, .slice A2 n2 c2] 26)).heap.size (w.alloc (.cells #[.slice A1 n1 c1, .slice A2 n2 c2] 26)) wr)) (fun i _ => (36525 - intOf i).toNat)
  case atStart => exact ⟨d, d0, d1, rfl, HT, Lib.hid (Below.refl _ _)⟩
  case round =>
    obtain ⟨x, x0, x1, rfl, HX, HW⟩ := hrel
    have H2 := Lib.hid (H0.out.on HW.out)
    have X2 := Lib.hid (X0.out.on HW.out)
    obtain ⟨_, y0, y1, _, _⟩ := X2.out
    by_cases hd : Day x
    · have HD := Lib.hid hd
      obtain ⟨g0, g1⟩ := hd
      obtain ⟨o, ho⟩ : ∃ o, p x = o := ⟨_, rfl⟩
      have HP := Lib.hid ho
      clear ho
      cases o
      · have HN : Hid (T = seek p 1 (left 1 (x + 1)) (x + 1)) := Lib.hid (by rw [HX.out, left_in_up HD.out, seek_miss HP.out])
        go_wp2_with (first
          | (go_at_call 34; refine (Wd.goodYes x HD.out _).mono ?_; rintro e w' ⟨rfl, rfl⟩)
          | (go_at_call 46; refine (HO.out _ _ _ H2.out HD.out HP.out).mono ?_; rintro e w2 ⟨rfl, hb2⟩; refine Hid.out ?_))
        refine Lib.hid ?_
        have HW2 := Lib.hid (HW.out.trans (hb2.mono HW.out.size))
        clear hb2
        go_wp2_with fail
        go_roundw
        case rel => exact ⟨x + 1, by omega, by omega, rfl, HN, HW2⟩
        case measure => simp [intOf]; omega
      · have HN : Hid (T = some x) := Lib.hid (by rw [HX.out, left_in_up HD.out, seek_hit HP.out])
        go_wp2_with (first
          | (go_at_call 34; refine (Wd.goodYes x HD.out _).mono ?_; rintro e w' ⟨rfl, rfl⟩)
          | (go_at_call 46; refine (HO.out _ _ _ H2.out HD.out HP.out).mono ?_; rintro e w2 ⟨rfl, hb2⟩; refine Hid.out ?_))
        refine Lib.hid ?_
        have HW2 := Lib.hid (B0.out.trans ((HW.out.trans (hb2.mono HW.out.size)).mono B0.out.size))
        clear hb2
        go_wp2_with fail
        go_ret
        exact ⟨ret_one (by rw [HN.out]; rfl), HW2.out⟩
    · have HN : Hid (T = none) := Lib.hid (by rw [HX.out]; exact left_out_up hd (by omega))
      have HD := Lib.hid hd
      clear hd
      go_wp2_with (go_at_call 34; refine (Wd.goodNo x HD.out _).mono ?_; rintro e w' ⟨rfl, rfl⟩)
      go_ret
      exact ⟨ret_one (by rw [HN.out]; rfl), B0.out.trans (HW.out.mono B0.out.size)⟩

theorem hop_zero_up (p : Int → Bool) (d : Int) : hop p 1 0 d = some d := rfl
theorem hop_none_up {p : Int → Bool} {d : Int} {m : Nat} (h : seek p 1 (left 1 (d + 1)) (d + 1) = none) : hop p 1 (m + 1) d = none := by simp only [hop]; rw [h]
theorem hop_some_up {p : Int → Bool} {d x : Int} {m : Nat} (h : seek p 1 (left 1 (d + 1)) (d + 1) = some x) : hop p 1 (m + 1) d = hop p 1 m x := by simp only [hop]; rw [h]
theorem seek_day_up {p : Int → Bool} {d x : Int} (hd : Day d) (h : seek p 1 (left 1 (d + 1)) (d + 1) = some x) : Day x := by
  obtain ⟨j, j1, j2, _, _⟩ := seek_some h
  rw [left_up] at j1
  unfold Day at *
  omega

set_option maxHeartbeats 4000000 in
theorem add_up (A1 A2 : Option Addr) (n1 c1 n2 c2 : Nat) (we ho : List Int) (d n : Int) (w : World) (h : Cl w w.heap.size A1 n1 A2 n2 we ho) (hg : GoodC we ho) (hd : Day d) (hn0 : 0 ≤ n) (hn1 : n ≤ 1000) (o : Option Int) (ho' : o = hop (opn we ho) 1 (n).toNat d) :
    Calls Try.prog 12 #[.agg #[.slice A1 n1 c1, .slice A2 n2 c2], .int .i64 d, .int .i64 n] w fun e w' => e = .returned (.tuple #[.int .i64 (o.getD 0), .bool o.isSome]) ∧ Below w.heap.size w w' := by
  have HT := Lib.hid ho'
  have H0 := Lib.hid (h.on (below1 w (.cells #[.slice A1 n1 c1, .slice A2 n2 c2] 26)))
  have X0 := Lib.hid (Bx.new w (.slice A1 n1 c1) (.slice A2 n2 c2) 26)
  have B0 := Lib.hid (below1 w (.cells #[.slice A1 n1 c1, .slice A2 n2 c2] 26))
  have HV := Lib.hid (validS A1 A2 n1 c1 n2 c2 we ho (w.alloc (.cells #[.slice A1 n1 c1, .slice A2 n2 c2] 26)) H0.out true (decide_eq_true hg))
  have HK : Hid (∀ x w o, Cl w w.heap.size A1 n1 A2 n2 we ho → Day x → seek (opn we ho) 1 (left 1 (x + 1)) (x + 1) = o → Calls Try.prog 36 #[.agg #[.slice A1 n1 c1, .slice A2 n2 c2], .int .i64 (x + 1), .int .i64 1] w fun e w' => e = .returned (.int .i64 (o.getD (-1))) ∧ Below w.heap.size w w') := Lib.hid fun x w o h hx hoo => by
    rw [← hoo]; exact seek_up A1 A2 n1 c1 n2 c2 we ho (x + 1) w h (by unfold Day at hx; omega) (by unfold Day at hx; omega)
  have HD := Lib.hid hd
  obtain ⟨d0, d1⟩ := hd
  clear h hg ho'
  generalize opn we ho = p at *
  go_enter Try.func12, Try.ntmps12
  go_wp2_with (go_at_call 33; refine HV.out.mono ?_; rintro e w1 ⟨rfl, hb1⟩; refine Hid.out ?_)
  refine Lib.hid ?_
  have H1 := Lib.hid (H0.out.on hb1)
  have X1 := Lib.hid (X0.out.on hb1)
  have B1 := Lib.hid (B0.out.trans (hb1.mono B0.out.size))
  clear hb1 B0 X0 H0 HV
  go_wp2_with (first
    | (go_at_call 34; refine (Wd.goodYes d HD.out _).mono ?_; rintro e w' ⟨rfl, rfl⟩)
    | (go_at_call 35; refine (l1In_true _ (-1000) 1000 (by omega) (by omega) _).mono ?_; rintro e w' ⟨rfl, rfl⟩))
  go_loopw [1, 2] (fun i j wr => ∃ (x : Int) (m : Nat), m ≤ 1000 ∧ i = .int .i64 x ∧ j = .int .i64 m ∧ Hid (Day x) ∧ Hid (o = hop p 1 m x) ∧ Hid (Below w1.heap.size w1 wr)) (fun _ j _ => (intOf j).toNat)
  case atStart => exact ⟨d, (n).toNat, by omega, rfl, by rw [show ((n.toNat : Nat) : Int) = n by omega], HD, HT, Lib.hid (Below.refl _ _)⟩
  case round =>
    obtain ⟨x, m, hm, rfl, rfl, HX, HO, HW⟩ := hrel
    have H2 := Lib.hid (H1.out.on HW.out)
    have X2 := Lib.hid (X1.out.on HW.out)
    obtain ⟨_, y0, y1, _, _⟩ := X2.out
    have hx := HX.out
    obtain ⟨g0, g1⟩ := hx
    by_cases hm0 : 0 < m
    · obtain ⟨q, hq⟩ : ∃ q, seek p 1 (left 1 (x + 1)) (x + 1) = q := ⟨_, rfl⟩
      obtain ⟨k, rfl⟩ : ∃ k, m = k + 1 := ⟨m - 1, by omega⟩
      have HQ := Lib.hid hq
      have HC := Lib.hid (HK.out x wr q H2.out HX.out hq)
      clear hq
      cases q with
      | none =>
        have HE : Hid (o = none) := Lib.hid (by rw [HO.out]; exact hop_none_up HQ.out)
        go_wp2_with (go_at_call 36; refine HC.out.mono ?_; rintro e w2 ⟨rfl, hb2⟩; refine Hid.out ?_)
        refine Lib.hid ?_
        have HW2 := Lib.hid (B1.out.trans ((HW.out.trans (hb2.mono HW.out.size)).mono B1.out.size))
        clear hb2
        go_wp2_with fail
        go_ret2
        exact ⟨ret_opt (by rw [HE.out]; exact ⟨rfl, rfl⟩), HW2.out⟩
      | some z =>
        have HE : Hid (o = hop p 1 k z) := Lib.hid (by rw [HO.out]; exact hop_some_up HQ.out)
        have HZ : Hid (Day z) := Lib.hid (seek_day_up HX.out HQ.out)
        have hz := HZ.out
        obtain ⟨z0, z1⟩ := hz
        go_wp2_with (go_at_call 36; refine HC.out.mono ?_; rintro e w2 ⟨rfl, hb2⟩; refine Hid.out ?_)
        refine Lib.hid ?_
        have HW2 := Lib.hid (HW.out.trans (hb2.mono HW.out.size))
        clear hb2
        go_wp2_with fail
        go_roundw
        case rel => first | exact ⟨z, k, by omega, rfl, by go_num, HZ, HE, HW2⟩
        case measure => first | (simp [intOf]; done) | (simp [intOf]; omega)
    · have hm1 : m = 0 := by omega
      subst hm1
      have HE : Hid (o = some x) := HO
      clear hm0
      go_wp2_with fail
      go_ret2
      exact ⟨ret_opt (by rw [HE.out]; exact ⟨rfl, rfl⟩), B1.out.trans (HW.out.mono B1.out.size)⟩

set_option maxHeartbeats 2000000 in
theorem seek_dn (A1 A2 : Option Addr) (n1 c1 n2 c2 : Nat) (we ho : List Int) (d : Int) (w : World) (h : Cl w w.heap.size A1 n1 A2 n2 we ho) (d0 : -1 ≤ d) (d1 : d ≤ 36524) :
    Calls Try.prog 36 #[.agg #[.slice A1 n1 c1, .slice A2 n2 c2], .int .i64 d, .int .i64 (-1)] w fun e w' => e = .returned (.int .i64 ((seek (opn we ho) (-1) (left (-1) d) d).getD (-1))) ∧ Below w.heap.size w w' := by
  obtain ⟨T, hT⟩ : ∃ T, T = seek (opn we ho) (-1) (left (-1) d) d := ⟨_, rfl⟩
  rw [← hT]
  have HT := Lib.hid hT
  have H0 := Lib.hid (h.on (below1 w (.cells #[.slice A1 n1 c1, .slice A2 n2 c2] 26)))
  have X0 := Lib.hid (Bx.new w (.slice A1 n1 c1) (.slice A2 n2 c2) 26)
  have B0 := Lib.hid (below1 w (.cells #[.slice A1 n1 c1, .slice A2 n2 c2] 26))
  have HO : Hid (∀ w d o, Cl w w.heap.size A1 n1 A2 n2 we ho → Day d → opn we ho d = o → Calls Try.prog 46 #[.agg #[.slice A1 n1 c1, .slice A2 n2 c2], .int .i64 d] w fun e w' => e = .returned (.bool o) ∧ Below w.heap.size w w') := Lib.hid fun w d o h hd ho' => by rw [← ho']; exact l4Open A1 A2 n1 c1 n2 c2 we ho d w h hd
  clear hT h
  generalize opn we ho = p at *
  go_enter Try.func36, Try.ntmps36
  go_wp2_with fail
  go_loopw [1] (fun i wr => ∃ x : Int, -1 ≤ x ∧ x ≤ 36524 ∧ i = .int .i64 x ∧ Hid (T = seek p (-1) (left (-1) x) x) ∧ Hid (Below (w.alloc (.cells #[.slice A1 n1 c1, .slice A2 n2 c2] 26)).heap.size (w.alloc (.cells #[.slice A1 n1 c1, .slice A2 n2 c2] 26)) wr)) (fun i _ => (intOf i + 1).toNat)
  case atStart => exact ⟨d, d0, d1, rfl, HT, Lib.hid (Below.refl _ _)⟩
  case round =>
    obtain ⟨x, x0, x1, rfl, HX, HW⟩ := hrel
    have H2 := Lib.hid (H0.out.on HW.out)
    have X2 := Lib.hid (X0.out.on HW.out)
    obtain ⟨_, y0, y1, _, _⟩ := X2.out
    by_cases hd : Day x
    · have HD := Lib.hid hd
      obtain ⟨g0, g1⟩ := hd
      obtain ⟨o, ho⟩ : ∃ o, p x = o := ⟨_, rfl⟩
      have HP := Lib.hid ho
      clear ho
      cases o
      · have HN : Hid (T = seek p (-1) (left (-1) (x + (-1))) (x + (-1))) := Lib.hid (by rw [HX.out, left_in_dn HD.out, seek_miss HP.out])
        go_wp2_with (first
          | (go_at_call 34; refine (Wd.goodYes x HD.out _).mono ?_; rintro e w' ⟨rfl, rfl⟩)
          | (go_at_call 46; refine (HO.out _ _ _ H2.out HD.out HP.out).mono ?_; rintro e w2 ⟨rfl, hb2⟩; refine Hid.out ?_))
        refine Lib.hid ?_
        have HW2 := Lib.hid (HW.out.trans (hb2.mono HW.out.size))
        clear hb2
        go_wp2_with fail
        go_roundw
        case rel => exact ⟨x + (-1), by omega, by omega, rfl, HN, HW2⟩
        case measure => simp [intOf]; omega
      · have HN : Hid (T = some x) := Lib.hid (by rw [HX.out, left_in_dn HD.out, seek_hit HP.out])
        go_wp2_with (first
          | (go_at_call 34; refine (Wd.goodYes x HD.out _).mono ?_; rintro e w' ⟨rfl, rfl⟩)
          | (go_at_call 46; refine (HO.out _ _ _ H2.out HD.out HP.out).mono ?_; rintro e w2 ⟨rfl, hb2⟩; refine Hid.out ?_))
        refine Lib.hid ?_
        have HW2 := Lib.hid (B0.out.trans ((HW.out.trans (hb2.mono HW.out.size)).mono B0.out.size))
        clear hb2
        go_wp2_with fail
        go_ret
        exact ⟨ret_one (by rw [HN.out]; rfl), HW2.out⟩
    · have HN : Hid (T = none) := Lib.hid (by rw [HX.out]; exact left_out_dn hd (by omega))
      have HD := Lib.hid hd
      clear hd
      go_wp2_with (go_at_call 34; refine (Wd.goodNo x HD.out _).mono ?_; rintro e w' ⟨rfl, rfl⟩)
      go_ret
      exact ⟨ret_one (by rw [HN.out]; rfl), B0.out.trans (HW.out.mono B0.out.size)⟩

theorem hop_zero_dn (p : Int → Bool) (d : Int) : hop p (-1) 0 d = some d := rfl
theorem hop_none_dn {p : Int → Bool} {d : Int} {m : Nat} (h : seek p (-1) (left (-1) (d + (-1))) (d + (-1)) = none) : hop p (-1) (m + 1) d = none := by simp only [hop]; rw [h]
theorem hop_some_dn {p : Int → Bool} {d x : Int} {m : Nat} (h : seek p (-1) (left (-1) (d + (-1))) (d + (-1)) = some x) : hop p (-1) (m + 1) d = hop p (-1) m x := by simp only [hop]; rw [h]
theorem seek_day_dn {p : Int → Bool} {d x : Int} (hd : Day d) (h : seek p (-1) (left (-1) (d + (-1))) (d + (-1)) = some x) : Day x := by
  obtain ⟨j, j1, j2, _, _⟩ := seek_some h
  rw [left_dn] at j1
  unfold Day at *
  omega

set_option maxHeartbeats 4000000 in
theorem add_dn (A1 A2 : Option Addr) (n1 c1 n2 c2 : Nat) (we ho : List Int) (d n : Int) (w : World) (h : Cl w w.heap.size A1 n1 A2 n2 we ho) (hg : GoodC we ho) (hd : Day d) (hn0 : -1000 ≤ n) (hn1 : n ≤ -1) (o : Option Int) (ho' : o = hop (opn we ho) (-1) (-n).toNat d) :
    Calls Try.prog 12 #[.agg #[.slice A1 n1 c1, .slice A2 n2 c2], .int .i64 d, .int .i64 n] w fun e w' => e = .returned (.tuple #[.int .i64 (o.getD 0), .bool o.isSome]) ∧ Below w.heap.size w w' := by
  have HT := Lib.hid ho'
  have H0 := Lib.hid (h.on (below1 w (.cells #[.slice A1 n1 c1, .slice A2 n2 c2] 26)))
  have X0 := Lib.hid (Bx.new w (.slice A1 n1 c1) (.slice A2 n2 c2) 26)
  have B0 := Lib.hid (below1 w (.cells #[.slice A1 n1 c1, .slice A2 n2 c2] 26))
  have HV := Lib.hid (validS A1 A2 n1 c1 n2 c2 we ho (w.alloc (.cells #[.slice A1 n1 c1, .slice A2 n2 c2] 26)) H0.out true (decide_eq_true hg))
  have HK : Hid (∀ x w o, Cl w w.heap.size A1 n1 A2 n2 we ho → Day x → seek (opn we ho) (-1) (left (-1) (x + (-1))) (x + (-1)) = o → Calls Try.prog 36 #[.agg #[.slice A1 n1 c1, .slice A2 n2 c2], .int .i64 (x + (-1)), .int .i64 (-1)] w fun e w' => e = .returned (.int .i64 (o.getD (-1))) ∧ Below w.heap.size w w') := Lib.hid fun x w o h hx hoo => by
    rw [← hoo]; exact seek_dn A1 A2 n1 c1 n2 c2 we ho (x + (-1)) w h (by unfold Day at hx; omega) (by unfold Day at hx; omega)
  have HD := Lib.hid hd
  obtain ⟨d0, d1⟩ := hd
  clear h hg ho'
  generalize opn we ho = p at *
  obtain ⟨N, rfl⟩ : ∃ N : Nat, n = -(N : Int) := ⟨(-n).toNat, by omega⟩
  have HT : Hid (o = hop p (-1) N d) := Lib.hid (by have := HT.out; rwa [show (- -(N : Int)).toNat = N by omega] at this)
  have hN : 0 < N := by omega
  go_enter Try.func12, Try.ntmps12
  go_wp2_with (go_at_call 33; refine HV.out.mono ?_; rintro e w1 ⟨rfl, hb1⟩; refine Hid.out ?_)
  refine Lib.hid ?_
  have H1 := Lib.hid (H0.out.on hb1)
  have X1 := Lib.hid (X0.out.on hb1)
  have B1 := Lib.hid (B0.out.trans (hb1.mono B0.out.size))
  clear hb1 B0 X0 H0 HV
  go_wp2_with (first
    | (go_at_call 34; refine (Wd.goodYes d HD.out _).mono ?_; rintro e w' ⟨rfl, rfl⟩)
    | (go_at_call 35; refine (l1In_true _ (-1000) 1000 (by omega) (by omega) _).mono ?_; rintro e w' ⟨rfl, rfl⟩))
  go_loopw [1, 2] (fun i j wr => ∃ (x : Int) (m : Nat), m ≤ 1000 ∧ i = .int .i64 x ∧ j = .int .i64 m ∧ Hid (Day x) ∧ Hid (o = hop p (-1) m x) ∧ Hid (Below w1.heap.size w1 wr)) (fun _ j _ => (intOf j).toNat)
  case atStart => exact ⟨d, N, by omega, rfl, by go_num, HD, HT, Lib.hid (Below.refl _ _)⟩
  case round =>
    obtain ⟨x, m, hm, rfl, rfl, HX, HO, HW⟩ := hrel
    have H2 := Lib.hid (H1.out.on HW.out)
    have X2 := Lib.hid (X1.out.on HW.out)
    obtain ⟨_, y0, y1, _, _⟩ := X2.out
    have hx := HX.out
    obtain ⟨g0, g1⟩ := hx
    by_cases hm0 : 0 < m
    · obtain ⟨q, hq⟩ : ∃ q, seek p (-1) (left (-1) (x + (-1))) (x + (-1)) = q := ⟨_, rfl⟩
      obtain ⟨k, rfl⟩ : ∃ k, m = k + 1 := ⟨m - 1, by omega⟩
      have HQ := Lib.hid hq
      have HC := Lib.hid (HK.out x wr q H2.out HX.out hq)
      clear hq
      cases q with
      | none =>
        have HE : Hid (o = none) := Lib.hid (by rw [HO.out]; exact hop_none_dn HQ.out)
        go_wp2_with (go_at_call 36; refine HC.out.mono ?_; rintro e w2 ⟨rfl, hb2⟩; refine Hid.out ?_)
        refine Lib.hid ?_
        have HW2 := Lib.hid (B1.out.trans ((HW.out.trans (hb2.mono HW.out.size)).mono B1.out.size))
        clear hb2
        go_wp2_with fail
        go_ret2
        exact ⟨ret_opt (by rw [HE.out]; exact ⟨rfl, rfl⟩), HW2.out⟩
      | some z =>
        have HE : Hid (o = hop p (-1) k z) := Lib.hid (by rw [HO.out]; exact hop_some_dn HQ.out)
        have HZ : Hid (Day z) := Lib.hid (seek_day_dn HX.out HQ.out)
        have hz := HZ.out
        obtain ⟨z0, z1⟩ := hz
        go_wp2_with (go_at_call 36; refine HC.out.mono ?_; rintro e w2 ⟨rfl, hb2⟩; refine Hid.out ?_)
        refine Lib.hid ?_
        have HW2 := Lib.hid (HW.out.trans (hb2.mono HW.out.size))
        clear hb2
        go_wp2_with fail
        go_roundw
        case rel => first | exact ⟨z, k, by omega, rfl, by go_num, HZ, HE, HW2⟩
        case measure => first | (simp [intOf]; done) | (simp [intOf]; omega)
    · have hm1 : m = 0 := by omega
      subst hm1
      have HE : Hid (o = some x) := HO
      clear hm0
      go_wp2_with fail
      go_ret2
      exact ⟨ret_opt (by rw [HE.out]; exact ⟨rfl, rfl⟩), B1.out.trans (HW.out.mono B1.out.size)⟩

set_option maxHeartbeats 2000000 in
theorem addNo (A1 A2 : Option Addr) (n1 c1 n2 c2 : Nat) (we ho : List Int) (d n : Int) (w : World) (h : Cl w w.heap.size A1 n1 A2 n2 we ho) (hn : ¬ AddOk we ho d n) :
    Calls Try.prog 12 #[.agg #[.slice A1 n1 c1, .slice A2 n2 c2], .int .i64 d, .int .i64 n] w fun e w' => e = .returned (.tuple #[.int .i64 0, .bool false]) ∧ Below w.heap.size w w' := by
  have H0 := Lib.hid (h.on (below1 w (.cells #[.slice A1 n1 c1, .slice A2 n2 c2] 26)))
  have B0 := Lib.hid (below1 w (.cells #[.slice A1 n1 c1, .slice A2 n2 c2] 26))
  clear h
  by_cases hg : GoodC we ho
  · have HV := Lib.hid (validS A1 A2 n1 c1 n2 c2 we ho (w.alloc (.cells #[.slice A1 n1 c1, .slice A2 n2 c2] 26)) H0.out true (decide_eq_true hg))
    by_cases hd : Day d
    · have HD := Lib.hid hd
      have h3 : n < -1000 ∨ 1000 < n := by
        by_cases hh : -1000 ≤ n ∧ n ≤ 1000
        · exact absurd ⟨hg, hd, hh⟩ hn
        · omega
      clear hg hn hd
      go_enter Try.func12, Try.ntmps12
      go_wp2_with (go_at_call 33; refine HV.out.mono ?_; rintro e w1 ⟨rfl, hb1⟩; refine Hid.out ?_)
      refine Lib.hid ?_
      have B1 := Lib.hid (B0.out.trans (hb1.mono B0.out.size))
      clear hb1
      go_wp2_with (first
        | (go_at_call 34; refine (Wd.goodYes d HD.out _).mono ?_; rintro e w' ⟨rfl, rfl⟩)
        | (go_at_call 35; refine (l1In_false n (-1000) 1000 h3 _).mono ?_; rintro e w' ⟨rfl, rfl⟩))
      go_ret2
      exact ⟨rfl, B1.out⟩
    · have HD := Lib.hid hd
      clear hg hn hd
      go_enter Try.func12, Try.ntmps12
      go_wp2_with (go_at_call 33; refine HV.out.mono ?_; rintro e w1 ⟨rfl, hb1⟩; refine Hid.out ?_)
      refine Lib.hid ?_
      have B1 := Lib.hid (B0.out.trans (hb1.mono B0.out.size))
      clear hb1
      go_wp2_with (go_at_call 34; refine (Wd.goodNo d HD.out _).mono ?_; rintro e w' ⟨rfl, rfl⟩)
      go_ret2
      exact ⟨rfl, B1.out⟩
  · have HV := Lib.hid (validS A1 A2 n1 c1 n2 c2 we ho (w.alloc (.cells #[.slice A1 n1 c1, .slice A2 n2 c2] 26)) H0.out false (decide_eq_false hg))
    clear hg hn
    go_enter Try.func12, Try.ntmps12
    go_wp2_with (go_at_call 33; refine HV.out.mono ?_; rintro e w1 ⟨rfl, hb1⟩; refine Hid.out ?_)
    refine Lib.hid ?_
    have B1 := Lib.hid (B0.out.trans (hb1.mono B0.out.size))
    clear hb1
    go_wp2_with fail
    go_ret2
    exact ⟨rfl, B1.out⟩

theorem addS (A1 A2 : Option Addr) (n1 c1 n2 c2 : Nat) (we ho : List Int) (d n : Int) (w : World) (h : Cl w w.heap.size A1 n1 A2 n2 we ho) :
    Calls Try.prog 12 #[.agg #[.slice A1 n1 c1, .slice A2 n2 c2], .int .i64 d, .int .i64 n] w fun e w' => e = .returned (.tuple #[.int .i64 (addV we ho d n), .bool (addF we ho d n)]) ∧ Below w.heap.size w w' := by
  by_cases hn : AddOk we ho d n
  · obtain ⟨hg, hd, a, b⟩ := hn
    have e : addO we ho d n = addT we ho d n := if_pos ⟨hg, hd, a, b⟩
    unfold addV addF
    rw [e]
    unfold addT
    by_cases h0 : n < 0
    · rw [if_neg (by omega), if_neg (by omega)]
      exact add_dn A1 A2 n1 c1 n2 c2 we ho d n w h hg hd a (by omega) _ rfl
    · by_cases h1 : n = 0
      · rw [if_pos h1]
        exact add_up A1 A2 n1 c1 n2 c2 we ho d n w h hg hd (by omega) b _ (by rw [h1]; rfl)
      · rw [if_neg h1, if_pos (by omega)]
        exact add_up A1 A2 n1 c1 n2 c2 we ho d n w h hg hd (by omega) b _ rfl
  · have e : addO we ho d n = none := if_neg hn
    unfold addV addF
    rw [e]
    exact addNo A1 A2 n1 c1 n2 c2 we ho d n w h hn

end Go.Proofs.Ytglpkanegehcbaa.SeekS
