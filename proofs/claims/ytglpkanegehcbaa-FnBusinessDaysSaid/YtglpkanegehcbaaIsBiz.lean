/-
  IsBusinessDay and CountBusinessDays, of the program and of the model.
-/
import Derived.Test.YtglpkanegehcbaaOpn
namespace Go.Proofs.Ytglpkanegehcbaa.IsBiz
open Go.RowKit Go.Proofs.Ytglpkanegehcbaa.IRow Go.Proofs.Ytglpkanegehcbaa.Cal Go.Proofs.Ytglpkanegehcbaa.Biz Go.Proofs.Ytglpkanegehcbaa.Wd Go.Proofs.Ytglpkanegehcbaa.Asc Go.Proofs.Ytglpkanegehcbaa.CalLaw Go.Proofs.Ytglpkanegehcbaa.Opn

theorem ret_int2 {a b : Int} {c : Value} (h : a = b) : Ending.returned (.tuple #[.int .i64 a, c]) = .returned (.tuple #[.int .i64 b, c]) := by rw [h]

theorem validI (A1 A2 : Option Addr) (n1 c1 n2 c2 : Nat) (we ho : List Int) (w : World) (h : Cl w w.heap.size A1 n1 A2 n2 we ho) (b : Bool) (hb : decide (GoodC we ho) = b) :
    Calls Try.prog 21 #[.agg #[.slice A1 n1 c1, .slice A2 n2 c2]] w fun e w' => e = .returned (.bool b) ∧ Below w.heap.size w w' := by
  by_cases hg : GoodC we ho
  · rw [← hb, decide_eq_true hg]
    exact (validYes A1 A2 n1 c1 n2 c2 we ho w _ h (Nat.le_refl _) hg).mono fun _ _ ⟨a, b⟩ => ⟨a, by rw [← b]; exact below1 _ _⟩
  · rw [← hb, decide_eq_false hg]
    exact (validNo A1 A2 n1 c1 n2 c2 we ho w _ h (Nat.le_refl _) hg).mono fun _ _ ⟨a, b⟩ => ⟨a, by rw [← b]; exact below1 _ _⟩

theorem validS (A1 A2 : Option Addr) (n1 c1 n2 c2 : Nat) (we ho : List Int) (w : World) (h : Cl w w.heap.size A1 n1 A2 n2 we ho) (b : Bool) (hb : decide (GoodC we ho) = b) :
    Calls Try.prog 33 #[.agg #[.slice A1 n1 c1, .slice A2 n2 c2]] w fun e w' => e = .returned (.bool b) ∧ Below w.heap.size w w' := by
  by_cases hg : GoodC we ho
  · rw [← hb, decide_eq_true hg]
    exact (Asc.goodYes A1 A2 n1 c1 n2 c2 we ho w _ h (Nat.le_refl _) hg).mono fun _ _ ⟨a, m, b⟩ => ⟨a, by rw [b]; exact bel_drew _ _ _⟩
  · rw [← hb, decide_eq_false hg]
    exact (Asc.goodNo A1 A2 n1 c1 n2 c2 we ho w _ h (Nat.le_refl _) hg).mono fun _ _ ⟨a, m, b⟩ => ⟨a, by rw [b]; exact bel_drew _ _ _⟩

theorem openI (A1 A2 : Option Addr) (n1 c1 n2 c2 : Nat) (we ho : List Int) (hg : GoodC we ho) (w : World) (h : Cl w w.heap.size A1 n1 A2 n2 we ho) (d : Int) (hd : Day d) (b : Bool) (hb : opn we ho d = b) :
    Calls Try.prog 37 #[.agg #[.slice A1 n1 c1, .slice A2 n2 c2], .int .i64 d] w fun e w' => e = .returned (.bool b) ∧ Below w.heap.size w w' := by
  rw [← hb]; exact isOpen A1 A2 n1 c1 n2 c2 we ho d w h hg hd
theorem openS (A1 A2 : Option Addr) (n1 c1 n2 c2 : Nat) (we ho : List Int) (_hg : GoodC we ho) (w : World) (h : Cl w w.heap.size A1 n1 A2 n2 we ho) (d : Int) (hd : Day d) (b : Bool) (hb : opn we ho d = b) :
    Calls Try.prog 46 #[.agg #[.slice A1 n1 c1, .slice A2 n2 c2], .int .i64 d] w fun e w' => e = .returned (.bool b) ∧ Below w.heap.size w w' := by
  rw [← hb]; exact l4Open A1 A2 n1 c1 n2 c2 we ho d w h hd

/-- What IsBusinessDay answers. -/
def bizB (we ho : List Int) (d : Int) : Bool := decide (GoodC we ho ∧ Day d) && opn we ho d
def bizF (we ho : List Int) (d : Int) : Bool := decide (GoodC we ho ∧ Day d)
/-- What CountBusinessDays answers. -/
def CntOk (we ho : List Int) (a b : Int) : Prop := GoodC we ho ∧ Day a ∧ Day b ∧ a ≤ b
instance (we ho : List Int) (a b : Int) : Decidable (CntOk we ho a b) := inferInstanceAs (Decidable (_ ∧ _ ∧ _ ∧ _))
def cntV (we ho : List Int) (a b : Int) : Int := if CntOk we ho a b then cnt (opn we ho) a (b - a).toNat else 0
def cntF (we ho : List Int) (a b : Int) : Bool := decide (CntOk we ho a b)

set_option maxHeartbeats 1000000 in
theorem bizI (A1 A2 : Option Addr) (n1 c1 n2 c2 : Nat) (we ho : List Int) (d : Int) (w : World) (h : Cl w w.heap.size A1 n1 A2 n2 we ho) :
    Calls Try.prog 17 #[.agg #[.slice A1 n1 c1, .slice A2 n2 c2], .int .i64 d] w fun e w' => e = .returned (.tuple #[.bool (bizB we ho d), .bool (bizF we ho d)]) ∧ Below w.heap.size w w' := by
  have H0 := Lib.hid (h.on (below1 w (.cells #[.slice A1 n1 c1, .slice A2 n2 c2] 26)))
  have X0 := Lib.hid (Bx.new w (.slice A1 n1 c1) (.slice A2 n2 c2) 26)
  have B0 := Lib.hid (below1 w (.cells #[.slice A1 n1 c1, .slice A2 n2 c2] 26))
  clear h
  by_cases hg : GoodC we ho
  · have HV := Lib.hid (validI A1 A2 n1 c1 n2 c2 we ho (w.alloc (.cells #[.slice A1 n1 c1, .slice A2 n2 c2] 26)) H0.out true (decide_eq_true hg))
    by_cases hd : Day d
    · have e1 : bizF we ho d = true := decide_eq_true ⟨hg, hd⟩
      have e2 : bizB we ho d = opn we ho d := by unfold bizB; rw [decide_eq_true ⟨hg, hd⟩]; rfl
      have HD := Lib.hid hd
      have HO : Hid (∀ w, Cl w w.heap.size A1 n1 A2 n2 we ho → Calls Try.prog 37 #[.agg #[.slice A1 n1 c1, .slice A2 n2 c2], .int .i64 d] w fun e w' => e = .returned (.bool (opn we ho d)) ∧ Below w.heap.size w w') := Lib.hid fun w h => openI A1 A2 n1 c1 n2 c2 we ho hg w h d hd _ rfl
      rw [e1, e2]
      clear hg hd e1 e2
      generalize opn we ho d = o at *
      go_enter Try.func17, Try.ntmps17
      go_wp2_with (first
        | (go_at_call 21; refine HV.out.mono ?_; rintro e w1 ⟨rfl, hb1⟩; refine Hid.out ?_))
      refine Lib.hid ?_
      have H1 := Lib.hid (H0.out.on hb1)
      have X1 := Lib.hid (X0.out.on hb1)
      have B1 := Lib.hid (B0.out.trans (hb1.mono B0.out.size))
      clear hb1
      obtain ⟨_, x0, x1, _, _⟩ := X1.out
      go_wp2_with (first
        | (go_at_call 30; refine (isDayYes d HD.out _).mono ?_; rintro e w' ⟨rfl, rfl⟩)
        | (go_at_call 37; refine (HO.out _ H1.out).mono ?_; rintro e w2 ⟨rfl, hb2⟩; refine Hid.out ?_))
      refine Lib.hid ?_
      have B2 := Lib.hid (B1.out.trans (hb2.mono B1.out.size))
      clear hb2
      go_wp2_with fail
      go_ret2
      exact ⟨rfl, B2.out⟩
    · have e1 : bizF we ho d = false := decide_eq_false fun h => hd h.2
      have e2 : bizB we ho d = false := by unfold bizB; rw [decide_eq_false fun h => hd h.2]; rfl
      have HD := Lib.hid hd
      rw [e1, e2]
      clear hg hd e1 e2
      go_enter Try.func17, Try.ntmps17
      go_wp2_with (first
        | (go_at_call 21; refine HV.out.mono ?_; rintro e w1 ⟨rfl, hb1⟩; refine Hid.out ?_))
      refine Lib.hid ?_
      have B1 := Lib.hid (B0.out.trans (hb1.mono B0.out.size))
      clear hb1
      go_wp2_with (go_at_call 30; refine (isDayNo d HD.out _).mono ?_; rintro e w' ⟨rfl, rfl⟩)
      go_ret2
      exact ⟨rfl, B1.out⟩
  · have HV := Lib.hid (validI A1 A2 n1 c1 n2 c2 we ho (w.alloc (.cells #[.slice A1 n1 c1, .slice A2 n2 c2] 26)) H0.out false (decide_eq_false hg))
    have e1 : bizF we ho d = false := decide_eq_false fun h => hg h.1
    have e2 : bizB we ho d = false := by unfold bizB; rw [decide_eq_false fun h => hg h.1]; rfl
    rw [e1, e2]
    clear hg e1 e2
    go_enter Try.func17, Try.ntmps17
    go_wp2_with (first
      | (go_at_call 21; refine HV.out.mono ?_; rintro e w1 ⟨rfl, hb1⟩; refine Hid.out ?_))
    refine Lib.hid ?_
    have B1 := Lib.hid (B0.out.trans (hb1.mono B0.out.size))
    clear hb1
    go_wp2_with fail
    go_ret2
    exact ⟨rfl, B1.out⟩

set_option maxHeartbeats 2000000 in
theorem cntYesI (A1 A2 : Option Addr) (n1 c1 n2 c2 : Nat) (we ho : List Int) (a b : Int) (w : World) (h : Cl w w.heap.size A1 n1 A2 n2 we ho) (hg : GoodC we ho) (ha : Day a) (hb : Day b) (hab : a ≤ b) :
    Calls Try.prog 13 #[.agg #[.slice A1 n1 c1, .slice A2 n2 c2], .int .i64 a, .int .i64 b] w fun e w' => e = .returned (.tuple #[.int .i64 (cnt (opn we ho) a (b - a).toNat), .bool true]) ∧ Below w.heap.size w w' := by
  have H0 := Lib.hid (h.on (below1 w (.cells #[.slice A1 n1 c1, .slice A2 n2 c2] 26)))
  have X0 := Lib.hid (Bx.new w (.slice A1 n1 c1) (.slice A2 n2 c2) 26)
  have B0 := Lib.hid (below1 w (.cells #[.slice A1 n1 c1, .slice A2 n2 c2] 26))
  have HV := Lib.hid (validI A1 A2 n1 c1 n2 c2 we ho (w.alloc (.cells #[.slice A1 n1 c1, .slice A2 n2 c2] 26)) H0.out true (decide_eq_true hg))
  have HO : Hid (∀ w d o, Cl w w.heap.size A1 n1 A2 n2 we ho → Day d → opn we ho d = o → Calls Try.prog 37 #[.agg #[.slice A1 n1 c1, .slice A2 n2 c2], .int .i64 d] w fun e w' => e = .returned (.bool o) ∧ Below w.heap.size w w') := Lib.hid fun w d o h hd ho' => openI A1 A2 n1 c1 n2 c2 we ho hg w h d hd o ho'
  have HA := Lib.hid ha
  have HB := Lib.hid hb
  obtain ⟨a0, a1⟩ := ha
  obtain ⟨b0, b1⟩ := hb
  generalize opn we ho = p at *
  clear h hg
  go_enter Try.func13, Try.ntmps13
  go_wp2_with (go_at_call 21; refine HV.out.mono ?_; rintro e w1 ⟨rfl, hb1⟩; refine Hid.out ?_)
  refine Lib.hid ?_
  have H1 := Lib.hid (H0.out.on hb1)
  have X1 := Lib.hid (X0.out.on hb1)
  have B1 := Lib.hid (B0.out.trans (hb1.mono B0.out.size))
  clear hb1 B0 X0 H0
  go_wp2_with (first
    | (go_at_call 30; refine (isDayYes a HA.out _).mono ?_; rintro e w' ⟨rfl, rfl⟩; refine Hid.out ?_))
  refine Lib.hid ?_
  go_wp2_with (first
    | (go_at_call 30; refine (isDayYes b HB.out _).mono ?_; rintro e w' ⟨rfl, rfl⟩; refine Hid.out ?_))
  refine Lib.hid ?_
  go_wp2_with fail
  go_loopw [8, 9] (fun n i wr => ∃ k : Nat, a + k ≤ b ∧ i = .int .i64 (a + k) ∧ n = .int .i64 (cnt p a k) ∧ Hid (Below w1.heap.size w1 wr)) (fun _ i _ => (b - intOf i).toNat)
  case atStart => exact ⟨0, by omega, by simp, rfl, Lib.hid (Below.refl _ _)⟩
  case round =>
    obtain ⟨k, hk, rfl, rfl, HW⟩ := hrel
    have hbd := cnt_bd p a k
    by_cases hlt : a + k < b
    · have H2 := Lib.hid (H1.out.on HW.out)
      have X2 := Lib.hid (X1.out.on HW.out)
      obtain ⟨_, x0, x1, _, _⟩ := X2.out
      have HD : Hid (Day (a + k)) := Lib.hid ⟨by omega, by omega⟩
      obtain ⟨o, ho⟩ : ∃ o, p (a + k) = o := ⟨_, rfl⟩
      have HP := Lib.hid ho
      clear ho
      cases o
      · have HC : Hid (cnt p a (k + 1) = cnt p a k) := Lib.hid (cnt_no HP.out)
        generalize cnt p a k = q at *
        go_wp2_with (go_at_call 37; refine (HO.out _ _ _ H2.out HD.out HP.out).mono ?_; rintro e w2 ⟨rfl, hb2⟩; refine Hid.out ?_)
        refine Lib.hid ?_
        have HW2 := Lib.hid (HW.out.trans (hb2.mono HW.out.size))
        clear hb2
        go_wp2_with fail
        go_roundw
        case rel => exact ⟨k + 1, by omega, by simp [Int.add_assoc], by rw [HC.out], HW2⟩
        case measure => simp [intOf]; omega
      · have HC : Hid (cnt p a (k + 1) = cnt p a k + 1) := Lib.hid (cnt_yes HP.out)
        generalize cnt p a k = q at *
        go_wp2_with (go_at_call 37; refine (HO.out _ _ _ H2.out HD.out HP.out).mono ?_; rintro e w2 ⟨rfl, hb2⟩; refine Hid.out ?_)
        refine Lib.hid ?_
        have HW2 := Lib.hid (HW.out.trans (hb2.mono HW.out.size))
        clear hb2
        go_wp2_with fail
        go_roundw
        case rel => exact ⟨k + 1, by omega, by simp [Int.add_assoc], by rw [HC.out], HW2⟩
        case measure => simp [intOf]; omega
    · have HE : Hid (cnt p a k = cnt p a (b - a).toNat) := Lib.hid (by rw [show (b - a).toNat = k by omega])
      have hlt' : ¬ a + k < b := hlt
      go_wp2_with fail
      go_ret2
      exact ⟨ret_int2 HE.out, B1.out.trans (HW.out.mono B1.out.size)⟩

set_option maxHeartbeats 2000000 in
theorem cntNoI (A1 A2 : Option Addr) (n1 c1 n2 c2 : Nat) (we ho : List Int) (a b : Int) (w : World) (h : Cl w w.heap.size A1 n1 A2 n2 we ho) (hn : ¬ CntOk we ho a b) :
    Calls Try.prog 13 #[.agg #[.slice A1 n1 c1, .slice A2 n2 c2], .int .i64 a, .int .i64 b] w fun e w' => e = .returned (.tuple #[.int .i64 0, .bool false]) ∧ Below w.heap.size w w' := by
  have H0 := Lib.hid (h.on (below1 w (.cells #[.slice A1 n1 c1, .slice A2 n2 c2] 26)))
  have B0 := Lib.hid (below1 w (.cells #[.slice A1 n1 c1, .slice A2 n2 c2] 26))
  clear h
  by_cases hg : GoodC we ho
  · have HV := Lib.hid (validI A1 A2 n1 c1 n2 c2 we ho (w.alloc (.cells #[.slice A1 n1 c1, .slice A2 n2 c2] 26)) H0.out true (decide_eq_true hg))
    by_cases ha : Day a
    · have HA := Lib.hid ha
      by_cases hb : Day b
      · have HB := Lib.hid hb
        have hab : b < a := by
          by_cases hh : a ≤ b
          · exact absurd ⟨hg, ha, hb, hh⟩ hn
          · omega
        clear hg hn ha hb
        go_enter Try.func13, Try.ntmps13
        go_wp2_with (go_at_call 21; refine HV.out.mono ?_; rintro e w1 ⟨rfl, hb1⟩; refine Hid.out ?_)
        refine Lib.hid ?_
        have B1 := Lib.hid (B0.out.trans (hb1.mono B0.out.size))
        clear hb1
        go_wp2_with (go_at_call 30; refine (isDayYes a HA.out _).mono ?_; rintro e w' ⟨rfl, rfl⟩; refine Hid.out ?_)
        refine Lib.hid ?_
        go_wp2_with (go_at_call 30; refine (isDayYes b HB.out _).mono ?_; rintro e w' ⟨rfl, rfl⟩; refine Hid.out ?_)
        refine Lib.hid ?_
        go_wp2_with fail
        go_ret2
        exact ⟨rfl, B1.out⟩
      · have HB := Lib.hid hb
        clear hg hn ha hb
        go_enter Try.func13, Try.ntmps13
        go_wp2_with (go_at_call 21; refine HV.out.mono ?_; rintro e w1 ⟨rfl, hb1⟩; refine Hid.out ?_)
        refine Lib.hid ?_
        have B1 := Lib.hid (B0.out.trans (hb1.mono B0.out.size))
        clear hb1
        go_wp2_with (go_at_call 30; refine (isDayYes a HA.out _).mono ?_; rintro e w' ⟨rfl, rfl⟩; refine Hid.out ?_)
        refine Lib.hid ?_
        go_wp2_with (go_at_call 30; refine (isDayNo b HB.out _).mono ?_; rintro e w' ⟨rfl, rfl⟩)
        go_ret2
        exact ⟨rfl, B1.out⟩
    · have HA := Lib.hid ha
      clear hg hn ha
      go_enter Try.func13, Try.ntmps13
      go_wp2_with (go_at_call 21; refine HV.out.mono ?_; rintro e w1 ⟨rfl, hb1⟩; refine Hid.out ?_)
      refine Lib.hid ?_
      have B1 := Lib.hid (B0.out.trans (hb1.mono B0.out.size))
      clear hb1
      go_wp2_with (go_at_call 30; refine (isDayNo a HA.out _).mono ?_; rintro e w' ⟨rfl, rfl⟩)
      go_ret2
      exact ⟨rfl, B1.out⟩
  · have HV := Lib.hid (validI A1 A2 n1 c1 n2 c2 we ho (w.alloc (.cells #[.slice A1 n1 c1, .slice A2 n2 c2] 26)) H0.out false (decide_eq_false hg))
    clear hg hn
    go_enter Try.func13, Try.ntmps13
    go_wp2_with (go_at_call 21; refine HV.out.mono ?_; rintro e w1 ⟨rfl, hb1⟩; refine Hid.out ?_)
    refine Lib.hid ?_
    have B1 := Lib.hid (B0.out.trans (hb1.mono B0.out.size))
    clear hb1
    go_wp2_with fail
    go_ret2
    exact ⟨rfl, B1.out⟩

theorem cntI (A1 A2 : Option Addr) (n1 c1 n2 c2 : Nat) (we ho : List Int) (a b : Int) (w : World) (h : Cl w w.heap.size A1 n1 A2 n2 we ho) :
    Calls Try.prog 13 #[.agg #[.slice A1 n1 c1, .slice A2 n2 c2], .int .i64 a, .int .i64 b] w fun e w' => e = .returned (.tuple #[.int .i64 (cntV we ho a b), .bool (cntF we ho a b)]) ∧ Below w.heap.size w w' := by
  by_cases hn : CntOk we ho a b
  · have := cntYesI A1 A2 n1 c1 n2 c2 we ho a b w h hn.1 hn.2.1 hn.2.2.1 hn.2.2.2
    unfold cntV cntF
    rw [if_pos hn, decide_eq_true hn]; exact this
  · have := cntNoI A1 A2 n1 c1 n2 c2 we ho a b w h hn
    unfold cntV cntF
    rw [if_neg hn, decide_eq_false hn]; exact this

set_option maxHeartbeats 1000000 in
theorem bizS (A1 A2 : Option Addr) (n1 c1 n2 c2 : Nat) (we ho : List Int) (d : Int) (w : World) (h : Cl w w.heap.size A1 n1 A2 n2 we ho) :
    Calls Try.prog 23 #[.agg #[.slice A1 n1 c1, .slice A2 n2 c2], .int .i64 d] w fun e w' => e = .returned (.tuple #[.bool (bizB we ho d), .bool (bizF we ho d)]) ∧ Below w.heap.size w w' := by
  have H0 := Lib.hid (h.on (below1 w (.cells #[.slice A1 n1 c1, .slice A2 n2 c2] 26)))
  have X0 := Lib.hid (Bx.new w (.slice A1 n1 c1) (.slice A2 n2 c2) 26)
  have B0 := Lib.hid (below1 w (.cells #[.slice A1 n1 c1, .slice A2 n2 c2] 26))
  clear h
  by_cases hg : GoodC we ho
  · have HV := Lib.hid (validS A1 A2 n1 c1 n2 c2 we ho (w.alloc (.cells #[.slice A1 n1 c1, .slice A2 n2 c2] 26)) H0.out true (decide_eq_true hg))
    by_cases hd : Day d
    · have e1 : bizF we ho d = true := decide_eq_true ⟨hg, hd⟩
      have e2 : bizB we ho d = opn we ho d := by unfold bizB; rw [decide_eq_true ⟨hg, hd⟩]; rfl
      have HD := Lib.hid hd
      have HO : Hid (∀ w, Cl w w.heap.size A1 n1 A2 n2 we ho → Calls Try.prog 46 #[.agg #[.slice A1 n1 c1, .slice A2 n2 c2], .int .i64 d] w fun e w' => e = .returned (.bool (opn we ho d)) ∧ Below w.heap.size w w') := Lib.hid fun w h => openS A1 A2 n1 c1 n2 c2 we ho hg w h d hd _ rfl
      rw [e1, e2]
      clear hg hd e1 e2
      generalize opn we ho d = o at *
      go_enter Try.func23, Try.ntmps23
      go_wp2_with (first
        | (go_at_call 33; refine HV.out.mono ?_; rintro e w1 ⟨rfl, hb1⟩; refine Hid.out ?_))
      refine Lib.hid ?_
      have H1 := Lib.hid (H0.out.on hb1)
      have X1 := Lib.hid (X0.out.on hb1)
      have B1 := Lib.hid (B0.out.trans (hb1.mono B0.out.size))
      clear hb1
      obtain ⟨_, x0, x1, _, _⟩ := X1.out
      go_wp2_with (first
        | (go_at_call 34; refine (Wd.goodYes d HD.out _).mono ?_; rintro e w' ⟨rfl, rfl⟩)
        | (go_at_call 46; refine (HO.out _ H1.out).mono ?_; rintro e w2 ⟨rfl, hb2⟩; refine Hid.out ?_))
      refine Lib.hid ?_
      have B2 := Lib.hid (B1.out.trans (hb2.mono B1.out.size))
      clear hb2
      go_wp2_with fail
      go_ret2
      exact ⟨rfl, B2.out⟩
    · have e1 : bizF we ho d = false := decide_eq_false fun h => hd h.2
      have e2 : bizB we ho d = false := by unfold bizB; rw [decide_eq_false fun h => hd h.2]; rfl
      have HD := Lib.hid hd
      rw [e1, e2]
      clear hg hd e1 e2
      go_enter Try.func23, Try.ntmps23
      go_wp2_with (first
        | (go_at_call 33; refine HV.out.mono ?_; rintro e w1 ⟨rfl, hb1⟩; refine Hid.out ?_))
      refine Lib.hid ?_
      have B1 := Lib.hid (B0.out.trans (hb1.mono B0.out.size))
      clear hb1
      go_wp2_with (go_at_call 34; refine (Wd.goodNo d HD.out _).mono ?_; rintro e w' ⟨rfl, rfl⟩)
      go_ret2
      exact ⟨rfl, B1.out⟩
  · have HV := Lib.hid (validS A1 A2 n1 c1 n2 c2 we ho (w.alloc (.cells #[.slice A1 n1 c1, .slice A2 n2 c2] 26)) H0.out false (decide_eq_false hg))
    have e1 : bizF we ho d = false := decide_eq_false fun h => hg h.1
    have e2 : bizB we ho d = false := by unfold bizB; rw [decide_eq_false fun h => hg h.1]; rfl
    rw [e1, e2]
    clear hg e1 e2
    go_enter Try.func23, Try.ntmps23
    go_wp2_with (first
      | (go_at_call 33; refine HV.out.mono ?_; rintro e w1 ⟨rfl, hb1⟩; refine Hid.out ?_))
    refine Lib.hid ?_
    have B1 := Lib.hid (B0.out.trans (hb1.mono B0.out.size))
    clear hb1
    go_wp2_with fail
    go_ret2
    exact ⟨rfl, B1.out⟩

set_option maxHeartbeats 2000000 in
theorem cntYesS (A1 A2 : Option Addr) (n1 c1 n2 c2 : Nat) (we ho : List Int) (a b : Int) (w : World) (h : Cl w w.heap.size A1 n1 A2 n2 we ho) (hg : GoodC we ho) (ha : Day a) (hb : Day b) (hab : a ≤ b) :
    Calls Try.prog 24 #[.agg #[.slice A1 n1 c1, .slice A2 n2 c2], .int .i64 a, .int .i64 b] w fun e w' => e = .returned (.tuple #[.int .i64 (cnt (opn we ho) a (b - a).toNat), .bool true]) ∧ Below w.heap.size w w' := by
  have H0 := Lib.hid (h.on (below1 w (.cells #[.slice A1 n1 c1, .slice A2 n2 c2] 26)))
  have X0 := Lib.hid (Bx.new w (.slice A1 n1 c1) (.slice A2 n2 c2) 26)
  have B0 := Lib.hid (below1 w (.cells #[.slice A1 n1 c1, .slice A2 n2 c2] 26))
  have HV := Lib.hid (validS A1 A2 n1 c1 n2 c2 we ho (w.alloc (.cells #[.slice A1 n1 c1, .slice A2 n2 c2] 26)) H0.out true (decide_eq_true hg))
  have HO : Hid (∀ w d o, Cl w w.heap.size A1 n1 A2 n2 we ho → Day d → opn we ho d = o → Calls Try.prog 46 #[.agg #[.slice A1 n1 c1, .slice A2 n2 c2], .int .i64 d] w fun e w' => e = .returned (.bool o) ∧ Below w.heap.size w w') := Lib.hid fun w d o h hd ho' => openS A1 A2 n1 c1 n2 c2 we ho hg w h d hd o ho'
  have HA := Lib.hid ha
  have HB := Lib.hid hb
  obtain ⟨a0, a1⟩ := ha
  obtain ⟨b0, b1⟩ := hb
  generalize opn we ho = p at *
  clear h hg
  go_enter Try.func24, Try.ntmps24
  go_wp2_with (go_at_call 33; refine HV.out.mono ?_; rintro e w1 ⟨rfl, hb1⟩; refine Hid.out ?_)
  refine Lib.hid ?_
  have H1 := Lib.hid (H0.out.on hb1)
  have X1 := Lib.hid (X0.out.on hb1)
  have B1 := Lib.hid (B0.out.trans (hb1.mono B0.out.size))
  clear hb1 B0 X0 H0
  go_wp2_with (first
    | (go_at_call 34; refine (Wd.goodYes a HA.out _).mono ?_; rintro e w' ⟨rfl, rfl⟩; refine Hid.out ?_))
  refine Lib.hid ?_
  go_wp2_with (first
    | (go_at_call 34; refine (Wd.goodYes b HB.out _).mono ?_; rintro e w' ⟨rfl, rfl⟩; refine Hid.out ?_))
  refine Lib.hid ?_
  go_wp2_with fail
  go_loopw [8, 9] (fun n i wr => ∃ k : Nat, a + k ≤ b ∧ i = .int .i64 (a + k) ∧ n = .int .i64 (cnt p a k) ∧ Hid (Below w1.heap.size w1 wr)) (fun _ i _ => (b - intOf i).toNat)
  case atStart => exact ⟨0, by omega, by simp, rfl, Lib.hid (Below.refl _ _)⟩
  case round =>
    obtain ⟨k, hk, rfl, rfl, HW⟩ := hrel
    have hbd := cnt_bd p a k
    by_cases hlt : a + k < b
    · have H2 := Lib.hid (H1.out.on HW.out)
      have X2 := Lib.hid (X1.out.on HW.out)
      obtain ⟨_, x0, x1, _, _⟩ := X2.out
      have HD : Hid (Day (a + k)) := Lib.hid ⟨by omega, by omega⟩
      obtain ⟨o, ho⟩ : ∃ o, p (a + k) = o := ⟨_, rfl⟩
      have HP := Lib.hid ho
      clear ho
      cases o
      · have HC : Hid (cnt p a (k + 1) = cnt p a k) := Lib.hid (cnt_no HP.out)
        generalize cnt p a k = q at *
        go_wp2_with (go_at_call 46; refine (HO.out _ _ _ H2.out HD.out HP.out).mono ?_; rintro e w2 ⟨rfl, hb2⟩; refine Hid.out ?_)
        refine Lib.hid ?_
        have HW2 := Lib.hid (HW.out.trans (hb2.mono HW.out.size))
        clear hb2
        go_wp2_with fail
        go_roundw
        case rel => exact ⟨k + 1, by omega, by simp [Int.add_assoc], by rw [HC.out], HW2⟩
        case measure => simp [intOf]; omega
      · have HC : Hid (cnt p a (k + 1) = cnt p a k + 1) := Lib.hid (cnt_yes HP.out)
        generalize cnt p a k = q at *
        go_wp2_with (go_at_call 46; refine (HO.out _ _ _ H2.out HD.out HP.out).mono ?_; rintro e w2 ⟨rfl, hb2⟩; refine Hid.out ?_)
        refine Lib.hid ?_
        have HW2 := Lib.hid (HW.out.trans (hb2.mono HW.out.size))
        clear hb2
        go_wp2_with fail
        go_roundw
        case rel => exact ⟨k + 1, by omega, by simp [Int.add_assoc], by rw [HC.out], HW2⟩
        case measure => simp [intOf]; omega
    · have HE : Hid (cnt p a k = cnt p a (b - a).toNat) := Lib.hid (by rw [show (b - a).toNat = k by omega])
      have hlt' : ¬ a + k < b := hlt
      go_wp2_with fail
      go_ret2
      exact ⟨ret_int2 HE.out, B1.out.trans (HW.out.mono B1.out.size)⟩

set_option maxHeartbeats 2000000 in
theorem cntNoS (A1 A2 : Option Addr) (n1 c1 n2 c2 : Nat) (we ho : List Int) (a b : Int) (w : World) (h : Cl w w.heap.size A1 n1 A2 n2 we ho) (hn : ¬ CntOk we ho a b) :
    Calls Try.prog 24 #[.agg #[.slice A1 n1 c1, .slice A2 n2 c2], .int .i64 a, .int .i64 b] w fun e w' => e = .returned (.tuple #[.int .i64 0, .bool false]) ∧ Below w.heap.size w w' := by
  have H0 := Lib.hid (h.on (below1 w (.cells #[.slice A1 n1 c1, .slice A2 n2 c2] 26)))
  have B0 := Lib.hid (below1 w (.cells #[.slice A1 n1 c1, .slice A2 n2 c2] 26))
  clear h
  by_cases hg : GoodC we ho
  · have HV := Lib.hid (validS A1 A2 n1 c1 n2 c2 we ho (w.alloc (.cells #[.slice A1 n1 c1, .slice A2 n2 c2] 26)) H0.out true (decide_eq_true hg))
    by_cases ha : Day a
    · have HA := Lib.hid ha
      by_cases hb : Day b
      · have HB := Lib.hid hb
        have hab : b < a := by
          by_cases hh : a ≤ b
          · exact absurd ⟨hg, ha, hb, hh⟩ hn
          · omega
        clear hg hn ha hb
        go_enter Try.func24, Try.ntmps24
        go_wp2_with (go_at_call 33; refine HV.out.mono ?_; rintro e w1 ⟨rfl, hb1⟩; refine Hid.out ?_)
        refine Lib.hid ?_
        have B1 := Lib.hid (B0.out.trans (hb1.mono B0.out.size))
        clear hb1
        go_wp2_with (go_at_call 34; refine (Wd.goodYes a HA.out _).mono ?_; rintro e w' ⟨rfl, rfl⟩; refine Hid.out ?_)
        refine Lib.hid ?_
        go_wp2_with (go_at_call 34; refine (Wd.goodYes b HB.out _).mono ?_; rintro e w' ⟨rfl, rfl⟩; refine Hid.out ?_)
        refine Lib.hid ?_
        go_wp2_with fail
        go_ret2
        exact ⟨rfl, B1.out⟩
      · have HB := Lib.hid hb
        clear hg hn ha hb
        go_enter Try.func24, Try.ntmps24
        go_wp2_with (go_at_call 33; refine HV.out.mono ?_; rintro e w1 ⟨rfl, hb1⟩; refine Hid.out ?_)
        refine Lib.hid ?_
        have B1 := Lib.hid (B0.out.trans (hb1.mono B0.out.size))
        clear hb1
        go_wp2_with (go_at_call 34; refine (Wd.goodYes a HA.out _).mono ?_; rintro e w' ⟨rfl, rfl⟩; refine Hid.out ?_)
        refine Lib.hid ?_
        go_wp2_with (go_at_call 34; refine (Wd.goodNo b HB.out _).mono ?_; rintro e w' ⟨rfl, rfl⟩)
        go_ret2
        exact ⟨rfl, B1.out⟩
    · have HA := Lib.hid ha
      clear hg hn ha
      go_enter Try.func24, Try.ntmps24
      go_wp2_with (go_at_call 33; refine HV.out.mono ?_; rintro e w1 ⟨rfl, hb1⟩; refine Hid.out ?_)
      refine Lib.hid ?_
      have B1 := Lib.hid (B0.out.trans (hb1.mono B0.out.size))
      clear hb1
      go_wp2_with (go_at_call 34; refine (Wd.goodNo a HA.out _).mono ?_; rintro e w' ⟨rfl, rfl⟩)
      go_ret2
      exact ⟨rfl, B1.out⟩
  · have HV := Lib.hid (validS A1 A2 n1 c1 n2 c2 we ho (w.alloc (.cells #[.slice A1 n1 c1, .slice A2 n2 c2] 26)) H0.out false (decide_eq_false hg))
    clear hg hn
    go_enter Try.func24, Try.ntmps24
    go_wp2_with (go_at_call 33; refine HV.out.mono ?_; rintro e w1 ⟨rfl, hb1⟩; refine Hid.out ?_)
    refine Lib.hid ?_
    have B1 := Lib.hid (B0.out.trans (hb1.mono B0.out.size))
    clear hb1
    go_wp2_with fail
    go_ret2
    exact ⟨rfl, B1.out⟩

theorem cntS (A1 A2 : Option Addr) (n1 c1 n2 c2 : Nat) (we ho : List Int) (a b : Int) (w : World) (h : Cl w w.heap.size A1 n1 A2 n2 we ho) :
    Calls Try.prog 24 #[.agg #[.slice A1 n1 c1, .slice A2 n2 c2], .int .i64 a, .int .i64 b] w fun e w' => e = .returned (.tuple #[.int .i64 (cntV we ho a b), .bool (cntF we ho a b)]) ∧ Below w.heap.size w w' := by
  by_cases hn : CntOk we ho a b
  · have := cntYesS A1 A2 n1 c1 n2 c2 we ho a b w h hn.1 hn.2.1 hn.2.2.1 hn.2.2.2
    unfold cntV cntF
    rw [if_pos hn, decide_eq_true hn]; exact this
  · have := cntNoS A1 A2 n1 c1 n2 c2 we ho a b w h hn
    unfold cntV cntF
    rw [if_neg hn, decide_eq_false hn]; exact this

end Go.Proofs.Ytglpkanegehcbaa.IsBiz
