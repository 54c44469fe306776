/-
  monthOf, findDay and findEither with a calendar's business days, RollDay and LastBusinessDay of the program.
-/
import Derived.Test.YtlpblipgehlniaaDoorSeekS
import Derived.Test.YtlpblipgehlniaaDoorDateLaw
namespace Go.Proofs.YtlpblipgehlniaaDoor.RollI
open Go.RowKit Go.Proofs.YtlpblipgehlniaaDoor.IRow Go.Proofs.YtlpblipgehlniaaDoor.Cal Go.Proofs.YtlpblipgehlniaaDoor.Biz Go.Proofs.YtlpblipgehlniaaDoor.Wd Go.Proofs.YtlpblipgehlniaaDoor.Asc Go.Proofs.YtlpblipgehlniaaDoor.CalLaw Go.Proofs.YtlpblipgehlniaaDoor.Opn Go.Proofs.YtlpblipgehlniaaDoor.IsBiz Go.Proofs.YtlpblipgehlniaaDoor.SeekS Go.Proofs.YtlpblipgehlniaaDoor.Tab Go.Proofs.YtlpblipgehlniaaDoor.Len

set_option maxHeartbeats 1000000 in
theorem monthAux (n Y M D L : Int) (w : World) (hT : Tab w) (n0 : 0 ≤ n) (n1 : n ≤ 36524) (D0 : 1 ≤ D) (D1 : D ≤ 31) (L0 : 28 ≤ L) (L1 : L ≤ 31)
    (HI : Hid (∀ w, Tab w → Calls Tryd.prog 59 #[.int .i64 n] w fun e w' => e = .returned (.tuple #[.agg #[.int .i64 Y, .int .i64 M, .int .i64 D], .bool true]) ∧ Below w.heap.size w w'))
    (HL : Hid (∀ w, Tab w → Calls Tryd.prog 60 #[.int .i64 Y, .int .i64 M] w fun e w' => e = .returned (.tuple #[.int .i64 L, .bool true]) ∧ w = w')) :
    Calls Tryd.prog 29 #[.int .i64 n] w fun e w' => e = .returned (.tuple #[.int .i64 (n - D + 1), .int .i64 (n - D + 1 + L - 1), .bool true]) ∧ Below w.heap.size w w' := by
  have HT := Lib.hid hT
  clear hT
  go_enter Tryd.func29, Tryd.ntmps29
  go_wp2_with (go_at_call 59; refine (HI.out _ HT.out).mono ?_; rintro e w1 ⟨rfl, hb1⟩; refine Hid.out ?_)
  refine Lib.hid ?_
  have HW1 : Hid (Below w.heap.size w (w1.alloc (.cells #[.int .i64 Y, .int .i64 M, .int .i64 D] 44))) := Lib.hid (hb1.alloc hb1.size _)
  have HT1 : Hid (Tab (w1.alloc (.cells #[.int .i64 Y, .int .i64 M, .int .i64 D] 44))) := Lib.hid ((HT.out.below hb1).alloc _)
  clear hb1
  go_wp2_with (go_at_call 60; refine (HL.out _ HT1.out).mono ?_; rintro e w2 ⟨rfl, rfl⟩)
  go_ret3
  exact ⟨rfl, HW1.out⟩

theorem monthYes (n : Int) (h : Day n) (w : World) (hT : Tab w) :
    Calls Tryd.prog 29 #[.int .i64 n] w fun e w' => e = .returned (.tuple #[.int .i64 (fst n), .int .i64 (lastD n), .bool true]) ∧ Below w.heap.size w w' := by
  obtain ⟨⟨hy, hm, d1, d2⟩, _⟩ := date_is h
  have hl := len_bd (yr n) (mo n)
  have hb := fst_bd h
  have := monthAux n (yr n) (mo n) (da n) (lenM (yr n) (mo n)) w hT h.1 h.2 d1 (by omega) hl.1 hl.2 (Lib.hid fun w hw => DateLaw.implYes n h w hw) (Lib.hid fun w hw => lenYes _ _ hy hm w hw)
  rw [show n - da n + 1 = fst n by omega] at this
  exact this

theorem monthNo (n : Int) (h : ¬ Day n) (w : World) :
    Calls Tryd.prog 29 #[.int .i64 n] w fun e w' => e = .returned (.tuple #[.int .i64 0, .int .i64 0, .bool false]) ∧ Below w.heap.size w w' := by
  have HD := Lib.hid h
  clear h
  go_enter Tryd.func29, Tryd.ntmps29
  go_wp2_with (go_at_call 59; refine (DateLaw.implNo n HD.out _).mono ?_; rintro e w1 ⟨rfl, hb1⟩; refine Hid.out ?_)
  refine Lib.hid ?_
  have HW1 : Hid (Below w.heap.size w (w1.alloc (.cells #[.int .i64 0, .int .i64 0, .int .i64 0] 44))) := Lib.hid (hb1.alloc hb1.size _)
  clear hb1
  go_wp2_with fail
  go_ret3
  exact ⟨rfl, HW1.out⟩

set_option maxHeartbeats 2000000 in
theorem findUp (A1 A2 : Option Addr) (n1 c1 n2 c2 : Nat) (we ho : List Int) (a b : Int) (w : World) (h : Cl w w.heap.size A1 n1 A2 n2 we ho) (hg : GoodC we ho) (ha : Day a) (hb : Day b) (hab : a ≤ b) (o : Option Int) (ho' : o = seek (opn we ho) 1 (b - a + 1).toNat a) :
    Calls Tryd.prog 31 #[.int .i64 a, .int .i64 b, .func (.func 32) #[.agg #[.slice A1 n1 c1, .slice A2 n2 c2]] #[]] w fun e w' => e = .returned (.tuple #[.int .i64 (o.getD 0), .bool o.isSome]) ∧ Below w.heap.size w w' := by
  have HT := Lib.hid ho'
  have H := Lib.hid h
  have HO : Hid (∀ w d o, Cl w w.heap.size A1 n1 A2 n2 we ho → Day d → opn we ho d = o → Calls Tryd.prog 32 #[.agg #[.slice A1 n1 c1, .slice A2 n2 c2], .int .i64 d] w fun e w' => e = .returned (.bool o) ∧ Below w.heap.size w w') := Lib.hid fun w d o h hd ho' => openI A1 A2 n1 c1 n2 c2 we ho hg w h d hd o ho'
  obtain ⟨a0, a1⟩ := ha
  obtain ⟨b0, b1⟩ := hb
  clear h hg ho'
  generalize opn we ho = p at *
  have ht : ¬ b < a := by omega
  go_enter Tryd.func31, Tryd.ntmps31
  go_wp2_with fail
  go_loopw [9] (fun i wr => ∃ x : Int, (a ≤ x ∧ x ≤ b) ∧ i = .int .i64 x ∧ Hid (o = seek p 1 (b - x + 1).toNat x) ∧ Hid (Below w.heap.size w wr)) (fun i _ => (b + 1 - intOf i).toNat)
  case atStart => exact ⟨a, by omega, rfl, HT, Lib.hid (Below.refl _ _)⟩
  case round =>
    clear HT
    obtain ⟨x, ⟨x0, x1⟩, rfl, HX, HW⟩ := hrel
    have HD : Hid (Day x) := Lib.hid ⟨by omega, by omega⟩
    have HC := Lib.hid (H.out.on HW.out)
    obtain ⟨q, hq⟩ : ∃ q, p x = q := ⟨_, rfl⟩
    have HP := Lib.hid hq
    clear hq
    have HL : Hid ((b - x + 1).toNat = (b - x).toNat + 1) := Lib.hid (by omega)
    cases q
    · have HE : Hid (o = seek p 1 (b - x).toNat (x + 1)) := Lib.hid (by rw [HX.out, HL.out, seek_miss HP.out])
      by_cases hto : x = b
      · have HE2 : Hid (o = none) := Lib.hid (by rw [HE.out, show (b - x).toNat = 0 by omega]; rfl)
        subst hto
        go_wp2_with (go_at_call 32; refine (HO.out _ _ _ HC.out HD.out HP.out).mono ?_; rintro e w2 ⟨rfl, hb2⟩; refine Hid.out ?_)
        refine Lib.hid ?_
        have HW2 := Lib.hid (HW.out.trans (hb2.mono HW.out.size))
        clear hb2
        go_wp2_with fail
        go_ret2
        exact ⟨ret_opt (by rw [HE2.out]; exact ⟨rfl, rfl⟩), HW2.out⟩
      · have hq : (x == b) = false := beqFalse hto
        have HTO := Lib.hid hto
        clear hto
        go_wp2_with (go_at_call 32; refine (HO.out _ _ _ HC.out HD.out HP.out).mono ?_; rintro e w2 ⟨rfl, hb2⟩; refine Hid.out ?_)
        refine Lib.hid ?_
        have HW2 := Lib.hid (HW.out.trans (hb2.mono HW.out.size))
        clear hb2
        go_wp2_with fail
        go_roundw
        case rel => exact ⟨x + 1, by have := HTO.out; omega, rfl, Lib.hid (by rw [HE.out]; congr 2; omega), HW2⟩
        case measure => have := HTO.out; simp [intOf]; omega
    · have HE : Hid (o = some x) := Lib.hid (by rw [HX.out, HL.out, seek_hit HP.out])
      go_wp2_with (go_at_call 32; refine (HO.out _ _ _ HC.out HD.out HP.out).mono ?_; rintro e w2 ⟨rfl, hb2⟩; refine Hid.out ?_)
      refine Lib.hid ?_
      have HW2 := Lib.hid (HW.out.trans (hb2.mono HW.out.size))
      clear hb2
      go_wp2_with fail
      go_ret2
      exact ⟨ret_opt (by rw [HE.out]; exact ⟨rfl, rfl⟩), HW2.out⟩

set_option maxHeartbeats 2000000 in
theorem findDn (A1 A2 : Option Addr) (n1 c1 n2 c2 : Nat) (we ho : List Int) (a b : Int) (w : World) (h : Cl w w.heap.size A1 n1 A2 n2 we ho) (hg : GoodC we ho) (ha : Day a) (hb : Day b) (hab : b < a) (o : Option Int) (ho' : o = seek (opn we ho) (-1) (a - b + 1).toNat a) :
    Calls Tryd.prog 31 #[.int .i64 a, .int .i64 b, .func (.func 32) #[.agg #[.slice A1 n1 c1, .slice A2 n2 c2]] #[]] w fun e w' => e = .returned (.tuple #[.int .i64 (o.getD 0), .bool o.isSome]) ∧ Below w.heap.size w w' := by
  have HT := Lib.hid ho'
  have H := Lib.hid h
  have HO : Hid (∀ w d o, Cl w w.heap.size A1 n1 A2 n2 we ho → Day d → opn we ho d = o → Calls Tryd.prog 32 #[.agg #[.slice A1 n1 c1, .slice A2 n2 c2], .int .i64 d] w fun e w' => e = .returned (.bool o) ∧ Below w.heap.size w w') := Lib.hid fun w d o h hd ho' => openI A1 A2 n1 c1 n2 c2 we ho hg w h d hd o ho'
  obtain ⟨a0, a1⟩ := ha
  obtain ⟨b0, b1⟩ := hb
  clear h hg ho'
  generalize opn we ho = p at *
  
  go_enter Tryd.func31, Tryd.ntmps31
  go_wp2_with fail
  go_loopw [9] (fun i wr => ∃ x : Int, (b ≤ x ∧ x ≤ a) ∧ i = .int .i64 x ∧ Hid (o = seek p (-1) (x - b + 1).toNat x) ∧ Hid (Below w.heap.size w wr)) (fun i _ => (intOf i + 1 - b).toNat)
  case atStart => exact ⟨a, by omega, rfl, HT, Lib.hid (Below.refl _ _)⟩
  case round =>
    clear HT
    obtain ⟨x, ⟨x0, x1⟩, rfl, HX, HW⟩ := hrel
    have HD : Hid (Day x) := Lib.hid ⟨by omega, by omega⟩
    have HC := Lib.hid (H.out.on HW.out)
    obtain ⟨q, hq⟩ : ∃ q, p x = q := ⟨_, rfl⟩
    have HP := Lib.hid hq
    clear hq
    have HL : Hid ((x - b + 1).toNat = (x - b).toNat + 1) := Lib.hid (by omega)
    cases q
    · have HE : Hid (o = seek p (-1) (x - b).toNat (x + (-1))) := Lib.hid (by rw [HX.out, HL.out, seek_miss HP.out])
      by_cases hto : x = b
      · have HE2 : Hid (o = none) := Lib.hid (by rw [HE.out, show (x - b).toNat = 0 by omega]; rfl)
        subst hto
        go_wp2_with (go_at_call 32; refine (HO.out _ _ _ HC.out HD.out HP.out).mono ?_; rintro e w2 ⟨rfl, hb2⟩; refine Hid.out ?_)
        refine Lib.hid ?_
        have HW2 := Lib.hid (HW.out.trans (hb2.mono HW.out.size))
        clear hb2
        go_wp2_with fail
        go_ret2
        exact ⟨ret_opt (by rw [HE2.out]; exact ⟨rfl, rfl⟩), HW2.out⟩
      · have hq : (x == b) = false := beqFalse hto
        have HTO := Lib.hid hto
        clear hto
        go_wp2_with (go_at_call 32; refine (HO.out _ _ _ HC.out HD.out HP.out).mono ?_; rintro e w2 ⟨rfl, hb2⟩; refine Hid.out ?_)
        refine Lib.hid ?_
        have HW2 := Lib.hid (HW.out.trans (hb2.mono HW.out.size))
        clear hb2
        go_wp2_with fail
        go_roundw
        case rel => exact ⟨x + (-1), by have := HTO.out; omega, rfl, Lib.hid (by rw [HE.out]; congr 2; omega), HW2⟩
        case measure => have := HTO.out; simp [intOf]; omega
    · have HE : Hid (o = some x) := Lib.hid (by rw [HX.out, HL.out, seek_hit HP.out])
      go_wp2_with (go_at_call 32; refine (HO.out _ _ _ HC.out HD.out HP.out).mono ?_; rintro e w2 ⟨rfl, hb2⟩; refine Hid.out ?_)
      refine Lib.hid ?_
      have HW2 := Lib.hid (HW.out.trans (hb2.mono HW.out.size))
      clear hb2
      go_wp2_with fail
      go_ret2
      exact ⟨ret_opt (by rw [HE.out]; exact ⟨rfl, rfl⟩), HW2.out⟩

theorem seek_one (p : Int → Bool) (a : Int) : seek p 1 1 a = seek p (-1) 1 a := by simp [seek]
theorem findLe (A1 A2 : Option Addr) (n1 c1 n2 c2 : Nat) (we ho : List Int) (a b : Int) (w : World) (h : Cl w w.heap.size A1 n1 A2 n2 we ho) (hg : GoodC we ho) (ha : Day a) (hb : Day b) (hab : b ≤ a) (o : Option Int) (ho' : o = seek (opn we ho) (-1) (a - b + 1).toNat a) :
    Calls Tryd.prog 31 #[.int .i64 a, .int .i64 b, .func (.func 32) #[.agg #[.slice A1 n1 c1, .slice A2 n2 c2]] #[]] w fun e w' => e = .returned (.tuple #[.int .i64 (o.getD 0), .bool o.isSome]) ∧ Below w.heap.size w w' := by
  by_cases e : b = a
  · subst e
    refine findUp A1 A2 n1 c1 n2 c2 we ho b b w h hg ha hb (by omega) o ?_
    rw [ho', show (b - b + 1).toNat = 1 by omega, seek_one]
  · exact findDn A1 A2 n1 c1 n2 c2 we ho a b w h hg ha hb (by omega) o ho'

set_option maxHeartbeats 2000000 in
theorem either (A1 A2 : Option Addr) (n1 c1 n2 c2 : Nat) (we ho : List Int) (a b c : Int) (w : World) (h : Cl w w.heap.size A1 n1 A2 n2 we ho) (o1 o2 : Option Int)
    (H1 : Hid (∀ w, Cl w w.heap.size A1 n1 A2 n2 we ho → Calls Tryd.prog 31 #[.int .i64 a, .int .i64 b, .func (.func 32) #[.agg #[.slice A1 n1 c1, .slice A2 n2 c2]] #[]] w fun e w' => e = .returned (.tuple #[.int .i64 (o1.getD 0), .bool o1.isSome]) ∧ Below w.heap.size w w'))
    (H2 : Hid (∀ w, Cl w w.heap.size A1 n1 A2 n2 we ho → Calls Tryd.prog 31 #[.int .i64 a, .int .i64 c, .func (.func 32) #[.agg #[.slice A1 n1 c1, .slice A2 n2 c2]] #[]] w fun e w' => e = .returned (.tuple #[.int .i64 (o2.getD 0), .bool o2.isSome]) ∧ Below w.heap.size w w')) :
    Calls Tryd.prog 33 #[.int .i64 a, .int .i64 b, .int .i64 c, .func (.func 32) #[.agg #[.slice A1 n1 c1, .slice A2 n2 c2]] #[]] w fun e w' => e = .returned (.tuple #[.int .i64 ((orr o1 o2).getD 0), .bool (orr o1 o2).isSome]) ∧ Below w.heap.size w w' := by
  have HC := Lib.hid h
  clear h
  cases o1 with
  | some x =>
    have H1' := Lib.hid (H1.out w HC.out)
    go_enter Tryd.func33, Tryd.ntmps33
    go_wp2_with (go_at_call 31; refine H1'.out.mono ?_; rintro e w1 ⟨rfl, hb1⟩; refine Hid.out ?_)
    refine Lib.hid ?_
    have HB := Lib.hid hb1
    clear hb1
    go_wp2_with fail
    go_ret2
    exact ⟨rfl, HB.out⟩
  | none =>
    have H1' := Lib.hid (H1.out w HC.out)
    have e2 : orr none o2 = o2 := rfl
    rw [e2]
    clear e2
    go_enter Tryd.func33, Tryd.ntmps33
    go_wp2_with (go_at_call 31; refine H1'.out.mono ?_; rintro e w1 ⟨rfl, hb1⟩; refine Hid.out ?_)
    refine Lib.hid ?_
    have HB := Lib.hid hb1
    have H2' := Lib.hid (H2.out w1 (HC.out.on hb1))
    clear hb1
    go_wp2_with (go_at_call 31; refine H2'.out.mono ?_; rintro e w2 ⟨rfl, hb2⟩; refine Hid.out ?_)
    refine Lib.hid ?_
    have HB2 := Lib.hid (HB.out.trans (hb2.mono HB.out.size))
    clear hb2
    go_wp2_with fail
    go_ret2
    exact ⟨rfl, HB2.out⟩

/-- What RollDay answers. -/
def rollT (p : Int → Bool) (d c : Int) : Option Int :=
  if c = 1 then nxt p d else if c = 2 then orr (seek p 1 (lastD d - d + 1).toNat d) (lst p d) else if c = 3 then lst p d else orr (seek p (-1) (d - fst d + 1).toNat d) (nxt p d)
def RollOk (we ho : List Int) (d c : Int) : Prop := GoodC we ho ∧ Day d ∧ 1 ≤ c ∧ c ≤ 4
instance (we ho : List Int) (d c : Int) : Decidable (RollOk we ho d c) := inferInstanceAs (Decidable (_ ∧ _ ∧ _ ∧ _))
def rollO (we ho : List Int) (d c : Int) : Option Int := if RollOk we ho d c then rollT (opn we ho) d c else none
def rollV (we ho : List Int) (d c : Int) : Int := (rollO we ho d c).getD 0
def rollF (we ho : List Int) (d c : Int) : Bool := (rollO we ho d c).isSome
/-- What LastBusinessDay answers. -/
def lastO (we ho : List Int) (d : Int) : Option Int := if GoodC we ho ∧ Day d then seek (opn we ho) (-1) (lastD d - fst d + 1).toNat (lastD d) else none
def lastV (we ho : List Int) (d : Int) : Int := (lastO we ho d).getD 0
def lastF (we ho : List Int) (d : Int) : Bool := (lastO we ho d).isSome
theorem nxt_is (p : Int → Bool) (d : Int) : nxt p d = seek p 1 (36524 - d + 1).toNat d := by unfold nxt; rw [left_up, show 36525 - d = 36524 - d + 1 by omega]
theorem lst_is (p : Int → Bool) (d : Int) : lst p d = seek p (-1) (d - 0 + 1).toNat d := by unfold lst; rw [left_dn, show d - 0 + 1 = d + 1 by omega]

set_option maxHeartbeats 4000000 in
theorem rollYes (A1 A2 : Option Addr) (n1 c1 n2 c2 : Nat) (we ho : List Int) (d c : Int) (w : World) (hT : Tab w) (h : Cl w w.heap.size A1 n1 A2 n2 we ho) (hg : GoodC we ho) (hd : Day d) (hc0 : 1 ≤ c) (hc1 : c ≤ 4) :
    Calls Tryd.prog 10 #[.agg #[.slice A1 n1 c1, .slice A2 n2 c2], .int .i64 d, .int .i64 c] w fun e w' => e = .returned (.tuple #[.int .i64 ((rollT (opn we ho) d c).getD 0), .bool (rollT (opn we ho) d c).isSome]) ∧ Below w.heap.size w w' := by
  have hmf : ∀ (fn : Fn) (first cap : Array Value) (w : World), (Instr.makeFunc fn first cap).run Tryd.prog w = .ok (.func fn first cap) w := fun _ _ _ _ => rfl
  have H0 := Lib.hid (h.on (below1 w (.cells #[.slice A1 n1 c1, .slice A2 n2 c2] 26)))
  have X0 := Lib.hid (Bx.new w (.slice A1 n1 c1) (.slice A2 n2 c2) 26)
  have B0 := Lib.hid (below1 w (.cells #[.slice A1 n1 c1, .slice A2 n2 c2] 26))
  have HT := Lib.hid hT
  have HV := Lib.hid fun w h => validI A1 A2 n1 c1 n2 c2 we ho w h true (decide_eq_true hg)
  have HM := Lib.hid fun w hw => monthYes d hd w hw
  have hbd := fst_bd hd
  have D0 : Day (0 : Int) := ⟨by omega, by omega⟩
  have D1 : Day (36524 : Int) := ⟨by omega, by omega⟩
  have F1 := Lib.hid fun w h => findUp A1 A2 n1 c1 n2 c2 we ho d 36524 w h hg hd D1 hd.2 (nxt (opn we ho) d) (nxt_is _ _)
  have F3 := Lib.hid fun w h => findLe A1 A2 n1 c1 n2 c2 we ho d 0 w h hg hd D0 hd.1 (lst (opn we ho) d) (lst_is _ _)
  have F2 := Lib.hid fun w h => findUp A1 A2 n1 c1 n2 c2 we ho d (lastD d) w h hg hd ⟨by omega, by omega⟩ (by omega) _ rfl
  have F4 := Lib.hid fun w h => findLe A1 A2 n1 c1 n2 c2 we ho d (fst d) w h hg hd ⟨by omega, by omega⟩ (by omega) _ rfl
  have E2 := Lib.hid fun w h => either A1 A2 n1 c1 n2 c2 we ho d (lastD d) 0 w h _ _ F2 F3
  have E4 := Lib.hid fun w h => either A1 A2 n1 c1 n2 c2 we ho d (fst d) 36524 w h _ _ F4 F1
  have HC : Hid (c = 1 ∨ c = 2 ∨ c = 3 ∨ c = 4) := Lib.hid (by omega)
  clear h hg hT D0 D1 F2 F4 hc0 hc1 hbd
  obtain ⟨d0, d1⟩ := hd
  unfold rollT
  generalize orr (seek (opn we ho) 1 (lastD d - d + 1).toNat d) (lst (opn we ho) d) = o2 at *
  generalize orr (seek (opn we ho) (-1) (d - fst d + 1).toNat d) (nxt (opn we ho) d) = o4 at *
  generalize nxt (opn we ho) d = o1 at *
  generalize lst (opn we ho) d = o3 at *
  generalize fst d = f at *
  generalize lastD d = l at *
  rcases HC.out with rfl | rfl | rfl | rfl
  all_goals
    simp only [if_true, if_false, Int.reduceEq]
    clear HC
    go_enter Tryd.func10, Tryd.ntmps10
    go_wp2_with (go_at_call 29; refine (HM.out _ (HT.out.below B0.out)).mono ?_; rintro e w1 ⟨rfl, hb1⟩; refine Hid.out ?_)
    refine Lib.hid ?_
    have H1 := Lib.hid (H0.out.on hb1)
    have X1 := Lib.hid (X0.out.on hb1)
    have B1 := Lib.hid (B0.out.trans (hb1.mono B0.out.size))
    clear hb1 B0 X0 H0 HM HT
    obtain ⟨_, x0, x1, _, _⟩ := X1.out
    go_wp2_with (go_at_call 30; refine (HV.out _ H1.out).mono ?_; rintro e w2 ⟨rfl, hb2⟩; refine Hid.out ?_)
    refine Lib.hid ?_
    have H2 := Lib.hid (H1.out.on hb2)
    have X2 := Lib.hid (X1.out.on hb2)
    have B2 := Lib.hid (B1.out.trans (hb2.mono B1.out.size))
    clear hb2 B1 X1 H1 HV x0 x1
    obtain ⟨_, x0, x1, _, _⟩ := X2.out
    go_wp2_with (first
      | (go_at_call 31; (with_reducible refine (F1.out _ H2.out).mono ?_); rintro e w3 ⟨rfl, hb3⟩; refine Hid.out ?_)
      | (go_at_call 31; (with_reducible refine (F3.out _ H2.out).mono ?_); rintro e w3 ⟨rfl, hb3⟩; refine Hid.out ?_)
      | (go_at_call 33; (with_reducible refine (E2.out _ H2.out).mono ?_); rintro e w3 ⟨rfl, hb3⟩; refine Hid.out ?_)
      | (go_at_call 33; (with_reducible refine (E4.out _ H2.out).mono ?_); rintro e w3 ⟨rfl, hb3⟩; refine Hid.out ?_))
    refine Lib.hid ?_
    have B3 := Lib.hid (B2.out.trans (hb3.mono B2.out.size))
    clear hb3
    go_wp2_with fail
    go_ret2
    exact ⟨rfl, B3.out⟩

set_option maxHeartbeats 4000000 in
theorem rollNo (A1 A2 : Option Addr) (n1 c1 n2 c2 : Nat) (we ho : List Int) (d c : Int) (w : World) (hT : Tab w) (h : Cl w w.heap.size A1 n1 A2 n2 we ho) (hn : ¬ RollOk we ho d c) :
    Calls Tryd.prog 10 #[.agg #[.slice A1 n1 c1, .slice A2 n2 c2], .int .i64 d, .int .i64 c] w fun e w' => e = .returned (.tuple #[.int .i64 0, .bool false]) ∧ Below w.heap.size w w' := by
  have H0 := Lib.hid (h.on (below1 w (.cells #[.slice A1 n1 c1, .slice A2 n2 c2] 26)))
  have X0 := Lib.hid (Bx.new w (.slice A1 n1 c1) (.slice A2 n2 c2) 26)
  have B0 := Lib.hid (below1 w (.cells #[.slice A1 n1 c1, .slice A2 n2 c2] 26))
  have HT := Lib.hid hT
  clear h hT
  by_cases hd : Day d
  · have HM := Lib.hid fun w hw => monthYes d hd w hw
    by_cases hg : GoodC we ho
    · have HV := Lib.hid fun w h => validI A1 A2 n1 c1 n2 c2 we ho w h true (decide_eq_true hg)
      have hc : c < 1 ∨ 4 < c := by
        by_cases hh : 1 ≤ c ∧ c ≤ 4
        · exact absurd ⟨hg, hd, hh⟩ hn
        · omega
      have q1 : (c == 1) = false := beqFalse (by omega)
      have q2 : (c == 2) = false := beqFalse (by omega)
      have q3 : (c == 3) = false := beqFalse (by omega)
      have q4 : (c == 4) = false := beqFalse (by omega)
      clear hg hd hn hc
      go_enter Tryd.func10, Tryd.ntmps10
      go_wp2_with (go_at_call 29; refine (HM.out _ (HT.out.below B0.out)).mono ?_; rintro e w1 ⟨rfl, hb1⟩; refine Hid.out ?_)
      refine Lib.hid ?_
      have H1 := Lib.hid (H0.out.on hb1)
      have X1 := Lib.hid (X0.out.on hb1)
      have B1 := Lib.hid (B0.out.trans (hb1.mono B0.out.size))
      clear hb1 B0 X0 H0 HM HT
      obtain ⟨_, x0, x1, _, _⟩ := X1.out
      go_wp2_with (go_at_call 30; refine (HV.out _ H1.out).mono ?_; rintro e w2 ⟨rfl, hb2⟩; refine Hid.out ?_)
      refine Lib.hid ?_
      have B2 := Lib.hid (B1.out.trans (hb2.mono B1.out.size))
      clear hb2
      go_wp2_with fail
      go_ret2
      exact ⟨rfl, B2.out⟩
    · have HV := Lib.hid fun w h => validI A1 A2 n1 c1 n2 c2 we ho w h false (decide_eq_false hg)
      clear hg hd hn
      go_enter Tryd.func10, Tryd.ntmps10
      go_wp2_with (go_at_call 29; refine (HM.out _ (HT.out.below B0.out)).mono ?_; rintro e w1 ⟨rfl, hb1⟩; refine Hid.out ?_)
      refine Lib.hid ?_
      have H1 := Lib.hid (H0.out.on hb1)
      have X1 := Lib.hid (X0.out.on hb1)
      have B1 := Lib.hid (B0.out.trans (hb1.mono B0.out.size))
      clear hb1 B0 X0 H0 HM HT
      obtain ⟨_, x0, x1, _, _⟩ := X1.out
      go_wp2_with (go_at_call 30; refine (HV.out _ H1.out).mono ?_; rintro e w2 ⟨rfl, hb2⟩; refine Hid.out ?_)
      refine Lib.hid ?_
      have B2 := Lib.hid (B1.out.trans (hb2.mono B1.out.size))
      clear hb2
      go_wp2_with fail
      go_ret2
      exact ⟨rfl, B2.out⟩
  · have HM := Lib.hid fun w => monthNo d hd w
    clear hd hn
    go_enter Tryd.func10, Tryd.ntmps10
    go_wp2_with (go_at_call 29; refine (HM.out _).mono ?_; rintro e w1 ⟨rfl, hb1⟩; refine Hid.out ?_)
    refine Lib.hid ?_
    have B1 := Lib.hid (B0.out.trans (hb1.mono B0.out.size))
    clear hb1
    go_wp2_with fail
    go_ret2
    exact ⟨rfl, B1.out⟩

theorem rollI (A1 A2 : Option Addr) (n1 c1 n2 c2 : Nat) (we ho : List Int) (d c : Int) (w : World) (hT : Tab w) (h : Cl w w.heap.size A1 n1 A2 n2 we ho) :
    Calls Tryd.prog 10 #[.agg #[.slice A1 n1 c1, .slice A2 n2 c2], .int .i64 d, .int .i64 c] w fun e w' => e = .returned (.tuple #[.int .i64 (rollV we ho d c), .bool (rollF we ho d c)]) ∧ Below w.heap.size w w' := by
  unfold rollV rollF rollO
  by_cases hn : RollOk we ho d c
  · rw [if_pos hn]
    exact rollYes A1 A2 n1 c1 n2 c2 we ho d c w hT h hn.1 hn.2.1 hn.2.2.1 hn.2.2.2
  · rw [if_neg hn]
    exact rollNo A1 A2 n1 c1 n2 c2 we ho d c w hT h hn

set_option maxHeartbeats 4000000 in
theorem lastI (A1 A2 : Option Addr) (n1 c1 n2 c2 : Nat) (we ho : List Int) (d : Int) (w : World) (hT : Tab w) (h : Cl w w.heap.size A1 n1 A2 n2 we ho) :
    Calls Tryd.prog 19 #[.agg #[.slice A1 n1 c1, .slice A2 n2 c2], .int .i64 d] w fun e w' => e = .returned (.tuple #[.int .i64 (lastV we ho d), .bool (lastF we ho d)]) ∧ Below w.heap.size w w' := by
  have hmf : ∀ (fn : Fn) (first cap : Array Value) (w : World), (Instr.makeFunc fn first cap).run Tryd.prog w = .ok (.func fn first cap) w := fun _ _ _ _ => rfl
  have H0 := Lib.hid (h.on (below1 w (.cells #[.slice A1 n1 c1, .slice A2 n2 c2] 26)))
  have X0 := Lib.hid (Bx.new w (.slice A1 n1 c1) (.slice A2 n2 c2) 26)
  have B0 := Lib.hid (below1 w (.cells #[.slice A1 n1 c1, .slice A2 n2 c2] 26))
  have HT := Lib.hid hT
  clear h hT
  unfold lastV lastF lastO
  by_cases hd : Day d
  · have HM := Lib.hid fun w hw => monthYes d hd w hw
    by_cases hg : GoodC we ho
    · rw [if_pos ⟨hg, hd⟩]
      have HV := Lib.hid fun w h => validI A1 A2 n1 c1 n2 c2 we ho w h true (decide_eq_true hg)
      have hbd := fst_bd hd
      have F := Lib.hid fun w h => findLe A1 A2 n1 c1 n2 c2 we ho (lastD d) (fst d) w h hg ⟨by omega, by omega⟩ ⟨by omega, by omega⟩ (by omega) _ rfl
      clear hg hd hbd
      generalize seek (opn we ho) (-1) (lastD d - fst d + 1).toNat (lastD d) = o at *
      generalize fst d = f at *
      generalize lastD d = l at *
      go_enter Tryd.func19, Tryd.ntmps19
      go_wp2_with (go_at_call 29; refine (HM.out _ (HT.out.below B0.out)).mono ?_; rintro e w1 ⟨rfl, hb1⟩; refine Hid.out ?_)
      refine Lib.hid ?_
      have H1 := Lib.hid (H0.out.on hb1)
      have X1 := Lib.hid (X0.out.on hb1)
      have B1 := Lib.hid (B0.out.trans (hb1.mono B0.out.size))
      clear hb1 B0 X0 H0 HM HT
      obtain ⟨_, x0, x1, _, _⟩ := X1.out
      go_wp2_with (go_at_call 30; refine (HV.out _ H1.out).mono ?_; rintro e w2 ⟨rfl, hb2⟩; refine Hid.out ?_)
      refine Lib.hid ?_
      have H2 := Lib.hid (H1.out.on hb2)
      have X2 := Lib.hid (X1.out.on hb2)
      have B2 := Lib.hid (B1.out.trans (hb2.mono B1.out.size))
      clear hb2 B1 X1 H1 HV x0 x1
      obtain ⟨_, x0, x1, _, _⟩ := X2.out
      go_wp2_with (go_at_call 31; refine (F.out _ H2.out).mono ?_; rintro e w3 ⟨rfl, hb3⟩; refine Hid.out ?_)
      refine Lib.hid ?_
      have B3 := Lib.hid (B2.out.trans (hb3.mono B2.out.size))
      clear hb3
      go_wp2_with fail
      go_ret2
      exact ⟨rfl, B3.out⟩
    · rw [if_neg fun h => hg h.1]
      have HV := Lib.hid fun w h => validI A1 A2 n1 c1 n2 c2 we ho w h false (decide_eq_false hg)
      clear hg hd
      go_enter Tryd.func19, Tryd.ntmps19
      go_wp2_with (go_at_call 29; refine (HM.out _ (HT.out.below B0.out)).mono ?_; rintro e w1 ⟨rfl, hb1⟩; refine Hid.out ?_)
      refine Lib.hid ?_
      have H1 := Lib.hid (H0.out.on hb1)
      have X1 := Lib.hid (X0.out.on hb1)
      have B1 := Lib.hid (B0.out.trans (hb1.mono B0.out.size))
      clear hb1 B0 X0 H0 HM HT
      obtain ⟨_, x0, x1, _, _⟩ := X1.out
      go_wp2_with (go_at_call 30; refine (HV.out _ H1.out).mono ?_; rintro e w2 ⟨rfl, hb2⟩; refine Hid.out ?_)
      refine Lib.hid ?_
      have B2 := Lib.hid (B1.out.trans (hb2.mono B1.out.size))
      clear hb2
      go_wp2_with fail
      go_ret2
      exact ⟨rfl, B2.out⟩
  · rw [if_neg fun h => hd h.2]
    have HM := Lib.hid fun w => monthNo d hd w
    clear hd
    go_enter Tryd.func19, Tryd.ntmps19
    go_wp2_with (go_at_call 29; refine (HM.out _).mono ?_; rintro e w1 ⟨rfl, hb1⟩; refine Hid.out ?_)
    refine Lib.hid ?_
    have B1 := Lib.hid (B0.out.trans (hb1.mono B0.out.size))
    clear hb1
    go_wp2_with fail
    go_ret2
    exact ⟨rfl, B1.out⟩

end Go.Proofs.YtlpblipgehlniaaDoor.RollI
