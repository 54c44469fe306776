/-
  FormatDate, of the program and of the model.
-/
import Derived.Test.YtgjihejneadadaaDoorDateLaw
import Derived.Test.YtgjihejneadadaaDoorFmtPlain
import Derived.Test.YtgjihejneadadaaDoorNum
import Derived.Test.YtgjihejneadadaaDoorLaid
import Derived.Test.YtgjihejneadadaaDoorShelf
import Derived.WalkSmall
import Derived.Lib.AppendIntMem
import Derived.Deep.RegionHeld3
namespace Go.Proofs.YtgjihejneadadaaDoor.FmtDate
open Go.RowKit Go.Proofs.YtgjihejneadadaaDoor.Cal Go.Proofs.YtgjihejneadadaaDoor.Tab Go.Proofs.YtgjihejneadadaaDoor.Wd Go.Proofs.YtgjihejneadadaaDoor.Len Go.Proofs.YtgjihejneadadaaDoor.Valid Go.Proofs.YtgjihejneadadaaDoor.DayOf Go.Proofs.YtgjihejneadadaaDoor.DateOf Go.Proofs.YtgjihejneadadaaDoor.FmtPlain Go.Proofs.YtgjihejneadadaaDoor.Num
set_option linter.unusedSimpArgs false
set_option linter.unusedVariables false

def Pow (w : World) : Prop := Lib.TabIs Tryd.prog w "internal/strconv.uint64pow10" .u64 Lib.pow10Tab
theorem Pow.below {w w' : World} (h : Pow w) (hb : Below w.heap.size w w') : Pow w' := Laid.table_below hb h

/-- The text of a date. -/
def text (y m d : Int) : List UInt8 := Lib.decDigits y.toNat ++ [45] ++ two m.toNat ++ [45] ++ two d.toNat

theorem addIs (a b : List UInt8) (h : a.length + b.length ≤ 100) (w : World) :
    (Op.stringOp .add ⟨a.toArray⟩ ⟨b.toArray⟩).run Tryd.prog w = .ok (.string ⟨(a ++ b).toArray⟩) w := by
  rw [run_string_add_sum w _ _ (by rw [size, size]; omega), cat]

theorem l3Two (n : Int) (h0 : 0 ≤ n) (h1 : n ≤ 99) (w : World) :
    Calls Tryd.prog 51 #[.int .i64 n] w fun e w' => e = .returned (.string ⟨(two n.toNat).toArray⟩) ∧ ∃ k, w' = w.drewN k := by
  have HQ := Lib.hid (fun w => l1NumPos n.toNat n w (by omega) h0 (by omega))
  by_cases h : n < 10
  · have HE : Hid ([48] ++ Lib.decDigits n.toNat = two n.toNat) := Lib.hid (by rw [dec_one _ (by omega)]; unfold two; rw [show n.toNat / 10 = 0 by omega, show n.toNat % 10 = n.toNat by omega]; rfl)
    have hl := dec_le n.toNat (by omega)
    generalize Lib.decDigits n.toNat = D at *
    have a1 := addIs [48] D (by simp; omega)
    rw [HE.out] at a1
    generalize two n.toNat = T at *
    go_enter Tryd.func51, Tryd.ntmps51
    go_wp2_with (go_at_call 50; refine (HQ.out _).mono ?_; rintro e w' ⟨rfl, k, rfl⟩)
    go_ret
    exact ⟨rfl, _, rfl⟩
  · have HE : Hid (Lib.decDigits n.toNat = two n.toNat) := Lib.hid (dec_two _ (by omega) (by omega))
    rw [HE.out] at HQ
    go_enter Tryd.func51, Tryd.ntmps51
    go_wp2_with (go_at_call 50; refine (HQ.out _).mono ?_; rintro e w' ⟨rfl, k, rfl⟩)
    go_ret
    exact ⟨rfl, _, rfl⟩

theorem twoDigits (n : Int) (h0 : 0 ≤ n) (h1 : n ≤ 99) (w : World) (hP : Pow w) :
    Calls Tryd.prog 57 #[.int .i64 n] w fun e w' => e = .returned (.string ⟨(two n.toNat).toArray⟩) ∧ Below w.heap.size w w' := by
  have HP := Lib.hid hP
  have HQ : Hid (∀ w, Pow w → Calls Tryd.prog 56 #[.int .i64 (100 + n)] w fun e w' => e = .returned (.string ⟨(49 :: two n.toNat).toArray⟩) ∧ Below w.heap.size w w') := Lib.hid fun w hw => by
    have h := Tryd.strconv_Itoa (100 + n) (by omega) (by omega) w hw
    rw [show (100 + n) = 100 + ((n.toNat : Nat) : Int) by omega, itoa_minor _ (by omega)] at h
    rw [show (100 + n) = 100 + ((n.toNat : Nat) : Int) by omega]
    exact h.mono fun _ _ ⟨he, k, os, hw⟩ => ⟨he, by rw [hw]; exact Lib.below_grow _ _ (Nat.le_refl _) _ _⟩
  obtain ⟨x, y, hxy⟩ : ∃ x y, two n.toNat = [x, y] := ⟨_, _, rfl⟩
  rw [hxy] at HQ ⊢
  have sl : ∀ w, (Instr.slice 9 (.string ⟨#[49, x, y]⟩) (some (.int .i64 1)) none none).run Tryd.prog w = .ok (.string ⟨#[x, y]⟩) w := fun w => by
    simp [go_sem, ByteArray.size]
    rfl
  clear hxy hP
  go_enter Tryd.func57, Tryd.ntmps57
  go_wp2_with (go_at_call 56; refine (HQ.out _ HP.out).mono ?_; rintro e w1 ⟨rfl, hb1⟩)
  go_ret
  exact ⟨rfl, hb1⟩

set_option maxHeartbeats 1000000 in
theorem l3TextAux (n Y M D : Int) (a b c : List UInt8) (w : World) (ha : a.length ≤ 9) (hb : b.length = 2) (hc : c.length = 2)
    (HI : Hid (∀ w, Calls Tryd.prog 49 #[.int .i64 n] w fun e w' => e = .returned (.agg #[.int .i64 Y, .int .i64 M, .int .i64 D]) ∧ Below w.heap.size w w'))
    (HA : Hid (∀ w, Calls Tryd.prog 50 #[.int .i64 Y] w fun e w' => e = .returned (.string ⟨a.toArray⟩) ∧ ∃ k, w' = w.drewN k))
    (HB : Hid (∀ w, Calls Tryd.prog 51 #[.int .i64 M] w fun e w' => e = .returned (.string ⟨b.toArray⟩) ∧ ∃ k, w' = w.drewN k))
    (HC : Hid (∀ w, Calls Tryd.prog 51 #[.int .i64 D] w fun e w' => e = .returned (.string ⟨c.toArray⟩) ∧ ∃ k, w' = w.drewN k)) :
    Calls Tryd.prog 33 #[.int .i64 n] w fun e w' => e = .returned (.string ⟨(a ++ [45] ++ b ++ [45] ++ c).toArray⟩) ∧ Below w.heap.size w w' := by
  have a1 := addIs a [45] (by simp; omega)
  have a2 := addIs (a ++ [45]) b (by simp; omega)
  have a3 := addIs (a ++ [45] ++ b) [45] (by simp; omega)
  have a4 := addIs (a ++ [45] ++ b ++ [45]) c (by simp; omega)
  clear ha hb hc
  generalize a ++ [45] ++ b ++ [45] ++ c = E4 at *
  generalize a ++ [45] ++ b ++ [45] = E3 at *
  generalize a ++ [45] ++ b = E2 at *
  generalize a ++ [45] = E1 at *
  go_enter Tryd.func33, Tryd.ntmps33
  go_wp2_with (go_at_call 49; refine (HI.out _).mono ?_; rintro e w1 ⟨rfl, hb1⟩; refine Hid.out ?_)
  refine Lib.hid ?_
  have HW2 : Hid (Below w.heap.size w (w1.alloc (.cells #[.int .i64 Y, .int .i64 M, .int .i64 D] 75))) := Lib.hid (hb1.trans ((below1 w1 _).mono hb1.size))
  clear hb1
  go_wp2_with fail
  go_quiet ((first
    | (go_at_call 50; with_reducible exact Calls.quiet_of (HA.out _))
    | (go_at_call 51; with_reducible exact Calls.quiet_of (HB.out _))
    | (go_at_call 51; with_reducible exact Calls.quiet_of (HC.out _))))
  go_wp2_with fail
  go_ret
  exact ⟨rfl, below_drewN HW2.out _⟩

set_option maxHeartbeats 1000000 in
theorem implAux (n Y M D : Int) (a b c : List UInt8) (w : World) (hT : Tab w) (hP : Pow w) (ha : a.length ≤ 9) (hb : b.length = 2) (hc : c.length = 2)
    (HI : Hid (∀ w, Tab w → Calls Tryd.prog 55 #[.int .i64 n] w fun e w' => e = .returned (.tuple #[.agg #[.int .i64 Y, .int .i64 M, .int .i64 D], .bool true]) ∧ Below w.heap.size w w'))
    (HA : Hid (∀ w, Pow w → Calls Tryd.prog 56 #[.int .i64 Y] w fun e w' => e = .returned (.string ⟨a.toArray⟩) ∧ Below w.heap.size w w'))
    (HB : Hid (∀ w, Pow w → Calls Tryd.prog 57 #[.int .i64 M] w fun e w' => e = .returned (.string ⟨b.toArray⟩) ∧ Below w.heap.size w w'))
    (HC : Hid (∀ w, Pow w → Calls Tryd.prog 57 #[.int .i64 D] w fun e w' => e = .returned (.string ⟨c.toArray⟩) ∧ Below w.heap.size w w')) :
    Calls Tryd.prog 40 #[.int .i64 n] w fun e w' => e = .returned (.tuple #[.string ⟨(a ++ [45] ++ b ++ [45] ++ c).toArray⟩, .bool true]) ∧ Below w.heap.size w w' := by
  have HT := Lib.hid hT
  have HP := Lib.hid hP
  have a1 := addIs a [45] (by simp; omega)
  have a2 := addIs (a ++ [45]) b (by simp; omega)
  have a3 := addIs (a ++ [45] ++ b) [45] (by simp; omega)
  have a4 := addIs (a ++ [45] ++ b ++ [45]) c (by simp; omega)
  clear ha hb hc hT hP
  generalize a ++ [45] ++ b ++ [45] ++ c = E4 at *
  generalize a ++ [45] ++ b ++ [45] = E3 at *
  generalize a ++ [45] ++ b = E2 at *
  generalize a ++ [45] = E1 at *
  go_enter Tryd.func40, Tryd.ntmps40
  go_wp2_with (go_at_call 55; refine (HI.out _ HT.out).mono ?_; rintro e w1 ⟨rfl, hb1⟩; refine Hid.out ?_)
  refine Lib.hid ?_
  have HW2 : Hid (Below w.heap.size w (w1.alloc (.cells #[.int .i64 Y, .int .i64 M, .int .i64 D] 75))) := Lib.hid (hb1.trans ((below1 w1 _).mono hb1.size))
  have B2 := Lib.hid (Box.new w1 Y M D 75)
  clear hb1
  go_wp2_with fail
  have HPX : Hid (∀ v, Below (w1.alloc (.cells #[.int .i64 Y, .int .i64 M, .int .i64 D] 75)).heap.size (w1.alloc (.cells #[.int .i64 Y, .int .i64 M, .int .i64 D] 75)) v → Pow v) := Lib.hid fun v hv => HP.out.below (HW2.out.trans (hv.mono HW2.out.size))
  have KX : Hid (∀ v, Below (w1.alloc (.cells #[.int .i64 Y, .int .i64 M, .int .i64 D] 75)).heap.size (w1.alloc (.cells #[.int .i64 Y, .int .i64 M, .int .i64 D] 75)) v → v.cell? ⟨w1.heap.size, 0, none⟩ = some (.int .i64 Y) ∧ v.cell? ⟨w1.heap.size, 1, none⟩ = some (.int .i64 M) ∧ v.cell? ⟨w1.heap.size, 2, none⟩ = some (.int .i64 D)) := Lib.hid fun v hv => by
    have := B2.out.below hv
    exact ⟨this.c0, this.c1, this.c2⟩
  clear B2
  generalize w1.alloc (.cells #[.int .i64 Y, .int .i64 M, .int .i64 D] 75) = X at *
  generalize w1.heap.size = k at *
  go_region_held3 (fun w' => w'.cell? ⟨k, 0, none⟩ = some (.int .i64 Y) ∧ w'.cell? ⟨k, 1, none⟩ = some (.int .i64 M) ∧ w'.cell? ⟨k, 2, none⟩ = some (.int .i64 D)) (first | (refine KX.out _ ?_; (repeat (first | exact Below.refl _ _ | exact b3 | exact b2 | exact b1 | apply Below.drew)); done))
    (first
      | (go_at_call 56; (with_reducible refine (HA.out _ (HPX.out _ (by (repeat (first | exact Below.refl _ _ | exact b3 | exact b2 | exact b1 | apply Below.drew))))).mono ?_); rintro e wa ⟨rfl, hb⟩; have b1 : Below X.heap.size X wa := (Below.trans (by (repeat (first | exact Below.refl _ _ | exact b3 | exact b2 | exact b1 | apply Below.drew))) (hb.mono (by first | omega | (simp; done) | (simp; omega) | exact b1.size | exact b2.size | (have := b1.size; simp; omega) | (have := b2.size; simp; omega)))); clear hb)
      | (go_at_call 57; (with_reducible refine (HB.out _ (HPX.out _ (by (repeat (first | exact Below.refl _ _ | exact b3 | exact b2 | exact b1 | apply Below.drew))))).mono ?_); rintro e wb ⟨rfl, hb⟩; have b2 : Below X.heap.size X wb := (Below.trans (by (repeat (first | exact Below.refl _ _ | exact b3 | exact b2 | exact b1 | apply Below.drew))) (hb.mono (by first | omega | (simp; done) | (simp; omega) | exact b1.size | exact b2.size | (have := b1.size; simp; omega) | (have := b2.size; simp; omega)))); clear hb)
      | (go_at_call 57; (with_reducible refine (HC.out _ (HPX.out _ (by (repeat (first | exact Below.refl _ _ | exact b3 | exact b2 | exact b1 | apply Below.drew))))).mono ?_); rintro e wc ⟨rfl, hb⟩; have b3 : Below X.heap.size X wc := (Below.trans (by (repeat (first | exact Below.refl _ _ | exact b3 | exact b2 | exact b1 | apply Below.drew))) (hb.mono (by first | omega | (simp; done) | (simp; omega) | exact b1.size | exact b2.size | (have := b1.size; simp; omega) | (have := b2.size; simp; omega)))); clear hb))
  all_goals
    go_wp2_with fail
    go_ret2
    exact ⟨rfl, HW2.out.trans (b3.mono HW2.out.size)⟩

theorem implYes (n : Int) (h : Day n) (w : World) (hT : Tab w) (hP : Pow w) :
    Calls Tryd.prog 40 #[.int .i64 n] w fun e w' => e = .returned (.tuple #[.string ⟨(text (yr n) (mo n) (da n)).toArray⟩, .bool true]) ∧ Below w.heap.size w w' := by
  obtain ⟨⟨y1, y2⟩, ⟨m1, m2⟩, d1, d2⟩ := (date_is h).1
  have hl := len_bd (yr n) (mo n)
  refine implAux n (yr n) (mo n) (da n) (Lib.decDigits (yr n).toNat) (two (mo n).toNat) (two (da n).toNat) w hT hP (dec_le _ (by omega)) rfl rfl (Lib.hid fun w hw => DateLaw.implYes n h w hw)
    (Lib.hid fun w hw => ?_) (Lib.hid fun w hw => twoDigits _ (by omega) (by omega) w hw) (Lib.hid fun w hw => twoDigits _ (by omega) (by omega) w hw)
  have h := Tryd.strconv_Itoa (yr n) (by omega) (by omega) w hw
  rw [show (yr n) = (((yr n).toNat : Nat) : Int) by omega, itoa_nat] at h
  rw [show (yr n) = (((yr n).toNat : Nat) : Int) by omega]
  simp only [Int.toNat_natCast] at h ⊢
  exact h.mono fun _ _ ⟨he, k, os, hw⟩ => ⟨he, by rw [hw]; exact Lib.below_grow _ _ (Nat.le_refl _) _ _⟩

theorem implNo (n : Int) (h : ¬ Day n) (w : World) :
    Calls Tryd.prog 40 #[.int .i64 n] w fun e w' => e = .returned (.tuple #[.string ⟨#[]⟩, .bool false]) ∧ Below w.heap.size w w' := by
  have HD := Lib.hid h
  clear h
  go_enter Tryd.func40, Tryd.ntmps40
  go_wp2_with (go_at_call 55; refine (DateLaw.implNo n HD.out _).mono ?_; rintro e w1 ⟨rfl, hb1⟩; refine Hid.out ?_)
  refine Lib.hid ?_
  have HW2 : Hid (Below w.heap.size w (w1.alloc (.cells #[.int .i64 0, .int .i64 0, .int .i64 0] 75))) := Lib.hid (hb1.trans ((below1 w1 _).mono hb1.size))
  clear hb1
  go_wp2_with fail
  go_ret2
  exact ⟨rfl, HW2.out⟩

theorem l3Text (n : Int) (h : Day n) (w : World) :
    Calls Tryd.prog 33 #[.int .i64 n] w fun e w' => e = .returned (.string ⟨(text (yr n) (mo n) (da n)).toArray⟩) ∧ Below w.heap.size w w' := by
  obtain ⟨⟨y1, y2⟩, ⟨m1, m2⟩, d1, d2⟩ := (date_is h).1
  have hl := len_bd (yr n) (mo n)
  exact l3TextAux n (yr n) (mo n) (da n) (Lib.decDigits (yr n).toNat) (two (mo n).toNat) (two (da n).toNat) w (dec_le _ (by omega)) rfl rfl (Lib.hid fun w => l3Date n h w)
    (Lib.hid fun w => l1NumPos (yr n).toNat (yr n) w (by omega) (by omega) (by omega)) (Lib.hid fun w => l3Two _ (by omega) (by omega) w) (Lib.hid fun w => l3Two _ (by omega) (by omega) w)

end Go.Proofs.YtgjihejneadadaaDoor.FmtDate
