/-
  The walk of the law FnExactShareAmount.
-/
import Derived.Test.YthobejaiapdanaaShareSpec
import Derived.Test.YthobejaiapdanaaMarkI
namespace Go.Proofs.Ythobejaiapdanaa.ShareLaw
open Go.RowKit Go.Proofs.Ythobejaiapdanaa.IRow Go.Proofs.Ythobejaiapdanaa.Share Go.Proofs.Ythobejaiapdanaa.ShareSpec Go.Proofs.Ythobejaiapdanaa.MarkI
set_option linter.unusedVariables false

theorem res_length (t : Int) (zs : List Int) : (res t zs).length ≤ 20 := by
  unfold res
  split
  · rename_i h; rw [shares_length]; exact h.1.1
  · simp

/-- A row stays where only another block changes. -/
theorem own_only {B : Nat} {e : TypeId} {A : Option Addr} {v : Value} {n : Nat} {xs : List Value} {w w' : World} (h : w.ownsRow B e 1 v n xs) (ho : Only A w w') (hA : ∀ ad, A = some ad → ad.block < B) : w'.ownsRow B e 1 v n xs := by
  refine h.kept (row := A.map (·.block)) ⟨ho.2.1, ho.2.2.1, ho.2.2.2.1, ho.1, fun k _ hk => ho.2.2.2.2 k (fun ad e => by subst e; intro e2; subst e2; exact hk rfl)⟩ ?_
  cases e : v.ownBlock with
  | none => exact .inl rfl
  | some b =>
    refine .inr ?_
    have hb := (h.lt b e).1
    cases A with
    | none => simp
    | some ad => have := hA ad rfl; simp; omega

set_option maxHeartbeats 2000000 in
theorem walk (t : Int) (A : Option Addr) (n cap : Nat) (zs : List Int) (w : World) (hn : n = zs.length) (hm : n ≤ maxLen) (hA : Is w w.heap.size A zs) :
    Calls Try.prog 5 #[.int .i64 t, .slice A n cap] w fun e w' => e = .returned (.bool true) ∧ Below w.heap.size w w' := by
  have hq := hm
  unfold maxLen at hq
  have HN := Lib.hid hn
  have HM := Lib.hid hm
  have HA := Lib.hid hA
  clear hn hm hA
  by_cases h1 : 1048576 < n
  · go_enter Try.func5, Try.ntmps5
    go_wp2_with fail
    go_ret
    exact ⟨rfl, Below.refl _ _⟩
  · have hn6 : n ≤ 1048576 := by omega
    have hl := res_length t zs
    obtain ⟨r, hr⟩ : ∃ r, r = res t zs := ⟨_, rfl⟩
    obtain ⟨f, hf⟩ : ∃ f, f = ok t zs := ⟨_, rfl⟩
    have HANS : Hid (∀ w e w', Ans t zs w e w' → ∃ A c, e = .returned (.tuple #[.slice A r.length c, .bool f]) ∧ Below w.heap.size w w' ∧ w'.ownsRow w.heap.size 3 1 (.slice A r.length c) r.length (r.map (Value.int .i64))) := Lib.hid (by
      rintro w e w' ⟨v, he, hb, ho⟩
      rw [← hr] at ho
      rw [← hf] at he
      obtain ⟨A, c, rfl⟩ := own_slice ho
      exact ⟨A, c, he, hb, ho⟩)
    rw [← hr] at hl
    clear hr hf
    obtain ⟨l, hll⟩ : ∃ l, l = r.length := ⟨_, rfl⟩
    rw [← hll] at hl HANS
    have HL := Lib.hid hll
    clear hll
    have hbf : (f != f) = false := by cases f <;> rfl
    go_enter Try.func5, Try.ntmps5
    go_wp2_with (go_at_call 11; refine (toI A n cap zs w HN.out hn6 HA.out).mono ?_; rintro e w1 ⟨rfl, hown1, hb1⟩; refine Hid.out ?_)
    refine Lib.hid ?_
    have I1 := Lib.hid (Is.of_own hown1 HN.out)
    clear hown1
    go_wp2_with (go_at_call 9; refine (specShare t _ n n zs w1 HN.out HM.out I1.out).mono ?_; intro e wA he; obtain ⟨AW, cw, rfl, hbA, ownW⟩ := HANS.out _ _ _ he; refine Hid.out ?_)
    refine Lib.hid ?_
    have bA : Below w.heap.size w wA := hb1.trans (hbA.mono hb1.size)
    have IW := Lib.hid (Is.of_own ownW HL.out)
    clear ownW hb1 hbA
    have I2 : Hid (Is wA wA.heap.size A zs) := Lib.hid ((HA.out.below bA).more bA.size)
    go_wp2_with (go_at_call 11; refine (toI A n cap zs wA HN.out hn6 I2.out).mono ?_; rintro e wB ⟨rfl, ownX, bB⟩; refine Hid.out ?_)
    refine Lib.hid ?_
    have IX := Lib.hid (Is.of_own ownX HN.out)
    have hxl : wA.heap.size < wB.heap.size := (ownX.lt wA.heap.size rfl).2
    go_wp2_with (go_at_call 8; refine (implShare t _ n n zs wB HN.out HM.out IX.out).mono ?_; intro e wC he; obtain ⟨AG, cg, rfl, bC, ownG⟩ := HANS.out _ _ _ he; refine Hid.out ?_)
    refine Lib.hid ?_
    have bBC : Below wA.heap.size wA wC := bB.trans (bC.mono bB.size)
    have IG := Lib.hid (Is.of_own ownG HL.out)
    have IWC : Hid (Is wC wC.heap.size AW r) := Lib.hid ((IW.out.below bBC).more bBC.size)
    go_wp2_with (go_at_call 13; refine (eqI AG AW l cg cw wC.heap.size r wC HL.out (by omega) IG.out IWC.out).mono ?_; rintro e wD ⟨rfl, q1, rfl⟩; refine Hid.out ?_)
    refine Lib.hid ?_
    have ownX2 := own_to (own_to ownX bC) (below_drewN (Below.refl _ _) q1)
    have ownG2 := own_to ownG (below_drewN (Below.refl _ _) q1)
    have bD := below_drewN bBC q1
    clear IG IWC ownX ownG bBC IX
    generalize wC.drewN q1 = wD at *
    have bWD : Below w.heap.size w wD := bA.trans (bD.mono bA.size)
    have I3 : Hid (Is wD wD.heap.size A zs) := Lib.hid ((HA.out.below bWD).more bWD.size)
    go_wp2_with (go_at_call 11; refine (toI A n cap zs wD HN.out hn6 I3.out).mono ?_; rintro e wE ⟨rfl, ownY, bE⟩; refine Hid.out ?_)
    refine Lib.hid ?_
    have ownX3 := own_to ownX2 bE
    have ownG3 := own_to ownG2 bE
    have IXE := Lib.hid (Is.of_own ownX3 HN.out)
    have IYE := Lib.hid (Is.of_own ownY HN.out)
    have bE2 : Below wA.heap.size wA wE := bD.trans (bE.mono bD.size)
    clear ownX2 ownG2 ownY bD bWD I3 bE
    go_wp2_with (go_at_call 13; refine (eqI _ _ n n n wE.heap.size zs wE HN.out (by omega) IXE.out IYE.out).mono ?_; rintro e wF ⟨rfl, q2, rfl⟩; refine Hid.out ?_)
    refine Lib.hid ?_
    have ownX4 := own_to ownX3 (below_drewN (Below.refl _ _) q2)
    have ownG4 := own_to ownG3 (below_drewN (Below.refl _ _) q2)
    have bF := below_drewN bE2 q2
    clear ownX3 ownG3 IXE IYE bE2
    generalize wE.drewN q2 = wF at *
    go_wp2_with (go_at_call 14; refine (markI _ n n wA.heap.size _ wF (by omega) ownX4).mono ?_; rintro e wG ⟨rfl, -, only⟩; refine Hid.out ?_)
    refine Lib.hid ?_
    have ownG5 := own_only ownG4 only (fun ad e => by cases e; exact hxl)
    have bG : Below wA.heap.size wA wG := bF.trans (only.below (fun ad e => by cases e; exact Nat.le_refl _))
    have IG := Lib.hid (Is.of_own ownG5 HL.out)
    have IWG : Hid (Is wG wG.heap.size AW r) := Lib.hid ((IW.out.below bG).more bG.size)
    clear ownX4 ownG4 only bF
    go_wp2_with (go_at_call 13; refine (eqI AG AW l cg cw wG.heap.size r wG HL.out (by omega) IG.out IWG.out).mono ?_; rintro e wH ⟨rfl, q3, rfl⟩; refine Hid.out ?_)
    refine Lib.hid ?_
    have ownG6 := own_to ownG5 (below_drewN (Below.refl _ _) q3)
    have bH := below_drewN bG q3
    clear ownG5 IG IWG bG
    generalize wG.drewN q3 = wH at *
    go_wp2_with (go_at_call 14; refine (markI AG l cg wB.heap.size _ wH (by omega) ownG6).mono ?_; rintro e wI ⟨rfl, ⟨ys, ownI, mk⟩, only⟩; refine Hid.out ?_)
    refine Lib.hid ?_
    have MK := Lib.hid mk
    have bI : Below wA.heap.size wA wI := bH.trans (only.below (fun ad e => by subst e; have := (ownG6.lt ad.block rfl).1; omega))
    clear ownG6 only bH mk
    go_wp2_with (go_at_call 15; refine (heldI AG l cg wB.heap.size ys wI (by omega) ownI MK.out).mono ?_; rintro e wJ ⟨rfl, q4, rfl⟩; refine Hid.out ?_)
    refine Lib.hid ?_
    have ownJ := own_to ownI (below_drewN (Below.refl _ _) q4)
    have bJ := below_drewN bI q4
    clear ownI bI
    generalize wI.drewN q4 = wJ at *
    have bWJ : Below w.heap.size w wJ := bA.trans (bJ.mono bA.size)
    have I4 : Hid (Is wJ wJ.heap.size A zs) := Lib.hid ((HA.out.below bWJ).more bWJ.size)
    clear bWJ
    go_wp2_with (go_at_call 11; refine (toI A n cap zs wJ HN.out hn6 I4.out).mono ?_; rintro e wK ⟨rfl, ownZ, bK⟩; refine Hid.out ?_)
    refine Lib.hid ?_
    have IZ := Lib.hid (Is.of_own ownZ HN.out)
    have ownK := own_to ownJ bK
    have bK2 : Below wA.heap.size wA wK := bJ.trans (bK.mono bJ.size)
    clear ownZ ownJ bJ bK I4
    go_wp2_with (go_at_call 8; refine (implShare t _ n n zs wK HN.out HM.out IZ.out).mono ?_; intro e wL he; obtain ⟨AK, ck, rfl, bL, ownL⟩ := HANS.out _ _ _ he; refine Hid.out ?_)
    refine Lib.hid ?_
    have IK := Lib.hid (Is.of_own ownL HL.out)
    have ownG7 := own_to ownK bL
    have bL2 : Below wA.heap.size wA wL := bK2.trans (bL.mono bK2.size)
    have IWL : Hid (Is wL wL.heap.size AW r) := Lib.hid ((IW.out.below bL2).more bL2.size)
    clear ownL ownK bK2 bL IZ
    go_wp2_with (go_at_call 13; refine (eqI AK AW l ck cw wL.heap.size r wL HL.out (by omega) IK.out IWL.out).mono ?_; rintro e wM ⟨rfl, q5, rfl⟩; refine Hid.out ?_)
    refine Lib.hid ?_
    have ownM := own_to ownG7 (below_drewN (Below.refl _ _) q5)
    have bM := below_drewN bL2 q5
    clear ownG7 bL2 IK IWL
    generalize wL.drewN q5 = wM at *
    go_wp2_with (go_at_call 15; refine (heldI AG l cg wB.heap.size ys wM (by omega) ownM MK.out).mono ?_; rintro e wJ ⟨rfl, q6, rfl⟩)
    go_ret
    exact ⟨rfl, below_drewN (bA.trans (bM.mono bA.size)) q6⟩

end Go.Proofs.Ythobejaiapdanaa.ShareLaw
