/-
  The walk of the law FnExactMakeFraction; what the laws' helpers do with fractions.
-/
import Derived.Test.YthobejaiapdanaaDoorMake
namespace Go.Proofs.YthobejaiapdanaaDoor.MakeLaw
open Go.RowKit Go.Proofs.YthobejaiapdanaaDoor.Gcd Go.Proofs.YthobejaiapdanaaDoor.Tz Go.Proofs.YthobejaiapdanaaDoor.Common Go.Proofs.YthobejaiapdanaaDoor.Red Go.Proofs.YthobejaiapdanaaDoor.Frac Go.Proofs.YthobejaiapdanaaDoor.Make

set_option maxHeartbeats 400000 in
theorem eqF (n d : Int) (w : World) :
    Calls Tryd.prog 31 #[.agg #[.int .i64 n, .int .i64 d], .agg #[.int .i64 n, .int .i64 d]] w fun e w' =>
      e = .returned (.bool true) ∧ w' = (w.alloc (.cells #[.int .i64 n, .int .i64 d] 31)).alloc (.cells #[.int .i64 n, .int .i64 d] 31) := by
  go_enter Tryd.func31, Tryd.ntmps31
  go_wp2
  go_ret
  exact ⟨rfl, rfl⟩

theorem toF (n d : Int) (w : World) :
    Calls Tryd.prog 26 #[.agg #[.int .i64 n, .int .i64 d]] w fun e w' =>
      e = .returned (.agg #[.int .i64 n, .int .i64 d]) ∧ Below w.heap.size w w' := by
  go_enter Tryd.func26, Tryd.ntmps26
  go_wp2
  exact bodyPost_ret (v := .agg #[.int .i64 n, .int .i64 d]) (by simp [results, Tryd.results26, go_sem]) rfl ⟨rfl, (((Below.refl _ _).alloc (Nat.le_refl _) _).alloc (by simp) _).alloc (by simp; omega) _⟩

/-- .. with the memory that it makes written out. -/
theorem toFx (n d : Int) (w : World) :
    Calls Tryd.prog 26 #[.agg #[.int .i64 n, .int .i64 d]] w fun e w' =>
      e = .returned (.agg #[.int .i64 n, .int .i64 d]) ∧ w' = ((w.alloc (.cells #[.int .i64 n, .int .i64 d] 41)).alloc (.cells #[.int .i64 n, .int .i64 d] 31)).alloc (.cells #[.int .i64 n, .int .i64 d] 31) := by
  go_enter Tryd.func26, Tryd.ntmps26
  go_wp2
  exact bodyPost_ret (v := .agg #[.int .i64 n, .int .i64 d]) (by simp [results, Tryd.results26, go_sem]) rfl ⟨rfl, rfl⟩

theorem mkAt {P : Program} {f : FuncId} {args : Array Value} {n d : Int} {w : World} (h : Calls P f args w (mkAns n d w)) {rN rD : Int} {rB : Bool} (e1 : rN = mkN n d) (e2 : rD = mkD n d) (e3 : rB = mkB n d) :
    Calls P f args w fun e w' => e = .returned (.tuple #[.agg #[.int .i64 rN, .int .i64 rD], .bool rB]) ∧ Below w.heap.size w w' := by
  subst e1 e2 e3; exact h

set_option maxHeartbeats 1000000 in
theorem walk (n d : Int) (w : World) (hT : Tab w) :
    Calls Tryd.prog 8 #[.int .i64 n, .int .i64 d] w fun e w' => e = .returned (.bool true) ∧ Below w.heap.size w w' := by
  have HT := Lib.hid hT
  clear hT
  obtain ⟨rN, hrN⟩ : ∃ x, x = mkN n d := ⟨_, rfl⟩
  obtain ⟨rD, hrD⟩ : ∃ x, x = mkD n d := ⟨_, rfl⟩
  obtain ⟨rB, hrB⟩ : ∃ x, x = mkB n d := ⟨_, rfl⟩
  have HN := Lib.hid hrN
  have HD := Lib.hid hrD
  have HB := Lib.hid hrB
  clear hrN hrD hrB
  go_enter Tryd.func8, Tryd.ntmps8
  go_wp2_with (go_at_call 29; refine (mkAt (Make.spec n d w) HN.out HD.out HB.out).mono ?_; rintro e w1 ⟨rfl, hb1⟩; refine Hid.out ?_)
  refine Lib.hid ?_
  have HT1 : Hid (∀ o, Tab (w1.alloc o)) := Lib.hid (fun o => Tab.alloc (Tz.Tab.below HT.out hb1) o)
  go_wp2_with (go_at_call 30; refine (mkAt (Make.impl n d _ (HT1.out _)) HN.out HD.out HB.out).mono ?_; rintro e w2 ⟨rfl, hb2⟩; refine Hid.out ?_)
  refine Lib.hid ?_
  obtain ⟨c0, c1, f0, f1⟩ := box2 hb2
  have hz := hb2.size
  simp at hz
  have hz' : w1.heap.size < w2.heap.size := by omega
  go_wp2_with (go_at_call 31; refine (eqF rN rD _).mono ?_; rintro e w3 ⟨rfl, rfl⟩)
  go_ret
  have hz1 := hb1.size
  have b2 : Below w.heap.size w w2 := (hb1.alloc hz1 _).trans (hb2.mono (by simp; omega))
  exact ⟨rfl, ((b2.alloc (by omega) _).alloc (by simp; omega) _).alloc (by simp; omega) _⟩

end Go.Proofs.YthobejaiapdanaaDoor.MakeLaw
