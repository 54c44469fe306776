/-
  Valid fractions: what the model's l2Fraction returns; the shapes of the answers.
-/
import Derived.Test.YtlpblipgehlniaaDoorCommon
import Derived.Test.YtlpblipgehlniaaDoorRed
import Derived.Deep.QuietTactic
import Derived.BigQuiet
import Derived.WalkSmall
namespace Go.Proofs.YtlpblipgehlniaaDoor.Frac
open Go.RowKit Go.Proofs.YtlpblipgehlniaaDoor.Gcd Go.Proofs.YtlpblipgehlniaaDoor.Tz Go.Proofs.YtlpblipgehlniaaDoor.Common Go.Proofs.YtlpblipgehlniaaDoor.Red Go.Proofs.YtlpblipgehlniaaDoor.Amount

theorem Tab.alloc {w : World} (h : Tab w) (o : Obj) : Tab (w.alloc o) := Tz.Tab.below h ((Below.refl _ _).alloc (Nat.le_refl _) _)

/-- A fraction and a flag are returned. -/
def fracRet (n d : Int) (b : Bool) : Ending := .returned (.tuple #[.agg #[.int .i64 n, .int .i64 d], .bool b])

def redAns (n d : Int) (w : World) (e : Ending) (w' : World) : Prop := e = fracRet (resN n d) (resD n d) (resB n d) ∧ Below w.heap.size w w'

theorem bcell {W w1 : World} (hb : Below W.heap.size W w1) : (∀ b o, b < W.heap.size → w1.cell? ⟨b, o, none⟩ = W.cell? ⟨b, o, none⟩) ∧ (∀ b o, b < W.heap.size → w1.frozen? ⟨b, o, none⟩ = W.frozen? ⟨b, o, none⟩) :=
  ⟨fun b o h => hb.cell (p := ⟨b, o, none⟩) h, fun b o h => hb.frozen (p := ⟨b, o, none⟩) h⟩

theorem setCell_drewN (w : World) (n : Nat) (a : Addr) (v : Value) : (w.drewN n).setCell a v = (w.setCell a v).drewN n := rfl

theorem quiet_eq {P : Program} {f : FuncId} {args : Array Value} {w : World} {n : Nat} {v : Value}
    (h : Calls P f args (w.drewN n) fun e w' => e = .returned v ∧ w.drewN n = w') : Calls P f args (w.drewN n) fun e w'' => e = .returned v ∧ ∃ m, w'' = w.drewN m :=
  h.mono fun _ _ ⟨he, hm⟩ => ⟨he, n, hm.symm⟩

theorem common (a b g : Nat) (hg : g = Nat.gcd a b) (ha : a < 4000000000000000000) (hb0 : b ≠ 0) (hb : b < 4000000000000000000) (w : World) (hT : Tab w) :
    Calls Tryd.prog 86 #[.int .u64 a, .int .u64 b] w fun e w' => e = .returned (.int .u64 g) ∧ w = w' := by
  subst hg; exact commonDivisor a b ha hb0 hb w hT

theorem gcdIs (a : Nat) (b : Int) (g : Nat) (hg : g = Nat.gcd a b.natAbs) (ha : a < 9000000000000000000) (hb : 0 ≤ b) (hb' : b < 9000000000000000000) (w : World) :
    Calls Tryd.prog 75 #[.int .i64 a, .int .i64 b] w fun e w' => e = .returned (.int .i64 g) ∧ w = w' := by
  obtain ⟨c, rfl⟩ : ∃ c : Nat, b = c := ⟨b.toNat, by omega⟩
  subst hg; exact l2Gcd a c ha (by omega) w

set_option maxHeartbeats 1000000 in
theorem fracYes (n d : Int) (h : Valid n d) (w : World) :
    Calls Tryd.prog 46 #[.agg #[.int .i64 n, .int .i64 d]] w fun e w' => e = .returned (.bool true) ∧ ∃ m, w' = (w.alloc (.cells #[.int .i64 n, .int .i64 d] 36)).drewN m := by
  obtain ⟨⟨h1, h2⟩, hA, hg⟩ := h
  have HA := Lib.hid hA
  obtain ⟨h3, h4⟩ := hA
  have HG := Lib.hid hg.symm
  clear hg
  go_enter Tryd.func46, Tryd.ntmps46
  go_wp2_with fail
  go_quiet ((first
    | (go_at_call 36; with_reducible exact quiet_eq (l1In_true _ _ _ (by omega) (by omega) _))
    | (go_at_call 74; with_reducible exact quiet_eq (specYes n HA.out _))
    | (go_at_call 76; with_reducible exact quiet_eq (l2Abs n (by omega) _))
    | (go_at_call 75; with_reducible exact quiet_eq (gcdIs _ _ 1 HG.out (by omega) (by omega) (by omega) _))))
  go_wp2_with fail
  go_ret
  exact ⟨rfl, _, rfl⟩

set_option maxHeartbeats 1000000 in
theorem fracNo (n d : Int) (h : ¬ Valid n d) (w : World) :
    Calls Tryd.prog 46 #[.agg #[.int .i64 n, .int .i64 d]] w fun e w' => e = .returned (.bool false) ∧ ∃ m, w' = (w.alloc (.cells #[.int .i64 n, .int .i64 d] 36)).drewN m := by
  by_cases h1 : 1 ≤ d ∧ d ≤ 1000000000
  · obtain ⟨h1, h2⟩ := h1
    by_cases hA : Amt n
    · have HA := Lib.hid hA
      have hg : Nat.gcd n.natAbs d.natAbs ≠ 1 := fun e => h ⟨⟨h1, h2⟩, hA, e⟩
      obtain ⟨h3, h4⟩ := hA
      obtain ⟨g, hg'⟩ : ∃ g, g = Nat.gcd n.natAbs d.natAbs := ⟨_, rfl⟩
      rw [← hg'] at hg
      have hg1 : ((g : Int) == 1) = false := by simp; omega
      have HG := Lib.hid hg'
      clear hg hg' h
      go_enter Tryd.func46, Tryd.ntmps46
      go_wp2_with fail
      go_quiet ((first
        | (go_at_call 36; with_reducible exact quiet_eq (l1In_true _ _ _ (by omega) (by omega) _))
        | (go_at_call 74; with_reducible exact quiet_eq (specYes n HA.out _))
        | (go_at_call 76; with_reducible exact quiet_eq (l2Abs n (by omega) _))
        | (go_at_call 75; with_reducible exact quiet_eq (gcdIs _ _ g HG.out (by omega) (by omega) (by omega) _))))
      go_wp2_with fail
      go_ret
      exact ⟨rfl, _, rfl⟩
    · have HA := Lib.hid hA
      clear hA h
      go_enter Tryd.func46, Tryd.ntmps46
      go_wp2_with fail
      go_quiet ((first
        | (go_at_call 36; with_reducible exact quiet_eq (l1In_true _ _ _ (by omega) (by omega) _))
        | (go_at_call 74; with_reducible exact quiet_eq (specNo n HA.out _))))
      go_wp2_with fail
      go_ret
      exact ⟨rfl, _, rfl⟩
  · have h1' : d < 1 ∨ 1000000000 < d := by omega
    clear h1 h
    go_enter Tryd.func46, Tryd.ntmps46
    go_wp2_with fail
    go_quiet ((first
      | (go_at_call 36; with_reducible exact quiet_eq (l1In_false _ _ _ h1' _))))
    go_wp2_with fail
    go_ret
    exact ⟨rfl, _, rfl⟩

end Go.Proofs.YtlpblipgehlniaaDoor.Frac
