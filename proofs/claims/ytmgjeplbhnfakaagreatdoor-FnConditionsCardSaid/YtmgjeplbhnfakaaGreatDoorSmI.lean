/-
  Constant conditions, by the program: isTrue, isNotTrue.
-/
import Derived.Test.YtmgjeplbhnfakaaGreatDoorSmS
import Derived.Deep.RegionHeld3
namespace Go.Proofs.YtmgjeplbhnfakaaGreatDoor.Cond
open Go.RowKit
set_option linter.unusedVariables false
set_option linter.unusedSimpArgs false

set_option maxHeartbeats 2000000 in
theorem isTrue (q : Q) (k : K) (w : World) (hk : k.cond = q.c) :
    Calls Tryz.prog 43 #[k.val] w fun e w' => e = .returned (.bool (isTru q)) ∧ Below w.heap.size w w' := by
  have ho := op_is hk
  have B0 := Lib.hid (below1 w (.cells #[.int .i64 k.op, .string k.nm, .int .i64 k.day, .slice k.A k.ps.length k.cap] 26))
  rw [← tru_op, ← ho]
  clear hk ho
  go_enter Tryz.func43, Tryz.ntmps43
  go_wp2_with fail
  go_ret
  exact ⟨rfl, B0.out⟩

set_option maxHeartbeats 2000000 in
theorem isNotTrue (q : Q) (k : K) (w : World) (hk : k.cond = q.c) (hin : Lies w w.heap.size k) :
    Calls Tryz.prog 44 #[k.val] w fun e w' => e = .returned (.bool (isNev q)) ∧ Below w.heap.size w w' := by
  have ho := op_is hk
  by_cases h4 : ∃ a, q = .neg a
  · obtain ⟨a, rfl⟩ := h4
    obtain ⟨A, cap, p, rfl, hp⟩ := K.one hk
    obtain ⟨b, o, rfl, hb, hE⟩ := One' hin
    have B0 := Lib.hid (below1 w (.cells #[.int .i64 4, .string .empty, .int .i64 0, .slice (some ⟨b, o, none⟩) 1 cap] 26))
    obtain ⟨c0, c1, c2, c3⟩ := hE.alike (B0.out.block b hb)
    have HN : Hid (isNev (.neg a) = isTru a) := Lib.hid (by cases a <;> rfl)
    have HI : Hid (∀ v, Calls Tryz.prog 43 #[p.val] v fun e w' => e = .returned (.bool (isTru a)) ∧ Below v.heap.size v w') := Lib.hid fun v => isTrue a p v hp
    show Calls Tryz.prog 44 #[.agg #[.int .i64 4, .string .empty, .int .i64 0, .slice (some ⟨b, o, none⟩) 1 cap]] w fun e w' => e = .returned (.bool (isNev (.neg a))) ∧ Below w.heap.size w w'
    rw [HN.out]
    clear hk hin hE hp ho
    generalize isTru a = x at *
    go_enter Tryz.func44, Tryz.ntmps44
    go_wp2_with (go_at_call 43; refine (HI.out _).mono ?_; rintro e w2 ⟨rfl, hb2⟩)
    go_ret
    exact ⟨rfl, B0.out.trans (hb2.mono B0.out.size)⟩
  · have HF : Hid (isNev q = false) := Lib.hid (by
      cases q with
      | neg a => exact absurd ⟨a, rfl⟩ h4
      | _ => rfl)
    have hne : ¬ k.op = 4 := by
      rw [ho]
      cases q with
      | neg a => exact absurd ⟨a, rfl⟩ h4
      | _ => simp [opQ]
    have B0 := Lib.hid (below1 w (.cells #[.int .i64 k.op, .string k.nm, .int .i64 k.day, .slice k.A k.ps.length k.cap] 26))
    rw [HF.out]
    clear hk hin ho h4
    go_enter Tryz.func44, Tryz.ntmps44
    go_wp2_with fail
    go_ret
    exact ⟨rfl, B0.out⟩

end Go.Proofs.YtmgjeplbhnfakaaGreatDoor.Cond
