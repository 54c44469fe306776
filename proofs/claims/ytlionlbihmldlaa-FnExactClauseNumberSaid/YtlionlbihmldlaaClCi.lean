/-
  ClauseNumber of the program.
-/
import Derived.Test.YtlionlbihmldlaaClCk
import Derived.Test.YtlionlbihmldlaaClF
namespace Go.Proofs.Ytlionlbihmldlaa.Cl
open Go.RowKit Go.Proofs.Ytlionlbihmldlaa.Cond Go.Proofs.Ytlionlbihmldlaa.Gx Go.Proofs.Ytlionlbihmldlaa.NdS
set_option linter.unusedVariables false
set_option linter.unusedSimpArgs false

set_option maxHeartbeats 4000000 in
theorem implCn (x : Kt) (id : ByteArray) (w : World) (h : LiC w w.heap.size x) (hw : x.ct.wt ≤ 1048576) (hs : id.size ≤ maxLen) :
    Calls Try.prog 11 #[x.val, .string id] w fun e w' => e = .returned (.tuple #[.int .i64 (cnN x.ct id), .bool (cnB x.ct id)]) ∧ Below w.heap.size w w' := by
  obtain ⟨X, hX⟩ : ∃ X, X = w.alloc (.cells #[.slice x.A1 x.n1 x.c1, .slice x.A2 x.n2 x.c2] 30) := ⟨_, rfl⟩
  have B0 : Below w.heap.size w X := by rw [hX]; exact below1 _ _
  have HC := Lib.hid (checkContract x X (h.on B0) hw)
  have HB := Lib.hid B0
  have HX := Lib.hid hX
  have HSI := Lib.hid hs
  clear h hw B0 hX hs
  go_enter Try.func11, Try.ntmps11
  go_wp2_with (go_at_call 17; (try rw [← HX.out]); refine HC.out.mono ?_; (rintro e w2 (⟨hg, hb, a1, l1, k1, a2, l2, k2, mo, a3, l3, k3, rfl⟩ | ⟨mb, g, n, c, rfl, hy⟩)); all_goals refine Hid.out ?_)
  · refine Lib.hid ?_
    have HG : Hid (cnN x.ct id = 0 ∧ cnB x.ct id = false) := Lib.hid (by
      have h1 : cnB x.ct id = false := by unfold cnB; rw [hg]; rfl
      exact ⟨by unfold cnN; rw [h1]; rfl, h1⟩)
    have HB2 := Lib.hid (HB.out.trans (hb.mono HB.out.size))
    clear hg hb
    go_wp2_with fail
    go_ret2
    exact ⟨by rw [HG.out.1, HG.out.2]; rfl, HB2.out.alloc HB2.out.size _⟩
  · refine Lib.hid ?_
    have HG : Hid (cnN x.ct id = numI x.ct.ls id ∧ cnB x.ct id = numB x.ct.ls id) := Lib.hid (by
      have h1 : cnB x.ct id = numB x.ct.ls id := by unfold cnB numB; rw [hy.good, Bool.true_and]
      refine ⟨?_, h1⟩
      unfold cnN numI
      rw [h1]
      unfold numB
      by_cases hf : fnd x.ct.ls id < x.ct.ls.length
      · simp [hf]
      · simp [hf])
    have HB2 := Lib.hid (HB.out.trans (hy.bel.mono HB.out.size))
    obtain ⟨U, hU⟩ : ∃ U, U = w2.alloc (.cells #[.slice x.A1 x.n1 x.c1, .slice x.A2 x.n2 x.c2, .map (some mb), .slice (some ⟨g, 0, none⟩) n c] 43) := ⟨_, rfl⟩
    have HUN : Hid (Nums U mb 12 x.ct.ls) := Lib.hid (by rw [hU]; exact hy.nums.on (below1 _ _))
    have HUU := Lib.hid hU
    clear hy hU
    go_wp2_with (at_lookup; (try rw [← HUU.out]); refine wp_look rfl _ _ rfl mb 12 x.ct.ls rfl id rfl HUN.out HSI.out ?_)
    go_ret2
    exact ⟨by rw [HG.out.1, HG.out.2]; rfl, by rw [HUU.out]; exact HB2.out.alloc HB2.out.size _⟩

end Go.Proofs.Ytlionlbihmldlaa.Cl
