/-
  Whether a clause has a valid Repair, by the program.
-/
import Derived.Test.YtlionlbihmldlaaClPr
namespace Go.Proofs.Ytlionlbihmldlaa.Cl
open Go.RowKit Go.Proofs.Ytlionlbihmldlaa.Cond Go.Proofs.Ytlionlbihmldlaa.Gx Go.Proofs.Ytlionlbihmldlaa.NdS
set_option linter.unusedVariables false
set_option linter.unusedSimpArgs false

theorem okP_is {x : Kt} {i : Nat} {m : M} (hr : ¬ m.rep.toList = []) : okP x.ct.ls i m.cl = (numB x.ct.ls m.rep && !decide (fnd x.ct.ls m.rep = i) && decide (kindAt x.ct.ls (fnd x.ct.ls m.rep) = 1)) := by
  show (decide (m.rep.toList = []) || _) = _
  rw [decide_eq_false hr]; rfl

set_option maxRecDepth 100000 in
set_option maxHeartbeats 8000000 in
theorem hasValidRepair (x : Kt) (mb : Nat) (N : Option Addr) (nn nc i : Nat) (m : M) (w : World) (h : LiC w w.heap.size x) (hi : CAt x i m) (hn : Nums w mb 12 x.ct.ls) (ok : Bool) (hok : ok = okP x.ct.ls i m.cl) :
    Calls Try.prog 29 #[.agg #[.slice x.A1 x.n1 x.c1, .slice x.A2 x.n2 x.c2, .map (some mb), .slice N nn nc], .int .i64 (i : Int)] w fun e w' => e = .returned (.bool ok) ∧ Below w.heap.size w w' := by
  obtain ⟨X, hX⟩ : ∃ X, X = w.alloc (.cells #[.slice x.A1 x.n1 x.c1, .slice x.A2 x.n2 x.c2, .map (some mb), .slice N nn nc] 43) := ⟨_, rfl⟩
  have B0 : Below w.heap.size w X := by rw [hX]; exact below1 _ _
  have P0 : Hid (Bk w.heap.size X [.slice x.A1 x.n1 x.c1, .slice x.A2 x.n2 x.c2, .map (some mb), .slice N nn nc]) := Lib.hid (by rw [hX]; exact Bk.new _ _ _)
  obtain ⟨b, oo, eA, hBb, hc⟩ := h.c.at_ (by have := hi.lt; omega)
  have hE := (hc i hi.lt).alike (B0.block b hBb)
  rw [← hi.eq] at hE
  have HEE := Lib.hid (And.intro hBb hc)
  obtain ⟨c0, c1, c2, c3, c4, c5, c6, c7, c8, c9, c10, c11⟩ := e12 hE
  have p0 := P0.out.c 0 (by simp)
  have p1 := P0.out.c 1 (by simp)
  have p2 := P0.out.c 2 (by simp)
  have p3 := P0.out.c 3 (by simp)
  simp only [List.getElem_cons_succ, List.getElem_cons_zero] at p0 p1 p2 p3
  have i0 : (0 : Int) ≤ (i : Int) := by omega
  have i1 : (i : Int) < (x.n2 : Int) := by have := h.c.len; have := hi.lt; omega
  have HRO : Hid (Calls Try.prog 44 #[.agg #[.slice x.A1 x.n1 x.c1, .slice x.A2 x.n2 x.c2, .map (some mb), .slice N nn nc], .int .i64 (i : Int)] X fun e w' => e = .returned (.tuple #[.int .i64 (numI x.ct.ls m.rep), .bool (numB x.ct.ls m.rep)]) ∧ Below X.heap.size X w') := Lib.hid (repairOf x mb N nn nc i m X (h.on B0) hi (hn.on B0))
  have HOK := Lib.hid hok
  have HB := Lib.hid B0
  have HX := Lib.hid hX
  have HLEN : Hid (x.n2 = x.ms.length ∧ x.ct.ls.length = x.n2) := Lib.hid ⟨h.c.len, by rw [h.c.len]; simp [Kt.ct]⟩
  rw [eA] at p1 HX HRO P0 ⊢
  rw [HX.out] at p0 p1 p2 p3 c11
  clear h hi hn B0 hX hE hc hBb eA hok c0 c1 c2 c3 c4 c5 c6 c7 c8 c9 c10
  go_enter Try.func29, Try.ntmps29
  by_cases hr : m.rep.toList = []
  · have hr2 : (m.rep.toList == []) = true := by rw [hr]; rfl
    have HE : Hid (ok = true) := Lib.hid (by rw [HOK.out]; show (decide (m.rep.toList = []) || _) = true; rw [decide_eq_true hr]; rfl)
    clear hr
    go_wp2_with fail
    go_ret
    exact ⟨by rw [HE.out]; rfl, by rw [← HX.out]; exact HB.out⟩
  have hr2 : (m.rep.toList == []) = false := by simpa using hr
  have HE := Lib.hid (okP_is (x := x) (i := i) hr)
  clear hr
  by_cases hf : fnd x.ct.ls m.rep < x.ct.ls.length
  rotate_left
  · have HE2 : Hid (ok = false) := Lib.hid (by rw [HOK.out, HE.out, numB_no hf]; rfl)
    rw [numB_no hf, numI_no hf] at HRO
    clear hf
    go_wp2_with (go_at_call 44; (try rw [← HX.out]); refine HRO.out.mono ?_; rintro e w2 ⟨rfl, hb2⟩; refine Hid.out ?_)
    refine Lib.hid ?_
    have HB2 := Lib.hid (HB.out.trans (hb2.mono HB.out.size))
    clear hb2
    go_wp2_with fail
    go_ret
    exact ⟨by rw [HE2.out]; rfl, HB2.out⟩
  obtain ⟨k, hk⟩ : ∃ k, k = fnd x.ct.ls m.rep := ⟨_, rfl⟩
  rw [numB_yes hf, numI_yes hf, ← hk] at HRO
  rw [numB_yes hf, ← hk] at HE
  rw [← hk] at hf
  have hkm : k < x.ms.length := by simpa [Kt.ct] using hf
  obtain ⟨q, hq⟩ : ∃ q, q = x.ms[k] := ⟨_, rfl⟩
  have HKQ : Hid (kindAt x.ct.ls k = q.kind) := Lib.hid (kind_at ⟨hkm, hq⟩)
  have hE2 := HEE.out.2 k hkm
  rw [← hq] at hE2
  have HE2 := Lib.hid hE2
  have hk0 : (0 : Int) ≤ (k : Int) := by omega
  have hk2 : (k : Int) < (x.n2 : Int) := by have := HLEN.out; omega
  clear hk hf hkm hq hE2
  go_wp2_with (go_at_call 44; (try rw [← HX.out]); refine HRO.out.mono ?_; rintro e w2 ⟨rfl, hb2⟩; refine Hid.out ?_)
  refine Lib.hid ?_
  have HB2 := Lib.hid (HB.out.trans (hb2.mono HB.out.size))
  have P2 := Lib.hid (P0.out.on hb2)
  clear hb2 p0 p1 p2 p3 c11
  have p1 := P2.out.c 1 (by simp)
  simp only [List.getElem_cons_succ, List.getElem_cons_zero] at p1
  have d1 := (e12 (HE2.out.alike (HB2.out.block b HEE.out.1))).2.1
  by_cases hki : k = i
  · have hki2 : ((k : Int) != (i : Int)) = false := by rw [hki]; simp
    have HO : Hid (ok = false) := Lib.hid (by rw [HOK.out, HE.out, decide_eq_true hki]; simp)
    clear hki
    go_wp2_with fail
    go_ret
    exact ⟨by rw [HO.out]; rfl, HB2.out⟩
  have hki2 : ((k : Int) != (i : Int)) = true := by rw [bne_iff_ne]; omega
  obtain ⟨y1, z1⟩ : ∃ y, y = decide (q.kind = 1) := ⟨_, rfl⟩
  have HO : Hid (ok = y1) := Lib.hid (by rw [HOK.out, HE.out, decide_eq_false hki, HKQ.out, z1]; simp)
  have z1' : (q.kind == 1) = y1 := by rw [z1]; rfl
  clear hki z1
  cases y1
  all_goals
    go_wp2_with fail
    go_ret
    exact ⟨by rw [HO.out]; rfl, HB2.out⟩

end Go.Proofs.Ytlionlbihmldlaa.Cl
