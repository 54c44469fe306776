/-
  The names and the days of a condition, as the model collects them: l5Names, l5Days.
-/
import Derived.Test.YtomloodakabcbabGreatNdI
namespace Go.Proofs.YtomloodakabcbabGreat.NdS
open Go.RowKit Go.Sort Go.Proofs.YtomloodakabcbabGreat.Cond Go.Proofs.YtomloodakabcbabGreat.SrtR Go.Proofs.YtomloodakabcbabGreat.NdI
set_option linter.unusedVariables false

mutual
def dys : C → List Int
  | .mk op _ day ps => if op = 3 then [day] else dysL ps
def dysL : List C → List Int
  | [] => []
  | p :: ps => dys p ++ dysL ps
end
mutual
def nms : C → List (List UInt8)
  | .mk op nm _ ps => if op = 2 then [nm.toList] else nmsL ps
def nmsL : List C → List (List UInt8)
  | [] => []
  | p :: ps => nms p ++ nmsL ps
end
theorem col_q (q : Q) : ∀ s : Sg, col q.c s = (s.1 ++ nms q.c, s.2 ++ dys q.c) := by
  induction q with
  | tru => intro s; simp [col, vis, visL, okN, nxN, Q.c, nms, dys, nmsL, dysL]
  | fact x => intro s; simp [col, vis, visL, okN, nxN, Q.c, nms, dys, dysL]
  | frm d => intro s; simp [col, vis, visL, okN, nxN, Q.c, nms, dys, nmsL]
  | neg a ih =>
    intro s
    have h1 := ih s
    unfold col at h1
    simp [col, vis, visL, okN, nxN, Q.c, nms, dys, nmsL, dysL, vis_all, h1]
  | and a b iha ihb =>
    intro s
    have h1 := iha s
    have h2 := ihb (s.1 ++ nms a.c, s.2 ++ dys a.c)
    unfold col at h1 h2
    simp [col, vis, visL, okN, nxN, Q.c, nms, dys, nmsL, dysL, vis_all, h1, h2]
  | or a b iha ihb =>
    intro s
    have h1 := iha s
    have h2 := ihb (s.1 ++ nms a.c, s.2 ++ dys a.c)
    unfold col at h1 h2
    simp [col, vis, visL, okN, nxN, Q.c, nms, dys, nmsL, dysL, vis_all, h1, h2]


mutual
theorem dys_len : ∀ c : C, (dys c).length ≤ c.size
  | .mk op nm' day ps => by
    have := dysL_len ps
    unfold dys
    split
    · simp only [C.size, List.length_singleton]; omega
    · simp only [C.size]; omega
theorem dysL_len : ∀ ps : List C, (dysL ps).length ≤ sizes ps
  | [] => by simp [dysL, sizes]
  | p :: ps => by have := dys_len p; have := dysL_len ps; simp only [dysL, sizes, List.length_append]; omega
end
theorem dysL_step {ps : List C} {i : Nat} (hi : i < ps.length) : dysL (ps.take (i + 1)) = dysL (ps.take i) ++ dys ps[i] := by
  induction ps generalizing i with
  | nil => simp at hi
  | cons p ps ih =>
    cases i with
    | zero => simp [dysL]
    | succ i =>
      have := ih (i := i) (by simpa using hi)
      simp only [List.take_succ_cons, dysL, List.getElem_cons_succ, this, List.append_assoc]

mutual
theorem nms_len : ∀ c : C, (nms c).length ≤ c.size
  | .mk op nm' day ps => by
    have := nmsL_len ps
    unfold nms
    split
    · simp only [C.size, List.length_singleton]; omega
    · simp only [C.size]; omega
theorem nmsL_len : ∀ ps : List C, (nmsL ps).length ≤ sizes ps
  | [] => by simp [nmsL, sizes]
  | p :: ps => by have := nms_len p; have := nmsL_len ps; simp only [nmsL, sizes, List.length_append]; omega
end
theorem nmsL_step {ps : List C} {i : Nat} (hi : i < ps.length) : nmsL (ps.take (i + 1)) = nmsL (ps.take i) ++ nms ps[i] := by
  induction ps generalizing i with
  | nil => simp at hi
  | cons p ps ih =>
    cases i with
    | zero => simp [nmsL]
    | succ i =>
      have := ih (i := i) (by simpa using hi)
      simp only [List.take_succ_cons, nmsL, List.getElem_cons_succ, this, List.append_assoc]

set_option maxHeartbeats 4000000 in
theorem l5Names (k : K) : ∀ (g n c : Nat) (zs : List (List UInt8)) (w : World) (S : Nat), n = zs.length → n + k.cond.size ≤ 1000 → S ≤ w.heap.size → UniT.Own w S (.slice (some ⟨g, 0, none⟩) n c) zs → Lies w w.heap.size k →
    Calls Tryz.prog 47 #[.slice (some ⟨g, 0, none⟩) n c, k.val] w (UniT.PutAns S (UniTM.uni zs (nms k.cond)) w) := by
  induction k using K.ind with
  | h op nm day A cap ps ih =>
    intro g n c zs w S hn hm hS ho hin
    have hz := hin.sz.2
    have hA := Lib.hid hin.at
    have IH : Hid (∀ p ∈ ps, ∀ (g n c : Nat) (zs : List (List UInt8)) (v : World), Below w.heap.size w v → n = zs.length → n + p.cond.size ≤ 1000 → UniT.Own v S (.slice (some ⟨g, 0, none⟩) n c) zs → Calls Tryz.prog 47 #[.slice (some ⟨g, 0, none⟩) n c, p.val] v (UniT.PutAns S (UniTM.uni zs (nms p.cond)) v)) :=
      Lib.hid fun p hp g n c zs v hb h1 h2 h3 => ih p hp g n c zs v S h1 h2 (Nat.le_trans hS hb.size) h3 ((hin.part hp).on hb)
    have HC := Lib.hid (conds_len ps)
    have HO := Lib.hid ho
    have HN := Lib.hid hn
    have HS := Lib.hid hS
    simp only [K.cond, C.size] at hm
    have HM := Lib.hid hm
    have hn3 : n ≤ 1000 := by omega
    unfold maxLen at hz
    clear ih hin ho hn hm
    show Calls Tryz.prog 47 #[.slice (some ⟨g, 0, none⟩) n c, .agg #[.int .i64 op, .string nm, .int .i64 day, .slice A ps.length cap]] w (UniT.PutAns S (UniTM.uni zs (if op = 2 then [nm.toList] else nmsL (conds ps))) w)
    obtain ⟨l, hl⟩ : ∃ l, l = ps.length := ⟨_, rfl⟩
    have HL := Lib.hid hl
    rw [← hl] at hz ⊢
    clear hl
    have X0 := Lib.hid (B4.new w (.int .i64 op) (.string nm) (.int .i64 day) (.slice A l cap) 68)
    have B0 := Lib.hid (below1 w (.cells #[.int .i64 op, .string nm, .int .i64 day, .slice A l cap] 68))
    by_cases h2 : op = 2
    · rw [if_pos h2]
      subst h2
      have HP := UniT.l5Put g n c zs (nm.toList) (w.alloc (.cells #[.int .i64 2, .string nm, .int .i64 day, .slice A l cap] 68)) S HN.out (by omega) (Nat.le_trans HS.out B0.out.size) (HO.out.alloc _)
      rw [show (⟨nm.toList.toArray⟩ : ByteArray) = nm by have := str_enc nm; unfold encStr at this; injection this with this; exact this.symm] at HP
      have HPH := Lib.hid HP
      clear HP
      go_enter Tryz.func47, Tryz.ntmps47
      go_wp2_with (go_at_call 48; refine HPH.out.mono ?_; rintro e w2 ⟨g3, n3, c3, hn3', rfl, ho3, hb3⟩; have HN3 := Lib.hid hn3'; clear hn3')
      go_ret
      exact ⟨g3, n3, c3, HN3.out, rfl, ho3, B0.out.trans (hb3.mono B0.out.size)⟩
    · rw [if_neg h2]
      have h2' : (op == 2) = false := by simpa using h2
      go_enter Tryz.func47, Tryz.ntmps47
      go_wp2_with fail
      go_loopw [0, 5] (fun v i wr => ∃ (j g3 n3 c3 : Nat) (ys : List (List UInt8)), j ≤ l ∧ i = .int .i64 j ∧ v = .slice (some ⟨g3, 0, none⟩) n3 c3 ∧ Hid (n3 = ys.length) ∧ Hid (ys = UniTM.uni zs (nmsL ((conds ps).take j))) ∧ Hid (UniT.Own wr S (.slice (some ⟨g3, 0, none⟩) n3 c3) ys) ∧ Hid (Below w.heap.size w wr) ∧ Hid (B4 w.heap.size wr (.int .i64 op) (.string nm) (.int .i64 day) (.slice A l cap))) (fun _ i _ => l - (intOf i).toNat)
      case atStart => exact ⟨0, g, n, c, zs, Nat.zero_le _, rfl, rfl, HN, Lib.hid rfl, Lib.hid (HO.out.alloc _), B0, X0⟩
      case round =>
        obtain ⟨j, g3, n3, c3, ys, hj, rfl, rfl, HN3, HY, HO3, HB, HX⟩ := hrel
        obtain ⟨_, x0, x1, x2, x3, _⟩ := HX.out
        by_cases hlt : j < l
        · have hj' : j < ps.length := by have := HL.out; omega
          obtain ⟨b, o, rfl, hB, hc⟩ := hA.out (by omega)
          obtain ⟨p, hp⟩ : ∃ p, p = ps[j] := ⟨_, rfl⟩
          have hE := (hc j hj').alike (HB.out.block b hB)
          rw [← hp] at hE
          obtain ⟨d0, d1, d2, d3⟩ := hE
          have hjc : j < (conds ps).length := by have := HC.out; omega
          have HP : Hid ((conds ps)[j] = p.cond) := Lib.hid (by simp [conds_map, hp])
          have hsz : n3 + p.cond.size ≤ 1000 := by
            have h1 := UniTM.length_uni (nmsL ((conds ps).take j)) zs
            have h2 := nmsL_len ((conds ps).take j)
            have h3 := size_part hjc
            have h4 := sizes_take_le (conds ps) (j + 1)
            rw [HP.out] at h3
            rw [HN3.out, HY.out]
            have := HM.out; have := HN.out
            omega
          have IHp := Lib.hid (IH.out p (by rw [hp]; exact List.getElem_mem hj') g3 n3 c3 ys wr HB.out HN3.out hsz HO3.out)
          have HYY : Hid (UniTM.uni ys (nms p.cond) = UniTM.uni zs (nmsL ((conds ps).take (j + 1)))) := Lib.hid (by rw [nmsL_step hjc, HP.out, HY.out]; unfold UniTM.uni; rw [List.foldl_append])
          clear hp hc hsz
          go_wp2_with (go_at_call 47; refine IHp.out.mono ?_; rintro e w2 ⟨g4, n4, c4, hn4, rfl, ho4, hb4⟩; have HN4 := Lib.hid hn4; clear hn4; refine Hid.out ?_)
          refine Lib.hid ?_
          have HO4 := Lib.hid ho4
          have HB4 := Lib.hid (HB.out.trans (hb4.mono HB.out.size))
          have HX4 := Lib.hid (HX.out.on hb4)
          clear ho4 hb4 x0 x1 x2 x3 d0 d1 d2 d3
          go_wp2_with fail
          go_roundw
          case rel => exact ⟨j + 1, g4, n4, c4, _, by omega, by go_num, rfl, HN4, HYY, HO4, HB4, HX4⟩
          case measure => simp [intOf]; omega
        · have HE : Hid (ys = UniTM.uni zs (nmsL (conds ps))) := Lib.hid (by rw [HY.out, List.take_of_length_le (by have := HL.out; have := HC.out; omega)])
          go_wp2_with fail
          go_ret
          rw [← HE.out]
          exact ⟨g3, n3, c3, HN3.out, rfl, HO3.out, HB.out⟩

/-- Sorted, equal neighbours struck: the union. -/
theorem comp_dys (D : List Int) : Lib.compact (srtI D) = UniMath.uni [] D := by
  have := UniMath.compact_sort [] D (by simp)
  simpa using this
theorem comp_nms (D : List (List UInt8)) : Lib.compact (srtT D) = UniTM.uni [] D := by
  have := UniTM.compact_sort [] D (by simp)
  simpa using this

end Go.Proofs.YtomloodakabcbabGreat.NdS
