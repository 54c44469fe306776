/-
  The iterator over the pieces of a text: it hands on each piece, in order.
-/
import Derived.RangeFuncBox
import Derived.RangeFuncLeaves
import Derived.RangeFuncCalls
import Derived.Shelf.Abstract
import Derived.WalkKit
import Derived.OwnWalkIn
import Derived.TacticsInMore
import Derived.LoopNIn
import Derived.LoopIn
import Derived.Sort.QuietIn
import Derived.Lib.Hide
import Derived.WalkSmall
import Derived.Test.YtokikbfhjhppmaaRows
import Derived.Test.YtokikbfhjhppmaaPieces
namespace Go.Proofs.Ytokikbfhjhppmaa.Iter
open Go.RowKit Go.Shelf Go.Proofs.Ytokikbfhjhppmaa.Plain Go.Proofs.Ytokikbfhjhppmaa.Pieces

attribute [local go_sem] Oper.semAt_some

/-- A piece: a text of at most 4000 letters. -/
abbrev Pc := { p : ByteArray // p.size ≤ 4000 }
def bytesOf (p : Pc) : List UInt8 := p.1.data.toList

/-- The two captured boxes hold what they held. -/
def Keep2 (Bs Bb : Nat) (A B : World) : Prop := B.cell? ⟨Bs, 0, none⟩ = A.cell? ⟨Bs, 0, none⟩ ∧ B.cell? ⟨Bb, 0, none⟩ = A.cell? ⟨Bb, 0, none⟩
theorem Keep2.refl (Bs Bb : Nat) (A : World) : Keep2 Bs Bb A A := ⟨rfl, rfl⟩
theorem Keep2.trans {Bs Bb : Nat} {A B C : World} (h : Keep2 Bs Bb A B) (k : Keep2 Bs Bb B C) : Keep2 Bs Bb A C := ⟨k.1.trans h.1, k.2.trans h.2⟩
theorem keep_drewN {Bs Bb : Nat} {A B : World} (h : Keep2 Bs Bb A B) (k : Nat) : Keep2 Bs Bb A (B.drewN k) := h.trans ⟨rfl, rfl⟩

theorem drewGrown (w : World) (k : Nat) : w.grownBy (w.drewN k) none := ⟨rfl, rfl, rfl, Nat.le_refl _, fun _ _ _ => rfl⟩

set_option maxRecDepth 100000 in
set_option maxHeartbeats 2000000 in
theorem iter1 (n : Nat) (hn : 1 ≤ n) (l Bs Bb : Nat) (s : ByteArray) (b : UInt8) (c : Int) (hcb : c = (b.toNat : Int)) (hs : s.size ≤ 4000)
    (J Jx : List Pc → World → Prop)
    (hY : ∀ pre x W, J pre W → pre.length < s.size + 1 → YieldAt Fence.wide (n - 1) Try.prog l #[.string x.1] W fun e W' =>
      (e = .returned (.bool true) ∧ J (pre ++ [x]) W' ∧ Keep2 Bs Bb W W') ∨ (e = .returned (.bool false) ∧ Jx (pre ++ [x]) W'))
    (W : World) (hJ : AbidesFrom W.heap.size J) (cS : W.cell? ⟨Bs, 0, none⟩ = some (.string s)) (cB : W.cell? ⟨Bb, 0, none⟩ = some (.int .u8 c)) (h0 : J [] W) :
    CallsIn Fence.wide n Try.prog 39 #[.func (.yield l) #[] #[], .pointer (some ⟨Bs, 0, none⟩), .pointer (some ⟨Bb, 0, none⟩)] W fun e W' => (∃ v, e = .returned v) ∧
      ((∃ ys : List Pc, ys.map bytesOf = split b s.data.toList ∧ J ys W') ∨ (∃ pre : List Pc, True ∧ Jx pre W')) := by
  have HB := Lib.hid hcb
  have HJ := Lib.hid hJ
  have HY := Lib.hid hY
  clear hcb hJ hY
  refine callsIn_of_wp Try.func39 rfl trivial ?_ rfl
  simp only [Try.ntmps39, List.size_toArray, List.length_cons, List.length_nil, Nat.reduceAdd, Nat.reduceSub, Array.replicate_succ, Array.replicate_zero, List.push_toArray, List.append_toArray, List.nil_append, List.cons_append]
  gi_wp2
  gi_loopw [4, 8] (fun f i wr => ∃ (k fr : Nat) (D : List Pc), fr ≤ k ∧ k ≤ s.size ∧ f = .int .i64 fr ∧ i = .int .i64 k ∧ D.length ≤ k ∧ Hid (st b (s.data.toList.take k) = (D.map bytesOf, (s.data.toList.take k).drop fr)) ∧ Hid (J D wr) ∧ Keep2 Bs Bb W wr) (fun _ i _ => s.size - (intOf i).toNat)
  case atStart => exact ⟨0, 0, [], Nat.le_refl _, Nat.zero_le _, rfl, rfl, Nat.le_refl _, Lib.hid rfl, Lib.hid h0, Keep2.refl _ _ _⟩
  case round =>
    obtain ⟨k, fr, D, hfr, hk, rfl, rfl, hD, HD, hJD, hnx⟩ := hrel
    have cS' : wr.cell? ⟨Bs, 0, none⟩ = some (.string s) := hnx.1.trans cS
    have cB' : wr.cell? ⟨Bb, 0, none⟩ = some (.int .u8 c) := hnx.2.trans cB
    by_cases hlt : k < s.size
    · have i0 : (0 : Int) ≤ (k : Int) := by omega
      have i1 : (k : Int) < (s.size : Int) := by omega
      by_cases hx : s[k] = b
      · have hq : ((s[k].toNat : Int) == c) = true := by rw [HB.out, hx]; simp
        have hq' : ((s[k].toNat : Int) != c) = false := by rw [HB.out, hx]; simp
        have HX := Lib.hid hx
        clear hx
        obtain ⟨q, hq1⟩ : ∃ q : ByteArray, q = ⟨((s.data.toList.take k).drop fr).toArray⟩ := ⟨_, rfl⟩
        have HQ := Lib.hid hq1
        have hqs : q.size ≤ 4000 := by
          rw [hq1]
          show ((s.data.toList.take k).drop fr).toArray.size ≤ 4000
          have h2 : s.size = s.data.toList.length := (Array.length_toList (xs := s.data)).symm
          simp; omega
        clear hq1
        have hsl : ∀ w, (Instr.slice 9 (.string s) (some (.int .i64 (fr : Int))) (some (.int .i64 (k : Int))) none).run Try.prog w = .ok (.string q) w := fun w => by
          rw [run_slice_string w 9 s .i64 .i64 _ _ Try.underlying9 (by omega) (by omega) (by omega), show ((fr : Int)).toNat = fr by omega, show ((k : Int)).toNat = k by omega, extract_piece, HQ.out]
        have HD' := Lib.hid (st_hit (b := b) hlt HX.out)
        gi_wp2
        gi_quiet (fail)
        obtain ⟨fn, tmps, assign, body, hy, hR⟩ := HY.out D ⟨q, hqs⟩ (wr.drewN nq) (HJ.out D wr _ none hJD.out (drewGrown wr nq) (fun r e => by cases e)) (by omega)
        dsimp only at hy
        gi_wp2
        refine hR.mono ?_
        rintro e W3 (⟨rfl, hJ3, hk3⟩ | ⟨rfl, hJx3⟩)
        · have HJ3 := Lib.hid hJ3
          clear hJ3 hR hy
          gi_wp2
          go_roundw
          case rel => exact ⟨k + 1, k + 1, D ++ [⟨q, hqs⟩], Nat.le_refl _, by omega, by go_num, by go_num, by simp; omega, Lib.hid (by rw [HD'.out, HD.out]; simp [bytesOf, HQ.out]), Lib.hid HJ3.out, (keep_drewN hnx nq).trans hk3⟩
          case measure => simp [intOf]; omega
        · clear hR hy
          gi_wp2
          refine bodyPost_ret (results_none rfl _ _ _) rfl ?_
          exact ⟨⟨_, rfl⟩, .inr ⟨_, trivial, hJx3⟩⟩
      · have hq : ((s[k].toNat : Int) == c) = false := by
          rw [HB.out, beq_eq_false_iff_ne]; intro e; exact hx (UInt8.toNat_inj.1 (by omega))
        have hq' : ((s[k].toNat : Int) != c) = true := by
          rw [HB.out, bne_iff_ne]; intro e; exact hx (UInt8.toNat_inj.1 (by omega))
        have HX := Lib.hid hx
        clear hx
        have HD' := Lib.hid (st_miss (b := b) hlt HX.out)
        have HP := Lib.hid (drop_snoc hlt hfr)
        gi_wp2
        gi_quiet (fail)
        gi_wp2
        go_roundw
        case rel => exact ⟨k + 1, fr, D, by omega, by omega, rfl, by go_num, by omega, Lib.hid (by rw [HD'.out, HD.out, HP.out]), Lib.hid (HJ.out D wr _ none hJD.out (drewGrown wr nq) (fun r e => by cases e)), keep_drewN hnx nq⟩
        case measure => simp [intOf]; omega
    · obtain ⟨q, hq1⟩ : ∃ q : ByteArray, q = ⟨((s.data.toList.take k).drop fr).toArray⟩ := ⟨_, rfl⟩
      have HQ := Lib.hid hq1
      have hqs : q.size ≤ 4000 := by
        rw [hq1]
        show ((s.data.toList.take k).drop fr).toArray.size ≤ 4000
        have h2 : s.size = s.data.toList.length := (Array.length_toList (xs := s.data)).symm
        simp; omega
      clear hq1
      have hsl : ∀ w, (Instr.slice 9 (.string s) (some (.int .i64 (fr : Int))) none none).run Try.prog w = .ok (.string q) w := fun w => by
        have e : k = s.size := by omega
        rw [HQ.out, e, ← extract_piece]
        simp [go_sem, Try.underlying9]; omega
      have HE := Lib.hid (split_all b s k (by omega))
      obtain ⟨fn, tmps, assign, body, hy, hR⟩ := HY.out D ⟨q, hqs⟩ wr hJD.out (by omega)
      dsimp only at hy
      gi_wp2
      refine hR.mono ?_
      rintro e W3 (⟨rfl, hJ3, hk3⟩ | ⟨rfl, hJx3⟩)
      · have HJ3 := Lib.hid hJ3
        clear hJ3 hR hy
        gi_wp2
        go_end0
        exact ⟨⟨_, rfl⟩, .inl ⟨_, by unfold split; rw [← HE.out, HD.out]; simp [bytesOf, HQ.out], HJ3.out⟩⟩
      · clear hR hy
        gi_wp2
        go_end0
        exact ⟨⟨_, rfl⟩, .inr ⟨_, trivial, hJx3⟩⟩

/-- The iterator's contract, as a loop over it asks for it. -/
theorem stops (n : Nat) (hn : 1 ≤ n) (Bs Bb : Nat) (s : ByteArray) (b : UInt8) (c : Int) (hcb : c = (b.toNat : Int)) (hs : s.size ≤ 4000) (w : World) (hBs : Bs < w.heap.size) (hBb : Bb < w.heap.size)
    (cS : w.cell? ⟨Bs, 0, none⟩ = some (.string s)) (cB : w.cell? ⟨Bb, 0, none⟩ = some (.int .u8 c)) :
    SeqStopsK Fence.wide n Try.prog 39 #[.pointer (some ⟨Bs, 0, none⟩), .pointer (some ⟨Bb, 0, none⟩)] (fun x : Pc => #[Value.string x.1]) (Keep2 Bs Bb) (fun ys => ys.map bytesOf = split b s.data.toList) (fun _ => True) (s.size + 1) w :=
  fun l J Jx W hW hJ _ hY h0 => iter1 n hn l Bs Bb s b c hcb hs J Jx hY W hJ ((hW.cell (p := ⟨Bs, 0, none⟩) hBs).trans cS) ((hW.cell (p := ⟨Bb, 0, none⟩) hBb).trans cB) h0

set_option maxHeartbeats 1000000 in
/-- pieces itself: two boxes, and the function that captures them. -/
theorem pieces_in (n : Nat) (s : ByteArray) (c : Int) (w : World) :
    CallsIn Fence.wide n Try.prog 27 #[.string s, .int .u8 c] w fun e w' =>
      e = .returned (.func (.func 39) #[] #[.pointer (some ⟨w.heap.size, 0, none⟩), .pointer (some ⟨w.heap.size + 1, 0, none⟩)]) ∧ w' = (w.alloc (.cells #[.string s] 9)).alloc (.cells #[.int .u8 c] 5) := by
  refine callsIn_of_wp Try.func27 rfl trivial ?_ rfl
  simp only [Try.ntmps27, List.size_toArray, List.length_cons, List.length_nil, Nat.reduceAdd, Nat.reduceSub, Array.replicate_succ, Array.replicate_zero, List.push_toArray, List.append_toArray, List.nil_append, List.cons_append]
  gi_wp2
  go_ret
  simp

end Go.Proofs.Ytokikbfhjhppmaa.Iter
