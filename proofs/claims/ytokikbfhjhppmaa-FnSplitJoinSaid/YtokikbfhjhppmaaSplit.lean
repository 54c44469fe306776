/-
  What the model's l1Split returns, at every string of at most two million letters.
-/
import Derived.Test.YtokikbfhjhppmaaRows
import Derived.Test.YtokikbfhjhppmaaPieces
import Derived.WalkKit
import Derived.ProofKit
import Derived.Lib.Hide
import Derived.WalkSmall
import Derived.Maps.AppendAt
namespace Go.Proofs.Ytokikbfhjhppmaa.Split
open Go.RowKit Go.Maps Go.Proofs.Ytokikbfhjhppmaa.Plain Go.Proofs.Ytokikbfhjhppmaa.Pieces

theorem infoStr : (Try.prog.info? 9).map (fun i => (i.zero, i.size, i.bytes)) = some (some (.string ByteArray.empty), 1, 16) := by kernel_rfl

/-- One piece more. -/
theorem own_more {w w1 wr : World} {v v' : Value} {D : List (List UInt8)} {p : List UInt8} {q : ByteArray} {B : Nat} {o : Obj} (hp : q = ⟨p.toArray⟩) (hB : B ≤ wr.heap.size) (hb : Below B w wr) (hown : wr.ownsRow B 9 1 v D.length (D.map strV))
    (hown' : w1.ownsRow B 9 1 v' (D.length + 1) (D.map strV ++ [.string q])) (hg : (wr.alloc o).grownBy w1 v.ownBlock) :
    w1.ownsRow B 9 1 v' (D ++ [p]).length ((D ++ [p]).map strV) ∧ Below B w w1 := by
  subst hp
  refine ⟨by simpa [strV] using hown', (hb.alloc hB o).grown hg (by simp; omega) (fun k hk => ((hown.lt) k hk).1)⟩

theorem one_str (q : ByteArray) : ∀ u ∈ [Value.string q], u.oneCell' = true := by intro u hu; simp at hu; subst hu; rfl

set_option maxHeartbeats 1000000 in
theorem l1Split (s : ByteArray) (b : UInt8) (c : Int) (hcb : c = (b.toNat : Int)) (w : World) (hs : s.size ≤ 2000000) :
    Calls Try.prog 36 #[.string s, .int .u8 c] w fun e w' =>
      ∃ v, e = .returned v ∧ w'.ownsRow w.heap.size 9 1 v (split b s.data.toList).length ((split b s.data.toList).map strV) ∧ Below w.heap.size w w' := by
  have HB := Lib.hid hcb
  clear hcb
  obtain ⟨i0, hi, hz0, hz1, hz2⟩ := info_parts infoStr
  go_enter Try.func36, Try.ntmps36
  go_wp2_with fail
  go_loopw [5, 6, 7] (fun v f i wr => ∃ (k fr : Nat) (D : List (List UInt8)), fr ≤ k ∧ k ≤ s.size ∧ f = .int .i64 fr ∧ i = .int .i64 k ∧ D.length ≤ k ∧
      wr.ownsRow w.heap.size 9 1 v D.length (D.map strV) ∧ Hid (st b (s.data.toList.take k) = (D, (s.data.toList.take k).drop fr)) ∧ Below w.heap.size w wr) (fun _ _ i _ => s.size - (intOf i).toNat)
  case atStart => exact ⟨0, 0, [], Nat.le_refl _, Nat.zero_le _, rfl, rfl, Nat.le_refl _, World.ownsRow_made w #[] 0 (Nat.le_refl _) (by unfold maxLen; omega) rfl, Lib.hid rfl, (Below.refl _ _).alloc (Nat.le_refl _) _⟩
  case round =>
    obtain ⟨k, fr, D, hfr, hk, rfl, rfl, hD, hown, HD, hnx⟩ := hrel
    have hB := hnx.size
    by_cases hlt : k < s.size
    · by_cases hx : s[k] = b
      · have hq : ((s[k].toNat : Int) == c) = true := by rw [HB.out, hx]; simp
        have HX := Lib.hid hx
        clear hx
        obtain ⟨q, hq1⟩ : ∃ q : ByteArray, q = ⟨((s.data.toList.take k).drop fr).toArray⟩ := ⟨_, rfl⟩
        have HQ := Lib.hid hq1
        clear hq1
        have hsl : ∀ w, (Instr.slice 9 (.string s) (some (.int .i64 (fr : Int))) (some (.int .i64 (k : Int))) none).run Try.prog w = .ok (.string q) w := fun w => by
          rw [run_slice_string w 9 s .i64 .i64 _ _ Try.underlying9 (by omega) (by omega) (by omega), show ((fr : Int)).toNat = fr by omega, show ((k : Int)).toNat = k by omega, extract_piece, HQ.out]
        go_wp2_with (at_builtin; refine wpList_append_own _ rfl _ _ 26 rfl w.heap.size 9 i0 (.string ByteArray.empty) 1 16 Try.underlying26 hi hz0 hz1 hz2 rfl (by decide) _ _ _ rfl (hown.alloc _) ⟨wr.heap.size, 0, none⟩ 1 1 [.string q] rfl rfl (cell_one_new _ _ _) (one_str _) (by unfold maxLen; omega) (by omega) (by simp; omega) ?_; intro v' w1 hown' hgrow _; have R := own_more HQ.out hB hnx hown hown' hgrow; clear hown' hgrow hown; refine Hid.out ?_)
        · refine Lib.hid ?_
          have HD' := Lib.hid (st_hit (b := b) hlt HX.out)
          go_wp2
          go_roundw
          case rel => exact ⟨k + 1, k + 1, D ++ [(s.data.toList.take k).drop fr], Nat.le_refl _, by omega, by go_num, by go_num, by simp; omega, R.1, Lib.hid (by rw [HD'.out, HD.out]; simp), R.2⟩
          case measure => simp [intOf]; omega
      · have hq : ((s[k].toNat : Int) == c) = false := by
          rw [HB.out, beq_eq_false_iff_ne]; intro e; exact hx (UInt8.toNat_inj.1 (by omega))
        have HX := Lib.hid hx
        clear hx
        have HD' := Lib.hid (st_miss (b := b) hlt HX.out)
        have HP := Lib.hid (drop_snoc hlt hfr)
        go_wp2
        go_roundw
        case rel => exact ⟨k + 1, fr, D, by omega, by omega, rfl, by go_num, by omega, hown, Lib.hid (by rw [HD'.out, HD.out, HP.out]), hnx⟩
        case measure => simp [intOf]; omega
    · obtain ⟨q, hq1⟩ : ∃ q : ByteArray, q = ⟨((s.data.toList.take k).drop fr).toArray⟩ := ⟨_, rfl⟩
      have HQ := Lib.hid hq1
      clear hq1
      have hsl : ∀ w, (Instr.slice 9 (.string s) (some (.int .i64 (fr : Int))) none none).run Try.prog w = .ok (.string q) w := fun w => by
        have e : k = s.size := by omega
        rw [HQ.out, e, ← extract_piece]
        simp [go_sem, Try.underlying9]; omega
      have HE := Lib.hid (split_all b s k (by omega))
      go_wp2_with (at_builtin; refine wpList_append_own _ rfl _ _ 26 rfl w.heap.size 9 i0 (.string ByteArray.empty) 1 16 Try.underlying26 hi hz0 hz1 hz2 rfl (by decide) _ _ _ rfl (hown.alloc _) ⟨wr.heap.size, 0, none⟩ 1 1 [.string q] rfl rfl (cell_one_new _ _ _) (one_str _) (by unfold maxLen; omega) (by omega) (by simp; omega) ?_; intro v' w1 hown' hgrow _; have R := own_more HQ.out hB hnx hown hown' hgrow; clear hown' hgrow hown; refine Hid.out ?_)
      · refine Lib.hid ?_
        go_wp2
        go_ret
        refine ⟨v', rfl, ?_, R.2⟩
        have e : split b s.data.toList = D ++ [(s.data.toList.take k).drop fr] := by unfold split; rw [← HE.out, HD.out]
        rw [e]; exact R.1

end Go.Proofs.Ytokikbfhjhppmaa.Split
