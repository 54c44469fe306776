/-
  l5Subset of the model.
-/
import Derived.Test.YthdiiocgemomoaaImM
import Derived.Deep.RegionHeld3
namespace Go.Proofs.Ythdiiocgemomoaa.Cond
open Go.RowKit Go.Proofs.Ythdiiocgemomoaa.NdI Go.Proofs.Ythdiiocgemomoaa.NdS
set_option linter.unusedVariables false

theorem own_some {w : World} {S n c : Nat} {a : Option Addr} {D : List (List UInt8)} (h : UniT.Own w S (.slice a n c) D) (h0 : 0 < D.length) : ∃ g, a = some ⟨g, 0, none⟩ := by
  rcases h.2 with ⟨_, h2⟩ | ⟨g, cap, cur, hv, _⟩
  · omega
  · injection hv with e1 e2 e3
    exact ⟨g, e1⟩
theorem ownT_block {S : Nat} {w : World} {v : Value} {n : Nat} {xs : List Value} (h : w.ownsRow S 9 1 v n xs) : ∀ k, v.ownBlock = some k → S ≤ k := UniT.own_block h

set_option maxHeartbeats 4000000 in
theorem l5Subset (A : Option Addr) (n c m B : Nat) (N : List (List UInt8)) (w : World) (hn : n = N.length) (hn2 : n ≤ 20) (hm : m ≤ 2097152) (hA : UniT.Is w B A N) (hB : B ≤ w.heap.size) :
    Calls Try.prog 41 #[.slice A n c, .int .i64 (m : Int)] w (UniT.PutAns w.heap.size (sub N m n) w) := by
  have HN := Lib.hid hn
  have HA := Lib.hid hA
  clear hn hA
  go_enter Try.func41, Try.ntmps41
  go_wp2_with fail
  go_loopw [5, 6] (fun v i wr => ∃ k g3 n3 c3 : Nat, k ≤ n ∧ i = .int .i64 k ∧ v = .slice (some ⟨g3, 0, none⟩) n3 c3 ∧ Hid (n3 = (sub N m k).length ∧ UniT.Own wr w.heap.size (.slice (some ⟨g3, 0, none⟩) n3 c3) (sub N m k)) ∧ Hid (Below w.heap.size w wr)) (fun _ i _ => n - (intOf i).toNat)
  case atStart => exact ⟨0, w.heap.size, 0, 0, Nat.zero_le _, rfl, rfl, Lib.hid ⟨rfl, UniT.own_new w⟩, Lib.hid (below1 _ _)⟩
  case round =>
    obtain ⟨k, g3, n3, c3, hk, rfl, rfl, HO, HB⟩ := hrel
    by_cases hlt : k < n
    · have hk' : k < N.length := by have := HN.out; omega
      have hbt := bit_test m k (by omega)
      have HS : Hid (sub N m (k + 1) = sub N m k ++ (if m.testBit k then [N.getD k []] else [])) := Lib.hid rfl
      have hu : IntKind.u64.wrap (k : Int) = (k : Int) := by rw [IntKind.wrap_u64]; omega
      cases hb : m.testBit k
      · rw [hb] at hbt
        have HS2 : Hid (sub N m (k + 1) = sub N m k) := Lib.hid (by rw [HS.out, hb]; simp)
        clear hb
        go_wp2_with fail
        go_roundw
        all_goals first
          | exact ⟨k + 1, g3, n3, c3, by omega, by go_num, rfl, by rw [HS2.out]; exact HO, HB⟩
          | (simp [intOf]; omega)
      · rw [hb] at hbt
        obtain ⟨ad, rfl, hab, hc⟩ := HA.out (by omega)
        obtain ⟨s, hs⟩ : ∃ s : ByteArray, s = ⟨(N.getD k []).toArray⟩ := ⟨_, rfl⟩
        have hcell : wr.cell? (ad.add k) = some (.string s) := by
          have h1 := hc k hk'
          rw [HB.out.cell (p := ad.add k) (by rw [Row.block_add]; omega), h1, hs]
          simp [List.getD, hk', encStr]
        have HS2 : Hid (sub N m (k + 1) = sub N m k ++ [N.getD k []]) := Lib.hid (by rw [HS.out, hb]; simp)
        have hwl := HB.out.size
        have hbu : Below wr.heap.size wr (wr.alloc (.cells #[.string s] 9)) := below1 _ _
        have HOW : Hid (UniT.Own (wr.alloc (.cells #[.string s] 9)) w.heap.size (.slice (some ⟨g3, 0, none⟩) n3 c3) (sub N m k)) := Lib.hid (World.ownsRow.alloc HO.out.2 _)
        have HLI : Hid (UniT.Is (wr.alloc (.cells #[.string s] 9)) (wr.heap.size + 1) (some ⟨wr.heap.size, 0, none⟩) [N.getD k []]) := Lib.hid fun _ => ⟨_, rfl, by simp, fun j hj => by
          have : j = 0 := by simpa using hj
          subst this
          rw [hs]
          simp [Addr.add, go_sem, encStr]⟩
        have hlen := sub_len N m k
        have HBU := Lib.hid hbu
        clear hb hs hc hbu
        go_wp2_with (at_builtin; refine UniT.wp_app rfl _ _ rfl w.heap.size _ (sub N m k) rfl HOW.out (some ⟨wr.heap.size, 0, none⟩) 1 1 (wr.heap.size + 1) [N.getD k []] rfl rfl HLI.out (fun e => by cases e) (by omega) (by simp; omega) ?_; intro a3 c4 w1 hown hg hat; refine Hid.out ?_)
        refine Lib.hid ?_
        obtain ⟨g4, rfl⟩ := own_some hown (by simp)
        have HO2 : Hid ((sub N m k).length + 1 = (sub N m (k + 1)).length ∧ UniT.Own w1 w.heap.size (.slice (some ⟨g4, 0, none⟩) ((sub N m k).length + 1) c4) (sub N m (k + 1))) := Lib.hid ⟨by rw [HS2.out]; simp, by rw [HS2.out]; exact hown⟩
        have HB2 : Hid (Below w.heap.size w w1) := Lib.hid ((HB.out.trans (HBU.out.mono HB.out.size)).grown hg (by simp; omega) (fun q e => UniT.own_block HOW.out q e))
        obtain ⟨n4, hn4⟩ : ∃ n4, n4 = (sub N m k).length + 1 := ⟨_, rfl⟩
        rw [← hn4] at HO2 ⊢
        clear hown hg hat hn4
        go_wp2_with fail
        go_roundw
        all_goals first
          | exact ⟨k + 1, g4, n4, c4, by omega, by go_num, rfl, HO2, HB2⟩
          | (simp [intOf]; omega)
    · have : k = n := by omega
      subst this
      go_wp2_with fail
      go_ret
      exact ⟨g3, n3, c3, HO.out.1, rfl, HO.out.2, HB.out⟩

end Go.Proofs.Ythdiiocgemomoaa.Cond
