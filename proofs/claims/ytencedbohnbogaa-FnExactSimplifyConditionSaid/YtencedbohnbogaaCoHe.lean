/-
  The marks of a condition read back: heldCondition; markCondition of the whole condition.
-/
import Derived.Test.YtencedbohnbogaaCoMk
import Derived.Deep.RegionWith
namespace Go.Proofs.Ytencedbohnbogaa.Cond
open Go.RowKit Go.Proofs.Ytencedbohnbogaa.Mark
set_option linter.unusedVariables false

/-- The parts at A bear their marks from m on. -/
def Held (w : World) (A : Option Addr) (cap : Nat) (ps : List K) (m : Nat) : Prop := Lies w w.heap.size (.mk 0 .empty 0 A cap (mkL ps m))
theorem lies_head {w : World} {B : Nat} {op op' : Int} {nm nm' : ByteArray} {day day' : Int} {A : Option Addr} {cap : Nat} {ps : List K} (h : Lies w B (.mk op nm day A cap ps)) (hn : nm'.size ≤ maxLen) : Lies w B (.mk op' nm' day' A cap ps) := by
  obtain ⟨⟨h1, ⟨_, h3, h4⟩, h5⟩, lt⟩ := h
  exact ⟨⟨h1, ⟨hn, h3, h4⟩, h5⟩, lt⟩
theorem Held.on {w w' : World} {A : Option Addr} {cap : Nat} {ps : List K} {m : Nat} (h : Held w A cap ps m) (hb : Below w.heap.size w w') : Held w' A cap ps m := Lies.on h hb

set_option maxHeartbeats 4000000 in
theorem heldS (k : K) : ∀ (m : Nat) (w : World), 1 ≤ m → m + 3 * sizes (conds k.ps) ≤ 90000000 → Held w k.A k.cap k.ps m →
    Calls Try.prog 25 #[.slice k.A k.ps.length k.cap, .int .i64 (m : Int)] w fun e w' => e = .returned (.int .i64 ((m + 3 * sizes (conds k.ps) : Nat) : Int)) ∧ Below w.heap.size w w' := by
  induction k using K.ind with
  | h op nm day A cap ps ih =>
    intro m w hm0 hm hw
    show Calls Try.prog 25 #[.slice A ps.length cap, .int .i64 (m : Int)] w fun e w' => e = .returned (.int .i64 ((m + 3 * sizes (conds ps) : Nat) : Int)) ∧ Below w.heap.size w w'
    simp only [K.ps, K.A, K.cap] at hm hw
    have HA := Lib.hid hw.at
    have HH := Lib.hid hw
    have hz := hw.sz.2
    have IH := Lib.hid ih
    obtain ⟨n, hn⟩ : ∃ n, n = ps.length := ⟨_, rfl⟩
    have HN := Lib.hid hn
    rw [mkL_length, ← hn] at hz
    rw [← hn]
    unfold maxLen at hz
    have HSM := Lib.hid hm
    clear hn hw ih hm
    go_enter Try.func25, Try.ntmps25
    go_wp2_with fail
    go_loopw [1, 5] (fun v i wr => ∃ (j : Nat) (t : Nat), j ≤ n ∧ i = .int .i64 j ∧ v = .int .i64 (t : Int) ∧ Hid (t = m + 3 * sizes (conds (ps.take j))) ∧ Hid (Below w.heap.size w wr)) (fun _ i _ => n - (intOf i).toNat)
    case atStart => exact ⟨0, m, Nat.zero_le _, rfl, rfl, Lib.hid (by simp [conds, sizes]), Lib.hid (Below.refl _ _)⟩
    case round =>
      obtain ⟨j, t, hj, rfl, rfl, HT, HB⟩ := hrel
      by_cases hlt : j < n
      · have hj' : j < ps.length := by have := HN.out; omega
        obtain ⟨p, hpp⟩ : ∃ p, p = ps[j] := ⟨_, rfl⟩
        have hst := sizes_conds_step hj'
        have hle := sizes_conds_le ps (j + 1)
        have ht1 : 1 ≤ t := by rw [HT.out]; omega
        have ht2 : t + 3 * p.cond.size ≤ 90000000 := by rw [HT.out, hpp]; have := HSM.out; omega
        have hpc : p.cond.size = 1 + sizes (conds p.ps) := by cases p with | mk op' nm' day' A' cap' qs => simp only [K.ps, K.cond, C.size]
        obtain ⟨b, o, rfl, hbB, he⟩ := HA.out (by rw [mkL_length]; omega)
        have hE := (he j (by rw [mkL_length]; exact hj')).alike (HB.out.block b hbB)
        have hIn : Lies wr wr.heap.size ((mkL ps m)[j]'(by rw [mkL_length]; exact hj')) := (HH.out.part (List.getElem_mem _)).on HB.out
        rw [mkL_get ps m j hj', ← HT.out, ← hpp] at hE hIn
        have HPP := Lib.hid hpp
        have HP : Hid (Held wr p.A p.cap p.ps (t + 3)) := Lib.hid (by
          cases hk : p with
          | mk op' nm' day' A' cap' qs =>
            rw [hk] at hIn
            exact lies_head hIn (by simp [maxLen]))
        obtain ⟨s, hs⟩ : ∃ s, s = mt (t + 1) := ⟨_, rfl⟩
        have c0 : wr.cell? ⟨b, o + j * 4, none⟩ = some (.int .i64 (t : Int)) := by cases hk : p with | mk op' nm' day' A' cap' qs => rw [hk] at hE; exact hE.c0
        have c1 : wr.cell? ⟨b, o + j * 4 + 1, none⟩ = some (.string s) := by rw [hs]; cases hk : p with | mk op' nm' day' A' cap' qs => rw [hk] at hE; exact hE.c1
        have c2 : wr.cell? ⟨b, o + j * 4 + 2, none⟩ = some (.int .i64 ((t : Int) + 1 + 1)) := by
          rw [show (t : Int) + 1 + 1 = ((t + 2 : Nat) : Int) by omega]
          cases hk : p with | mk op' nm' day' A' cap' qs => rw [hk] at hE; exact hE.c2
        have c3 : wr.cell? ⟨b, o + j * 4 + 3, none⟩ = some (.slice p.A p.ps.length p.cap) := by
          cases hk : p with | mk op' nm' day' A' cap' qs => rw [hk] at hE; have := hE.c3; simp only [mkK, K.A, K.ps, K.cap, mkL_length] at this ⊢; exact this
        have hbw : b < wr.heap.size := World.block_lt_of_cell? wr ⟨b, o + j * 4, none⟩ c0
        have C : Hid (∀ v, Below wr.heap.size wr v → v.cell? ⟨b, o + j * 4 + 1, none⟩ = some (.string s) ∧ v.cell? ⟨b, o + j * 4 + 2, none⟩ = some (.int .i64 ((t : Int) + 1 + 1)) ∧ v.cell? ⟨b, o + j * 4 + 3, none⟩ = some (.slice p.A p.ps.length p.cap)) := Lib.hid fun v hv =>
          ⟨(hv.cell (p := ⟨b, o + j * 4 + 1, none⟩) hbw).trans c1, (hv.cell (p := ⟨b, o + j * 4 + 2, none⟩) hbw).trans c2, (hv.cell (p := ⟨b, o + j * 4 + 3, none⟩) hbw).trans c3⟩
        have HMT : Hid (Calls Try.prog 46 #[.int .i64 ((t : Int) + 1)] wr.drew fun e w' => e = .returned (.string s) ∧ Below wr.heap.size wr w' ∧ w'.cell? ⟨b, o + j * 4 + 1, none⟩ = some (.string s)) := Lib.hid (by
          have := markText (t + 1) (by omega) (by omega) wr.drew
          rw [show ((t + 1 : Nat) : Int) = (t : Int) + 1 by omega, ← hs] at this
          refine this.mono ?_
          rintro e w3 ⟨rfl, hb3⟩
          have hb4 : Below wr.heap.size wr w3 := ⟨hb3.os, hb3.tape, hb3.output, hb3.size, hb3.block⟩
          exact ⟨rfl, hb4, (C.out w3 hb4).1⟩)
        have c1' : wr.drew.cell? ⟨b, o + j * 4 + 1, none⟩ = some (.string s) := c1
        have HR : Hid (∀ v, Below wr.heap.size wr v → Calls Try.prog 25 #[.slice p.A p.ps.length p.cap, .int .i64 ((t : Int) + 1 + 1 + 1)] v fun e w' => e = .returned (.int .i64 ((t + 3 + 3 * sizes (conds p.ps) : Nat) : Int)) ∧ Below v.heap.size v w') := Lib.hid fun v hv => by
          have := IH.out p (by rw [hpp]; exact List.getElem_mem hj') (t + 3) v (by omega) (by omega) (HP.out.on hv)
          rw [show ((t + 3 : Nat) : Int) = (t : Int) + 1 + 1 + 1 by omega] at this
          exact this
        obtain ⟨t2, ht2'⟩ : ∃ t2, t2 = t + 3 + 3 * sizes (conds p.ps) := ⟨_, rfl⟩
        rw [← ht2'] at HR
        have HTN : Hid (t2 = m + 3 * sizes (conds (ps.take (j + 1)))) := Lib.hid (by rw [ht2', hst, HT.out, ← hpp, hpc]; omega)
        have ht3 : t ≤ 90000000 := by omega
        have ht5 : (0 : Int) ≤ (t2 : Int) := by omega
        have i0 : (0 : Int) ≤ (j : Int) := by omega
        have i1 : (j : Int) < (n : Int) := by omega
        clear hE hIn hpp hst hle hpc ht2' he hs c1 c2 c3
        go_wp2_with fail
        go_region_with (go_at_call 46; refine HMT.out.mono ?_; rintro e w3 ⟨rfl, hb3, hc3⟩)
        all_goals
          obtain ⟨d1, d2, d3⟩ := C.out w3 hb3
          have HR3 := Lib.hid (HR.out w3 hb3)
          have HB3 := Lib.hid (HB.out.trans (hb3.mono HB.out.size))
          clear hb3 hc3 d1
          go_wp2_with (go_at_call 25; refine HR3.out.mono ?_; rintro e w4 ⟨rfl, hb4⟩)
          go_roundw
          all_goals first
            | exact ⟨j + 1, t2, by omega, by go_num, rfl, HTN, Lib.hid (HB3.out.trans (hb4.mono HB3.out.size))⟩
            | (simp [intOf]; omega)
      · have HE : Hid (ps.take j = ps) := Lib.hid (List.take_of_length_le (by have := HN.out; omega))
        go_wp2_with fail
        go_ret
        refine ⟨?_, HB.out⟩
        have := HT.out
        rw [HE.out] at this
        rw [← this]; rfl

theorem heldC (k : K) (m : Nat) (w : World) (hm0 : 1 ≤ m) (hm : m + 3 * sizes (conds k.ps) ≤ 90000000) (hw : Held w k.A k.cap k.ps m) :
    Calls Try.prog 11 #[k.val, .int .i64 (m : Int)] w fun e w' => e = .returned (.int .i64 ((m + 3 * sizes (conds k.ps) : Nat) : Int)) ∧ Below w.heap.size w w' := by
  have B0 := Lib.hid (below1 w (.cells #[.int .i64 k.op, .string k.nm, .int .i64 k.day, .slice k.A k.ps.length k.cap] 28))
  have HS := Lib.hid (heldS k m _ hm0 hm (hw.on B0.out))
  have h0 : (0 : Int) ≤ ((m + 3 * sizes (conds k.ps) : Nat) : Int) := by omega
  clear hw hm hm0
  generalize m + 3 * sizes (conds k.ps) = t at *
  go_enter Try.func11, Try.ntmps11
  go_wp2_with (go_at_call 25; refine HS.out.mono ?_; rintro e w2 ⟨rfl, hb2⟩)
  go_ret
  exact ⟨rfl, B0.out.trans (hb2.mono B0.out.size)⟩

theorem markC (k : K) (m : Nat) (w : World) (hm0 : 1 ≤ m) (hm : m + 3 * sizes (conds k.ps) ≤ 90000000) (hw : Wr w k) :
    Calls Try.prog 10 #[k.val, .int .i64 (m : Int)] w fun e w' => e = .returned (.int .i64 ((m + 3 * sizes (conds k.ps) : Nat) : Int)) ∧ Held w' k.A k.cap k.ps m ∧ Mv (· ∈ k.blocks) (· ∈ k.blocks) w w' := by
  have B0 := Lib.hid (below1 w (.cells #[.int .i64 k.op, .string k.nm, .int .i64 k.day, .slice k.A k.ps.length k.cap] 28))
  have HS := Lib.hid (markS k m _ hm0 hm (hw.same (fun b hb => B0.out.block b (hw.lt b hb)) B0.out.size))
  have HF : Hid (∀ v, (K.mk k.op k.nm k.day k.A k.cap (mkL k.ps m)).In v → Held v k.A k.cap k.ps m) := Lib.hid fun v h => lies_head ⟨h, In_lt h⟩ (by simp [maxLen])
  clear hw hm hm0
  generalize m + 3 * sizes (conds k.ps) = t at *
  go_enter Try.func10, Try.ntmps10
  go_wp2_with (go_at_call 24; refine HS.out.mono ?_; rintro e w2 ⟨rfl, hi2, hm2⟩)
  go_ret
  exact ⟨rfl, HF.out _ hi2, (Mv.of_below B0.out).trans hm2⟩

end Go.Proofs.Ytencedbohnbogaa.Cond
