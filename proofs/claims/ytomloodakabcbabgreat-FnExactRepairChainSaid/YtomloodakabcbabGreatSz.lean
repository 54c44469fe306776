/-
  What the laws' helper szCondition takes away.
-/
import Derived.Test.YtomloodakabcbabGreatCondQ
import Derived.WalkSmall
import Derived.Deep.QuietTactic
import Derived.BigQuiet
namespace Go.Proofs.YtomloodakabcbabGreat.Cond
open Go.RowKit

theorem below1 (w : World) (o : Obj) : Below w.heap.size w (w.alloc o) := (Below.refl _ _).alloc (Nat.le_refl _) _

def szRes (m t : Nat) : Int := if m < t then -1 else ((m - t : Nat) : Int)
/-- The parts of a slice of conditions lie at A, below block B. -/
def At (w : World) (B : Nat) (A : Option Addr) (ps : List K) : Prop :=
  0 < ps.length → ∃ b o, A = some ⟨b, o, none⟩ ∧ b < B ∧ ∀ i, ∀ h : i < ps.length, El w b (o + i * 4) ps[i]
theorem At.below {w w' : World} {B : Nat} {A : Option Addr} {ps : List K} (h : At w B A ps) (hb : Below B w w') : At w' B A ps := fun hp => by
  obtain ⟨b, o, e, hB, hc⟩ := h hp
  exact ⟨b, o, e, hB, fun i hi => (hc i hi).alike (hb.block b hB)⟩
theorem At.more {w : World} {B B' : Nat} {A : Option Addr} {ps : List K} (h : At w B A ps) (hB : B ≤ B') : At w B' A ps := fun hp => by
  obtain ⟨b, o, e, hB', hc⟩ := h hp
  exact ⟨b, o, e, by omega, hc⟩
/-- A condition lies below block B. -/
structure Lies (w : World) (B : Nat) (k : K) : Prop where
  has : k.In w
  lt : ∀ b ∈ k.blocks, b < B
theorem Lies.below {w w' : World} {B : Nat} {k : K} (h : Lies w B k) (hb : Below B w w') : Lies w' B k := ⟨h.has.alike fun b hb' => hb.block b (h.lt b hb'), h.lt⟩
theorem Lies.more {w : World} {B B' : Nat} {k : K} (h : Lies w B k) (hB : B ≤ B') : Lies w B' k := ⟨h.has, fun b hb => Nat.lt_of_lt_of_le (h.lt b hb) hB⟩
theorem Lies.on {w w' : World} {k : K} (h : Lies w w.heap.size k) (hb : Below w.heap.size w w') : Lies w' w'.heap.size k := (h.below hb).more hb.size
theorem Lies.part {w : World} {B : Nat} {op : Int} {nm : ByteArray} {day : Int} {A : Option Addr} {cap : Nat} {ps : List K} (h : Lies w B (.mk op nm day A cap ps)) {p : K} (hp : p ∈ ps) : Lies w B p :=
  ⟨h.has.part hp, fun b hb => h.lt b (part_blocks hp hb)⟩
theorem Lies.at {w : World} {B : Nat} {op : Int} {nm : ByteArray} {day : Int} {A : Option Addr} {cap : Nat} {ps : List K} (h : Lies w B (.mk op nm day A cap ps)) : At w B A ps := fun hp => by
  obtain ⟨⟨h1, _, _⟩, lt⟩ := h
  obtain ⟨b, o, rfl, he⟩ := h1 hp
  refine ⟨b, o, rfl, lt b ?_, he⟩
  cases ps with
  | nil => simp at hp
  | cons p ps => simp [K.blocks]
theorem Lies.sz {w : World} {B : Nat} {op : Int} {nm : ByteArray} {day : Int} {A : Option Addr} {cap : Nat} {ps : List K} (h : Lies w B (.mk op nm day A cap ps)) : nm.size ≤ maxLen ∧ ps.length ≤ maxLen := by
  obtain ⟨⟨_, ⟨h1, h2, h3⟩, _⟩, _⟩ := h
  exact ⟨h1, by omega⟩

set_option maxHeartbeats 1000000 in
theorem szS (A : Option Addr) (cap : Nat) (ps : List K) (m : Nat) (hm : m ≤ 1048576) (hl : ps.length ≤ maxLen) (w : World) (hA : At w w.heap.size A ps)
    (ih : ∀ p ∈ ps, ∀ (m : Nat) (v : World), m ≤ 1048576 → Below w.heap.size w v → Calls Tryz.prog 43 #[p.val, .int .i64 m] v fun e w' => e = .returned (.int .i64 (szRes m p.cond.wt)) ∧ Below v.heap.size v w') :
    Calls Tryz.prog 58 #[.slice A ps.length cap, .int .i64 m] w fun e w' => e = .returned (.int .i64 (szRes m (wts (conds ps)))) ∧ Below w.heap.size w w' := by
  unfold maxLen at hl
  have HL := Lib.hid (fun i hi => wts_len (conds ps) i hi)
  have HC : Hid ((conds ps).length = ps.length) := Lib.hid (by rw [conds_map]; simp)
  obtain ⟨n, hn⟩ : ∃ n, n = ps.length := ⟨_, rfl⟩
  have HN := Lib.hid hn
  rw [← hn] at hl ⊢
  clear hn
  by_cases hbig : m < n
  · go_enter Tryz.func58, Tryz.ntmps58
    go_wp2
    go_ret
    refine ⟨?_, Below.refl _ _⟩
    have h1 := HL.out 0 (Nat.zero_le _); have h2 := HC.out; have h3 := HN.out
    simp [wts] at h1
    rw [szRes, if_pos (by omega)]; rfl
  · go_enter Tryz.func58, Tryz.ntmps58
    go_wp2_with fail
    go_loopw [1, 5] (fun l i wr => ∃ (k t : Nat), k ≤ n ∧ t ≤ 1048576 ∧ i = .int .i64 k ∧ l = .int .i64 (t : Int) ∧ Hid (t + n + wts ((conds ps).take k) = m + k) ∧ Below w.heap.size w wr) (fun _ i _ => n - (intOf i).toNat)
    case atStart => exact ⟨0, m - n, Nat.zero_le _, by omega, rfl, by congr 1; omega, Lib.hid (by simp [wts]; omega), Below.refl _ _⟩
    case round =>
      obtain ⟨k, t, hk, ht, rfl, rfl, HT, hb⟩ := hrel
      by_cases hlt : k < n
      · have hk' : k < ps.length := by have := HN.out; omega
        obtain ⟨b, o, rfl, hB, hc⟩ := hA (by omega)
        obtain ⟨p, hp⟩ : ∃ p, p = ps[k] := ⟨_, rfl⟩
        have hE := (hc k hk').alike (hb.block b hB)
        rw [← hp] at hE
        obtain ⟨c0, c1, c2, c3⟩ := hE
        have hkc : k < (conds ps).length := by have := HC.out; omega
        have HW : Hid (wts ((conds ps).take (k + 1)) = wts ((conds ps).take k) + 1 + p.cond.wt) := Lib.hid (by
          have := wt_part hkc
          rw [this, hp]; congr 2
          simp [conds_map])
        have HV := Lib.hid (HL.out (k + 1) (by omega))
        have IH := ih p (by rw [hp]; exact List.getElem_mem hk') t wr ht hb
        have HB := Lib.hid hb
        clear hp hc ih hkc hb
        by_cases hneg : t < p.cond.wt
        · rw [szRes, if_pos hneg] at IH
          have IHH := Lib.hid IH
          clear IH
          go_wp2_with (go_at_call 43; refine IHH.out.mono ?_; rintro e w2 ⟨rfl, hb2⟩)
          go_ret
          refine ⟨?_, HB.out.trans (hb2.mono HB.out.size)⟩
          have := HW.out; have := HV.out; have := HT.out; have := HC.out; have := HN.out
          rw [szRes, if_pos (by omega)]; rfl
        · rw [szRes, if_neg hneg] at IH
          have IHH := Lib.hid IH
          have ht2 : (0 : Int) ≤ ((t - p.cond.wt : Nat) : Int) := by omega
          have HT2 : Hid (t - p.cond.wt + n + wts ((conds ps).take (k + 1)) = m + (k + 1)) := Lib.hid (by have := HT.out; have := HW.out; omega)
          have ht3 : t - p.cond.wt ≤ 1048576 := by omega
          clear IH
          generalize t - p.cond.wt = t2 at *
          go_wp2_with (go_at_call 43; refine IHH.out.mono ?_; rintro e w2 ⟨rfl, hb2⟩)
          go_roundw
          case rel => exact ⟨k + 1, t2, by omega, ht3, by go_num, rfl, HT2, HB.out.trans (hb2.mono HB.out.size)⟩
          case measure => simp [intOf]; omega
      · have HE : Hid ((conds ps).take k = conds ps) := Lib.hid (List.take_of_length_le (by have := HN.out; have := HC.out; omega))
        clear ih
        go_wp2_with fail
        go_ret
        refine ⟨?_, hb⟩
        have h1 := HT.out; rw [HE.out] at h1; have := HN.out
        rw [szRes, if_neg (by omega)]
        show Ending.returned (.int .i64 (t : Int)) = _
        congr 2; omega

set_option maxHeartbeats 1000000 in
theorem sz (k : K) : ∀ (m : Nat) (w : World), m ≤ 1048576 → Lies w w.heap.size k →
    Calls Tryz.prog 43 #[k.val, .int .i64 m] w fun e w' => e = .returned (.int .i64 (szRes m k.cond.wt)) ∧ Below w.heap.size w w' := by
  induction k using K.ind with
  | h op nm day A cap ps ih =>
    intro m w hm hin
    have hz := hin.sz
    have hA := Lib.hid hin.at
    have IH : Hid (∀ p ∈ ps, ∀ (m : Nat) (v : World), m ≤ 1048576 → Below w.heap.size w v → Calls Tryz.prog 43 #[p.val, .int .i64 m] v fun e w' => e = .returned (.int .i64 (szRes m p.cond.wt)) ∧ Below v.heap.size v w') :=
      Lib.hid fun p hp m v hm hb => ih p hp m v hm ((hin.part hp).on hb)
    have HZ := Lib.hid hz.2
    have hn := hz.1
    unfold maxLen at hn
    clear hin ih hz
    show Calls Tryz.prog 43 #[.agg #[.int .i64 op, .string nm, .int .i64 day, .slice A ps.length cap], .int .i64 m] w fun e w' => e = .returned (.int .i64 (szRes m (nm.size + wts (conds ps)))) ∧ Below w.heap.size w w'
    by_cases h : m < nm.size
    · go_enter Tryz.func43, Tryz.ntmps43
      go_wp2
      go_ret
      refine ⟨?_, below1 _ _⟩
      rw [szRes, if_pos (by omega)]; rfl
    · have HS := szS A cap ps (m - nm.size) (by omega) HZ.out (w.alloc (.cells #[.int .i64 op, .string nm, .int .i64 day, .slice A ps.length cap] 62)) ((hA.out.below (below1 _ _)).more (below1 _ _).size)
        (fun p hp m v hm hb => IH.out p hp m v hm ((below1 _ _).trans (hb.mono (below1 _ _).size)))
      have hq : ((m - nm.size : Nat) : Int) = (m : Int) - (nm.size : Int) := by omega
      rw [hq] at HS
      clear hq
      by_cases h2 : m - nm.size < wts (conds ps)
      · rw [szRes, if_pos h2] at HS
        have HSH := Lib.hid HS
        clear HS
        go_enter Tryz.func43, Tryz.ntmps43
        go_wp2_with (go_at_call 58; refine HSH.out.mono ?_; rintro e w2 ⟨rfl, hb2⟩)
        go_ret
        refine ⟨?_, (below1 _ _).trans (hb2.mono (below1 _ _).size)⟩
        rw [szRes, if_pos (by omega)]; rfl
      · rw [szRes, if_neg h2] at HS
        have HSH := Lib.hid HS
        have hq : (0 : Int) ≤ ((m - nm.size - wts (conds ps) : Nat) : Int) := by omega
        have HF : Hid (szRes m (nm.size + wts (conds ps)) = ((m - nm.size - wts (conds ps) : Nat) : Int)) := Lib.hid (by rw [szRes, if_neg (by omega)]; omega)
        clear HS h2
        generalize m - nm.size - wts (conds ps) = t2 at *
        go_enter Tryz.func43, Tryz.ntmps43
        go_wp2_with (go_at_call 58; refine HSH.out.mono ?_; rintro e w2 ⟨rfl, hb2⟩)
        go_ret
        exact ⟨by rw [HF.out]; rfl, (below1 _ _).trans (hb2.mono (below1 _ _).size)⟩

end Go.Proofs.YtomloodakabcbabGreat.Cond
