/-
  Comparing two events: cmp.Compare, cmp.Or and CompareEvents of the program, l8Compare of the model.
  A valid event: l8Event of the model, isValid of the program.
  Valid rows of events: l8Valid of the model; the library's ContainsFunc with its closure, areValidEvents of the program.
  Event lists: areValidEvents and sort.IsSorted of the program, l8Good of the model; both IsValidEvents.
  Event lists: l8Good of the model, sort.IsSorted of the program; both IsValidEvents.
  Valid contracts in plain facts.
  l6Find and l6Clause of the model.
  Valid contracts by the model: l6Parties, l6Names.
  Valid contracts by the model: l6Good, IsValidContract.
  The numbers of clauses by their Ids, as a map in memory.
  What the program's checks of a contract come to, in plain facts.
  The program's checks of a clause by itself and of the parties.
  The program's check of the parties.
-/
import Derived.Test.YtgjihejneadadaaDoorEtTo
import Derived.Laws.Cover1
import Derived.Sort.Walk0
import Derived.Deep.RegionHeld3
import Derived.Test.YtgjihejneadadaaDoorNm
import Derived.Test.YtgjihejneadadaaDoorNmI
import Derived.Test.YtgjihejneadadaaDoorFm
import Derived.Deep.QuietTactic
import Derived.BigQuiet
import Derived.Test.YtgjihejneadadaaDoorCl
import Derived.Test.YtgjihejneadadaaDoorHold
import Derived.Test.YtgjihejneadadaaDoorNdS
import Derived.Maps.OwnSet
import Derived.Maps.OwnOps
import Derived.Test.YtgjihejneadadaaDoorGoodI
import Derived.Test.YtgjihejneadadaaDoorShelfNm
namespace Go.Proofs.YtgjihejneadadaaDoor.Et
open Go.RowKit Go.Proofs.YtgjihejneadadaaDoor.Cond Go.Proofs.YtgjihejneadadaaDoor.Gx
set_option linter.unusedVariables false
set_option linter.unusedSimpArgs false

theorem nanI (x : Int) (w : World) : Calls Tryd.prog 106 #[.int .i64 x] w fun e w' => e = .returned (.bool false) ∧ w' = w := by
  go_enter Tryd.func106, Tryd.ntmps106
  go_wp2
  go_ret
  exact ⟨by simp, rfl⟩
theorem nanS (x : ByteArray) (w : World) : Calls Tryd.prog 107 #[.string x] w fun e w' => e = .returned (.bool false) ∧ w' = w := by
  go_enter Tryd.func107, Tryd.ntmps107
  go_wp2
  go_ret
  exact ⟨by simp, rfl⟩

def cI (x y : Int) : Int := if x < y then -1 else if y < x then 1 else 0
def cS (x y : ByteArray) : Int := if Op.bytesLess x.toList y.toList = true then -1 else if x.toList = y.toList then 0 else 1
theorem cmpI (x y : Int) (w : World) : Calls Tryd.prog 104 #[.int .i64 x, .int .i64 y] w fun e w' => e = .returned (.int .i64 (cI x y)) ∧ w' = w := by
  have HN := Lib.hid nanI
  go_enter Tryd.func104, Tryd.ntmps104
  go_wp2_with (go_at_call 106; refine (HN.out _ _).mono ?_; rintro e w1 ⟨rfl, hb1⟩; rw [hb1])
  all_goals go_ret
  all_goals refine ⟨?_, rfl⟩
  all_goals unfold cI
  all_goals (repeat' split) <;> first | rfl | (exfalso; omega)
theorem toL_inj {x y : ByteArray} (h : x.toList = y.toList) : x = y := by
  rw [Lib.toList_data, Lib.toList_data] at h
  cases x; cases y
  simp only at h
  congr 1
  exact Array.toList_inj.1 h
theorem cmpS (x y : ByteArray) (w : World) : Calls Tryd.prog 105 #[.string x, .string y] w fun e w' => e = .returned (.int .i64 (cS x y)) ∧ w' = w := by
  have HN := Lib.hid nanS
  by_cases h1 : Op.bytesLess x.toList y.toList = true
  · have hc : Hid (cS x y = -1) := Lib.hid (by rw [cS, if_pos h1])
    go_enter Tryd.func105, Tryd.ntmps105
    go_wp2_with (go_at_call 107; refine (HN.out _ _).mono ?_; rintro e w1 ⟨rfl, hb1⟩; rw [hb1])
    go_ret
    exact ⟨by rw [hc.out]; rfl, rfl⟩
  · have h1' : Op.bytesLess x.toList y.toList = false := by simpa using h1
    by_cases h2 : x.toList = y.toList
    · have hc : Hid (cS x y = 0) := Lib.hid (by rw [cS, if_neg h1, if_pos h2])
      obtain rfl : x = y := toL_inj h2
      clear h1 h2
      go_enter Tryd.func105, Tryd.ntmps105
      go_wp2_with (go_at_call 107; refine (HN.out _ _).mono ?_; rintro e w1 ⟨rfl, hb1⟩; rw [hb1])
      go_ret
      exact ⟨by rw [hc.out]; rfl, rfl⟩
    · have hc : Hid (cS x y = 1) := Lib.hid (by rw [cS, if_neg h1, if_neg h2])
      have h3 : (x.toList == y.toList) = false := by simpa using h2
      go_enter Tryd.func105, Tryd.ntmps105
      go_wp2_with (go_at_call 107; refine (HN.out _ _).mono ?_; rintro e w1 ⟨rfl, hb1⟩; rw [hb1])
      go_ret
      exact ⟨by rw [hc.out]; rfl, rfl⟩

def orI : List Int → Int
  | [] => 0
  | z :: zs => if z = 0 then orI zs else z
theorem orI_drop : ∀ (zs : List Int) (k : Nat) (h : k < zs.length), orI (zs.drop k) = if zs[k] = 0 then orI (zs.drop (k + 1)) else zs[k]
  | z :: zs, 0, _ => rfl
  | z :: zs, k + 1, h => by
    have := orI_drop zs k (by simpa using h)
    simpa using this

set_option maxHeartbeats 4000000 in
theorem cmpOr (b n cap : Nat) (zs : List Int) (w : World) (hn : n = zs.length) (hm : n ≤ 9223372036854775807) (hb : b < w.heap.size) (hc : ∀ j, ∀ h : j < zs.length, w.cell? ⟨b, j, none⟩ = some (.int .i64 zs[j])) :
    Calls Tryd.prog 103 #[.slice (some ⟨b, 0, none⟩) n cap] w fun e w' => e = .returned (.int .i64 (orI zs)) ∧ Below w.heap.size w w' := by
  have HC := Lib.hid hc
  have HN := Lib.hid hn
  clear hc hn
  go_enter Tryd.func103, Tryd.ntmps103
  go_wp2_with fail
  go_loopw [8] (fun i wr => ∃ k : Nat, k ≤ n ∧ i = .int .i64 k ∧ Hid (orI (zs.drop k) = orI zs) ∧ w = wr) (fun i _ => n - (intOf i).toNat)
  case atStart => exact ⟨0, Nat.zero_le _, rfl, Lib.hid rfl, rfl⟩
  case round =>
    obtain ⟨k, hk, rfl, HK, rfl⟩ := hrel
    by_cases hlt : k < n
    · have hk' : k < zs.length := by have := HN.out; omega
      have c0 := HC.out k hk'
      have hd := orI_drop zs k hk'
      rw [HK.out] at hd
      obtain ⟨z, hz⟩ : ∃ z, z = zs[k] := ⟨_, rfl⟩
      rw [← hz] at c0 hd
      have i0 : (0 : Int) ≤ (k : Int) := by omega
      have i1 : (k : Int) < (n : Int) := by omega
      by_cases h0 : z = 0
      · rw [if_pos h0] at hd
        have HD := Lib.hid hd.symm
        subst h0
        clear hd hz
        go_wp2_with fail
        go_roundw
        case rel => exact ⟨k + 1, by omega, by go_num, HD, trivial⟩
        case measure => simp [intOf]; omega
      · rw [if_neg h0] at hd
        have HD := Lib.hid hd
        clear hd hz
        go_wp2_with fail
        go_ret
        exact ⟨by rw [HD.out]; rfl, Below.refl _ _⟩
    · have HE : Hid (orI zs = 0) := Lib.hid (by
        have := HK.out
        rw [List.drop_of_length_le (by have := HN.out; omega)] at this
        rw [← this]; rfl)
      go_wp2_with fail
      go_ret
      exact ⟨by rw [HE.out]; rfl, Below.refl _ _⟩

/-- How two events compare. -/
def cE (a b : E) : Int := orI [cI a.day b.day, cI a.party b.party, cS a.act b.act, cI a.amt b.amt]

set_option maxHeartbeats 4000000 in
theorem implCE (a b : E) (w : World) :
    Calls Tryd.prog 102 #[a.val, b.val] w fun e w' => e = .returned (.int .i64 (cE a b)) ∧ Below w.heap.size w w' := by
  have H1 := Lib.hid cmpI
  have H2 := Lib.hid cmpS
  obtain ⟨X, hX⟩ : ∃ X, X = (w.alloc (.cells #[.int .i64 a.day, .int .i64 a.party, .string a.act, .int .i64 a.amt] 29)).alloc (.cells #[.int .i64 b.day, .int .i64 b.party, .string b.act, .int .i64 b.amt] 29) := ⟨_, rfl⟩
  have B0 := Lib.hid (show Below w.heap.size w X by rw [hX]; exact (below1 _ _).alloc (by simp) _)
  have P0 : Hid (Bk w.heap.size X a.cells) := Lib.hid (by rw [hX]; exact (Bk.new w #[.int .i64 a.day, .int .i64 a.party, .string a.act, .int .i64 a.amt] 29).alloc _)
  have Q0 : Hid (Bk (w.heap.size + 1) X b.cells) := Lib.hid (by
    rw [hX]
    have := Bk.new (w.alloc (.cells #[.int .i64 a.day, .int .i64 a.party, .string a.act, .int .i64 a.amt] 29)) #[.int .i64 b.day, .int .i64 b.party, .string b.act, .int .i64 b.amt] 29
    rw [World.size_alloc] at this
    exact this)
  have KX : Hid (∀ v, Below X.heap.size X v → (v.cell? ⟨w.heap.size, 0, none⟩ = some (.int .i64 a.day) ∧ v.cell? ⟨w.heap.size, 1, none⟩ = some (.int .i64 a.party) ∧ v.cell? ⟨w.heap.size, 2, none⟩ = some (.string a.act) ∧ v.cell? ⟨w.heap.size, 3, none⟩ = some (.int .i64 a.amt)) ∧ v.cell? ⟨w.heap.size + 1, 0, none⟩ = some (.int .i64 b.day) ∧ v.cell? ⟨w.heap.size + 1, 1, none⟩ = some (.int .i64 b.party) ∧ v.cell? ⟨w.heap.size + 1, 2, none⟩ = some (.string b.act) ∧ v.cell? ⟨w.heap.size + 1, 3, none⟩ = some (.int .i64 b.amt)) := Lib.hid fun v hv => ⟨b4 (P0.out.on hv), b4 (Q0.out.on hv)⟩
  have HO : Hid (∀ v, Calls Tryd.prog 103 #[.slice (some ⟨v.heap.size, 0, none⟩) 4 4] (v.alloc (.cells #[.int .i64 (cI a.day b.day), .int .i64 (cI a.party b.party), .int .i64 (cS a.act b.act), .int .i64 (cI a.amt b.amt)] 3)).drew fun e w' => e = .returned (.int .i64 (cE a b)) ∧ Below v.heap.size v w') := Lib.hid fun v => by
    have hbk := Bk.new v #[.int .i64 (cI a.day b.day), .int .i64 (cI a.party b.party), .int .i64 (cS a.act b.act), .int .i64 (cI a.amt b.amt)] 3
    have hb := below1 v (.cells #[.int .i64 (cI a.day b.day), .int .i64 (cI a.party b.party), .int .i64 (cS a.act b.act), .int .i64 (cI a.amt b.amt)] 3)
    refine (cmpOr v.heap.size 4 4 [cI a.day b.day, cI a.party b.party, cS a.act b.act, cI a.amt b.amt] _ rfl (by omega) hbk.drew.lt fun j hj => ?_).mono fun e w' h => ⟨h.1, (Below.drew hb).trans (h.2.mono hb.size)⟩
    have := hbk.drew.c j hj
    rw [this]
    match j, hj with
    | 0, _ => rfl
    | 1, _ => rfl
    | 2, _ => rfl
    | 3, _ => rfl
  have HX := Lib.hid hX
  obtain ⟨⟨x0, x1, x2, x3⟩, y0, y1, y2, y3⟩ := KX.out X (Below.refl _ _)
  clear P0 Q0
  go_enter Tryd.func102, Tryd.ntmps102
  go_wp2_with fail
  rw [← hX]
  clear hX
  go_region_held3 (fun v => (v.cell? ⟨w.heap.size, 0, none⟩ = some (.int .i64 a.day) ∧ v.cell? ⟨w.heap.size, 1, none⟩ = some (.int .i64 a.party) ∧ v.cell? ⟨w.heap.size, 2, none⟩ = some (.string a.act) ∧ v.cell? ⟨w.heap.size, 3, none⟩ = some (.int .i64 a.amt)) ∧ v.cell? ⟨w.heap.size + 1, 0, none⟩ = some (.int .i64 b.day) ∧ v.cell? ⟨w.heap.size + 1, 1, none⟩ = some (.int .i64 b.party) ∧ v.cell? ⟨w.heap.size + 1, 2, none⟩ = some (.string b.act) ∧ v.cell? ⟨w.heap.size + 1, 3, none⟩ = some (.int .i64 b.amt)) (first | (refine KX.out _ ?_; (repeat (first | exact Below.refl _ _ | exact bx | apply Below.drew | refine Below.alloc ?_ (by first | omega | (simp; done) | (simp; omega)) _)); done))
    (first
      | (go_at_call 104; (with_reducible refine (H1.out _ _ _).mono ?_); rintro e w1 ⟨rfl, hb1⟩; rw [hb1]; clear hb1)
      | (go_at_call 105; (with_reducible refine (H2.out _ _ _).mono ?_); rintro e w1 ⟨rfl, hb1⟩; rw [hb1]; clear hb1)
      | (go_at_call 103; (with_reducible refine (HO.out _).mono ?_); rintro e w1 ⟨rfl, bx⟩))
  all_goals go_wp2_with fail
  all_goals go_ret
  all_goals exact ⟨rfl, B0.out.trans (bx.mono B0.out.size)⟩

set_option maxHeartbeats 4000000 in
theorem specCE (a b : E) (w : World) :
    Calls Tryd.prog 42 #[a.val, b.val] w fun e w' => e = .returned (.int .i64 (cE a b)) ∧ Below w.heap.size w w' := by
  obtain ⟨X, hX⟩ : ∃ X, X = (w.alloc (.cells #[.int .i64 a.day, .int .i64 a.party, .string a.act, .int .i64 a.amt] 29)).alloc (.cells #[.int .i64 b.day, .int .i64 b.party, .string b.act, .int .i64 b.amt] 29) := ⟨_, rfl⟩
  have B0 := Lib.hid (show Below w.heap.size w X by rw [hX]; exact (below1 _ _).alloc (by simp) _)
  have P0 : Hid (Bk w.heap.size X a.cells) := Lib.hid (by rw [hX]; exact (Bk.new w #[.int .i64 a.day, .int .i64 a.party, .string a.act, .int .i64 a.amt] 29).alloc _)
  have Q0 : Hid (Bk (w.heap.size + 1) X b.cells) := Lib.hid (by
    rw [hX]
    have := Bk.new (w.alloc (.cells #[.int .i64 a.day, .int .i64 a.party, .string a.act, .int .i64 a.amt] 29)) #[.int .i64 b.day, .int .i64 b.party, .string b.act, .int .i64 b.amt] 29
    rw [World.size_alloc] at this
    exact this)
  obtain ⟨x0, x1, x2, x3⟩ := b4 P0.out
  obtain ⟨y0, y1, y2, y3⟩ := b4 Q0.out
  clear P0 Q0
  go_enter Tryd.func42, Tryd.ntmps42
  go_wp2_with fail
  rw [← hX]
  clear hX
  go_quiet (fail)
  go_wp2_with fail
  all_goals go_ret
  all_goals refine ⟨?_, below_drewN B0.out _⟩
  all_goals clear x0 x1 x2 x3 y0 y1 y2 y3 B0
  all_goals refine congrArg (fun z => Ending.returned (Value.int .i64 z)) (?_ : _ = cE a b)
  all_goals unfold cE
  all_goals simp only [orI, cI, cS]
  all_goals (repeat' split)
  all_goals first | rfl | omega | (exfalso; simp_all; done) | (exfalso; simp_all; omega)

end Go.Proofs.YtgjihejneadadaaDoor.Et

namespace Go.Proofs.YtgjihejneadadaaDoor.Et
open Go.RowKit Go.Proofs.YtgjihejneadadaaDoor.Cond Go.Proofs.YtgjihejneadadaaDoor.Gx
set_option linter.unusedVariables false
set_option linter.unusedSimpArgs false

/-- A valid event, the last party being q. -/
def okE (m : E) (q : Int) : Bool := isDy m.day && ((decide (0 ≤ m.party) && decide (m.party ≤ q)) && (isNm m.act && (decide (0 ≤ m.amt) && decide (m.amt ≤ 1000000))))

set_option maxHeartbeats 4000000 in
theorem l8Event (m : E) (p q : Int) (hp : -9223372036854775808 ≤ p) (hp2 : p ≤ 9223372036854775807) (hq : (-9223372036854775808 < p ∧ q = p - 1) ∨ (p = -9223372036854775808 ∧ q = wrap64 (-9223372036854775809))) (w : World) :
    Calls Tryd.prog 18 #[m.val, .int .i64 p] w fun e w' => e = .returned (.bool (okE m q)) ∧ Below w.heap.size w w' := by
  obtain ⟨X, hX⟩ : ∃ X, X = w.alloc (.cells #[.int .i64 m.day, .int .i64 m.party, .string m.act, .int .i64 m.amt] 29) := ⟨_, rfl⟩
  have HB := Lib.hid (show Below w.heap.size w X by rw [hX]; exact below1 _ _)
  obtain ⟨c0, c1, c2, c3⟩ := b4 (m := m) (show Bk w.heap.size X m.cells by rw [hX]; exact Bk.new _ _ _)
  obtain ⟨t1, h1⟩ : ∃ t, t = isDy m.day := ⟨_, rfl⟩
  obtain ⟨t2, h2⟩ : ∃ t, t = (decide (0 ≤ m.party) && decide (m.party ≤ q)) := ⟨_, rfl⟩
  obtain ⟨t3, h3⟩ : ∃ t, t = isNm m.act := ⟨_, rfl⟩
  obtain ⟨t4, h4⟩ : ∃ t, t = (decide (0 ≤ m.amt) && decide (m.amt ≤ 1000000)) := ⟨_, rfl⟩
  have HT := Lib.hid (And.intro h1 (And.intro h2 (And.intro h3 h4)))
  have H1 : Hid (∀ v, Calls Tryd.prog 30 #[.int .i64 m.day] v fun e w' => e = .returned (.bool t1) ∧ w' = v) := Lib.hid fun v => by rw [h1]; exact (l3Good _ v).mono fun e w' ⟨he, hw⟩ => ⟨he, hw.symm⟩
  have H2 : Hid (∀ v, Calls Tryd.prog 31 #[.int .i64 m.party, .int .i64 0, .int .i64 q] v fun e w' => e = .returned (.bool t2) ∧ w' = v) := Lib.hid fun v => by rw [h2]; exact (l1In _ _ _ v).mono fun e w' ⟨he, hw⟩ => ⟨he, hw.symm⟩
  have H3 : Hid (∀ v, Calls Tryd.prog 32 #[.string m.act] v fun e w' => e = .returned (.bool t3) ∧ w' = v) := Lib.hid fun v => by rw [h3]; exact (l5Name _ v).mono fun e w' ⟨he, hw⟩ => ⟨he, hw.symm⟩
  have H4 : Hid (∀ v, Calls Tryd.prog 31 #[.int .i64 m.amt, .int .i64 0, .int .i64 1000000] v fun e w' => e = .returned (.bool t4) ∧ w' = v) := Lib.hid fun v => by rw [h4]; exact (l1In _ _ _ v).mono fun e w' ⟨he, hw⟩ => ⟨he, hw.symm⟩
  clear h1 h2 h3 h4
  go_enter Tryd.func18, Tryd.ntmps18
  go_wp2_with fail
  rw [← hX]
  clear hX
  rcases hq with ⟨hq1, rfl⟩ | ⟨rfl, rfl⟩
  · cases t1
    · have HR : Hid (okE m (p - 1) = false) := Lib.hid (by obtain ⟨h1, h2, h3, h4⟩ := HT.out; simp [okE, ← h1, ← h2, ← h3, ← h4])
      go_wp2_with (first | (go_at_call 30; with_reducible refine (H1.out _).mono ?_; rintro e w1 ⟨rfl, hw⟩; rw [hw]; clear hw))
      go_ret
      exact ⟨by rw [HR.out]; first | rfl | (show Ending.returned (.bool (decide (m.amt ≤ 1000000))) = _; rw [decide_eq_false (by omega)]), (by first | exact HB.out | exact below_drewN HB.out _ | exact Below.drew HB.out)⟩
    cases t2
    · have HR : Hid (okE m (p - 1) = false) := Lib.hid (by obtain ⟨h1, h2, h3, h4⟩ := HT.out; simp [okE, ← h1, ← h2, ← h3, ← h4])
      go_wp2_with (first | (go_at_call 30; with_reducible refine (H1.out _).mono ?_; rintro e w1 ⟨rfl, hw⟩; rw [hw]; clear hw) | (go_at_call 31; with_reducible refine (H2.out _).mono ?_; rintro e w1 ⟨rfl, hw⟩; rw [hw]; clear hw))
      go_ret
      exact ⟨by rw [HR.out]; first | rfl | (show Ending.returned (.bool (decide (m.amt ≤ 1000000))) = _; rw [decide_eq_false (by omega)]), (by first | exact HB.out | exact below_drewN HB.out _ | exact Below.drew HB.out)⟩
    cases t3
    · have HR : Hid (okE m (p - 1) = false) := Lib.hid (by obtain ⟨h1, h2, h3, h4⟩ := HT.out; simp [okE, ← h1, ← h2, ← h3, ← h4])
      go_wp2_with (first | (go_at_call 30; with_reducible refine (H1.out _).mono ?_; rintro e w1 ⟨rfl, hw⟩; rw [hw]; clear hw) | (go_at_call 31; with_reducible refine (H2.out _).mono ?_; rintro e w1 ⟨rfl, hw⟩; rw [hw]; clear hw) | (go_at_call 32; with_reducible refine (H3.out _).mono ?_; rintro e w1 ⟨rfl, hw⟩; rw [hw]; clear hw))
      go_ret
      exact ⟨by rw [HR.out]; first | rfl | (show Ending.returned (.bool (decide (m.amt ≤ 1000000))) = _; rw [decide_eq_false (by omega)]), (by first | exact HB.out | exact below_drewN HB.out _ | exact Below.drew HB.out)⟩
    cases t4
    · have HR : Hid (okE m (p - 1) = false) := Lib.hid (by obtain ⟨h1, h2, h3, h4⟩ := HT.out; simp [okE, ← h1, ← h2, ← h3, ← h4])
      go_wp2_with (first | (go_at_call 30; with_reducible refine (H1.out _).mono ?_; rintro e w1 ⟨rfl, hw⟩; rw [hw]; clear hw) | (go_at_call 31; with_reducible refine (H2.out _).mono ?_; rintro e w1 ⟨rfl, hw⟩; rw [hw]; clear hw) | (go_at_call 32; with_reducible refine (H3.out _).mono ?_; rintro e w1 ⟨rfl, hw⟩; rw [hw]; clear hw) | (go_at_call 31; with_reducible refine (H4.out _).mono ?_; rintro e w1 ⟨rfl, hw⟩; rw [hw]; clear hw))
      go_ret
      exact ⟨by rw [HR.out]; first | rfl | (show Ending.returned (.bool (decide (m.amt ≤ 1000000))) = _; rw [decide_eq_false (by omega)]), (by first | exact HB.out | exact below_drewN HB.out _ | exact Below.drew HB.out)⟩
    have HR : Hid (okE m (p - 1) = true) := Lib.hid (by obtain ⟨h1, h2, h3, h4⟩ := HT.out; simp [okE, ← h1, ← h2, ← h3, ← h4])
    go_wp2_with (first | (go_at_call 30; with_reducible refine (H1.out _).mono ?_; rintro e w1 ⟨rfl, hw⟩; rw [hw]; clear hw) | (go_at_call 31; with_reducible refine (H2.out _).mono ?_; rintro e w1 ⟨rfl, hw⟩; rw [hw]; clear hw) | (go_at_call 32; with_reducible refine (H3.out _).mono ?_; rintro e w1 ⟨rfl, hw⟩; rw [hw]; clear hw) | (go_at_call 31; with_reducible refine (H4.out _).mono ?_; rintro e w1 ⟨rfl, hw⟩; rw [hw]; clear hw))
    go_ret
    exact ⟨by rw [HR.out]; first | rfl | (show Ending.returned (.bool (decide (m.amt ≤ 1000000))) = _; rw [decide_eq_false (by omega)]), (by first | exact HB.out | exact below_drewN HB.out _ | exact Below.drew HB.out)⟩
  · cases t1
    · have HR : Hid (okE m (wrap64 (-9223372036854775809)) = false) := Lib.hid (by obtain ⟨h1, h2, h3, h4⟩ := HT.out; simp [okE, ← h1, ← h2, ← h3, ← h4])
      go_wp2_with (first | (go_at_call 30; with_reducible refine (H1.out _).mono ?_; rintro e w1 ⟨rfl, hw⟩; rw [hw]; clear hw))
      go_ret
      exact ⟨by rw [HR.out]; first | rfl | (show Ending.returned (.bool (decide (m.amt ≤ 1000000))) = _; rw [decide_eq_false (by omega)]), (by first | exact HB.out | exact below_drewN HB.out _ | exact Below.drew HB.out)⟩
    cases t2
    · have HR : Hid (okE m (wrap64 (-9223372036854775809)) = false) := Lib.hid (by obtain ⟨h1, h2, h3, h4⟩ := HT.out; simp [okE, ← h1, ← h2, ← h3, ← h4])
      go_wp2_with (first | (go_at_call 30; with_reducible refine (H1.out _).mono ?_; rintro e w1 ⟨rfl, hw⟩; rw [hw]; clear hw) | (go_at_call 31; with_reducible refine (H2.out _).mono ?_; rintro e w1 ⟨rfl, hw⟩; rw [hw]; clear hw))
      go_ret
      exact ⟨by rw [HR.out]; first | rfl | (show Ending.returned (.bool (decide (m.amt ≤ 1000000))) = _; rw [decide_eq_false (by omega)]), (by first | exact HB.out | exact below_drewN HB.out _ | exact Below.drew HB.out)⟩
    cases t3
    · have HR : Hid (okE m (wrap64 (-9223372036854775809)) = false) := Lib.hid (by obtain ⟨h1, h2, h3, h4⟩ := HT.out; simp [okE, ← h1, ← h2, ← h3, ← h4])
      go_wp2_with (first | (go_at_call 30; with_reducible refine (H1.out _).mono ?_; rintro e w1 ⟨rfl, hw⟩; rw [hw]; clear hw) | (go_at_call 31; with_reducible refine (H2.out _).mono ?_; rintro e w1 ⟨rfl, hw⟩; rw [hw]; clear hw) | (go_at_call 32; with_reducible refine (H3.out _).mono ?_; rintro e w1 ⟨rfl, hw⟩; rw [hw]; clear hw))
      go_ret
      exact ⟨by rw [HR.out]; first | rfl | (show Ending.returned (.bool (decide (m.amt ≤ 1000000))) = _; rw [decide_eq_false (by omega)]), (by first | exact HB.out | exact below_drewN HB.out _ | exact Below.drew HB.out)⟩
    cases t4
    · have HR : Hid (okE m (wrap64 (-9223372036854775809)) = false) := Lib.hid (by obtain ⟨h1, h2, h3, h4⟩ := HT.out; simp [okE, ← h1, ← h2, ← h3, ← h4])
      go_wp2_with (first | (go_at_call 30; with_reducible refine (H1.out _).mono ?_; rintro e w1 ⟨rfl, hw⟩; rw [hw]; clear hw) | (go_at_call 31; with_reducible refine (H2.out _).mono ?_; rintro e w1 ⟨rfl, hw⟩; rw [hw]; clear hw) | (go_at_call 32; with_reducible refine (H3.out _).mono ?_; rintro e w1 ⟨rfl, hw⟩; rw [hw]; clear hw) | (go_at_call 31; with_reducible refine (H4.out _).mono ?_; rintro e w1 ⟨rfl, hw⟩; rw [hw]; clear hw))
      go_ret
      exact ⟨by rw [HR.out]; first | rfl | (show Ending.returned (.bool (decide (m.amt ≤ 1000000))) = _; rw [decide_eq_false (by omega)]), (by first | exact HB.out | exact below_drewN HB.out _ | exact Below.drew HB.out)⟩
    have HR : Hid (okE m (wrap64 (-9223372036854775809)) = true) := Lib.hid (by obtain ⟨h1, h2, h3, h4⟩ := HT.out; simp [okE, ← h1, ← h2, ← h3, ← h4])
    go_wp2_with (first | (go_at_call 30; with_reducible refine (H1.out _).mono ?_; rintro e w1 ⟨rfl, hw⟩; rw [hw]; clear hw) | (go_at_call 31; with_reducible refine (H2.out _).mono ?_; rintro e w1 ⟨rfl, hw⟩; rw [hw]; clear hw) | (go_at_call 32; with_reducible refine (H3.out _).mono ?_; rintro e w1 ⟨rfl, hw⟩; rw [hw]; clear hw) | (go_at_call 31; with_reducible refine (H4.out _).mono ?_; rintro e w1 ⟨rfl, hw⟩; rw [hw]; clear hw))
    go_ret
    exact ⟨by rw [HR.out]; first | rfl | (show Ending.returned (.bool (decide (m.amt ≤ 1000000))) = _; rw [decide_eq_false (by omega)]), (by first | exact HB.out | exact below_drewN HB.out _ | exact Below.drew HB.out)⟩

theorem isIndexE (i : Int) (n : Nat) (w : World) : Calls Tryd.prog 39 #[.int .i64 i, .int .i64 (n : Int)] w fun e w' => e = .returned (.bool (decide (0 ≤ i) && decide (i ≤ (n : Int) - 1))) ∧ w = w' := by
  go_enter Tryd.func39, Tryd.ntmps39
  go_wp2
  all_goals go_ret
  all_goals refine ⟨?_, rfl⟩
  all_goals (first | (simp; done) | (simp; omega) | (simp; rw [Bool.eq_iff_iff]; simp; omega))

set_option maxHeartbeats 4000000 in
theorem isValidE (m : E) (n : Nat) (hn : n ≤ 4) (hm : m.act.size ≤ maxLen) (w : World) :
    Calls Tryd.prog 21 #[m.val, .int .i64 (n : Int)] w fun e w' => e = .returned (.bool (okE m ((n : Int) - 1))) ∧ Below w.heap.size w w' := by
  obtain ⟨X, hX⟩ : ∃ X, X = w.alloc (.cells #[.int .i64 m.day, .int .i64 m.party, .string m.act, .int .i64 m.amt] 29) := ⟨_, rfl⟩
  have HB := Lib.hid (show Below w.heap.size w X by rw [hX]; exact below1 _ _)
  obtain ⟨c0, c1, c2, c3⟩ := b4 (m := m) (show Bk w.heap.size X m.cells by rw [hX]; exact Bk.new _ _ _)
  obtain ⟨t1, h1⟩ : ∃ t, t = isDy m.day := ⟨_, rfl⟩
  obtain ⟨t2, h2⟩ : ∃ t, t = (decide (0 ≤ m.party) && decide (m.party ≤ (n : Int) - 1)) := ⟨_, rfl⟩
  obtain ⟨t3, h3⟩ : ∃ t, t = isNm m.act := ⟨_, rfl⟩
  have H1 : Hid (∀ v, Calls Tryd.prog 38 #[.int .i64 m.day] v fun e w' => e = .returned (.bool t1) ∧ w' = v) := Lib.hid fun v => by rw [h1]; exact (isDay _ v).mono fun e w' ⟨he, hw⟩ => ⟨he, hw.symm⟩
  have H2 : Hid (∀ v, Calls Tryd.prog 39 #[.int .i64 m.party, .int .i64 (n : Int)] v fun e w' => e = .returned (.bool t2) ∧ w' = v) := Lib.hid fun v => by rw [h2]; exact (isIndexE _ n v).mono fun e w' ⟨he, hw⟩ => ⟨he, hw.symm⟩
  have H3 : Hid (∀ v, Calls Tryd.prog 36 #[.string m.act] v fun e w' => e = .returned (.bool t3) ∧ w' = v) := Lib.hid fun v => by rw [h3]; exact (isValidName _ hm v).mono fun e w' ⟨he, hw⟩ => ⟨he, hw.symm⟩
  have HT := Lib.hid (And.intro h1 (And.intro h2 h3))
  clear h1 h2 h3
  go_enter Tryd.func21, Tryd.ntmps21
  go_wp2_with fail
  rw [← hX]
  clear hX
  cases t1
  · have HR : Hid (okE m ((n : Int) - 1) = false) := Lib.hid (by obtain ⟨h1, h2, h3⟩ := HT.out; simp [okE, ← h1, ← h2, ← h3])
    go_wp2_with (first | (go_at_call 38; with_reducible refine (H1.out _).mono ?_; rintro e w1 ⟨rfl, hw⟩; rw [hw]; clear hw))
    go_ret
    exact ⟨by rw [HR.out]; first | rfl | (show Ending.returned (.bool (decide (m.amt ≤ 1000000))) = _; rw [decide_eq_false (by omega)]), (by first | exact HB.out | exact below_drewN HB.out _ | exact Below.drew HB.out)⟩
  cases t2
  · have HR : Hid (okE m ((n : Int) - 1) = false) := Lib.hid (by obtain ⟨h1, h2, h3⟩ := HT.out; simp [okE, ← h1, ← h2, ← h3])
    go_wp2_with (first | (go_at_call 38; with_reducible refine (H1.out _).mono ?_; rintro e w1 ⟨rfl, hw⟩; rw [hw]; clear hw) | (go_at_call 39; with_reducible refine (H2.out _).mono ?_; rintro e w1 ⟨rfl, hw⟩; rw [hw]; clear hw))
    go_ret
    exact ⟨by rw [HR.out]; first | rfl | (show Ending.returned (.bool (decide (m.amt ≤ 1000000))) = _; rw [decide_eq_false (by omega)]), (by first | exact HB.out | exact below_drewN HB.out _ | exact Below.drew HB.out)⟩
  cases t3
  · have HR : Hid (okE m ((n : Int) - 1) = false) := Lib.hid (by obtain ⟨h1, h2, h3⟩ := HT.out; simp [okE, ← h1, ← h2, ← h3])
    go_wp2_with (first | (go_at_call 38; with_reducible refine (H1.out _).mono ?_; rintro e w1 ⟨rfl, hw⟩; rw [hw]; clear hw) | (go_at_call 39; with_reducible refine (H2.out _).mono ?_; rintro e w1 ⟨rfl, hw⟩; rw [hw]; clear hw) | (go_at_call 36; with_reducible refine (H3.out _).mono ?_; rintro e w1 ⟨rfl, hw⟩; rw [hw]; clear hw))
    go_ret
    exact ⟨by rw [HR.out]; first | rfl | (show Ending.returned (.bool (decide (m.amt ≤ 1000000))) = _; rw [decide_eq_false (by omega)]), (by first | exact HB.out | exact below_drewN HB.out _ | exact Below.drew HB.out)⟩
  by_cases h4 : 0 ≤ m.amt
  · by_cases h5 : m.amt ≤ 1000000
    · have HR : Hid (okE m ((n : Int) - 1) = true) := Lib.hid (by obtain ⟨h1, h2, h3⟩ := HT.out; simp [okE, ← h1, ← h2, ← h3, h4, h5])
      go_wp2_with (first | (go_at_call 38; with_reducible refine (H1.out _).mono ?_; rintro e w1 ⟨rfl, hw⟩; rw [hw]; clear hw) | (go_at_call 39; with_reducible refine (H2.out _).mono ?_; rintro e w1 ⟨rfl, hw⟩; rw [hw]; clear hw) | (go_at_call 36; with_reducible refine (H3.out _).mono ?_; rintro e w1 ⟨rfl, hw⟩; rw [hw]; clear hw))
      go_ret
      exact ⟨by rw [HR.out]; first | rfl | (show Ending.returned (.bool (decide (m.amt ≤ 1000000))) = _; rw [decide_eq_false (by omega)]), (by first | exact HB.out | exact below_drewN HB.out _ | exact Below.drew HB.out)⟩
    · have HR : Hid (okE m ((n : Int) - 1) = false) := Lib.hid (by obtain ⟨h1, h2, h3⟩ := HT.out; simp [okE, h4, h5])
      go_wp2_with (first | (go_at_call 38; with_reducible refine (H1.out _).mono ?_; rintro e w1 ⟨rfl, hw⟩; rw [hw]; clear hw) | (go_at_call 39; with_reducible refine (H2.out _).mono ?_; rintro e w1 ⟨rfl, hw⟩; rw [hw]; clear hw) | (go_at_call 36; with_reducible refine (H3.out _).mono ?_; rintro e w1 ⟨rfl, hw⟩; rw [hw]; clear hw))
      go_ret
      exact ⟨by rw [HR.out]; first | rfl | (show Ending.returned (.bool (decide (m.amt ≤ 1000000))) = _; rw [decide_eq_false (by omega)]), (by first | exact HB.out | exact below_drewN HB.out _ | exact Below.drew HB.out)⟩
  · have HR : Hid (okE m ((n : Int) - 1) = false) := Lib.hid (by obtain ⟨h1, h2, h3⟩ := HT.out; simp [okE, h4])
    go_wp2_with (first | (go_at_call 38; with_reducible refine (H1.out _).mono ?_; rintro e w1 ⟨rfl, hw⟩; rw [hw]; clear hw) | (go_at_call 39; with_reducible refine (H2.out _).mono ?_; rintro e w1 ⟨rfl, hw⟩; rw [hw]; clear hw) | (go_at_call 36; with_reducible refine (H3.out _).mono ?_; rintro e w1 ⟨rfl, hw⟩; rw [hw]; clear hw))
    go_ret
    exact ⟨by rw [HR.out]; first | rfl | (show Ending.returned (.bool (decide (m.amt ≤ 1000000))) = _; rw [decide_eq_false (by omega)]), (by first | exact HB.out | exact below_drewN HB.out _ | exact Below.drew HB.out)⟩

end Go.Proofs.YtgjihejneadadaaDoor.Et

namespace Go.Proofs.YtgjihejneadadaaDoor.Et
open Go.RowKit Go.Proofs.YtgjihejneadadaaDoor.Cond Go.Proofs.YtgjihejneadadaaDoor.Gx
set_option linter.unusedVariables false
set_option linter.unusedSimpArgs false

/-- All events are valid, and they are not too many; p parties. -/
def valE (ms : List E) (p : Int) : Bool := (decide (2 ≤ p) && decide (p ≤ 4)) && (decide (ms.length ≤ 40) && ms.all fun m => okE m (p - 1))
theorem valE_bad {ms : List E} {p q : Int} {k : Nat} (hk : k < ms.length) (hq : 2 ≤ p → q = p - 1) (h : okE ms[k] q = false) : valE ms p = false := by
  by_cases h2 : 2 ≤ p
  · have e := hq h2
    subst e
    have : ms.all (fun m => okE m (p - 1)) = false := by
      rw [List.all_eq_false]
      exact ⟨ms[k], List.getElem_mem hk, by simp [h]⟩
    simp [valE, this]
  · simp [valE, h2]
theorem valE_big {ms : List E} {p : Int} (h : 40 < ms.length) : valE ms p = false := by
  have : ¬ ms.length ≤ 40 := by omega
  simp [valE, this]
theorem valE_all {ms : List E} {p q : Int} (hq : 2 ≤ p → q = p - 1) (hl : ms.length ≤ 40) (h : ∀ j, ∀ h : j < ms.length, okE ms[j] q = true) : valE ms p = (decide (2 ≤ p) && decide (p ≤ 4)) := by
  by_cases h2 : 2 ≤ p
  · have e := hq h2
    subst e
    have : ms.all (fun m => okE m (p - 1)) = true := by
      rw [List.all_eq_true]
      intro x hx
      obtain ⟨i, hi, rfl⟩ := List.mem_iff_getElem.1 hx
      exact h i hi
    simp [valE, this, hl]
  · simp [valE, h2]

set_option maxHeartbeats 4000000 in
theorem l8Valid (A : Option Addr) (n cap : Nat) (ms : List E) (p : Int) (hp : -9223372036854775808 ≤ p) (hp2 : p ≤ 9223372036854775807) (w : World) (h : LiE w w.heap.size A n cap ms) :
    Calls Tryd.prog 43 #[.slice A n cap, .int .i64 p] w fun e w' => e = .returned (.bool (valE ms p)) ∧ Below w.heap.size w w' := by
  obtain ⟨q, hq, hqv⟩ : ∃ q : Int, ((-9223372036854775808 < p ∧ q = p - 1) ∨ (p = -9223372036854775808 ∧ q = wrap64 (-9223372036854775809))) ∧ (2 ≤ p → q = p - 1) := by
    by_cases e : -9223372036854775808 < p
    · exact ⟨p - 1, .inl ⟨e, rfl⟩, fun _ => rfl⟩
    · exact ⟨wrap64 (-9223372036854775809), .inr ⟨by omega, rfl⟩, fun h => by omega⟩
  have HEV : Hid (∀ (m : E) v, Calls Tryd.prog 18 #[m.val, .int .i64 p] v fun e w' => e = .returned (.bool (okE m q)) ∧ Below v.heap.size v w') := Lib.hid fun m v => l8Event m p q hp hp2 hq v
  have HIN : Hid (∀ v, Calls Tryd.prog 31 #[.int .i64 p, .int .i64 2, .int .i64 4] v fun e w' => e = .returned (.bool (decide (2 ≤ p) && decide (p ≤ 4))) ∧ w' = v) := Lib.hid fun v => (l1In _ _ _ v).mono fun e w' ⟨he, hw⟩ => ⟨he, hw.symm⟩
  have HQ := Lib.hid hqv
  have HN := Lib.hid h.len
  have HL := Lib.hid h
  have hnl : n ≤ 9223372036854775807 := h.n1
  clear hq hqv h
  go_enter Tryd.func43, Tryd.ntmps43
  go_wp2_with fail
  go_loopw [5] (fun i wr => ∃ k : Nat, k ≤ n ∧ k ≤ 41 ∧ i = .int .i64 k ∧ Hid (∀ j, ∀ h : j < ms.length, j < k → okE ms[j] q = true) ∧ Hid (Below w.heap.size w wr)) (fun i _ => n - (intOf i).toNat)
  case atStart => exact ⟨0, Nat.zero_le _, by omega, rfl, Lib.hid fun j _ h => by omega, Lib.hid (Below.refl _ _)⟩
  case round =>
    obtain ⟨k, hk, hk4, rfl, HK, HB⟩ := hrel
    by_cases hlt : k < n
    · by_cases h40 : k ≤ 40
      · obtain ⟨b, o, hk', rfl, hB, hc⟩ := HL.out.get hlt
        obtain ⟨m, hm⟩ : ∃ m, m = ms[k] := ⟨_, rfl⟩
        have hE := hc wr HB.out
        rw [← hm] at hE
        obtain ⟨c0, c1, c2, c3⟩ := e4 hE
        have i0 : (0 : Int) ≤ (k : Int) := by omega
        have i1 : (k : Int) < (n : Int) := by omega
        obtain ⟨t, ht⟩ : ∃ t, t = okE m q := ⟨_, rfl⟩
        have HF : Hid (∀ v, Calls Tryd.prog 18 #[m.val, .int .i64 p] v fun e w' => e = .returned (.bool t) ∧ Below v.heap.size v w') := Lib.hid fun v => by rw [ht]; exact HEV.out m v
        have HT := Lib.hid (And.intro ht hm)
        clear hE hc hm ht
        cases t
        · have HR : Hid (valE ms p = false) := Lib.hid (valE_bad hk' HQ.out (by rw [← HT.out.2]; exact HT.out.1.symm))
          go_wp2_with (go_at_call 18; refine (HF.out _).mono ?_; rintro e w2 ⟨rfl, hb⟩)
          go_ret
          exact ⟨by rw [HR.out]; rfl, HB.out.trans (hb.mono HB.out.size)⟩
        · have HK2 : Hid (∀ j, ∀ h : j < ms.length, j < k + 1 → okE ms[j] q = true) := Lib.hid fun j h hj => by
            by_cases e : j = k
            · subst e; rw [← HT.out.2]; exact HT.out.1.symm
            · exact HK.out j h (by omega)
          go_wp2_with (go_at_call 18; refine (HF.out _).mono ?_; rintro e w2 ⟨rfl, hb⟩)
          go_roundw
          case rel => exact ⟨k + 1, by omega, by omega, by go_num, HK2, Lib.hid (HB.out.trans (hb.mono HB.out.size))⟩
          case measure => simp [intOf]; omega
      · have HR : Hid (valE ms p = false) := Lib.hid (valE_big (by have := HN.out; omega))
        have h41 : ¬ (k : Int) ≤ 40 := by omega
        have hn41 : ¬ (n : Int) ≤ 40 := by omega
        go_wp2_with (go_at_call 31; refine (HIN.out _).mono ?_; rintro e w2 ⟨rfl, hw⟩; rw [hw]; clear hw)
        go_ret
        exact ⟨by rw [HR.out]; rfl, HB.out⟩
    · by_cases h40 : n ≤ 40
      · have HR : Hid (valE ms p = (decide (2 ≤ p) && decide (p ≤ 4))) := Lib.hid (valE_all HQ.out (by have := HN.out; omega) fun j hj => HK.out j hj (by have := HN.out; omega))
        have hn40 : (n : Int) ≤ 40 := by omega
        go_wp2_with (go_at_call 31; refine (HIN.out _).mono ?_; rintro e w2 ⟨rfl, hw⟩; rw [hw]; clear hw)
        go_ret
        exact ⟨by rw [HR.out]; rfl, HB.out⟩
      · have HR : Hid (valE ms p = false) := Lib.hid (valE_big (by have := HN.out; omega))
        have hn41 : ¬ (n : Int) ≤ 40 := by omega
        go_wp2_with (go_at_call 31; refine (HIN.out _).mono ?_; rintro e w2 ⟨rfl, hw⟩; rw [hw]; clear hw)
        go_ret
        exact ⟨by rw [HR.out]; rfl, HB.out⟩

theorem makeFn (fn : Fn) (first cap : Array Value) (w : World) : (Instr.makeFunc fn first cap).run Tryd.prog w = .ok (.func fn first cap) w := rfl
theorem isPartyCount (p : Int) (w : World) : Calls Tryd.prog 35 #[.int .i64 p] w fun e w' => e = .returned (.bool (decide (2 ≤ p) && decide (p ≤ 4))) ∧ w' = w := by
  go_enter Tryd.func35, Tryd.ntmps35
  go_wp2
  all_goals go_ret
  all_goals refine ⟨?_, rfl⟩
  all_goals (first | (simp; done) | (simp; omega) | (simp; rw [Bool.eq_iff_iff]; simp; omega))

set_option maxHeartbeats 4000000 in
theorem badFn (m : E) (k p : Nat) (hp : p ≤ 4) (hm : m.act.size ≤ maxLen) (w : World) (hP : Bk k w [.int .i64 (p : Int)]) :
    Calls Tryd.prog 60 #[m.val, .pointer (some ⟨k, 0, none⟩)] w fun e w' => e = .returned (.bool !(okE m ((p : Int) - 1))) ∧ Below w.heap.size w w' := by
  have HV : Hid (∀ v, Calls Tryd.prog 21 #[m.val, .int .i64 (p : Int)] v fun e w' => e = .returned (.bool (okE m ((p : Int) - 1))) ∧ Below v.heap.size v w') := Lib.hid fun v => isValidE m p hp hm v
  obtain ⟨t, ht⟩ : ∃ t, t = okE m ((p : Int) - 1) := ⟨_, rfl⟩
  rw [← ht] at HV ⊢
  obtain ⟨X, hX⟩ : ∃ X, X = w.alloc (.cells #[.int .i64 m.day, .int .i64 m.party, .string m.act, .int .i64 m.amt] 29) := ⟨_, rfl⟩
  have HB := Lib.hid (show Below w.heap.size w X by rw [hX]; exact below1 _ _)
  have hlt := hP.lt
  have p0 := hP.c 0 (by simp)
  simp only [List.getElem_cons_zero] at p0
  clear hP ht
  go_enter Tryd.func60, Tryd.ntmps60
  have HX := Lib.hid hX
  go_wp2_with (go_at_call 21; (try rw [← HX.out]); refine (HV.out _).mono ?_; rintro e w2 ⟨rfl, hb⟩)
  go_ret
  exact ⟨rfl, HB.out.trans (hb.mono HB.out.size)⟩

end Go.Proofs.YtgjihejneadadaaDoor.Et

namespace Go.Proofs.YtgjihejneadadaaDoor.Et
open Go.RowKit Go.Proofs.YtgjihejneadadaaDoor.Cond Go.Proofs.YtgjihejneadadaaDoor.Gx
set_option linter.unusedVariables false
set_option linter.unusedSimpArgs false

set_option maxHeartbeats 4000000 in
theorem badIx (A : Option Addr) (n cap : Nat) (ms : List E) (k p : Nat) (hp : p ≤ 4) (w : World) (h : LiE w w.heap.size A n cap ms) (hl : n ≤ 40) (hP : Bk k w [.int .i64 (p : Int)]) :
    Calls Tryd.prog 67 #[.slice A n cap, .func (.func 60) #[] #[.pointer (some ⟨k, 0, none⟩)]] w fun e w' => ∃ z : Int, e = .returned (.int .i64 z) ∧ (decide (0 ≤ z) = !(ms.all fun m => okE m ((p : Int) - 1))) ∧ Below w.heap.size w w' := by
  have HFN : Hid (∀ v (m : E), Below w.heap.size w v → m.act.size ≤ maxLen → Calls Tryd.prog 60 #[m.val, .pointer (some ⟨k, 0, none⟩)] v fun e w' => e = .returned (.bool !(okE m ((p : Int) - 1))) ∧ Below v.heap.size v w') := Lib.hid fun v m hv hm => badFn m k p hp hm v (hP.on hv)
  have HL := Lib.hid h
  have HN := Lib.hid h.len
  clear h hP
  go_enter Tryd.func67, Tryd.ntmps67
  go_wp2_with fail
  go_loopw [8] (fun i wr => ∃ j : Nat, j ≤ n ∧ i = .int .i64 j ∧ Hid (∀ i, ∀ h : i < ms.length, i < j → okE ms[i] ((p : Int) - 1) = true) ∧ Hid (Below w.heap.size w wr)) (fun i _ => n - (intOf i).toNat)
  case atStart => exact ⟨0, Nat.zero_le _, rfl, Lib.hid fun j _ h => by omega, Lib.hid (Below.refl _ _)⟩
  case round =>
    obtain ⟨j, hj, rfl, HK, HB⟩ := hrel
    by_cases hlt : j < n
    · obtain ⟨b, o, hj', rfl, hB, hc⟩ := HL.out.get hlt
      obtain ⟨m, hm⟩ : ∃ m, m = ms[j] := ⟨_, rfl⟩
      have hE := hc wr HB.out
      rw [← hm] at hE
      obtain ⟨c0, c1, c2, c3⟩ := e4 hE
      have i0 : (0 : Int) ≤ (j : Int) := by omega
      have i1 : (j : Int) < (n : Int) := by omega
      obtain ⟨t, ht⟩ : ∃ t, t = okE m ((p : Int) - 1) := ⟨_, rfl⟩
      have HF := HFN.out wr m HB.out (HL.out.asz m (by rw [hm]; exact List.getElem_mem hj'))
      rw [← ht] at HF
      have HFH := Lib.hid HF
      have HT := Lib.hid (And.intro ht hm)
      clear hE hc hm ht HF
      cases t
      · have HD : Hid ((!(ms.all fun m => okE m ((p : Int) - 1))) = true) := Lib.hid (by
          have : ms.all (fun m => okE m ((p : Int) - 1)) = false := by
            rw [List.all_eq_false]
            exact ⟨ms[j], List.getElem_mem hj', by rw [← HT.out.2, ← HT.out.1]; simp⟩
          rw [this]; rfl)
        go_wp2_with (go_at_call 60; refine HFH.out.mono ?_; rintro e w2 ⟨rfl, hb⟩)
        go_ret
        exact ⟨j, rfl, by rw [HD.out]; exact decide_eq_true (by omega), HB.out.trans (hb.mono HB.out.size)⟩
      · have HK2 : Hid (∀ i, ∀ h : i < ms.length, i < j + 1 → okE ms[i] ((p : Int) - 1) = true) := Lib.hid fun i h hi => by
          by_cases e : i = j
          · subst e; rw [← HT.out.2]; exact HT.out.1.symm
          · exact HK.out i h (by omega)
        go_wp2_with (go_at_call 60; refine HFH.out.mono ?_; rintro e w2 ⟨rfl, hb⟩)
        go_roundw
        case rel => exact ⟨j + 1, by omega, by go_num, HK2, Lib.hid (HB.out.trans (hb.mono HB.out.size))⟩
        case measure => simp [intOf]; omega
    · have HD : Hid ((!(ms.all fun m => okE m ((p : Int) - 1))) = false) := Lib.hid (by
        have : ms.all (fun m => okE m ((p : Int) - 1)) = true := by
          rw [List.all_eq_true]
          intro x hx
          obtain ⟨i, hi, rfl⟩ := List.mem_iff_getElem.1 hx
          exact HK.out i hi (by have := HN.out; omega)
        rw [this]; rfl)
      go_wp2_with fail
      go_ret
      exact ⟨-1, rfl, by rw [HD.out]; rfl, HB.out⟩

set_option maxHeartbeats 4000000 in
theorem areValid (A : Option Addr) (n cap : Nat) (ms : List E) (p : Int) (w : World) (h : LiE w w.heap.size A n cap ms) :
    Calls Tryd.prog 44 #[.slice A n cap, .int .i64 p] w fun e w' => e = .returned (.bool (valE ms p)) ∧ Below w.heap.size w w' := by
  obtain ⟨X, hX⟩ : ∃ X, X = w.alloc (.cells #[.int .i64 p] 3) := ⟨_, rfl⟩
  have B0 : Below w.heap.size w X := by rw [hX]; exact below1 _ _
  have P0 : Bk w.heap.size X [.int .i64 p] := by rw [hX]; exact Bk.new _ _ _
  have HPC : Hid (∀ v, Calls Tryd.prog 35 #[.int .i64 p] v fun e w' => e = .returned (.bool (decide (2 ≤ p) && decide (p ≤ 4))) ∧ w' = v) := Lib.hid fun v => isPartyCount p v
  have HB := Lib.hid B0
  have HX := Lib.hid hX
  have hnl : n ≤ 9223372036854775807 := h.n1
  have p0 := P0.c 0 (by simp)
  simp only [List.getElem_cons_zero] at p0
  by_cases h2 : 2 ≤ p ∧ p ≤ 4
  · have e2 : (decide (2 ≤ p) && decide (p ≤ 4)) = true := by simp [h2]
    rw [e2] at HPC
    by_cases h40 : n ≤ 40
    · obtain ⟨q, rfl⟩ : ∃ q : Nat, p = (q : Int) := ⟨p.toNat, by omega⟩
      obtain ⟨t, ht⟩ : ∃ t, t = !(ms.all fun m => okE m ((q : Int) - 1)) := ⟨_, rfl⟩
      have HCF : Hid (Calls Tryd.prog 59 #[.slice A n cap, .func (.func 60) #[] #[.pointer (some ⟨w.heap.size, 0, none⟩)]] X fun e w' => e = .returned (.bool t) ∧ Below X.heap.size X w') := Lib.hid (by
        have HIX := Lib.hid (badIx A n cap ms w.heap.size q (by omega) X (h.on B0) h40 P0)
        rw [← ht] at HIX
        clear h hX B0 P0 p0 HPC e2 ht
        go_enter Tryd.func59, Tryd.ntmps59
        go_wp2_with (go_at_call 67; refine HIX.out.mono ?_; rintro e w2 ⟨z, rfl, hz, hb⟩; have HZ := Lib.hid hz; clear hz)
        go_ret
        exact ⟨by rw [← HZ.out]; rfl, hb⟩)
      have HR : Hid (valE ms (q : Int) = !t) := Lib.hid (by
        have hn : ms.length ≤ 40 := by have := h.len; omega
        rw [valE, e2, ht]; simp [hn])
      have hmf := makeFn
      have hn40 : (n : Int) ≤ 40 := by omega
      clear h B0 P0 ht e2 h2
      rw [hX] at p0
      clear hX
      go_enter Tryd.func44, Tryd.ntmps44
      go_wp2_with (first | (go_at_call 35; refine (HPC.out _).mono ?_; rintro e w2 ⟨rfl, hw⟩; rw [hw]; clear hw) | (go_at_call 59; (try rw [← HX.out]); refine HCF.out.mono ?_; rintro e w2 ⟨rfl, hb⟩))
      go_ret
      exact ⟨by rw [HR.out]; rfl, HB.out.trans (hb.mono HB.out.size)⟩
    · have HR : Hid (valE ms p = false) := Lib.hid (valE_big (by have := h.len; omega))
      have hn41 : ¬ (n : Int) ≤ 40 := by omega
      clear h B0 P0 e2 h2
      rw [hX] at p0
      go_enter Tryd.func44, Tryd.ntmps44
      go_wp2_with (go_at_call 35; refine (HPC.out _).mono ?_; rintro e w2 ⟨rfl, hw⟩; rw [hw]; clear hw)
      go_ret
      exact ⟨by rw [HR.out]; rfl, by rw [← hX]; exact HB.out⟩
  · have e2 : (decide (2 ≤ p) && decide (p ≤ 4)) = false := by
      rw [Bool.eq_false_iff]; simp; omega
    rw [e2] at HPC
    have HR : Hid (valE ms p = false) := Lib.hid (by rw [valE, e2]; rfl)
    clear h B0 P0 e2 h2
    rw [hX] at p0
    go_enter Tryd.func44, Tryd.ntmps44
    go_wp2_with (go_at_call 35; refine (HPC.out _).mono ?_; rintro e w2 ⟨rfl, hw⟩; rw [hw]; clear hw)
    go_ret
    exact ⟨by rw [HR.out]; rfl, by rw [← hX]; exact HB.out⟩

/-- The events rise. -/
def riseE (ms : List E) : Prop := ∀ i, ∀ h : i + 1 < ms.length, cE ms[i] ms[i + 1] ≤ 0

theorem cI_neg (x y : Int) : cI y x = -cI x y := by
  unfold cI
  (repeat' split) <;> omega
theorem cS_neg (x y : ByteArray) : cS y x = -cS x y := by
  unfold cS
  simp only [bytesLess_eq, decide_eq_true_eq]
  by_cases h1 : x.toList < y.toList
  · have h2 : ¬ y.toList < x.toList := fun h => List.lt_irrefl _ (List.lt_trans h1 h)
    have h3 : ¬ y.toList = x.toList := fun h => by rw [h] at h1; exact List.lt_irrefl _ h1
    simp [h1, h2, h3]
  · by_cases h3 : x.toList = y.toList
    · simp [h3, List.lt_irrefl]
    · have h2 : y.toList < x.toList := by
        have h4 : y.toList ≤ x.toList := List.not_lt.1 h1
        rcases List.le_iff_lt_or_eq.1 h4 with h | h
        · exact h
        · exact absurd h.symm h3
      simp [h1, h2, h3]
theorem orI_neg (zs : List Int) : orI (zs.map fun z => -z) = -orI zs := by
  induction zs with
  | nil => rfl
  | cons z zs ih =>
    simp only [List.map_cons, orI]
    by_cases h : z = 0
    · subst h; simpa using ih
    · have : ¬ -z = 0 := by omega
      simp [h, this]
theorem cE_neg (a b : E) : cE b a = -cE a b := by
  unfold cE
  rw [cI_neg a.day, cI_neg a.party, cS_neg a.act, cI_neg a.amt]
  exact orI_neg [cI a.day b.day, cI a.party b.party, cS a.act b.act, cI a.amt b.amt]

end Go.Proofs.YtgjihejneadadaaDoor.Et

namespace Go.Proofs.YtgjihejneadadaaDoor.Et
open Go.RowKit Go.Proofs.YtgjihejneadadaaDoor.Cond Go.Proofs.YtgjihejneadadaaDoor.Gx
set_option linter.unusedVariables false
set_option linter.unusedSimpArgs false

/-- An event list. -/
def goodE (ms : List E) (p : Int) : Prop := riseE ms ∧ valE ms p = true

set_option maxHeartbeats 4000000 in
theorem l8Good (A : Option Addr) (n cap : Nat) (ms : List E) (p : Int) (hp : -9223372036854775808 ≤ p) (hp2 : p ≤ 9223372036854775807) (t : Bool) (ht : t = true ↔ goodE ms p) (w : World) (h : LiE w w.heap.size A n cap ms) :
    Calls Tryd.prog 24 #[.slice A n cap, .int .i64 p] w fun e w' => e = .returned (.bool t) ∧ Below w.heap.size w w' := by
  have HCM : Hid (∀ (a b : E) v, Calls Tryd.prog 42 #[a.val, b.val] v fun e w' => e = .returned (.int .i64 (cE a b)) ∧ Below v.heap.size v w') := Lib.hid specCE
  have HVA : Hid (∀ v, Below w.heap.size w v → Calls Tryd.prog 43 #[.slice A n cap, .int .i64 p] v fun e w' => e = .returned (.bool (valE ms p)) ∧ Below v.heap.size v w') := Lib.hid fun v hv => l8Valid A n cap ms p hp hp2 v (h.on hv)
  have HN := Lib.hid h.len
  have HL := Lib.hid h
  have HT := Lib.hid ht
  have hnl : n ≤ 9223372036854775807 := h.n1
  clear ht h
  go_enter Tryd.func24, Tryd.ntmps24
  go_wp2_with fail
  go_loopw [5] (fun i wr => ∃ k : Nat, (k ≤ n ∨ k ≤ 1) ∧ k ≤ 41 ∧ 1 ≤ k ∧ i = .int .i64 k ∧ Hid (∀ j, ∀ h : j + 1 < ms.length, j + 1 < k → cE ms[j] ms[j + 1] ≤ 0) ∧ Hid (Below w.heap.size w wr)) (fun i _ => n - (intOf i).toNat)
  case atStart => exact ⟨1, .inr (Nat.le_refl _), by omega, Nat.le_refl _, rfl, Lib.hid fun j _ h => by omega, Lib.hid (Below.refl _ _)⟩
  case round =>
    obtain ⟨k, hk, hk4, hk1, rfl, HK, HB⟩ := hrel
    by_cases hlt : k < n
    · by_cases h40 : k ≤ 40
      · obtain ⟨b, o, hk', e1, hB, hc⟩ := HL.out.get hlt
        obtain ⟨b', o', hl', e2, hB', hc'⟩ := HL.out.get (k := k - 1) (by omega)
        rw [e1] at e2
        injection e2 with e2
        injection e2 with e3 e4' _
        subst e3 e4' e1
        obtain ⟨m, hm⟩ : ∃ m, m = ms[k] := ⟨_, rfl⟩
        obtain ⟨m', hm'⟩ : ∃ m, m = ms[k - 1] := ⟨_, rfl⟩
        have hE : ∀ v, Below wr.heap.size wr v → El v b (o + k * 4) m.cells := fun v hv => by rw [hm]; exact hc v (HB.out.trans (hv.mono HB.out.size))
        have hE' : ∀ v, Below wr.heap.size wr v → El v b (o + (k - 1) * 4) m'.cells := fun v hv => by rw [hm']; exact hc' v (HB.out.trans (hv.mono HB.out.size))
        have KX : Hid (∀ v, Below wr.heap.size wr v → (v.cell? ⟨b, o + k * 4, none⟩ = some (.int .i64 m.day) ∧ v.cell? ⟨b, o + k * 4 + 1, none⟩ = some (.int .i64 m.party) ∧ v.cell? ⟨b, o + k * 4 + 2, none⟩ = some (.string m.act) ∧ v.cell? ⟨b, o + k * 4 + 3, none⟩ = some (.int .i64 m.amt)) ∧ v.cell? ⟨b, o + (k - 1) * 4, none⟩ = some (.int .i64 m'.day) ∧ v.cell? ⟨b, o + (k - 1) * 4 + 1, none⟩ = some (.int .i64 m'.party) ∧ v.cell? ⟨b, o + (k - 1) * 4 + 2, none⟩ = some (.string m'.act) ∧ v.cell? ⟨b, o + (k - 1) * 4 + 3, none⟩ = some (.int .i64 m'.amt)) := Lib.hid fun v hv => ⟨e4 (hE v hv), e4 (hE' v hv)⟩
        obtain ⟨⟨c0, c1, c2, c3⟩, d0, d1, d2, d3⟩ := KX.out wr (Below.refl _ _)
        obtain ⟨z, hz⟩ : ∃ z, z = cE m' m := ⟨_, rfl⟩
        have HF : Hid (∀ v, Calls Tryd.prog 42 #[m'.val, m.val] v fun e w' => e = .returned (.int .i64 z) ∧ Below v.heap.size v w') := Lib.hid fun v => by rw [hz]; exact HCM.out m' m v
        have HZ : Hid (∀ j, ∀ h : j + 1 < ms.length, j + 1 = k → z = cE ms[j] ms[j + 1]) := Lib.hid fun j h hj => by subst hj; rw [hz, hm, hm']; rfl
        have i0 : (0 : Int) ≤ (k : Int) := by omega
        have i1 : (k : Int) < (n : Int) := by omega
        have iw : IntKind.i64.wrap ((k : Int) - 1) = (k : Int) - 1 := by simp [IntKind.wrap, IntKind.bits, IntKind.signed]; omega
        have i2 : (0 : Int) ≤ (k : Int) - 1 := by omega
        have i3 : (k : Int) - 1 < (n : Int) := by omega
        have i4 : (1 : Int) ≤ (k : Int) := by omega
        have i5 : (k : Int) ≤ (n : Int) := by omega
        clear hE hE' hc hc' hm hm' hz
        by_cases hgt : 0 < z
        · have HR : Hid (t = false) := Lib.hid (by
            rw [Bool.eq_false_iff]; intro e
            have h1 := (HT.out.1 e).1 (k - 1) (by omega)
            have h2 := HZ.out (k - 1) (by omega) (by omega)
            omega)
          go_wp2_with fail
          go_region_held3 (fun v => (v.cell? ⟨b, o + k * 4, none⟩ = some (.int .i64 m.day) ∧ v.cell? ⟨b, o + k * 4 + 1, none⟩ = some (.int .i64 m.party) ∧ v.cell? ⟨b, o + k * 4 + 2, none⟩ = some (.string m.act) ∧ v.cell? ⟨b, o + k * 4 + 3, none⟩ = some (.int .i64 m.amt)) ∧ v.cell? ⟨b, o + (k - 1) * 4, none⟩ = some (.int .i64 m'.day) ∧ v.cell? ⟨b, o + (k - 1) * 4 + 1, none⟩ = some (.int .i64 m'.party) ∧ v.cell? ⟨b, o + (k - 1) * 4 + 2, none⟩ = some (.string m'.act) ∧ v.cell? ⟨b, o + (k - 1) * 4 + 3, none⟩ = some (.int .i64 m'.amt)) (first | (refine KX.out _ ?_; (repeat (first | exact Below.refl _ _ | exact bx | apply Below.drew)); done))
            (first | (go_at_call 42; (with_reducible refine (HF.out _).mono ?_); rintro e w2 ⟨rfl, hb⟩; have bx : Below wr.heap.size wr w2 := Below.trans (by (repeat (first | exact Below.refl _ _ | apply Below.drew))) (hb.mono (by first | omega | (simp; done) | (simp; omega))); clear hb))
          all_goals go_wp2_with fail
          all_goals go_ret
          all_goals exact ⟨by rw [HR.out]; rfl, HB.out.trans (bx.mono HB.out.size)⟩
        · have HK2 : Hid (∀ j, ∀ h : j + 1 < ms.length, j + 1 < k + 1 → cE ms[j] ms[j + 1] ≤ 0) := Lib.hid fun j h hj => by
            by_cases e : j + 1 = k
            · have := HZ.out j h e; omega
            · exact HK.out j h (by omega)
          have hgt' : z ≤ 0 := by omega
          go_wp2_with fail
          go_region_held3 (fun v => (v.cell? ⟨b, o + k * 4, none⟩ = some (.int .i64 m.day) ∧ v.cell? ⟨b, o + k * 4 + 1, none⟩ = some (.int .i64 m.party) ∧ v.cell? ⟨b, o + k * 4 + 2, none⟩ = some (.string m.act) ∧ v.cell? ⟨b, o + k * 4 + 3, none⟩ = some (.int .i64 m.amt)) ∧ v.cell? ⟨b, o + (k - 1) * 4, none⟩ = some (.int .i64 m'.day) ∧ v.cell? ⟨b, o + (k - 1) * 4 + 1, none⟩ = some (.int .i64 m'.party) ∧ v.cell? ⟨b, o + (k - 1) * 4 + 2, none⟩ = some (.string m'.act) ∧ v.cell? ⟨b, o + (k - 1) * 4 + 3, none⟩ = some (.int .i64 m'.amt)) (first | (refine KX.out _ ?_; (repeat (first | exact Below.refl _ _ | exact bx | apply Below.drew)); done))
            (first | (go_at_call 42; (with_reducible refine (HF.out _).mono ?_); rintro e w2 ⟨rfl, hb⟩; have bx : Below wr.heap.size wr w2 := Below.trans (by (repeat (first | exact Below.refl _ _ | apply Below.drew))) (hb.mono (by first | omega | (simp; done) | (simp; omega))); clear hb))
          all_goals go_wp2_with fail
          all_goals go_roundw
          all_goals first
            | exact ⟨k + 1, .inl (by omega), by omega, by omega, by go_num, HK2, Lib.hid (HB.out.trans (bx.mono HB.out.size))⟩
            | (simp [intOf]; omega)
      · have HR : Hid (t = false) := Lib.hid (by
          rw [Bool.eq_false_iff]; intro e
          have := (HT.out.1 e).2
          rw [valE_big (by have := HN.out; omega)] at this
          cases this)
        have HV2 := Lib.hid (HVA.out wr HB.out)
        have hval : valE ms p = false := valE_big (by have := HN.out; omega)
        rw [hval] at HV2
        have h41 : ¬ (k : Int) ≤ 40 := by omega
        clear hval
        go_wp2_with (go_at_call 43; refine HV2.out.mono ?_; rintro e w2 ⟨rfl, hb⟩)
        go_ret
        exact ⟨by rw [HR.out]; rfl, HB.out.trans (hb.mono HB.out.size)⟩
    · have HR : Hid (t = valE ms p) := Lib.hid (by
        rw [Bool.eq_iff_iff, HT.out]
        exact ⟨fun h => h.2, fun h => ⟨fun i hi => HK.out i hi (by have := HN.out; omega), h⟩⟩)
      have HV2 := Lib.hid (HVA.out wr HB.out)
      rw [← HR.out] at HV2
      go_wp2_with (go_at_call 43; refine HV2.out.mono ?_; rintro e w2 ⟨rfl, hb⟩)
      go_ret
      exact ⟨rfl, HB.out.trans (hb.mono HB.out.size)⟩

theorem lenE (A : Option Addr) (n cap : Nat) (w : World) :
    Calls Tryd.prog 100 #[.slice A n cap] w fun e w' => e = .returned (.int .i64 n) ∧ w' = w := by
  go_enter Tryd.func100, Tryd.ntmps100
  go_wp2
  go_ret
  exact ⟨rfl, rfl⟩

set_option maxHeartbeats 4000000 in
theorem lessE (A : Option Addr) (n cap : Nat) (ms : List E) (i k : Nat) (hi : i < ms.length) (hk : k < ms.length) (w : World) (h : LiE w w.heap.size A n cap ms) :
    Calls Tryd.prog 101 #[.slice A n cap, .int .i64 (i : Int), .int .i64 (k : Int)] w fun e w' => e = .returned (.bool (decide (cE ms[i] ms[k] < 0))) ∧ Below w.heap.size w w' := by
  have HCM : Hid (∀ (a b : E) v, Calls Tryd.prog 102 #[a.val, b.val] v fun e w' => e = .returned (.int .i64 (cE a b)) ∧ Below v.heap.size v w') := Lib.hid implCE
  have hl := h.len
  have hnl : n ≤ 9223372036854775807 := h.n1
  obtain ⟨b, o, hk', e1, hB, hc⟩ := h.get (k := i) (by omega)
  obtain ⟨b', o', hl', e2, hB', hc'⟩ := h.get (k := k) (by omega)
  rw [e1] at e2
  injection e2 with e2
  injection e2 with e3 e4' _
  subst e3 e4' e1
  obtain ⟨m, hm⟩ : ∃ m, m = ms[i] := ⟨_, rfl⟩
  obtain ⟨m', hm'⟩ : ∃ m, m = ms[k] := ⟨_, rfl⟩
  rw [← hm, ← hm']
  rw [← hm] at hc
  rw [← hm'] at hc'
  have KX : Hid (∀ v, Below w.heap.size w v → (v.cell? ⟨b, o + i * 4, none⟩ = some (.int .i64 m.day) ∧ v.cell? ⟨b, o + i * 4 + 1, none⟩ = some (.int .i64 m.party) ∧ v.cell? ⟨b, o + i * 4 + 2, none⟩ = some (.string m.act) ∧ v.cell? ⟨b, o + i * 4 + 3, none⟩ = some (.int .i64 m.amt)) ∧ v.cell? ⟨b, o + k * 4, none⟩ = some (.int .i64 m'.day) ∧ v.cell? ⟨b, o + k * 4 + 1, none⟩ = some (.int .i64 m'.party) ∧ v.cell? ⟨b, o + k * 4 + 2, none⟩ = some (.string m'.act) ∧ v.cell? ⟨b, o + k * 4 + 3, none⟩ = some (.int .i64 m'.amt)) := Lib.hid fun v hv => ⟨e4 (hc v hv), e4 (hc' v hv)⟩
  obtain ⟨⟨c0, c1, c2, c3⟩, d0, d1, d2, d3⟩ := KX.out w (Below.refl _ _)
  obtain ⟨z, hz⟩ : ∃ z, z = cE m m' := ⟨_, rfl⟩
  have HF : Hid (∀ v, Calls Tryd.prog 102 #[m.val, m'.val] v fun e w' => e = .returned (.int .i64 z) ∧ Below v.heap.size v w') := Lib.hid fun v => by rw [hz]; exact HCM.out m m' v
  rw [← hz]
  have i0 : (0 : Int) ≤ (i : Int) := by omega
  have i1 : (i : Int) < (n : Int) := by omega
  have k0 : (0 : Int) ≤ (k : Int) := by omega
  have k1 : (k : Int) < (n : Int) := by omega
  clear h hc hc' hm hm' hz hl
  go_enter Tryd.func101, Tryd.ntmps101
  go_wp2_with fail
  go_region_held3 (fun v => (v.cell? ⟨b, o + i * 4, none⟩ = some (.int .i64 m.day) ∧ v.cell? ⟨b, o + i * 4 + 1, none⟩ = some (.int .i64 m.party) ∧ v.cell? ⟨b, o + i * 4 + 2, none⟩ = some (.string m.act) ∧ v.cell? ⟨b, o + i * 4 + 3, none⟩ = some (.int .i64 m.amt)) ∧ v.cell? ⟨b, o + k * 4, none⟩ = some (.int .i64 m'.day) ∧ v.cell? ⟨b, o + k * 4 + 1, none⟩ = some (.int .i64 m'.party) ∧ v.cell? ⟨b, o + k * 4 + 2, none⟩ = some (.string m'.act) ∧ v.cell? ⟨b, o + k * 4 + 3, none⟩ = some (.int .i64 m'.amt)) (first | (refine KX.out _ ?_; (repeat (first | exact Below.refl _ _ | exact bx | apply Below.drew)); done))
    (first | (go_at_call 102; (with_reducible refine (HF.out _).mono ?_); rintro e w2 ⟨rfl, hb⟩; have bx : Below w.heap.size w w2 := Below.trans (by (repeat (first | exact Below.refl _ _ | apply Below.drew))) (hb.mono (by first | omega | (simp; done) | (simp; omega))); clear hb))
  all_goals go_wp2_with fail
  all_goals go_ret
  all_goals exact ⟨rfl, bx⟩

/-- The methods that sort's interface reaches. -/
theorem reachLen (A : Option Addr) (n cap : Nat) (w : World) : Sem.run Tryd.prog (method 230 72 (.slice A n cap) "Len") w = .ok (100, .slice A n cap) w := by kernel_rfl
theorem reachLess (A : Option Addr) (n cap : Nat) (w : World) : Sem.run Tryd.prog (method 230 72 (.slice A n cap) "Less") w = .ok (101, .slice A n cap) w := by kernel_rfl

set_option maxRecDepth 100000 in
set_option maxHeartbeats 4000000 in
theorem isSorted (A : Option Addr) (n cap : Nat) (ms : List E) (t : Bool) (ht : t = true ↔ riseE ms) (w : World) (h : LiE w w.heap.size A n cap ms) :
    Calls Tryd.prog 45 #[.iface 72 (.slice A n cap)] w fun e w' => e = .returned (.bool t) ∧ Below w.heap.size w w' := by
  have mN := reachLen A n cap
  have mL := reachLess A n cap
  have HLN := Lib.hid (lenE A n cap)
  have HN := Lib.hid h.len
  have HL := Lib.hid h
  have HT := Lib.hid ht
  have hnl : n ≤ 9223372036854775807 := h.n1
  clear ht h
  go_enter Tryd.func45, Tryd.ntmps45
  go_wp2_with (go_at_call 100; refine (HLN.out _).mono ?_; rintro e w2 ⟨rfl, hw⟩; rw [hw]; clear hw)
  go_loopw [4] (fun i wr => ∃ z : Int, i = .int .i64 z ∧ -1 ≤ z ∧ z < n ∧ Hid (∀ j, ∀ h : j + 1 < ms.length, z ≤ (j : Int) → cE ms[j] ms[j + 1] ≤ 0) ∧ Hid (Below w.heap.size w wr)) (fun i _ => (intOf i).toNat)
  case atStart => exact ⟨(n : Int) - 1, rfl, by omega, by omega, Lib.hid fun j h hj => by have := HN.out; omega, Lib.hid (Below.refl _ _)⟩
  case round =>
    obtain ⟨z, rfl, hz1, hz2, HK, HB⟩ := hrel
    by_cases h0 : 0 < z
    · obtain ⟨l, rfl⟩ : ∃ l : Nat, z = (l : Int) + 1 := ⟨(z - 1).toNat, by omega⟩
      have hl : l + 1 < ms.length := by have := HN.out; omega
      obtain ⟨u, hu⟩ : ∃ u, u = decide (cE ms[l + 1] ms[l] < 0) := ⟨_, rfl⟩
      have HF : Hid (Calls Tryd.prog 101 #[.slice A n cap, .int .i64 ((l : Int) + 1), .int .i64 (l : Int)] wr fun e w' => e = .returned (.bool u) ∧ Below wr.heap.size wr w') := Lib.hid (by
        have := lessE A n cap ms (l + 1) l hl (by omega) wr (HL.out.on HB.out)
        rw [← hu, show ((l + 1 : Nat) : Int) = (l : Int) + 1 by omega] at this
        exact this)
      have HU := Lib.hid hu
      have hsub : (l : Int) + 1 - 1 = (l : Int) := by omega
      clear hu
      cases u
      · have HK2 : Hid (∀ j, ∀ h : j + 1 < ms.length, (l : Int) ≤ (j : Int) → cE ms[j] ms[j + 1] ≤ 0) := Lib.hid fun j h hj => by
          by_cases e : j = l
          · subst e
            have h1 := of_decide_eq_false HU.out.symm
            rw [cE_neg] at h1
            omega
          · exact HK.out j h (by omega)
        go_wp2_with (go_at_call 101; refine HF.out.mono ?_; rintro e w2 ⟨rfl, hb⟩)
        go_roundw
        case rel => exact ⟨(l : Int), by go_num, by omega, by omega, HK2, Lib.hid (HB.out.trans (hb.mono HB.out.size))⟩
        case measure => first | (simp [intOf]; done) | (simp [intOf]; omega)
      · have HR : Hid (t = false) := Lib.hid (by
          rw [Bool.eq_false_iff]; intro e
          have h1 := HT.out.1 e l hl
          have h2 := of_decide_eq_true HU.out.symm
          rw [cE_neg] at h2
          omega)
        go_wp2_with (go_at_call 101; refine HF.out.mono ?_; rintro e w2 ⟨rfl, hb⟩)
        go_ret
        exact ⟨by rw [HR.out]; rfl, HB.out.trans (hb.mono HB.out.size)⟩
    · have HR : Hid (t = true) := Lib.hid (HT.out.2 fun i hi => HK.out i hi (by omega))
      go_wp2_with fail
      go_ret
      exact ⟨by rw [HR.out]; rfl, HB.out⟩

theorem t_iff (p : Prop) : ∃ u : Bool, u = true ↔ p := by
  by_cases h : p
  · exact ⟨true, by simp [h]⟩
  · exact ⟨false, by simp [h]⟩

set_option maxHeartbeats 4000000 in
theorem implValidEv (A : Option Addr) (n cap : Nat) (ms : List E) (p : Int) (t : Bool) (ht : t = true ↔ goodE ms p) (w : World) (h : LiE w w.heap.size A n cap ms) :
    Calls Tryd.prog 26 #[.slice A n cap, .int .i64 p] w fun e w' => e = .returned (.bool t) ∧ Below w.heap.size w w' := by
  obtain ⟨r, hr⟩ := t_iff (riseE ms)
  have HVA : Hid (Calls Tryd.prog 44 #[.slice A n cap, .int .i64 p] w fun e w' => e = .returned (.bool (valE ms p)) ∧ Below w.heap.size w w') := Lib.hid (areValid A n cap ms p w h)
  have HSO : Hid (∀ v, Below w.heap.size w v → Calls Tryd.prog 45 #[.iface 72 (.slice A n cap)] v fun e w' => e = .returned (.bool r) ∧ Below v.heap.size v w') := Lib.hid fun v hv => isSorted A n cap ms r hr v (h.on hv)
  obtain ⟨u, hu⟩ : ∃ u, u = valE ms p := ⟨_, rfl⟩
  have HT : Hid (t = (u && r)) := Lib.hid (by
    rw [Bool.eq_iff_iff, ht, Bool.and_eq_true, hr, hu]
    exact ⟨fun h => ⟨h.2, h.1⟩, fun h => ⟨h.2, h.1⟩⟩)
  rw [← hu] at HVA
  clear ht h hr hu
  go_enter Tryd.func26, Tryd.ntmps26
  cases u
  · go_wp2_with (go_at_call 44; refine HVA.out.mono ?_; rintro e w2 ⟨rfl, hb⟩)
    go_ret
    exact ⟨by rw [HT.out]; rfl, hb⟩
  · go_wp2_with (first | (go_at_call 44; refine HVA.out.mono ?_; rintro e w2 ⟨rfl, hb⟩; have HB2 := Lib.hid hb; clear hb) | (go_at_call 45; refine (HSO.out _ HB2.out).mono ?_; rintro e w3 ⟨rfl, hb⟩))
    go_ret
    exact ⟨by rw [HT.out]; rfl, HB2.out.trans (hb.mono HB2.out.size)⟩

end Go.Proofs.YtgjihejneadadaaDoor.Et

namespace Go.Proofs.YtgjihejneadadaaDoor.Cl
open Go.RowKit Go.Proofs.YtgjihejneadadaaDoor.Cond Go.Proofs.YtgjihejneadadaaDoor.Gx Go.Proofs.YtgjihejneadadaaDoor.NdS
set_option linter.unusedVariables false

/-- Whether a clause has this Id. -/
def hasId (id : ByteArray) (x : L) : Bool := decide (x.id.toList = id.toList)
/-- The first clause with this Id, or the number of clauses. -/
def fnd (ls : List L) (id : ByteArray) : Nat := ls.findIdx (hasId id)
theorem fnd_le (ls : List L) (id : ByteArray) : fnd ls id ≤ ls.length := List.findIdx_le_length
def fndI (ls : List L) (id : ByteArray) : Int := if fnd ls id < ls.length then (fnd ls id : Int) else -1
theorem fnd_at {ls : List L} {id : ByteArray} {k : Nat} (hk : k < ls.length) (h0 : ∀ j, ∀ h : j < k, hasId id (ls[j]'(by omega)) = false) (h1 : hasId id ls[k] = true) : fnd ls id = k := by
  unfold fnd
  rw [List.findIdx_eq hk]
  exact ⟨h1, fun j hj => by have := h0 j hj; simp [this]⟩
theorem fnd_no {ls : List L} {id : ByteArray} (h0 : ∀ j, ∀ h : j < ls.length, hasId id ls[j] = false) : fnd ls id = ls.length := by
  unfold fnd
  rw [List.findIdx_eq_length]
  intro x hx
  obtain ⟨i, hi, rfl⟩ := List.getElem_of_mem hx
  exact h0 i hi

/-- A clause without regard to the others; np parties. -/
def okC (np : Nat) (x : L) : Bool :=
  isNm x.id && isNm x.act && (decide (1 ≤ x.kind) && decide (x.kind ≤ 4)) && (decide (0 ≤ x.party) && decide (x.party ≤ (np : Int) - 1)) && (decide (0 ≤ x.other) && decide (x.other ≤ (np : Int) - 1)) && !decide (x.party = x.other) && x.c.good
def okA (x : L) : Bool := (decide (0 ≤ x.amt) && decide (x.amt ≤ 1000000)) && (decide (0 ≤ x.within) && decide (x.within ≤ 400)) && (decide (x.kind = 1) || (decide (x.amt = 0) && decide (x.within = 0)))
/-- The Repair of clause i. -/
def kindAt (ls : List L) (k : Nat) : Int := if h : k < ls.length then ls[k].kind else 0
def okR (ls : List L) (i : Nat) (x : L) : Bool :=
  decide (x.rep.toList = []) || (decide (fnd ls x.rep < ls.length) && !decide (fnd ls x.rep = i) && decide (kindAt ls (fnd ls x.rep) = 1) && !decide (x.kind = 3))
def okL (np : Nat) (ls : List L) (i : Nat) (x : L) : Bool := okC np x && okA x && okR ls i x
/-- Clause i has an Id of its own and is valid. -/
def okI (np : Nat) (ls : List L) (i : Nat) (x : L) : Bool := decide (fnd ls x.id = i) && okL np ls i x
def okAll (np : Nat) (ls : List L) : Bool := decide (∀ i, ∀ h : i < ls.length, okI np ls i ls[i] = true)
def okN (ss : List ByteArray) : Bool := decide (∀ i, ∀ h : i < ss.length, isNm ss[i] = true ∧ has (ss.take i) ss[i] = false)
/-- All names of actions and facts, in order. -/
def nmsC (ls : List L) : List (List UInt8) := ls.flatMap fun x => x.act.toList :: nms x.c
def names (ls : List L) : List (List UInt8) := UniTM.uni [] (nmsC ls)
def Ct.good (x : Ct) : Bool := decide (1 ≤ x.ls.length) && decide (x.ls.length ≤ 12) && (okN x.ss && (decide (2 ≤ x.ss.length) && decide (x.ss.length ≤ 4))) && okAll x.ss.length x.ls && decide ((names x.ls).length ≤ 16)

theorem uni_app (a b c : List (List UInt8)) : UniTM.uni a (b ++ c) = UniTM.uni (UniTM.uni a b) c := by simp [UniTM.uni]
theorem nmsC_snoc (ls : List L) (x : L) : nmsC (ls ++ [x]) = nmsC ls ++ (x.act.toList :: nms x.c) := by simp [nmsC]
theorem names_step {ls : List L} {i : Nat} (hi : i < ls.length) : names (ls.take (i + 1)) = UniTM.uni (UniTM.putL (names (ls.take i)) ls[i].act.toList) (nms ls[i].c) := by
  unfold names
  rw [List.take_succ_eq_append_getElem hi, nmsC_snoc, uni_app]
  rfl
theorem good_len {x : Ct} (h : x.good = true) : 1 ≤ x.ls.length ∧ x.ls.length ≤ 12 ∧ 2 ≤ x.ss.length ∧ x.ss.length ≤ 4 := by
  simp only [Ct.good, Bool.and_eq_true, decide_eq_true_eq] at h
  exact ⟨h.1.1.1.1, h.1.1.1.2, h.1.1.2.2.1, h.1.1.2.2.2⟩
theorem good_all {x : Ct} (h : x.good = true) : ∀ i, ∀ hi : i < x.ls.length, okI x.ss.length x.ls i x.ls[i] = true := by
  simp only [Ct.good, okAll, Bool.and_eq_true, decide_eq_true_eq] at h
  exact h.1.2
theorem okL_c {np : Nat} {ls : List L} {i : Nat} {x : L} (h : okL np ls i x = true) : x.c.good = true := by
  simp only [okL, okC, Bool.and_eq_true] at h
  exact h.1.1.2

end Go.Proofs.YtgjihejneadadaaDoor.Cl

namespace Go.Proofs.YtgjihejneadadaaDoor.Cl
open Go.RowKit Go.Proofs.YtgjihejneadadaaDoor.Cond Go.Proofs.YtgjihejneadadaaDoor.Gx
set_option linter.unusedVariables false
set_option linter.unusedSimpArgs false

theorem ct_get {x : Kt} {k : Nat} (hk : k < x.ms.length) : ∃ h : k < x.ct.ls.length, x.ct.ls[k] = x.ms[k].cl := ⟨by simpa [Kt.ct] using hk, by simp [Kt.ct]⟩

/-- Clause i of the contract that lies in memory. -/
structure CAt (x : Kt) (i : Nat) (m : M) : Prop where
  lt : i < x.ms.length
  eq : m = x.ms[i]
theorem CAt.cl {x : Kt} {i : Nat} {m : M} (h : CAt x i m) : ∃ hh : i < x.ct.ls.length, x.ct.ls[i] = m.cl := by
  obtain ⟨h1, h2⟩ := ct_get h.lt
  exact ⟨h1, by rw [h2]; exact congrArg M.cl h.eq.symm⟩
theorem LiC.clause {w : World} {B : Nat} {x : Kt} (h : LiC w B x) {i : Nat} {m : M} (hm : CAt x i m) : LiM w B m := by rw [hm.eq]; exact h.c.all _ (List.getElem_mem hm.lt)
/-- What l6Clause asks first. -/
structure Tst (np : Nat) (m : M) (t0 t1 t2 t3 t4 t5 t6 t7 t8 : Bool) : Prop where
  e0 : t0 = isNm m.id
  e1 : t1 = isNm m.act
  e2 : t2 = (decide (1 ≤ m.kind) && decide (m.kind ≤ 4))
  e3 : t3 = (decide (0 ≤ m.party) && decide (m.party ≤ (np : Int) - 1))
  e4 : t4 = (decide (0 ≤ m.other) && decide (m.other ≤ (np : Int) - 1))
  e5 : t5 = decide (m.party = m.other)
  e6 : t6 = m.k.cond.good
  e7 : t7 = (decide (0 ≤ m.amt) && decide (m.amt ≤ 1000000))
  e8 : t8 = (decide (0 ≤ m.within) && decide (m.within ≤ 400))
theorem Tst.c {np : Nat} {m : M} {t0 t1 t2 t3 t4 t5 t6 t7 t8 : Bool} (h : Tst np m t0 t1 t2 t3 t4 t5 t6 t7 t8) : okC np m.cl = (t0 && t1 && t2 && t3 && t4 && !t5 && t6) := by
  rw [h.e0, h.e1, h.e2, h.e3, h.e4, h.e5, h.e6]; rfl
theorem Tst.a {np : Nat} {m : M} {t0 t1 t2 t3 t4 t5 t6 t7 t8 : Bool} (h : Tst np m t0 t1 t2 t3 t4 t5 t6 t7 t8) : okA m.cl = (t7 && t8 && (decide (m.kind = 1) || (decide (m.amt = 0) && decide (m.within = 0)))) := by
  rw [h.e7, h.e8]; rfl
theorem okL_eq (np : Nat) (ls : List L) (i : Nat) (m : M) : okL np ls i m.cl = (okC np m.cl && okA m.cl && okR ls i m.cl) := rfl
theorem kind_at {x : Kt} {k : Nat} {p : M} (h : CAt x k p) : kindAt x.ct.ls k = p.kind := by
  obtain ⟨h1, h2⟩ := h.cl
  unfold kindAt
  rw [dif_pos h1, h2]
  rfl

end Go.Proofs.YtgjihejneadadaaDoor.Cl

namespace Go.Proofs.YtgjihejneadadaaDoor.Cl
open Go.RowKit Go.Proofs.YtgjihejneadadaaDoor.Cond Go.Proofs.YtgjihejneadadaaDoor.Gx Go.Proofs.YtgjihejneadadaaDoor.NdS
set_option linter.unusedVariables false
set_option linter.unusedSimpArgs false

theorem is_prefix {w : World} {B : Nat} {A : Option Addr} {ss : List ByteArray} (h : Row.Is w B A ss) (k : Nat) : Row.Is w B A (ss.take k) := fun hp => by
  obtain ⟨ad, e, hB, hc⟩ := h (by have := List.length_take (i := k) (l := ss); omega)
  exact ⟨ad, e, hB, fun j hj => by
    have hj' : j < ss.length := by have := List.length_take (i := k) (l := ss); omega
    rw [List.getElem_take]; exact hc j hj'⟩
/-- The first k parties are names, each another. -/
def nOk (ss : List ByteArray) (k : Nat) : Prop := ∀ i, ∀ h : i < ss.length, i < k → isNm ss[i] = true ∧ has (ss.take i) ss[i] = false
theorem okN_no {ss : List ByteArray} {k : Nat} (hk : k < ss.length) (h : isNm ss[k] = false ∨ has (ss.take k) ss[k] = true) : okN ss = false := by
  unfold okN
  refine decide_eq_false fun hh => ?_
  obtain ⟨h1, h2⟩ := hh k hk
  rcases h with h | h
  · rw [h1] at h; cases h
  · rw [h2] at h; cases h
theorem okN_yes {ss : List ByteArray} (h : nOk ss ss.length) : okN ss = true := decide_eq_true fun i hi => h i hi hi

set_option maxHeartbeats 4000000 in
theorem l6Parties (x : Kt) (w : World) (h : LiC w w.heap.size x) (hn : x.n1 ≤ 1048576) (ok : Bool) (hok : ok = (okN x.ss && (decide (2 ≤ x.ss.length) && decide (x.ss.length ≤ 4)))) :
    Calls Tryd.prog 29 #[x.val] w fun e w' => e = .returned (.bool ok) ∧ Below w.heap.size w w' := by
  obtain ⟨X, hX⟩ : ∃ X, X = w.alloc (.cells #[.slice x.A1 x.n1 x.c1, .slice x.A2 x.n2 x.c2] 61) := ⟨_, rfl⟩
  have B0 : Below w.heap.size w X := by rw [hX]; exact below1 _ _
  have HP := Lib.hid ((h.p.below B0).more B0.size)
  have P0 : Hid (Bk w.heap.size X [.slice x.A1 x.n1 x.c1, .slice x.A2 x.n2 x.c2]) := Lib.hid (by rw [hX]; exact Bk.new _ _ _)
  have HB := Lib.hid B0
  have HX := Lib.hid hX
  have HOK := Lib.hid hok
  have HLN := Lib.hid h.p.len
  have hnc := h.p.nc
  clear h B0 hX hok
  go_enter Tryd.func29, Tryd.ntmps29
  go_wp2_with fail
  go_loopw [3] (fun i wr => ∃ k : Nat, k ≤ x.n1 ∧ i = .int .i64 k ∧ Hid (nOk x.ss k) ∧ Hid (Below X.heap.size X wr)) (fun i _ => x.n1 - (intOf i).toNat)
  case atStart => exact ⟨0, Nat.zero_le _, rfl, Lib.hid fun i _ h => by omega, by rw [← HX.out]; exact Lib.hid (Below.refl _ _)⟩
  case round =>
    obtain ⟨k, hk, rfl, HK, HB2⟩ := hrel
    have p0 := (P0.out.on HB2.out).c 0 (by simp)
    simp only [List.getElem_cons_zero] at p0
    have HBW := Lib.hid (HB.out.trans (HB2.out.mono HB.out.size))
    by_cases hlt : k < x.n1
    · have hk' : k < x.ss.length := by have := HLN.out; omega
      obtain ⟨ad, e, hB, hc⟩ := HP.out.is (by omega)
      obtain ⟨p, hp⟩ : ∃ p, p = x.ss[k] := ⟨_, rfl⟩
      have had := HP.out.sp ad e (by omega)
      obtain ⟨b, oo, had2⟩ : ∃ b oo, ad = ⟨b, oo, none⟩ := ⟨_, _, had⟩
      have hcell : wr.cell? ⟨b, oo + k, none⟩ = some (.string p) := by
        rw [hp, ← World.cell?_of_block (HB2.out.block b (by rw [had2] at hB; exact hB)) |>.symm]
        have := hc k hk'
        rw [had2, add_none] at this
        exact this
      rw [e, had2] at p0
      have HPP := Lib.hid hp
      have i0 : (0 : Int) ≤ (k : Int) := by omega
      have i1 : (k : Int) < (x.n1 : Int) := by omega
      have i2 : (k : Int) ≤ (x.c1 : Int) := by omega
      have HHAS : Hid (∀ v, Below wr.heap.size wr v → Calls Tryd.prog 47 #[.slice (some ⟨b, oo, none⟩) k x.c1, .string p] v fun e w' => e = .returned (.bool (has (x.ss.take k) p)) ∧ ∃ m, w' = v.drewN m) := Lib.hid fun v hv =>
        (l5Has (some ⟨b, oo, none⟩) k x.c1 (x.ss.take k) p X.heap.size v (by rw [List.length_take]; omega) (by omega) (by rw [← had2, ← e]; exact ((is_prefix HP.out.is k).below (HB2.out.trans (hv.mono HB2.out.size))))).mono fun e w' ⟨he, hw⟩ => ⟨he, 0, hw.symm⟩
      obtain ⟨t, ht⟩ : ∃ t, t = isNm p := ⟨_, rfl⟩
      obtain ⟨u, hu⟩ : ∃ u, u = has (x.ss.take k) p := ⟨_, rfl⟩
      rw [← hu] at HHAS
      have HNM : Hid (∀ v, Calls Tryd.prog 32 #[.string p] v fun e w' => e = .returned (.bool t) ∧ ∃ m, w' = v.drewN m) := Lib.hid fun v => by rw [ht]; exact (l5Name p v).mono fun e w' ⟨he, hw⟩ => ⟨he, 0, hw.symm⟩
      have HTU := Lib.hid (And.intro ht hu)
      clear hp hc e hB had had2 ht hu
      cases t
      · have HO : Hid (ok = false) := Lib.hid (by rw [HOK.out, okN_no hk' (.inl (by rw [← HPP.out, ← HTU.out.1]))]; rfl)
        go_wp2_with fail
        go_quiet ((go_at_call 32; with_reducible exact Calls.quiet_of (HNM.out _)))
        go_wp2_with fail
        go_ret
        exact ⟨by rw [HO.out]; rfl, below_drewN HBW.out _⟩
      cases u
      · have HK2 : Hid (nOk x.ss (k + 1)) := Lib.hid fun j hj hjk => by
          by_cases e : j = k
          · subst e; rw [← HPP.out]; exact ⟨HTU.out.1.symm, HTU.out.2.symm⟩
          · exact HK.out j hj (by omega)
        go_wp2_with fail
        go_quiet ((first | (go_at_call 32; with_reducible exact Calls.quiet_of (HNM.out _)) | (go_at_call 47; with_reducible exact Calls.quiet_of (HHAS.out _ (below_drewN (Below.refl _ _) _)))))
        go_wp2_with fail
        go_roundw
        case rel => exact ⟨k + 1, by omega, by go_num, HK2, Lib.hid (below_drewN HB2.out _)⟩
        case measure => simp [intOf]; omega
      · have HO : Hid (ok = false) := Lib.hid (by rw [HOK.out, okN_no hk' (.inr (by rw [← HPP.out, ← HTU.out.2]))]; rfl)
        go_wp2_with fail
        go_quiet ((first | (go_at_call 32; with_reducible exact Calls.quiet_of (HNM.out _)) | (go_at_call 47; with_reducible exact Calls.quiet_of (HHAS.out _ (below_drewN (Below.refl _ _) _)))))
        go_wp2_with fail
        go_ret
        exact ⟨by rw [HO.out]; rfl, below_drewN HBW.out _⟩
    · have HO : Hid (ok = (decide (2 ≤ x.ss.length) && decide (x.ss.length ≤ 4))) := Lib.hid (by rw [HOK.out, okN_yes (fun i hi _ => HK.out i hi (by have := HLN.out; omega)), Bool.true_and])
      have HIN : Hid (∀ v, Calls Tryd.prog 31 #[.int .i64 (x.n1 : Int), .int .i64 2, .int .i64 4] v fun e w' => e = .returned (.bool ok) ∧ v = w') := Lib.hid fun v => by
        have := l1In (x.n1 : Int) 2 4 v
        have e1 : decide ((2 : Int) ≤ (x.n1 : Int)) = decide (2 ≤ x.ss.length) := decide_eq_decide.2 (by have := HLN.out; omega)
        have e2 : decide ((x.n1 : Int) ≤ 4) = decide (x.ss.length ≤ 4) := decide_eq_decide.2 (by have := HLN.out; omega)
        rw [e1, e2, ← HO.out] at this
        exact this
      go_wp2_with (go_at_call 31; refine (HIN.out _).mono ?_; rintro e w' ⟨rfl, rfl⟩)
      go_ret
      exact ⟨rfl, HBW.out⟩

theorem own_on {S : Nat} {w w' : World} {v : Value} {zs : List (List UInt8)} (h : UniT.Own w S v zs) (hb : Below w.heap.size w w') : UniT.Own w' S v zs :=
  h.kept (row := none) ⟨hb.os, hb.tape, hb.output, hb.size, fun j hj _ => hb.block j hj⟩ (by cases hv : v.ownBlock <;> simp)
theorem nms_take {x : Kt} {k : Nat} {p : M} (h : CAt x k p) : names (x.ct.ls.take (k + 1)) = UniTM.uni (UniTM.putL (names (x.ct.ls.take k)) p.act.toList) (nms p.k.cond) := by
  obtain ⟨h1, h2⟩ := h.cl
  rw [names_step h1, h2]
  rfl
theorem str_back (s : ByteArray) : (⟨s.toList.toArray⟩ : ByteArray) = s := by rw [Go.ByteArray.toList_eq]

end Go.Proofs.YtgjihejneadadaaDoor.Cl

namespace Go.Proofs.YtgjihejneadadaaDoor.Cl
open Go.RowKit Go.Proofs.YtgjihejneadadaaDoor.Cond Go.Proofs.YtgjihejneadadaaDoor.Gx Go.Proofs.YtgjihejneadadaaDoor.NdS
set_option linter.unusedVariables false
set_option linter.unusedSimpArgs false

theorem okAll_no {np : Nat} {ls : List L} {k : Nat} (hk : k < ls.length) (h : okI np ls k ls[k] = false) : okAll np ls = false := by
  unfold okAll
  exact decide_eq_false fun hh => by rw [hh k hk] at h; cases h
theorem okAll_yes {np : Nat} {ls : List L} (h : ∀ i, ∀ hi : i < ls.length, okI np ls i ls[i] = true) : okAll np ls = true := decide_eq_true h
theorem fndI_is {ls : List L} {id : ByteArray} {k : Nat} (hk : k < ls.length) : fndI ls id = (k : Int) ↔ fnd ls id = k := by
  unfold fndI
  split
  · omega
  · omega

end Go.Proofs.YtgjihejneadadaaDoor.Cl

namespace Go.Proofs.YtgjihejneadadaaDoor.Cl
open Go.RowKit Go.Maps Go.Proofs.YtgjihejneadadaaDoor.Cond Go.Proofs.YtgjihejneadadaaDoor.Gx Go.Proofs.YtgjihejneadadaaDoor.NdS
set_option linter.unusedVariables false

/-- An Id as a key. -/
def key (s : ByteArray) : Lit := .string s.data.toList
theorem key_ne {a b : ByteArray} (h : ¬ a.toList = b.toList) : key a ≠ key b := fun e => h (by
  injection e with e
  rw [ByteArray.toList_eq, ByteArray.toList_eq, e])
theorem key_eq {a b : ByteArray} (h : a.toList = b.toList) : key a = key b := by
  rw [ByteArray.toList_eq, ByteArray.toList_eq] at h
  unfold key
  rw [h]
theorem lawS : Keyed Tryd.prog 9 := string_keyed Tryd.underlying9
theorem zeroI (w : World) : (zeroValue 3).run Tryd.prog w = .ok (.int .i64 0) w := by kernel_rfl

/-- Whether a clause has this Id, and its number. -/
def numB (ls : List L) (id : ByteArray) : Bool := decide (fnd ls id < ls.length)
def numI (ls : List L) (id : ByteArray) : Int := if fnd ls id < ls.length then (fnd ls id : Int) else 0
theorem numB_yes {ls : List L} {id : ByteArray} (h : fnd ls id < ls.length) : numB ls id = true := decide_eq_true h
theorem numB_no {ls : List L} {id : ByteArray} (h : ¬ fnd ls id < ls.length) : numB ls id = false := decide_eq_false h
theorem numI_yes {ls : List L} {id : ByteArray} (h : fnd ls id < ls.length) : numI ls id = (fnd ls id : Int) := if_pos h
theorem numI_no {ls : List L} {id : ByteArray} (h : ¬ fnd ls id < ls.length) : numI ls id = 0 := if_neg h
theorem fnd_snoc (ls : List L) (x : L) (id : ByteArray) : fnd (ls ++ [x]) id = if fnd ls id < ls.length then fnd ls id else if hasId id x then ls.length else ls.length + 1 := by
  unfold fnd
  rw [List.findIdx_append]
  split
  · rfl
  · have : List.findIdx (hasId id) ls ≤ ls.length := List.findIdx_le_length
    simp only [List.findIdx_cons, List.findIdx_nil]
    cases hasId id x
    · simp only [cond_false, Bool.false_eq_true, if_false]; omega
    · simp only [cond_true, if_true]; omega

/-- What the map reads as: the numbers of the clauses. -/
structure IsNum (D : DataW Unit) (ls : List L) : Prop where
  map : IsMap D
  has : ∀ id, Maps.has D (key id) = numB ls id
  at_ : ∀ id, D.atKey (key id) (.lit (.int .i64 0)) = .lit (.int .i64 (numI ls id))
theorem isNum_nil : IsNum (.map []) [] :=
  ⟨isMap_empty, fun id => by simp [Maps.has, numB], fun id => by
    have h : Maps.has (.map [] : DataW Unit) (key id) = false := by simp [Maps.has]
    rw [atKey_of_not_has h]; simp [numI]⟩
theorem isKey (s : ByteArray) : WideAt.IsKeyLit (key s) := trivial
theorem IsNum.snoc {D : DataW Unit} {ls : List L} (h : IsNum D ls) (x : L) (hx : ¬ fnd ls x.id < ls.length) : IsNum (D.put (key x.id) (.lit (.int .i64 (ls.length : Int)))) (ls ++ [x]) := by
  have hlen : (ls ++ [x]).length = ls.length + 1 := by simp
  refine ⟨h.map.put _ _, fun id => ?_, fun id => ?_⟩
  · by_cases e : x.id.toList = id.toList
    · rw [← key_eq e, has_put_same h.map (isKey _)]
      have h1 : hasId id x = true := decide_eq_true e
      refine (numB_yes ?_).symm
      rw [fnd_snoc, hlen, h1]
      split
      · omega
      · simp
    · rw [has_put_other (key_ne (fun e2 => e e2.symm)), h.has id]
      have h1 : hasId id x = false := decide_eq_false e
      unfold numB
      rw [fnd_snoc, hlen, h1]
      refine decide_eq_decide.2 ?_
      split
      · omega
      · simp; omega
  · by_cases e : x.id.toList = id.toList
    · rw [← key_eq e, atKey_put_same h.map (isKey _)]
      have h1 : hasId id x = true := decide_eq_true e
      have h2 : ¬ fnd ls id < ls.length := by
        have h3 : hasId id = hasId x.id := by funext y; unfold hasId; rw [e]
        have h4 : fnd ls id = fnd ls x.id := by unfold fnd; rw [h3]
        rw [h4]; exact hx
      have h3 : fnd (ls ++ [x]) id = ls.length := by rw [fnd_snoc, if_neg h2, h1]; rfl
      rw [numI_yes (by rw [h3, hlen]; omega), h3]
    · rw [atKey_put_other (key_ne (fun e2 => e e2.symm)), h.at_ id]
      have h1 : hasId id x = false := decide_eq_false e
      unfold numI
      rw [fnd_snoc, hlen, h1]
      by_cases hf : fnd ls id < ls.length
      · simp only [hf, if_true]; rw [if_pos (by omega)]
      · simp [hf]

/-- Block b holds the numbers of the clauses ls. -/
def Nums (w : World) (b n : Nat) (ls : List L) : Prop := ∃ D : DataW Unit, w.ownsMap Tryd.prog 9 (plainElem Tryd.prog 3) b n D ∧ IsNum D ls
theorem Nums.on {w w' : World} {b n : Nat} {ls : List L} (h : Nums w b n ls) (hb : Below w.heap.size w w') : Nums w' b n ls := by
  obtain ⟨D, h1, h2⟩ := h
  exact ⟨D, h1.kept (row := none) ⟨hb.os, hb.tape, hb.output, hb.size, fun i hi _ => hb.block i hi⟩ (by simp), h2⟩
theorem Nums.below {w w' : World} {b n B : Nat} {ls : List L} (h : Nums w b n ls) (hb : Below B w w') (hB : b < B) : Nums w' b n ls := by
  obtain ⟨D, ⟨es, clock, h1, h2, h3, h4⟩, h5⟩ := h
  exact ⟨D, ⟨es, clock, (hb.block b hB).trans h1, h2, h3, h4⟩, h5⟩
theorem Nums.lt {w : World} {b n : Nat} {ls : List L} (h : Nums w b n ls) : b < w.heap.size := let ⟨_, h1, _⟩ := h; h1.lt
theorem Nums.drew {w : World} {b n : Nat} {ls : List L} (h : Nums w b n ls) : Nums w.drew b n ls := let ⟨D, h1, h2⟩ := h; ⟨D, h1.drew, h2⟩
theorem Nums.more {w : World} {b n n' : Nat} {ls : List L} (h : Nums w b n ls) (hn : n ≤ n') : Nums w b n' ls := let ⟨D, h1, h2⟩ := h; ⟨D, h1.mono hn, h2⟩
theorem nums_new (w : World) : Nums (w.alloc (.map #[] 0)) w.heap.size 0 [] := ⟨.map [], World.ownsMap_made _ _ _ _, isNum_nil⟩

end Go.Proofs.YtgjihejneadadaaDoor.Cl

namespace Go.Proofs.YtgjihejneadadaaDoor.Cl
open Go.RowKit Go.Proofs.YtgjihejneadadaaDoor.Cond Go.Proofs.YtgjihejneadadaaDoor.Gx Go.Proofs.YtgjihejneadadaaDoor.NdI Go.Proofs.YtgjihejneadadaaDoor.NdS Go.Proofs.YtgjihejneadadaaDoor.SrtR
set_option linter.unusedVariables false

theorem cols_nms : ∀ (cs : List C) (s : Sg), (∀ c ∈ cs, ∃ q : Q, c = q.c) → (cols cs s).1 = s.1 ++ cs.flatMap nms
  | [], s, _ => by simp [cols]
  | c :: cs, s, h => by
    obtain ⟨q, rfl⟩ := h c (by simp)
    have h2 := cols_nms cs (col q.c s) (fun c hc => h c (by simp [hc]))
    show (cols cs (col q.c s)).1 = _
    rw [h2, col_q]; simp
theorem names_all (ls : List L) : UniTM.uni [] (UniTM.uni [] (ls.flatMap fun x => nms x.c) ++ ls.map fun x => x.act.toList) = Cl.names ls := by
  refine UniTM.eq_of_mem (UniTM.pair_uni _ List.Pairwise.nil) (UniTM.pair_uni _ List.Pairwise.nil) fun m => ?_
  rw [show Cl.names ls = UniTM.uni [] (nmsC ls) from rfl]
  simp only [UniTM.mem_uni, List.mem_append, nmsC, List.mem_flatMap, List.mem_map, List.mem_cons, List.not_mem_nil, false_or]
  constructor
  · rintro (⟨x, hx, h⟩ | ⟨x, hx, h⟩)
    · exact ⟨x, hx, .inr h⟩
    · exact ⟨x, hx, .inl h.symm⟩
  · rintro ⟨x, hx, h | h⟩
    · exact .inr ⟨x, hx, h.symm⟩
    · exact .inl ⟨x, hx, h⟩
theorem names_pure (ls : List L) (h : ∀ x ∈ ls, x.c.good = true) :
    Lib.compact (srtT (Lib.compact (srtT (cols (ls.map L.c) ([], [])).1) ++ ls.map fun x => x.act.toList)) = Cl.names ls := by
  rw [comp_nms, comp_nms, cols_nms, ← names_all]
  · simp [List.flatMap_map]
  · intro c hc
    obtain ⟨x, hx, rfl⟩ := List.mem_map.1 hc
    obtain ⟨q, hq, _, _⟩ := good_q (h x hx)
    exact ⟨q, hq⟩

/-- A clause by itself; np parties. -/
def okV (np : Nat) (x : L) : Bool := okC np x && okA x && (!decide (x.kind = 3) || decide (x.rep.toList = []))
/-- Its Repair. -/
def okP (ls : List L) (i : Nat) (x : L) : Bool := decide (x.rep.toList = []) || (decide (fnd ls x.rep < ls.length) && !decide (fnd ls x.rep = i) && decide (kindAt ls (fnd ls x.rep) = 1))
theorem okL_is (np : Nat) (ls : List L) (i : Nat) (x : L) : okL np ls i x = (okV np x && okP ls i x) := by
  unfold okL okV okP okR
  cases okC np x <;> cases okA x <;> cases decide (x.rep.toList = []) <;> cases decide (x.kind = 3) <;> simp
theorem fnd_take {ls : List L} {i : Nat} (hi : i < ls.length) : fnd ls ls[i].id = i ↔ ¬ fnd (ls.take i) ls[i].id < (ls.take i).length := by
  have hl : (ls.take i).length = i := by simp; omega
  have e : ls = ls.take i ++ (ls[i] :: ls.drop (i + 1)) := by simp
  have h1 : hasId ls[i].id ls[i] = true := decide_eq_true rfl
  have h2 : fnd ls ls[i].id = if fnd (ls.take i) ls[i].id < (ls.take i).length then fnd (ls.take i) ls[i].id else i := by
    have h3 : fnd (ls.take i ++ (ls[i] :: ls.drop (i + 1))) ls[i].id = if fnd (ls.take i) ls[i].id < (ls.take i).length then fnd (ls.take i) ls[i].id else i := by
      unfold fnd
      rw [List.findIdx_append]
      split
      · rfl
      · rw [List.findIdx_cons, h1, hl]; simp
    rwa [← e] at h3
  rw [h2]
  split
  · constructor <;> intro _ <;> omega
  · exact ⟨fun _ => ‹_›, fun _ => rfl⟩
theorem okI_is {np : Nat} {ls : List L} {i : Nat} (hi : i < ls.length) : okI np ls i ls[i] = (!numB (ls.take i) ls[i].id && okV np ls[i] && okP ls i ls[i]) := by
  unfold okI
  rw [okL_is, ← Bool.and_assoc]
  congr 1
  congr 1
  unfold numB
  rw [decide_eq_decide.2 (fnd_take hi), decide_not]
theorem take_snoc {ls : List L} {i : Nat} (hi : i < ls.length) : ls.take i ++ [ls[i]] = ls.take (i + 1) := by simp

end Go.Proofs.YtgjihejneadadaaDoor.Cl

namespace Go.Proofs.YtgjihejneadadaaDoor.Cl
open Go.RowKit Go.Proofs.YtgjihejneadadaaDoor.Cond Go.Proofs.YtgjihejneadadaaDoor.Gx Go.Proofs.YtgjihejneadadaaDoor.NdI Go.Proofs.YtgjihejneadadaaDoor.NdS
set_option linter.unusedVariables false
set_option linter.unusedSimpArgs false

def isIx (i : Int) (n : Nat) : Bool := decide (0 ≤ i) && decide (i < (n : Int))
theorem isIndex (i : Int) (n : Nat) (w : World) : Calls Tryd.prog 39 #[.int .i64 i, .int .i64 (n : Int)] w fun e w' => e = .returned (.bool (isIx i n)) ∧ w = w' := by
  unfold isIx
  go_enter Tryd.func39, Tryd.ntmps39
  go_wp2
  all_goals go_ret
  all_goals refine ⟨?_, rfl⟩
  all_goals (first | (simp; done) | (simp; omega) | (simp; rw [Bool.eq_iff_iff]; simp; omega))

/-- What isValidAlone asks first. -/
structure Tsv (np : Nat) (m : M) (t0 t1 t3 t4 t5 t6 : Bool) : Prop where
  e0 : t0 = isNm m.id
  e1 : t1 = isNm m.act
  e3 : t3 = isIx m.party np
  e4 : t4 = isIx m.other np
  e5 : t5 = decide (m.party = m.other)
  e6 : t6 = m.k.cond.good
theorem ix_le (i : Int) (n : Nat) : isIx i n = (decide (0 ≤ i) && decide (i ≤ (n : Int) - 1)) := by
  unfold isIx
  congr 1
  exact decide_eq_decide.2 (by omega)
/-- The rest, by kind. -/
def okK (x : L) : Bool :=
  if x.kind = 1 then decide (0 ≤ x.amt) && decide (x.amt ≤ 1000000) && decide (0 ≤ x.within) && decide (x.within ≤ 400)
  else if x.kind = 2 ∨ x.kind = 4 then decide (x.amt = 0) && decide (x.within = 0)
  else if x.kind = 3 then decide (x.amt = 0) && decide (x.within = 0) && decide (x.rep.toList = [])
  else false
theorem Tsv.ok {np : Nat} {m : M} {t0 t1 t3 t4 t5 t6 : Bool} (h : Tsv np m t0 t1 t3 t4 t5 t6) : okV np m.cl = (t0 && t1 && t6 && (t3 && t4 && !t5) && okK m.cl) := by
  have h1 : okV np m.cl = (isNm m.id && isNm m.act && m.k.cond.good && (isIx m.party np && isIx m.other np && !decide (m.party = m.other)) && ((decide (1 ≤ m.kind) && decide (m.kind ≤ 4)) && okA m.cl && (!decide (m.kind = 3) || decide (m.rep.toList = [])))) := by
    unfold okV okC
    rw [ix_le, ix_le]
    show (isNm m.id && isNm m.act && (decide (1 ≤ m.kind) && decide (m.kind ≤ 4)) && (decide (0 ≤ m.party) && decide (m.party ≤ (np : Int) - 1)) && (decide (0 ≤ m.other) && decide (m.other ≤ (np : Int) - 1)) && !decide (m.party = m.other) && m.k.cond.good && okA m.cl && (!decide (m.kind = 3) || decide (m.rep.toList = []))) = _
    ac_rfl
  have h2 : ((decide (1 ≤ m.kind) && decide (m.kind ≤ 4)) && okA m.cl && (!decide (m.kind = 3) || decide (m.rep.toList = []))) = okK m.cl := by
    unfold okK okA
    show ((decide (1 ≤ m.kind) && decide (m.kind ≤ 4)) && ((decide (0 ≤ m.amt) && decide (m.amt ≤ 1000000)) && (decide (0 ≤ m.within) && decide (m.within ≤ 400)) && (decide (m.kind = 1) || (decide (m.amt = 0) && decide (m.within = 0)))) && (!decide (m.kind = 3) || decide (m.rep.toList = []))) = (if m.kind = 1 then decide (0 ≤ m.amt) && decide (m.amt ≤ 1000000) && decide (0 ≤ m.within) && decide (m.within ≤ 400) else if m.kind = 2 ∨ m.kind = 4 then decide (m.amt = 0) && decide (m.within = 0) else if m.kind = 3 then decide (m.amt = 0) && decide (m.within = 0) && decide (m.rep.toList = []) else false)
    rw [Bool.eq_iff_iff]
    by_cases k1 : m.kind = 1
    · simp [k1]; omega
    by_cases k2 : m.kind = 2 ∨ m.kind = 4
    · rcases k2 with k2 | k2 <;> simp [k2] <;> omega
    by_cases k3 : m.kind = 3
    · simp [k3]; omega
    · simp [k1, k2, k3]; omega
  rw [h1, h2, ← h.e0, ← h.e1, ← h.e3, ← h.e4, ← h.e5, ← h.e6]

end Go.Proofs.YtgjihejneadadaaDoor.Cl

namespace Go.Proofs.YtgjihejneadadaaDoor.Cl
open Go.RowKit Go.Proofs.YtgjihejneadadaaDoor.Cond Go.Proofs.YtgjihejneadadaaDoor.Gx Go.Proofs.YtgjihejneadadaaDoor.NdS
set_option linter.unusedVariables false
set_option linter.unusedSimpArgs false

theorem isPartyCount (p : Int) (w : World) : Calls Tryd.prog 35 #[.int .i64 p] w fun e w' => e = .returned (.bool (decide (2 ≤ p) && decide (p ≤ 4))) ∧ w' = w := by
  go_enter Tryd.func35, Tryd.ntmps35
  go_wp2
  all_goals go_ret
  all_goals refine ⟨?_, rfl⟩
  all_goals (first | (simp; done) | (simp; omega) | (simp; rw [Bool.eq_iff_iff]; simp; omega))

set_option maxHeartbeats 4000000 in
theorem isPartyList (A : Option Addr) (n c : Nat) (ss : List ByteArray) (w : World) (h : LiN w w.heap.size A n c ss) (ok : Bool) (hok : ok = (okN ss && (decide (2 ≤ ss.length) && decide (ss.length ≤ 4)))) :
    Calls Tryd.prog 20 #[.slice A n c] w fun e w' => e = .returned (.bool ok) ∧ w = w' := by
  obtain ⟨q, hq⟩ : ∃ q, q = (decide (2 ≤ (n : Int)) && decide ((n : Int) ≤ 4)) := ⟨_, rfl⟩
  have HPC : Hid (∀ v, Calls Tryd.prog 35 #[.int .i64 (n : Int)] v fun e w' => e = .returned (.bool q) ∧ w' = v) := Lib.hid fun v => by rw [hq]; exact isPartyCount _ v
  by_cases h2 : n < 2
  · have HO : Hid (ok = false) := Lib.hid (by rw [hok, decide_eq_false (by have := h.len; omega)]; simp)
    have hqf : q = false := by rw [hq, decide_eq_false (by omega)]; rfl
    rw [hqf] at HPC
    clear h hok h2 hq hqf
    go_enter Tryd.func20, Tryd.ntmps20
    go_wp2_with (go_at_call 35; refine (HPC.out _).mono ?_; rintro e w2 ⟨rfl, hw⟩; rw [hw]; clear hw)
    go_ret
    exact ⟨by rw [HO.out]; rfl, rfl⟩
  by_cases h4 : 4 < n
  · have HO : Hid (ok = false) := Lib.hid (by rw [hok, decide_eq_false (p := ss.length ≤ 4) (by have := h.len; omega)]; simp)
    have hqf : q = false := by rw [hq, decide_eq_false (p := (n : Int) ≤ 4) (by omega)]; simp
    rw [hqf] at HPC
    clear h hok h2 h4 hq hqf
    go_enter Tryd.func20, Tryd.ntmps20
    go_wp2_with (go_at_call 35; refine (HPC.out _).mono ?_; rintro e w2 ⟨rfl, hw⟩; rw [hw]; clear hw)
    go_ret
    exact ⟨by rw [HO.out]; rfl, rfl⟩
  have hqt : q = true := by rw [hq, decide_eq_true (by omega), decide_eq_true (by omega)]; rfl
  rw [hqt] at HPC
  have HO : Hid (ok = okN ss) := Lib.hid (by rw [hok, decide_eq_true (by have := h.len; omega), decide_eq_true (by have := h.len; omega)]; simp)
  have HLN := Lib.hid h.len
  have HSZ := Lib.hid h.szs
  obtain ⟨ad, e, hB, hc⟩ := h.is (by have := h.len; omega)
  have had := h.sp ad e (by omega)
  obtain ⟨b, oo, had2⟩ : ∃ b oo, ad = ⟨b, oo, none⟩ := ⟨_, _, had⟩
  have HC : Hid (∀ j, ∀ hj : j < ss.length, w.cell? ⟨b, oo + j, none⟩ = some (.string ss[j])) := Lib.hid fun j hj => by
    have := hc j hj
    rw [had2, add_none] at this
    exact this
  have hnc := h.nc
  have g4 : n ≤ 4 := by omega
  rw [e, had2]
  clear h hok h2 h4 hc e hB had had2 hq hqt
  go_enter Tryd.func20, Tryd.ntmps20
  go_wp2_with (go_at_call 35; refine (HPC.out _).mono ?_; rintro e w2 ⟨rfl, hw⟩; rw [hw]; clear hw)
  go_loopw [11] (fun i wr => ∃ k : Nat, k ≤ n ∧ i = .int .i64 k ∧ Hid (nOk ss k) ∧ Hid (wr = w)) (fun i _ => n - (intOf i).toNat)
  case atStart => exact ⟨0, Nat.zero_le _, rfl, Lib.hid fun i _ h => by omega, Lib.hid rfl⟩
  case round =>
    obtain ⟨k, hk, rfl, HK, HW⟩ := hrel
    have hwr := HW.out
    subst hwr
    by_cases hlt : k < n
    · have hk' : k < ss.length := by have := HLN.out; omega
      obtain ⟨p, hp⟩ : ∃ p, p = ss[k] := ⟨_, rfl⟩
      have hcell := HC.out k hk'
      rw [← hp] at hcell
      have HPP := Lib.hid hp
      have i0 : (0 : Int) ≤ (k : Int) := by omega
      have i1 : (k : Int) < (n : Int) := by omega
      have i2 : (k : Int) ≤ (c : Int) := by omega
      obtain ⟨t, ht⟩ : ∃ t, t = isNm p := ⟨_, rfl⟩
      obtain ⟨u, hu⟩ : ∃ u, u = has (ss.take k) p := ⟨_, rfl⟩
      have HNM : Hid (∀ v, Calls Tryd.prog 36 #[.string p] v fun e w' => e = .returned (.bool t) ∧ v = w') := Lib.hid fun v => by
        rw [ht]; exact isValidName p (by rw [hp]; exact HSZ.out _ (List.getElem_mem hk')) v
      have HHAS : Hid (Calls Tryd.prog 37 #[.slice (some ⟨b, oo, none⟩) k c, .string p] wr fun e w' => e = .returned (.bool u) ∧ w' = wr) := Lib.hid (by
        rw [hu, ← contains_has]
        exact Tryd.slices_Contains_string b oo k c ss p wr (by omega) (by omega) (fun j hj => by rw [HC.out j hj]; simp [List.getD, hj]))
      have HTU := Lib.hid (And.intro ht hu)
      clear hp ht hu
      cases t
      · have HO2 : Hid (ok = false) := Lib.hid (by rw [HO.out, okN_no hk' (.inl (by rw [← HPP.out, ← HTU.out.1]))])
        go_wp2_with (go_at_call 36; refine (HNM.out _).mono ?_; rintro e w' ⟨rfl, rfl⟩)
        go_ret
        exact ⟨by rw [HO2.out]; rfl, rfl⟩
      cases u
      · have HK2 : Hid (nOk ss (k + 1)) := Lib.hid fun j hj hjk => by
          by_cases e : j = k
          · subst e; rw [← HPP.out]; exact ⟨HTU.out.1.symm, HTU.out.2.symm⟩
          · exact HK.out j hj (by omega)
        go_wp2_with (first | (go_at_call 36; refine (HNM.out _).mono ?_; rintro e w' ⟨rfl, rfl⟩) | (go_at_call 37; refine HHAS.out.mono ?_; rintro e w' ⟨rfl, rfl⟩))
        go_roundw
        case rel => exact ⟨k + 1, by omega, by go_num, HK2, Lib.hid trivial⟩
        case measure => simp [intOf]; omega
      · have HO2 : Hid (ok = false) := Lib.hid (by rw [HO.out, okN_no hk' (.inr (by rw [← HPP.out, ← HTU.out.2]))])
        go_wp2_with (first | (go_at_call 36; refine (HNM.out _).mono ?_; rintro e w' ⟨rfl, rfl⟩) | (go_at_call 37; refine HHAS.out.mono ?_; rintro e w' ⟨rfl, rfl⟩))
        go_ret
        exact ⟨by rw [HO2.out]; rfl, rfl⟩
    · have HO2 : Hid (ok = true) := Lib.hid (by rw [HO.out]; exact okN_yes (fun i hi _ => HK.out i hi (by have := HLN.out; omega)))
      go_wp2_with fail
      go_ret
      exact ⟨by rw [HO2.out]; rfl, rfl⟩

end Go.Proofs.YtgjihejneadadaaDoor.Cl
