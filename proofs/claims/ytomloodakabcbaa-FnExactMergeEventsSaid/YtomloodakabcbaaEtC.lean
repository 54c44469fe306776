/-
  Comparing two events: cmp.Compare, cmp.Or and CompareEvents of the program, l8Compare of the model.
-/
import Derived.Test.YtomloodakabcbaaEtTo
import Derived.Laws.Cover1
import Derived.Sort.Walk0
import Derived.Deep.RegionHeld3
namespace Go.Proofs.Ytomloodakabcbaa.Et
open Go.RowKit Go.Proofs.Ytomloodakabcbaa.Cond Go.Proofs.Ytomloodakabcbaa.Gx
set_option linter.unusedVariables false
set_option linter.unusedSimpArgs false

theorem nanI (x : Int) (w : World) : Calls Try.prog 88 #[.int .i64 x] w fun e w' => e = .returned (.bool false) ∧ w' = w := by
  go_enter Try.func88, Try.ntmps88
  go_wp2
  go_ret
  exact ⟨by simp, rfl⟩
theorem nanS (x : ByteArray) (w : World) : Calls Try.prog 89 #[.string x] w fun e w' => e = .returned (.bool false) ∧ w' = w := by
  go_enter Try.func89, Try.ntmps89
  go_wp2
  go_ret
  exact ⟨by simp, rfl⟩

def cI (x y : Int) : Int := if x < y then -1 else if y < x then 1 else 0
def cS (x y : ByteArray) : Int := if Op.bytesLess x.toList y.toList = true then -1 else if x.toList = y.toList then 0 else 1
theorem cmpI (x y : Int) (w : World) : Calls Try.prog 86 #[.int .i64 x, .int .i64 y] w fun e w' => e = .returned (.int .i64 (cI x y)) ∧ w' = w := by
  have HN := Lib.hid nanI
  go_enter Try.func86, Try.ntmps86
  go_wp2_with (go_at_call 88; refine (HN.out _ _).mono ?_; rintro e w1 ⟨rfl, hb1⟩; rw [hb1])
  all_goals go_ret
  all_goals refine ⟨?_, rfl⟩
  all_goals unfold cI
  all_goals (repeat' split) <;> first | rfl | (exfalso; omega)
theorem toL_inj {x y : ByteArray} (h : x.toList = y.toList) : x = y := by
  rw [Lib.toList_data, Lib.toList_data] at h
  cases x; cases y
  simp only at h
  congr 1
  exact Array.toList_inj.1 h
theorem cmpS (x y : ByteArray) (w : World) : Calls Try.prog 87 #[.string x, .string y] w fun e w' => e = .returned (.int .i64 (cS x y)) ∧ w' = w := by
  have HN := Lib.hid nanS
  by_cases h1 : Op.bytesLess x.toList y.toList = true
  · have hc : Hid (cS x y = -1) := Lib.hid (by rw [cS, if_pos h1])
    go_enter Try.func87, Try.ntmps87
    go_wp2_with (go_at_call 89; refine (HN.out _ _).mono ?_; rintro e w1 ⟨rfl, hb1⟩; rw [hb1])
    go_ret
    exact ⟨by rw [hc.out]; rfl, rfl⟩
  · have h1' : Op.bytesLess x.toList y.toList = false := by simpa using h1
    by_cases h2 : x.toList = y.toList
    · have hc : Hid (cS x y = 0) := Lib.hid (by rw [cS, if_neg h1, if_pos h2])
      obtain rfl : x = y := toL_inj h2
      clear h1 h2
      go_enter Try.func87, Try.ntmps87
      go_wp2_with (go_at_call 89; refine (HN.out _ _).mono ?_; rintro e w1 ⟨rfl, hb1⟩; rw [hb1])
      go_ret
      exact ⟨by rw [hc.out]; rfl, rfl⟩
    · have hc : Hid (cS x y = 1) := Lib.hid (by rw [cS, if_neg h1, if_neg h2])
      have h3 : (x.toList == y.toList) = false := by simpa using h2
      go_enter Try.func87, Try.ntmps87
      go_wp2_with (go_at_call 89; refine (HN.out _ _).mono ?_; rintro e w1 ⟨rfl, hb1⟩; rw [hb1])
      go_ret
      exact ⟨by rw [hc.out]; rfl, rfl⟩

def orI : List Int → Int
  | [] => 0
  | z :: zs => if z = 0 then orI zs else z
theorem orI_drop : ∀ (zs : List Int) (k : Nat) (h : k < zs.length), orI (zs.drop k) = if zs[k] = 0 then orI (zs.drop (k + 1)) else zs[k]
  | z :: zs, 0, _ => rfl
  | z :: zs, k + 1, h => by
    have := orI_drop zs k (by simpa using h)
    simpa using this

set_option maxHeartbeats 4000000 in
theorem cmpOr (b n cap : Nat) (zs : List Int) (w : World) (hn : n = zs.length) (hm : n ≤ 9223372036854775807) (hb : b < w.heap.size) (hc : ∀ j, ∀ h : j < zs.length, w.cell? ⟨b, j, none⟩ = some (.int .i64 zs[j])) :
    Calls Try.prog 85 #[.slice (some ⟨b, 0, none⟩) n cap] w fun e w' => e = .returned (.int .i64 (orI zs)) ∧ Below w.heap.size w w' := by
  have HC := Lib.hid hc
  have HN := Lib.hid hn
  clear hc hn
  go_enter Try.func85, Try.ntmps85
  go_wp2_with fail
  go_loopw [8] (fun i wr => ∃ k : Nat, k ≤ n ∧ i = .int .i64 k ∧ Hid (orI (zs.drop k) = orI zs) ∧ w = wr) (fun i _ => n - (intOf i).toNat)
  case atStart => exact ⟨0, Nat.zero_le _, rfl, Lib.hid rfl, rfl⟩
  case round =>
    obtain ⟨k, hk, rfl, HK, rfl⟩ := hrel
    by_cases hlt : k < n
    · have hk' : k < zs.length := by have := HN.out; omega
      have c0 := HC.out k hk'
      have hd := orI_drop zs k hk'
      rw [HK.out] at hd
      obtain ⟨z, hz⟩ : ∃ z, z = zs[k] := ⟨_, rfl⟩
      rw [← hz] at c0 hd
      have i0 : (0 : Int) ≤ (k : Int) := by omega
      have i1 : (k : Int) < (n : Int) := by omega
      by_cases h0 : z = 0
      · rw [if_pos h0] at hd
        have HD := Lib.hid hd.symm
        subst h0
        clear hd hz
        go_wp2_with fail
        go_roundw
        case rel => exact ⟨k + 1, by omega, by go_num, HD, trivial⟩
        case measure => simp [intOf]; omega
      · rw [if_neg h0] at hd
        have HD := Lib.hid hd
        clear hd hz
        go_wp2_with fail
        go_ret
        exact ⟨by rw [HD.out]; rfl, Below.refl _ _⟩
    · have HE : Hid (orI zs = 0) := Lib.hid (by
        have := HK.out
        rw [List.drop_of_length_le (by have := HN.out; omega)] at this
        rw [← this]; rfl)
      go_wp2_with fail
      go_ret
      exact ⟨by rw [HE.out]; rfl, Below.refl _ _⟩

/-- How two events compare. -/
def cE (a b : E) : Int := orI [cI a.day b.day, cI a.party b.party, cS a.act b.act, cI a.amt b.amt]

set_option maxHeartbeats 4000000 in
theorem implCE (a b : E) (w : World) :
    Calls Try.prog 84 #[a.val, b.val] w fun e w' => e = .returned (.int .i64 (cE a b)) ∧ Below w.heap.size w w' := by
  have H1 := Lib.hid cmpI
  have H2 := Lib.hid cmpS
  obtain ⟨X, hX⟩ : ∃ X, X = (w.alloc (.cells #[.int .i64 a.day, .int .i64 a.party, .string a.act, .int .i64 a.amt] 38)).alloc (.cells #[.int .i64 b.day, .int .i64 b.party, .string b.act, .int .i64 b.amt] 38) := ⟨_, rfl⟩
  have B0 := Lib.hid (show Below w.heap.size w X by rw [hX]; exact (below1 _ _).alloc (by simp) _)
  have P0 : Hid (Bk w.heap.size X a.cells) := Lib.hid (by rw [hX]; exact (Bk.new w #[.int .i64 a.day, .int .i64 a.party, .string a.act, .int .i64 a.amt] 38).alloc _)
  have Q0 : Hid (Bk (w.heap.size + 1) X b.cells) := Lib.hid (by
    rw [hX]
    have := Bk.new (w.alloc (.cells #[.int .i64 a.day, .int .i64 a.party, .string a.act, .int .i64 a.amt] 38)) #[.int .i64 b.day, .int .i64 b.party, .string b.act, .int .i64 b.amt] 38
    rw [World.size_alloc] at this
    exact this)
  have KX : Hid (∀ v, Below X.heap.size X v → (v.cell? ⟨w.heap.size, 0, none⟩ = some (.int .i64 a.day) ∧ v.cell? ⟨w.heap.size, 1, none⟩ = some (.int .i64 a.party) ∧ v.cell? ⟨w.heap.size, 2, none⟩ = some (.string a.act) ∧ v.cell? ⟨w.heap.size, 3, none⟩ = some (.int .i64 a.amt)) ∧ v.cell? ⟨w.heap.size + 1, 0, none⟩ = some (.int .i64 b.day) ∧ v.cell? ⟨w.heap.size + 1, 1, none⟩ = some (.int .i64 b.party) ∧ v.cell? ⟨w.heap.size + 1, 2, none⟩ = some (.string b.act) ∧ v.cell? ⟨w.heap.size + 1, 3, none⟩ = some (.int .i64 b.amt)) := Lib.hid fun v hv => ⟨b4 (P0.out.on hv), b4 (Q0.out.on hv)⟩
  have HO : Hid (∀ v, Calls Try.prog 85 #[.slice (some ⟨v.heap.size, 0, none⟩) 4 4] (v.alloc (.cells #[.int .i64 (cI a.day b.day), .int .i64 (cI a.party b.party), .int .i64 (cS a.act b.act), .int .i64 (cI a.amt b.amt)] 3)).drew fun e w' => e = .returned (.int .i64 (cE a b)) ∧ Below v.heap.size v w') := Lib.hid fun v => by
    have hbk := Bk.new v #[.int .i64 (cI a.day b.day), .int .i64 (cI a.party b.party), .int .i64 (cS a.act b.act), .int .i64 (cI a.amt b.amt)] 3
    have hb := below1 v (.cells #[.int .i64 (cI a.day b.day), .int .i64 (cI a.party b.party), .int .i64 (cS a.act b.act), .int .i64 (cI a.amt b.amt)] 3)
    refine (cmpOr v.heap.size 4 4 [cI a.day b.day, cI a.party b.party, cS a.act b.act, cI a.amt b.amt] _ rfl (by omega) hbk.drew.lt fun j hj => ?_).mono fun e w' h => ⟨h.1, (Below.drew hb).trans (h.2.mono hb.size)⟩
    have := hbk.drew.c j hj
    rw [this]
    match j, hj with
    | 0, _ => rfl
    | 1, _ => rfl
    | 2, _ => rfl
    | 3, _ => rfl
  have HX := Lib.hid hX
  obtain ⟨⟨x0, x1, x2, x3⟩, y0, y1, y2, y3⟩ := KX.out X (Below.refl _ _)
  clear P0 Q0
  go_enter Try.func84, Try.ntmps84
  go_wp2_with fail
  rw [← hX]
  clear hX
  go_region_held3 (fun v => (v.cell? ⟨w.heap.size, 0, none⟩ = some (.int .i64 a.day) ∧ v.cell? ⟨w.heap.size, 1, none⟩ = some (.int .i64 a.party) ∧ v.cell? ⟨w.heap.size, 2, none⟩ = some (.string a.act) ∧ v.cell? ⟨w.heap.size, 3, none⟩ = some (.int .i64 a.amt)) ∧ v.cell? ⟨w.heap.size + 1, 0, none⟩ = some (.int .i64 b.day) ∧ v.cell? ⟨w.heap.size + 1, 1, none⟩ = some (.int .i64 b.party) ∧ v.cell? ⟨w.heap.size + 1, 2, none⟩ = some (.string b.act) ∧ v.cell? ⟨w.heap.size + 1, 3, none⟩ = some (.int .i64 b.amt)) (first | (refine KX.out _ ?_; (repeat (first | exact Below.refl _ _ | exact bx | apply Below.drew | refine Below.alloc ?_ (by first | omega | (simp; done) | (simp; omega)) _)); done))
    (first
      | (go_at_call 86; (with_reducible refine (H1.out _ _ _).mono ?_); rintro e w1 ⟨rfl, hb1⟩; rw [hb1]; clear hb1)
      | (go_at_call 87; (with_reducible refine (H2.out _ _ _).mono ?_); rintro e w1 ⟨rfl, hb1⟩; rw [hb1]; clear hb1)
      | (go_at_call 85; (with_reducible refine (HO.out _).mono ?_); rintro e w1 ⟨rfl, bx⟩))
  all_goals go_wp2_with fail
  all_goals go_ret
  all_goals exact ⟨rfl, B0.out.trans (bx.mono B0.out.size)⟩

set_option maxHeartbeats 4000000 in
theorem specCE (a b : E) (w : World) :
    Calls Try.prog 29 #[a.val, b.val] w fun e w' => e = .returned (.int .i64 (cE a b)) ∧ Below w.heap.size w w' := by
  obtain ⟨X, hX⟩ : ∃ X, X = (w.alloc (.cells #[.int .i64 a.day, .int .i64 a.party, .string a.act, .int .i64 a.amt] 38)).alloc (.cells #[.int .i64 b.day, .int .i64 b.party, .string b.act, .int .i64 b.amt] 38) := ⟨_, rfl⟩
  have B0 := Lib.hid (show Below w.heap.size w X by rw [hX]; exact (below1 _ _).alloc (by simp) _)
  have P0 : Hid (Bk w.heap.size X a.cells) := Lib.hid (by rw [hX]; exact (Bk.new w #[.int .i64 a.day, .int .i64 a.party, .string a.act, .int .i64 a.amt] 38).alloc _)
  have Q0 : Hid (Bk (w.heap.size + 1) X b.cells) := Lib.hid (by
    rw [hX]
    have := Bk.new (w.alloc (.cells #[.int .i64 a.day, .int .i64 a.party, .string a.act, .int .i64 a.amt] 38)) #[.int .i64 b.day, .int .i64 b.party, .string b.act, .int .i64 b.amt] 38
    rw [World.size_alloc] at this
    exact this)
  obtain ⟨x0, x1, x2, x3⟩ := b4 P0.out
  obtain ⟨y0, y1, y2, y3⟩ := b4 Q0.out
  clear P0 Q0
  go_enter Try.func29, Try.ntmps29
  go_wp2_with fail
  rw [← hX]
  clear hX
  go_quiet (fail)
  go_wp2_with fail
  all_goals go_ret
  all_goals refine ⟨?_, below_drewN B0.out _⟩
  all_goals clear x0 x1 x2 x3 y0 y1 y2 y3 B0
  all_goals refine congrArg (fun z => Ending.returned (Value.int .i64 z)) (?_ : _ = cE a b)
  all_goals unfold cE
  all_goals simp only [orI, cI, cS]
  all_goals (repeat' split)
  all_goals first | rfl | omega | (exfalso; simp_all; done) | (exfalso; simp_all; omega)

end Go.Proofs.Ytomloodakabcbaa.Et
