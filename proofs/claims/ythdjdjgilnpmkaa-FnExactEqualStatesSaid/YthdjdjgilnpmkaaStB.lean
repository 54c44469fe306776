/-
  States, in plain facts and as they lie in memory; what szState takes away; toState; eqState of two states alike.
-/
import Derived.Test.YthdjdjgilnpmkaaDtB
import Derived.Test.YthdjdjgilnpmkaaCl
import Derived.Test.YthdjdjgilnpmkaaRowSz
import Derived.Test.YthdjdjgilnpmkaaRowTo
import Derived.Test.YthdjdjgilnpmkaaRowEq
import Derived.Test.YthdjdjgilnpmkaaIRow
namespace Go.Proofs.Ythdjdjgilnpmkaa.Sta
open Go.RowKit Go.Proofs.Ythdjdjgilnpmkaa.Cond Go.Proofs.Ythdjdjgilnpmkaa.Gx Go.Proofs.Ythdjdjgilnpmkaa.Cl Go.Proofs.Ythdjdjgilnpmkaa.Dt
set_option linter.unusedVariables false
set_option linter.unusedSimpArgs false

/-- A row of ints lies below block B. -/
structure LiI (w : World) (B : Nat) (A : Option Addr) (n cap : Nat) (zs : List Int) : Prop where
  is : IRow.Is w B A zs
  len : n = zs.length
  nc : n ≤ cap
  cm : cap ≤ maxLen
  sp : ∀ ad, A = some ad → 0 < n → ad = ⟨ad.block, ad.off, none⟩
theorem LiI.below {w w' : World} {B : Nat} {A : Option Addr} {n cap : Nat} {zs : List Int} (h : LiI w B A n cap zs) (hb : Below B w w') : LiI w' B A n cap zs := ⟨h.is.below hb, h.len, h.nc, h.cm, h.sp⟩
theorem LiI.more {w : World} {B B' : Nat} {A : Option Addr} {n cap : Nat} {zs : List Int} (h : LiI w B A n cap zs) (hB : B ≤ B') : LiI w B' A n cap zs := ⟨h.is.more hB, h.len, h.nc, h.cm, h.sp⟩

/-- A state as it lies. -/
structure S where
  day : Int
  A1 : Option Addr
  n1 : Nat
  c1 : Nat
  ss : List ByteArray
  A2 : Option Addr
  n2 : Nat
  c2 : Nat
  ds : List D
  A3 : Option Addr
  n3 : Nat
  c3 : Nat
  zs : List Int
  over : Bool
/-- A state in plain facts. -/
structure St where
  day : Int
  ss : List ByteArray
  ds : List D
  zs : List Int
  over : Bool
def S.st (x : S) : St := ⟨x.day, x.ss, x.ds, x.zs, x.over⟩
def St.wt (x : St) : Nat := (Row.sizes x.ss + x.ss.length) + (x.ds.length + x.zs.length)
def S.cells (x : S) : List Value := [.int .i64 x.day, .slice x.A1 x.n1 x.c1, .slice x.A2 x.n2 x.c2, .slice x.A3 x.n3 x.c3, .bool x.over]
theorem S.len (x : S) : x.cells.length = 5 := rfl
abbrev S.val (x : S) : Value := .agg #[.int .i64 x.day, .slice x.A1 x.n1 x.c1, .slice x.A2 x.n2 x.c2, .slice x.A3 x.n3 x.c3, .bool x.over]
structure LiS (w : World) (B : Nat) (x : S) : Prop where
  f : LiN w B x.A1 x.n1 x.c1 x.ss
  d : LiD w B x.A2 x.n2 x.c2 x.ds
  b : LiI w B x.A3 x.n3 x.c3 x.zs
theorem LiS.below {w w' : World} {B : Nat} {x : S} (h : LiS w B x) (hb : Below B w w') : LiS w' B x := ⟨h.f.below hb, h.d.below hb, h.b.below hb⟩
theorem LiS.more {w : World} {B B' : Nat} {x : S} (h : LiS w B x) (hB : B ≤ B') : LiS w B' x := ⟨h.f.more hB, h.d.more hB, h.b.more hB⟩
theorem LiS.on {w w' : World} {x : S} (h : LiS w w.heap.size x) (hb : Below w.heap.size w w') : LiS w' w'.heap.size x := (h.below hb).more hb.size
theorem LiS.wt {w : World} {B : Nat} {x : S} (h : LiS w B x) : x.st.wt = (Row.sizes x.ss + x.n1) + (x.n2 + x.n3) := by
  simp only [St.wt, S.st]; rw [h.f.len, h.d.len, h.b.len]

/-- The five cells of a box. -/
theorem s5 {w : World} {k : Nat} {x : S} (h : Bk k w x.cells) :
    w.cell? ⟨k, 0, none⟩ = some (.int .i64 x.day) ∧ w.cell? ⟨k, 1, none⟩ = some (.slice x.A1 x.n1 x.c1) ∧ w.cell? ⟨k, 2, none⟩ = some (.slice x.A2 x.n2 x.c2) ∧ w.cell? ⟨k, 3, none⟩ = some (.slice x.A3 x.n3 x.c3) ∧ w.cell? ⟨k, 4, none⟩ = some (.bool x.over) :=
  have hl := S.len x
  ⟨h.c 0 (by omega), h.c 1 (by omega), h.c 2 (by omega), h.c 3 (by omega), h.c 4 (by omega)⟩

set_option maxHeartbeats 1000000 in
theorem szI (A : Option Addr) (n cap : Nat) (m : Nat) (hm : m ≤ 1048576) (w : World) (hl : n ≤ 9223372036854775807) :
    Calls Try.prog 11 #[.slice A n cap, .int .i64 m] w fun e w' => e = .returned (.int .i64 (szRes m n)) ∧ w = w' := by
  by_cases hbig : m < n
  · have g : (m : Int) < (n : Int) := by omega
    go_enter Try.func11, Try.ntmps11
    go_wp2
    go_ret
    refine ⟨?_, rfl⟩
    rw [szRes_no (by omega)]; rfl
  · have g : ¬ (m : Int) < (n : Int) := by omega
    go_enter Try.func11, Try.ntmps11
    go_wp2
    go_ret
    refine ⟨?_, rfl⟩
    rw [szRes_yes (by omega)]
    show Ending.returned (.int .i64 _) = _
    congr 2; omega

set_option maxHeartbeats 4000000 in
theorem szSt (x : S) (m : Nat) (hm : m ≤ 1048576) (w : World) (h : LiS w w.heap.size x) :
    Calls Try.prog 4 #[x.val, .int .i64 m] w fun e w' => e = .returned (.int .i64 (szRes m x.st.wt)) ∧ Below w.heap.size w w' := by
  obtain ⟨X, hX⟩ : ∃ X, X = w.alloc (.cells #[.int .i64 x.day, .slice x.A1 x.n1 x.c1, .slice x.A2 x.n2 x.c2, .slice x.A3 x.n3 x.c3, .bool x.over] 26) := ⟨_, rfl⟩
  have B0 : Hid (Below w.heap.size w X) := Lib.hid (by rw [hX]; exact below1 _ _)
  have hs := Row.szG m hm x.A1 x.n1 x.c1 x.ss X w.heap.size h.f.len (Nat.le_trans h.f.nc h.f.cm) (h.f.is.below B0.out) h.f.szs
  have HW : Hid (x.st.wt = (Row.sizes x.ss + x.ss.length) + (x.n2 + x.n3)) := Lib.hid (by rw [h.wt, h.f.len])
  have BX : Hid (Bk w.heap.size X x.cells) := Lib.hid (by rw [hX]; exact Bk.new _ _ _)
  have hn2 : x.n2 ≤ 9223372036854775807 := h.d.n1
  have hn3 : x.n3 ≤ 9223372036854775807 := Nat.le_trans h.b.nc h.b.cm
  obtain ⟨p, hp⟩ : ∃ p, p = Row.sizes x.ss + x.ss.length := ⟨_, rfl⟩
  rw [← hp] at HW
  unfold Row.szAnsG at hs
  rw [← hp] at hs
  obtain ⟨k0, k1, k2, k3, k4⟩ := s5 BX.out
  have HX := Lib.hid hX
  clear h hp
  by_cases h1 : m < p
  · have HSH : Hid (Calls Try.prog 9 #[.slice x.A1 x.n1 x.c1, .int .i64 (m : Int)] X fun e w' => e = .returned (.int .i64 (-1)) ∧ X = w') := Lib.hid (hs.mono fun e w' ⟨hw, he⟩ => ⟨by
      rcases he with ⟨h, _⟩ | ⟨_, he⟩
      · omega
      · exact he, hw⟩)
    clear hs hX k0 k1 k2 k3 k4
    go_enter Try.func4, Try.ntmps4
    go_wp2_with (go_at_call 9; (try rw [← HX.out]); refine HSH.out.mono ?_; rintro e w2 ⟨rfl, rfl⟩)
    go_ret
    exact ⟨by rw [HW.out, szRes_no (by omega)]; rfl, by first | exact B0.out | (rw [HX.out] at B0; exact B0.out)⟩
  · obtain ⟨u, hu⟩ : ∃ u : Nat, u = m - p := ⟨_, rfl⟩
    have HSH : Hid (Calls Try.prog 9 #[.slice x.A1 x.n1 x.c1, .int .i64 (m : Int)] X fun e w' => e = .returned (.int .i64 (u : Int)) ∧ X = w') := Lib.hid (hs.mono fun e w' ⟨hw, he⟩ => ⟨by
      rcases he with ⟨_, he⟩ | ⟨h, _⟩
      · rw [he]; congr 2; omega
      · omega, hw⟩)
    have hu0 : (0 : Int) ≤ (u : Int) := by omega
    have HU : Hid (u = m - p ∧ p ≤ m) := Lib.hid ⟨hu, by omega⟩
    have hum : u ≤ 1048576 := by omega
    have HD := Lib.hid fun v => szDS x.A2 x.n2 x.c2 u hum v hn2
    clear hs hX hu
    by_cases h2 : u < x.n2
    · have HD2 : Hid (∀ v, Calls Try.prog 10 #[.slice x.A2 x.n2 x.c2, .int .i64 u] v fun e w' => e = .returned (.int .i64 (-1)) ∧ v = w') := Lib.hid fun v => by have := HD.out v; rw [szRes_no h2] at this; exact this
      clear HD
      go_enter Try.func4, Try.ntmps4
      go_wp2_with (first | (go_at_call 9; (try rw [← HX.out]); refine HSH.out.mono ?_; rintro e w2 ⟨rfl, rfl⟩) | (go_at_call 10; refine (HD2.out _).mono ?_; rintro e w3 ⟨rfl, rfl⟩))
      go_ret
      exact ⟨by rw [HW.out, szRes_no (by have := HU.out; omega)]; rfl, B0.out⟩
    · obtain ⟨u2, hu2⟩ : ∃ u2 : Nat, u2 = u - x.n2 := ⟨_, rfl⟩
      have HD2 : Hid (∀ v, Calls Try.prog 10 #[.slice x.A2 x.n2 x.c2, .int .i64 u] v fun e w' => e = .returned (.int .i64 (u2 : Int)) ∧ v = w') := Lib.hid fun v => by have := HD.out v; rw [szRes_yes h2, ← hu2] at this; exact this
      have hu3 : (0 : Int) ≤ (u2 : Int) := by omega
      have hum2 : u2 ≤ 1048576 := by omega
      have HI := Lib.hid fun v => szI x.A3 x.n3 x.c3 u2 hum2 v hn3
      have HU2 : Hid (u2 = u - x.n2 ∧ x.n2 ≤ u) := Lib.hid ⟨hu2, by omega⟩
      clear HD hu2
      by_cases h3 : u2 < x.n3
      · have HI2 : Hid (∀ v, Calls Try.prog 11 #[.slice x.A3 x.n3 x.c3, .int .i64 u2] v fun e w' => e = .returned (.int .i64 (-1)) ∧ v = w') := Lib.hid fun v => by have := HI.out v; rw [szRes_no h3] at this; exact this
        clear HI
        go_enter Try.func4, Try.ntmps4
        go_wp2_with (first | (go_at_call 9; (try rw [← HX.out]); refine HSH.out.mono ?_; rintro e w2 ⟨rfl, rfl⟩) | (go_at_call 10; refine (HD2.out _).mono ?_; rintro e w3 ⟨rfl, rfl⟩) | (go_at_call 11; refine (HI2.out _).mono ?_; rintro e w3 ⟨rfl, rfl⟩))
        go_ret
        exact ⟨by rw [HW.out, szRes_no (by have := HU.out; have := HU2.out; omega)]; rfl, B0.out⟩
      · obtain ⟨u4, hu4⟩ : ∃ u4 : Nat, u4 = u2 - x.n3 := ⟨_, rfl⟩
        have HI2 : Hid (∀ v, Calls Try.prog 11 #[.slice x.A3 x.n3 x.c3, .int .i64 u2] v fun e w' => e = .returned (.int .i64 (u4 : Int)) ∧ v = w') := Lib.hid fun v => by have := HI.out v; rw [szRes_yes h3, ← hu4] at this; exact this
        have hu5 : (0 : Int) ≤ (u4 : Int) := by omega
        have HF : Hid (szRes m x.st.wt = (u4 : Int)) := Lib.hid (by have h5 := HU.out; have h6 := HU2.out; rw [HW.out, szRes_yes (by omega)]; omega)
        clear HI hu4
        go_enter Try.func4, Try.ntmps4
        go_wp2_with (first | (go_at_call 9; (try rw [← HX.out]); refine HSH.out.mono ?_; rintro e w2 ⟨rfl, rfl⟩) | (go_at_call 10; refine (HD2.out _).mono ?_; rintro e w3 ⟨rfl, rfl⟩) | (go_at_call 11; refine (HI2.out _).mono ?_; rintro e w3 ⟨rfl, rfl⟩))
        go_ret
        exact ⟨by rw [HF.out]; rfl, B0.out⟩

/-- The blocks in which a state lies. -/
def fr (A : Option Addr) (n : Nat) : List Nat := match A, n with | some a, _ + 1 => [a.block] | _, _ => []
theorem fr_mem {A : Option Addr} {n b : Nat} (h : b ∈ fr A n) : 0 < n ∧ ∃ a, A = some a ∧ a.block = b := by
  cases A with
  | none => simp [fr] at h
  | some a =>
    cases n with
    | zero => simp [fr] at h
    | succ n => simp [fr] at h; exact ⟨by omega, a, rfl, h.symm⟩

/-- A state of one's own: three blocks that may be written. -/
structure WrS (w : World) (S0 : Nat) (day : Int) (over : Bool) (g1 g2 g3 : Nat) (ss : List ByteArray) (ds : List D) (zs : List Int) : Prop where
  o1 : w.ownsRow S0 9 1 (.slice (some ⟨g1, 0, none⟩) ss.length ss.length) ss.length (ss.map Value.string)
  o2 : RwD w g2 ds.length ds
  o3 : w.ownsRow S0 3 1 (.slice (some ⟨g3, 0, none⟩) zs.length zs.length) zs.length (zs.map (Value.int .i64))
  g12 : g1 < g2
  g23 : g2 < g3
  zz : ∀ p ∈ ss, p.size ≤ maxLen
  ge : S0 ≤ g1
abbrev mkS (day : Int) (over : Bool) (g1 g2 g3 : Nat) (ss : List ByteArray) (ds : List D) (zs : List Int) : S := ⟨day, some ⟨g1, 0, none⟩, ss.length, ss.length, ss, some ⟨g2, 0, none⟩, ds.length, ds.length, ds, some ⟨g3, 0, none⟩, zs.length, zs.length, zs, over⟩
theorem own_lt {w : World} {S0 g n c k : Nat} {T : TypeId} {vs : List Value} (h : w.ownsRow S0 T k (.slice (some ⟨g, 0, none⟩) n c) n vs) : g < w.heap.size := by
  rcases h.2 with ⟨hv, _⟩ | ⟨g', c', cur, hv, hS, hh, hrest⟩
  · cases hv
  · injection hv with h1 h2 h3
    injection h1 with h1
    injection h1 with h1
    subst h1
    exact (Array.getElem?_eq_some_iff.1 hh).1
theorem LiN.own {w : World} {S0 n cap : Nat} {A : Option Addr} {ss : List ByteArray} (h : w.ownsRow S0 9 1 (.slice A n cap) n (ss.map Value.string)) (hn : n = ss.length) (hm : n ≤ 1048576) (hc : cap ≤ 1048576) (hnc : n ≤ cap) (hs : ∀ p ∈ ss, p.size ≤ maxLen) : LiN w w.heap.size A n cap ss := by
  refine ⟨Row.Is.of_own h hn, hn, hnc, by unfold maxLen; omega, hs, fun ad e h0 => ?_⟩
  rcases h.2 with ⟨hv, h1⟩ | ⟨g, c, cur, hv, _⟩
  · omega
  · injection hv with h1 _ _
    rw [h1] at e
    injection e with e
    rw [← e]
theorem LiI.own {w : World} {S0 n cap : Nat} {A : Option Addr} {zs : List Int} (h : w.ownsRow S0 3 1 (.slice A n cap) n (zs.map (Value.int .i64))) (hn : n = zs.length) (hm : n ≤ 1048576) (hc : cap ≤ 1048576) (hnc : n ≤ cap) : LiI w w.heap.size A n cap zs := by
  refine ⟨IRow.Is.of_own h hn, hn, hnc, by unfold maxLen; omega, fun ad e h0 => ?_⟩
  rcases h.2 with ⟨hv, h1⟩ | ⟨g, c, cur, hv, _⟩
  · omega
  · injection hv with h1 _ _
    rw [h1] at e
    injection e with e
    rw [← e]
theorem WrS.has {w : World} {S0 : Nat} {day : Int} {over : Bool} {g1 g2 g3 : Nat} {ss : List ByteArray} {ds : List D} {zs : List Int} (h : WrS w S0 day over g1 g2 g3 ss ds zs) (h1 : ss.length ≤ 1048576) (h2 : ds.length ≤ 1048576) (h3 : zs.length ≤ 1048576) : LiS w w.heap.size (mkS day over g1 g2 g3 ss ds zs) :=
  ⟨LiN.own h.o1 rfl h1 h1 (Nat.le_refl _) h.zz, h.o2.lie rfl (by unfold maxLen; omega), LiI.own h.o3 rfl h3 h3 (Nat.le_refl _)⟩

theorem own_base {w : World} {S0 S1 g n c k : Nat} {T : TypeId} {vs : List Value} (h : w.ownsRow S0 T k (.slice (some ⟨g, 0, none⟩) n c) n vs) (hS : S1 ≤ g) : w.ownsRow S1 T k (.slice (some ⟨g, 0, none⟩) n c) n vs := by
  rcases h with ⟨hl, hr⟩
  refine ⟨hl, ?_⟩
  rcases hr with ⟨hv, _⟩ | ⟨g', c', cur, hv, hS', hh, hrest⟩
  · cases hv
  · injection hv with h1 h2 h3
    injection h1 with h1
    injection h1 with h1
    subst h1
    exact .inr ⟨g, c', cur, by rw [h3], hS, hh, hrest⟩

/-- Two boxes. -/
structure Two (w0 w : World) (x y : S) : Prop where
  bel : Below w0.heap.size w0 w
  b1 : Bk w0.heap.size w x.cells
  b2 : Bk (w0.heap.size + 1) w y.cells
theorem Two.on {w0 w v : World} {x y : S} (h : Two w0 w x y) (hb : Below w.heap.size w v) : Two w0 v x y := ⟨h.bel.trans (hb.mono h.bel.size), h.b1.on hb, h.b2.on hb⟩
theorem two_new (w : World) (x y : S) (T1 T2 : TypeId) : Two w ((w.alloc (.cells #[.int .i64 x.day, .slice x.A1 x.n1 x.c1, .slice x.A2 x.n2 x.c2, .slice x.A3 x.n3 x.c3, .bool x.over] T1)).alloc (.cells #[.int .i64 y.day, .slice y.A1 y.n1 y.c1, .slice y.A2 y.n2 y.c2, .slice y.A3 y.n3 y.c3, .bool y.over] T2)) x y := by
  refine ⟨(below1 _ _).alloc (by simp) _, (Bk.new w #[.int .i64 x.day, .slice x.A1 x.n1 x.c1, .slice x.A2 x.n2 x.c2, .slice x.A3 x.n3 x.c3, .bool x.over] T1).alloc _, ?_⟩
  have := Bk.new (w.alloc (.cells #[.int .i64 x.day, .slice x.A1 x.n1 x.c1, .slice x.A2 x.n2 x.c2, .slice x.A3 x.n3 x.c3, .bool x.over] T1)) #[.int .i64 y.day, .slice y.A1 y.n1 y.c1, .slice y.A2 y.n2 y.c2, .slice y.A3 y.n3 y.c3, .bool y.over] T2
  rw [World.size_alloc] at this
  exact this


end Go.Proofs.Ythdjdjgilnpmkaa.Sta
