/-
  nthOpen, the function that it returns, findDay with it, and AddBusinessDays of the program.
-/
import Derived.Test.YtglpkanegehcbaaSeekS
namespace Go.Proofs.Ytglpkanegehcbaa.NthI
open Go.RowKit Go.Proofs.Ytglpkanegehcbaa.IRow Go.Proofs.Ytglpkanegehcbaa.Cal Go.Proofs.Ytglpkanegehcbaa.Biz Go.Proofs.Ytglpkanegehcbaa.Wd Go.Proofs.Ytglpkanegehcbaa.Asc Go.Proofs.Ytglpkanegehcbaa.CalLaw Go.Proofs.Ytglpkanegehcbaa.Opn Go.Proofs.Ytglpkanegehcbaa.IsBiz Go.Proofs.Ytglpkanegehcbaa.SeekS

/-- The captured variables: the calendar, the start and how many are left. -/
structure St (w v : World) (A1 : Option Addr) (n1 c1 : Nat) (A2 : Option Addr) (n2 c2 : Nat) (s m : Int) : Prop where
  bx : Bx w.heap.size v (.slice A1 n1 c1) (.slice A2 n2 c2)
  st : v.cell? ⟨w.heap.size + 1, 0, none⟩ = some (.int .i64 s)
  nn : v.cell? ⟨w.heap.size + 2, 0, none⟩ = some (.int .i64 m)
  fz : v.frozen? ⟨w.heap.size + 2, 0, none⟩ = false
  bel : Below w.heap.size w v
  sz : w.heap.size + 3 ≤ v.heap.size

theorem St.on {w v v' : World} {A1 : Option Addr} {n1 c1 : Nat} {A2 : Option Addr} {n2 c2 : Nat} {s m : Int} (h : St w v A1 n1 c1 A2 n2 c2 s m) (hb : Below v.heap.size v v') : St w v' A1 n1 c1 A2 n2 c2 s m :=
  have hz := h.sz
  ⟨h.bx.on hb, (hb.cell (p := ⟨w.heap.size + 1, 0, none⟩) (by simp; omega)).trans h.st, (hb.cell (p := ⟨w.heap.size + 2, 0, none⟩) (by simp; omega)).trans h.nn, (hb.frozen (p := ⟨w.heap.size + 2, 0, none⟩) (by simp; omega)).trans h.fz, h.bel.trans (hb.mono (by omega)), by have := hb.size; omega⟩
theorem St.set {w v : World} {A1 : Option Addr} {n1 c1 : Nat} {A2 : Option Addr} {n2 c2 : Nat} {s m : Int} (h : St w v A1 n1 c1 A2 n2 c2 s m) (x : Int) : St w (v.setCell ⟨w.heap.size + 2, 0, none⟩ (.int .i64 x)) A1 n1 c1 A2 n2 c2 s x :=
  ⟨h.bx.far (by simp) _, (World.cell?_setCell_other v _ _ _ (by simp)).trans h.st, World.cell?_setCell_same v _ _ h.nn, by simp [h.fz], h.bel.setCell (by simp) _, by rw [World.size_setCell]; exact h.sz⟩

theorem st_new (w : World) (A1 : Option Addr) (n1 c1 : Nat) (A2 : Option Addr) (n2 c2 : Nat) (s m : Int) :
    St w (((w.alloc (.cells #[.slice A1 n1 c1, .slice A2 n2 c2] 26)).alloc (.cells #[.int .i64 s] 3)).alloc (.cells #[.int .i64 m] 3)) A1 n1 c1 A2 n2 c2 s m :=
  ⟨((Bx.new w _ _ _).alloc _).alloc _, by simp [go_sem], by simp [go_sem], by simp [go_sem], ((below1 _ _).alloc (by simp) _).alloc (by simp; omega) _, by simp⟩

theorem nthOpen (A1 A2 : Option Addr) (n1 c1 n2 c2 : Nat) (s m : Int) (w : World) :
    Calls Try.prog 32 #[.agg #[.slice A1 n1 c1, .slice A2 n2 c2], .int .i64 s, .int .i64 m] w fun e w' =>
      e = .returned (.func (.func 52) #[] #[.pointer (some ⟨w.heap.size + 1, 0, none⟩), .pointer (some ⟨w.heap.size, 0, none⟩), .pointer (some ⟨w.heap.size + 2, 0, none⟩)]) ∧ St w w' A1 n1 c1 A2 n2 c2 s m := by
  have hmf : ∀ (fn : Fn) (first cap : Array Value) (w : World), (Instr.makeFunc fn first cap).run Try.prog w = .ok (.func fn first cap) w := fun _ _ _ _ => rfl
  go_enter Try.func32, Try.ntmps32
  go_wp2
  go_ret
  exact ⟨rfl, st_new w A1 n1 c1 A2 n2 c2 s m⟩

theorem beqNat {a b : Int} (h : a = b) : (a == b) = true := by simp [h]

set_option maxHeartbeats 1000000 in
theorem lamStart (A1 A2 : Option Addr) (n1 c1 n2 c2 : Nat) (s m : Int) (w v : World) (h : St w v A1 n1 c1 A2 n2 c2 s m) :
    Calls Try.prog 52 #[.int .i64 s, .pointer (some ⟨w.heap.size + 1, 0, none⟩), .pointer (some ⟨w.heap.size, 0, none⟩), .pointer (some ⟨w.heap.size + 2, 0, none⟩)] v fun e w' => e = .returned (.bool false) ∧ St w w' A1 n1 c1 A2 n2 c2 s m := by
  have H := Lib.hid h
  have hs := h.st
  clear h
  go_enter Try.func52, Try.ntmps52
  go_wp2_with fail
  go_ret
  exact ⟨rfl, H.out⟩

set_option maxHeartbeats 1000000 in
theorem lamMiss (A1 A2 : Option Addr) (n1 c1 n2 c2 : Nat) (we ho : List Int) (s m d : Int) (w v : World) (h : St w v A1 n1 c1 A2 n2 c2 s m) (hC : Cl w w.heap.size A1 n1 A2 n2 we ho) (hg : GoodC we ho) (hd : Day d) (hne : d ≠ s) (hp : opn we ho d = false) :
    Calls Try.prog 52 #[.int .i64 d, .pointer (some ⟨w.heap.size + 1, 0, none⟩), .pointer (some ⟨w.heap.size, 0, none⟩), .pointer (some ⟨w.heap.size + 2, 0, none⟩)] v fun e w' => e = .returned (.bool false) ∧ St w w' A1 n1 c1 A2 n2 c2 s m := by
  have H := Lib.hid h
  have HO := Lib.hid (openI A1 A2 n1 c1 n2 c2 we ho hg v (hC.on h.bel) d hd false hp)
  have hs := h.st
  obtain ⟨_, x0, x1, _, _⟩ := h.bx
  have hq : (d == s) = false := beqFalse hne
  clear h hC hg hd hne hp
  go_enter Try.func52, Try.ntmps52
  go_wp2_with (go_at_call 37; refine HO.out.mono ?_; rintro e w2 ⟨rfl, hb2⟩; refine Hid.out ?_)
  refine Lib.hid ?_
  have H2 := Lib.hid (H.out.on hb2)
  clear hb2
  go_wp2_with fail
  go_ret
  exact ⟨rfl, H2.out⟩

set_option maxHeartbeats 1000000 in
theorem lamHit (A1 A2 : Option Addr) (n1 c1 n2 c2 : Nat) (we ho : List Int) (s m d : Int) (m0 : 1 ≤ m) (m1 : m ≤ 1000) (w v : World) (h : St w v A1 n1 c1 A2 n2 c2 s m) (hC : Cl w w.heap.size A1 n1 A2 n2 we ho) (hg : GoodC we ho) (hd : Day d) (hne : d ≠ s) (hp : opn we ho d = true) :
    Calls Try.prog 52 #[.int .i64 d, .pointer (some ⟨w.heap.size + 1, 0, none⟩), .pointer (some ⟨w.heap.size, 0, none⟩), .pointer (some ⟨w.heap.size + 2, 0, none⟩)] v fun e w' => e = .returned (.bool (m - 1 == 0)) ∧ St w w' A1 n1 c1 A2 n2 c2 s (m - 1) := by
  have H := Lib.hid h
  have HO := Lib.hid (openI A1 A2 n1 c1 n2 c2 we ho hg v (hC.on h.bel) d hd true hp)
  have hs := h.st
  obtain ⟨_, x0, x1, _, _⟩ := h.bx
  have hq : (d == s) = false := beqFalse hne
  clear h hC hg hd hne hp
  go_enter Try.func52, Try.ntmps52
  go_wp2_with (go_at_call 37; refine HO.out.mono ?_; rintro e w2 ⟨rfl, hb2⟩; refine Hid.out ?_)
  refine Lib.hid ?_
  have H2 := Lib.hid (H.out.on hb2)
  have H3 := Lib.hid (H2.out.set (m - 1))
  have y1 := H2.out.nn
  have y2 := H2.out.fz
  have y3 := H3.out.nn
  clear hb2
  go_wp2_with fail
  go_ret
  exact ⟨rfl, H3.out⟩

theorem nth_miss {p : Int → Bool} {s d : Int} {k m : Nat} (h : p d = false) : nth p s (k + 1) d m = nth p s k (d + s) m := by simp [nth, h]
theorem nth_hit {p : Int → Bool} {s d : Int} {k : Nat} (h : p d = true) : nth p s (k + 1) d 1 = some d := by simp [nth, h]
theorem nth_more {p : Int → Bool} {s d : Int} {k m : Nat} (h : p d = true) : nth p s (k + 1) d (m + 2) = nth p s k (d + s) (m + 1) := by simp [nth, h]
theorem nth_out (p : Int → Bool) (s d : Int) (m : Nat) : nth p s 0 d m = none := rfl

/-- What is still to be found at a day. -/
def wh_up (p : Int → Bool) (s d : Int) (m : Nat) : Option Int := if d = s then nth p 1 (left 1 (s + 1)) (s + 1) m else nth p 1 (left 1 d) d m
theorem wh_next_up (p : Int → Bool) (s : Int) (m : Nat) : wh_up p s (s + 1) m = wh_up p s s m := by
  unfold wh_up
  rw [if_neg (by omega), if_pos rfl]
theorem wh_end_up (p : Int → Bool) (m : Nat) : wh_up p 36524 36524 m = none := by
  unfold wh_up
  rw [if_pos rfl, show left 1 (36524 + 1) = 0 by rw [left_up]; rfl]; rfl
theorem wh_off_up {p : Int → Bool} {s d : Int} (hd : Day d) (h : d ≠ s) (m : Nat) : wh_up p s d m = nth p 1 (left 1 (d + 1) + 1) d m := by
  unfold wh_up
  rw [if_neg h, left_in_up hd]
theorem wh_go_up {p : Int → Bool} {s d : Int} (h : d + 1 ≠ s) (m : Nat) : nth p 1 (left 1 (d + 1)) (d + 1) m = wh_up p s (d + 1) m := by
  unfold wh_up
  rw [if_neg h]
theorem left_end_up : left 1 (36524 + 1) = 0 := by rw [left_up]; rfl

set_option maxHeartbeats 4000000 in
theorem find_up (A1 A2 : Option Addr) (n1 c1 n2 c2 : Nat) (we ho : List Int) (s : Int) (n : Nat) (hn0 : 1 ≤ n) (hn1 : n ≤ 1000) (w v : World) (h : St w v A1 n1 c1 A2 n2 c2 s n) (hC : Cl w w.heap.size A1 n1 A2 n2 we ho) (hg : GoodC we ho) (hs : Day s) (hne : s ≤ 36524) (o : Option Int) (ho' : o = wh_up (opn we ho) s s n) :
    Calls Try.prog 31 #[.int .i64 s, .int .i64 36524, .func (.func 52) #[] #[.pointer (some ⟨w.heap.size + 1, 0, none⟩), .pointer (some ⟨w.heap.size, 0, none⟩), .pointer (some ⟨w.heap.size + 2, 0, none⟩)]] v fun e w' =>
      e = .returned (.tuple #[.int .i64 (o.getD 0), .bool o.isSome]) ∧ Below w.heap.size w w' := by
  have HT := Lib.hid ho'
  have H := Lib.hid h
  have L1 : Hid (∀ v (m : Nat), St w v A1 n1 c1 A2 n2 c2 s m → Calls Try.prog 52 #[.int .i64 s, .pointer (some ⟨w.heap.size + 1, 0, none⟩), .pointer (some ⟨w.heap.size, 0, none⟩), .pointer (some ⟨w.heap.size + 2, 0, none⟩)] v fun e w' => e = .returned (.bool false) ∧ St w w' A1 n1 c1 A2 n2 c2 s m) := Lib.hid fun v m h => lamStart A1 A2 n1 c1 n2 c2 s m w v h
  have L2 : Hid (∀ v d (m : Nat), St w v A1 n1 c1 A2 n2 c2 s m → Day d → d ≠ s → opn we ho d = false → Calls Try.prog 52 #[.int .i64 d, .pointer (some ⟨w.heap.size + 1, 0, none⟩), .pointer (some ⟨w.heap.size, 0, none⟩), .pointer (some ⟨w.heap.size + 2, 0, none⟩)] v fun e w' => e = .returned (.bool false) ∧ St w w' A1 n1 c1 A2 n2 c2 s m) := Lib.hid fun v d m h hd hne hp => lamMiss A1 A2 n1 c1 n2 c2 we ho s m d w v h hC hg hd hne hp
  have L3 : Hid (∀ v d (m : Nat), 1 ≤ m → m ≤ 1000 → St w v A1 n1 c1 A2 n2 c2 s m → Day d → d ≠ s → opn we ho d = true → Calls Try.prog 52 #[.int .i64 d, .pointer (some ⟨w.heap.size + 1, 0, none⟩), .pointer (some ⟨w.heap.size, 0, none⟩), .pointer (some ⟨w.heap.size + 2, 0, none⟩)] v fun e w' => e = .returned (.bool ((m : Int) - 1 == 0)) ∧ St w w' A1 n1 c1 A2 n2 c2 s ((m : Int) - 1)) := Lib.hid fun v d m h0 h1 h hd hne hp => lamHit A1 A2 n1 c1 n2 c2 we ho s m d (by omega) (by omega) w v h hC hg hd hne hp
  obtain ⟨s0, s1⟩ := hs
  clear ho' h hC hg
  generalize opn we ho = p at *
  generalize w.heap.size + 1 = k1 at L1 L2 L3 ⊢
  generalize w.heap.size + 2 = k2 at L1 L2 L3 ⊢
  have H0 := Lib.hid hn0
  have H1 := Lib.hid hn1
  clear hn0 hn1
  have ht : ¬ (36524 : Int) < s := by omega
  go_enter Try.func31, Try.ntmps31
  go_wp2_with fail
  go_loopw [9] (fun i wr => ∃ (d : Int) (m : Nat), (s ≤ d ∧ d ≤ 36524) ∧ i = .int .i64 d ∧ Hid (1 ≤ m ∧ m ≤ 1000) ∧ Hid (o = wh_up p s d m) ∧ Hid (St w wr A1 n1 c1 A2 n2 c2 s m)) (fun i _ => (36525 - intOf i).toNat)
  case atStart => exact ⟨s, n, by omega, rfl, Lib.hid ⟨H0.out, H1.out⟩, HT, H⟩
  case round =>
    clear H HT H0 H1
    obtain ⟨d, m, ⟨d0, d1⟩, rfl, HM, HO, HS⟩ := hrel
    have HD : Hid (Day d) := Lib.hid ⟨by omega, by omega⟩
    by_cases hds : d = s
    · subst hds
      have HC := Lib.hid (L1.out wr m HS.out)
      by_cases hto : d = 36524
      · subst hto
        have HE : Hid (o = none) := Lib.hid (by rw [HO.out]; exact wh_end_up p m)
        go_wp2_with (go_at_call 52; refine HC.out.mono ?_; rintro e w2 ⟨rfl, hs2⟩; refine Hid.out ?_)
        refine Lib.hid ?_
        have HB := Lib.hid hs2.bel
        clear hs2
        go_wp2_with fail
        go_ret2
        exact ⟨ret_opt (by rw [HE.out]; exact ⟨rfl, rfl⟩), HB.out⟩
      · have HE : Hid (o = wh_up p d (d + 1) m) := Lib.hid (by rw [HO.out, wh_next_up])
        have hq : (d == 36524) = false := beqFalse hto
        have HTO := Lib.hid hto
        clear hto
        go_wp2_with (go_at_call 52; refine HC.out.mono ?_; rintro e w2 ⟨rfl, hs2⟩; refine Hid.out ?_)
        refine Lib.hid ?_
        have HS2 := Lib.hid hs2
        clear hs2
        go_wp2_with fail
        go_roundw
        case rel => exact ⟨d + 1, m, by have := HTO.out; omega, rfl, HM, HE, HS2⟩
        case measure => have := HTO.out; simp [intOf]; omega
    · have HNE := Lib.hid hds
      have HGO : Hid (d + 1 ≠ s) := Lib.hid (by omega)
      obtain ⟨q, hq0⟩ : ∃ q, p d = q := ⟨_, rfl⟩
      have HP := Lib.hid hq0
      clear hq0 hds
      cases q
      · have HC := Lib.hid (L2.out wr d m HS.out HD.out HNE.out HP.out)
        have HE : Hid (o = nth p 1 (left 1 (d + 1)) (d + 1) m) := Lib.hid (by rw [HO.out, wh_off_up HD.out HNE.out, nth_miss HP.out])
        by_cases hto : d = 36524
        · subst hto
          have HE2 : Hid (o = none) := Lib.hid (by rw [HE.out, left_end_up]; rfl)
          go_wp2_with (go_at_call 52; refine HC.out.mono ?_; rintro e w2 ⟨rfl, hs2⟩; refine Hid.out ?_)
          refine Lib.hid ?_
          have HB := Lib.hid hs2.bel
          clear hs2
          go_wp2_with fail
          go_ret2
          exact ⟨ret_opt (by rw [HE2.out]; exact ⟨rfl, rfl⟩), HB.out⟩
        · have HE2 : Hid (o = wh_up p s (d + 1) m) := Lib.hid (by rw [HE.out]; exact wh_go_up HGO.out m)
          have hq : (d == 36524) = false := beqFalse hto
          have HTO := Lib.hid hto
          clear hto
          go_wp2_with (go_at_call 52; refine HC.out.mono ?_; rintro e w2 ⟨rfl, hs2⟩; refine Hid.out ?_)
          refine Lib.hid ?_
          have HS2 := Lib.hid hs2
          clear hs2
          go_wp2_with fail
          go_roundw
          case rel => exact ⟨d + 1, m, by have := HTO.out; omega, rfl, HM, HE2, HS2⟩
          case measure => have := HTO.out; simp [intOf]; omega
      · have HC := Lib.hid (L3.out wr d m HM.out.1 HM.out.2 HS.out HD.out HNE.out HP.out)
        by_cases hm1 : m = 1
        · have HE : Hid (o = some d) := Lib.hid (by rw [HO.out, wh_off_up HD.out HNE.out, hm1, nth_hit HP.out])
          rw [show ((m : Int) - 1 == 0) = true by rw [hm1]; rfl] at HC
          clear hm1
          go_wp2_with (go_at_call 52; refine HC.out.mono ?_; rintro e w2 ⟨rfl, hs2⟩; refine Hid.out ?_)
          refine Lib.hid ?_
          have HB := Lib.hid hs2.bel
          clear hs2
          go_wp2_with fail
          go_ret2
          exact ⟨ret_opt (by rw [HE.out]; exact ⟨rfl, rfl⟩), HB.out⟩
        · obtain ⟨j, hj⟩ : ∃ j, m = j + 2 := ⟨m - 2, by have := HM.out; omega⟩
          have HE : Hid (o = nth p 1 (left 1 (d + 1)) (d + 1) (j + 1)) := Lib.hid (by rw [HO.out, wh_off_up HD.out HNE.out, hj, nth_more HP.out])
          rw [show ((m : Int) - 1 == 0) = false by rw [beq_eq_false_iff_ne]; omega, show (m : Int) - 1 = ((j + 1 : Nat) : Int) by omega] at HC
          have HM2 : Hid (1 ≤ j + 1 ∧ j + 1 ≤ 1000) := Lib.hid (by have := HM.out; omega)
          clear hm1 hj
          generalize j + 1 = m' at *
          by_cases hto : d = 36524
          · subst hto
            have HE2 : Hid (o = none) := Lib.hid (by rw [HE.out, left_end_up]; rfl)
            go_wp2_with (go_at_call 52; refine HC.out.mono ?_; rintro e w2 ⟨rfl, hs2⟩; refine Hid.out ?_)
            refine Lib.hid ?_
            have HB := Lib.hid hs2.bel
            clear hs2
            go_wp2_with fail
            go_ret2
            exact ⟨ret_opt (by rw [HE2.out]; exact ⟨rfl, rfl⟩), HB.out⟩
          · have HE2 : Hid (o = wh_up p s (d + 1) m') := Lib.hid (by rw [HE.out]; exact wh_go_up HGO.out m')
            have hq : (d == 36524) = false := beqFalse hto
            have HTO := Lib.hid hto
            clear hto
            go_wp2_with (go_at_call 52; refine HC.out.mono ?_; rintro e w2 ⟨rfl, hs2⟩; refine Hid.out ?_)
            refine Lib.hid ?_
            have HS2 := Lib.hid hs2
            clear hs2
            go_wp2_with fail
            go_roundw
            case rel => exact ⟨d + 1, m', by have := HTO.out; omega, rfl, HM2, HE2, HS2⟩
            case measure => have := HTO.out; simp [intOf]; omega

/-- What is still to be found at a day. -/
def wh_dn (p : Int → Bool) (s d : Int) (m : Nat) : Option Int := if d = s then nth p (-1) (left (-1) (s + (-1))) (s + (-1)) m else nth p (-1) (left (-1) d) d m
theorem wh_next_dn (p : Int → Bool) (s : Int) (m : Nat) : wh_dn p s (s + (-1)) m = wh_dn p s s m := by
  unfold wh_dn
  rw [if_neg (by omega), if_pos rfl]
theorem wh_end_dn (p : Int → Bool) (m : Nat) : wh_dn p 0 0 m = none := by
  unfold wh_dn
  rw [if_pos rfl, show left (-1) (0 + (-1)) = 0 by rw [left_dn]; rfl]; rfl
theorem wh_off_dn {p : Int → Bool} {s d : Int} (hd : Day d) (h : d ≠ s) (m : Nat) : wh_dn p s d m = nth p (-1) (left (-1) (d + (-1)) + 1) d m := by
  unfold wh_dn
  rw [if_neg h, left_in_dn hd]
theorem wh_go_dn {p : Int → Bool} {s d : Int} (h : d + (-1) ≠ s) (m : Nat) : nth p (-1) (left (-1) (d + (-1))) (d + (-1)) m = wh_dn p s (d + (-1)) m := by
  unfold wh_dn
  rw [if_neg h]
theorem left_end_dn : left (-1) (0 + (-1)) = 0 := by rw [left_dn]; rfl

set_option maxHeartbeats 4000000 in
theorem find_dn (A1 A2 : Option Addr) (n1 c1 n2 c2 : Nat) (we ho : List Int) (s : Int) (n : Nat) (hn0 : 1 ≤ n) (hn1 : n ≤ 1000) (w v : World) (h : St w v A1 n1 c1 A2 n2 c2 s n) (hC : Cl w w.heap.size A1 n1 A2 n2 we ho) (hg : GoodC we ho) (hs : Day s) (hne : 0 < s) (o : Option Int) (ho' : o = wh_dn (opn we ho) s s n) :
    Calls Try.prog 31 #[.int .i64 s, .int .i64 0, .func (.func 52) #[] #[.pointer (some ⟨w.heap.size + 1, 0, none⟩), .pointer (some ⟨w.heap.size, 0, none⟩), .pointer (some ⟨w.heap.size + 2, 0, none⟩)]] v fun e w' =>
      e = .returned (.tuple #[.int .i64 (o.getD 0), .bool o.isSome]) ∧ Below w.heap.size w w' := by
  have HT := Lib.hid ho'
  have H := Lib.hid h
  have L1 : Hid (∀ v (m : Nat), St w v A1 n1 c1 A2 n2 c2 s m → Calls Try.prog 52 #[.int .i64 s, .pointer (some ⟨w.heap.size + 1, 0, none⟩), .pointer (some ⟨w.heap.size, 0, none⟩), .pointer (some ⟨w.heap.size + 2, 0, none⟩)] v fun e w' => e = .returned (.bool false) ∧ St w w' A1 n1 c1 A2 n2 c2 s m) := Lib.hid fun v m h => lamStart A1 A2 n1 c1 n2 c2 s m w v h
  have L2 : Hid (∀ v d (m : Nat), St w v A1 n1 c1 A2 n2 c2 s m → Day d → d ≠ s → opn we ho d = false → Calls Try.prog 52 #[.int .i64 d, .pointer (some ⟨w.heap.size + 1, 0, none⟩), .pointer (some ⟨w.heap.size, 0, none⟩), .pointer (some ⟨w.heap.size + 2, 0, none⟩)] v fun e w' => e = .returned (.bool false) ∧ St w w' A1 n1 c1 A2 n2 c2 s m) := Lib.hid fun v d m h hd hne hp => lamMiss A1 A2 n1 c1 n2 c2 we ho s m d w v h hC hg hd hne hp
  have L3 : Hid (∀ v d (m : Nat), 1 ≤ m → m ≤ 1000 → St w v A1 n1 c1 A2 n2 c2 s m → Day d → d ≠ s → opn we ho d = true → Calls Try.prog 52 #[.int .i64 d, .pointer (some ⟨w.heap.size + 1, 0, none⟩), .pointer (some ⟨w.heap.size, 0, none⟩), .pointer (some ⟨w.heap.size + 2, 0, none⟩)] v fun e w' => e = .returned (.bool ((m : Int) - 1 == 0)) ∧ St w w' A1 n1 c1 A2 n2 c2 s ((m : Int) - 1)) := Lib.hid fun v d m h0 h1 h hd hne hp => lamHit A1 A2 n1 c1 n2 c2 we ho s m d (by omega) (by omega) w v h hC hg hd hne hp
  obtain ⟨s0, s1⟩ := hs
  clear ho' h hC hg
  generalize opn we ho = p at *
  generalize w.heap.size + 1 = k1 at L1 L2 L3 ⊢
  generalize w.heap.size + 2 = k2 at L1 L2 L3 ⊢
  have H0 := Lib.hid hn0
  have H1 := Lib.hid hn1
  clear hn0 hn1
  
  go_enter Try.func31, Try.ntmps31
  go_wp2_with fail
  go_loopw [9] (fun i wr => ∃ (d : Int) (m : Nat), (0 ≤ d ∧ d ≤ s) ∧ i = .int .i64 d ∧ Hid (1 ≤ m ∧ m ≤ 1000) ∧ Hid (o = wh_dn p s d m) ∧ Hid (St w wr A1 n1 c1 A2 n2 c2 s m)) (fun i _ => (intOf i + 1).toNat)
  case atStart => exact ⟨s, n, by omega, rfl, Lib.hid ⟨H0.out, H1.out⟩, HT, H⟩
  case round =>
    clear H HT H0 H1
    obtain ⟨d, m, ⟨d0, d1⟩, rfl, HM, HO, HS⟩ := hrel
    have HD : Hid (Day d) := Lib.hid ⟨by omega, by omega⟩
    by_cases hds : d = s
    · subst hds
      have HC := Lib.hid (L1.out wr m HS.out)
      by_cases hto : d = 0
      · subst hto
        have HE : Hid (o = none) := Lib.hid (by rw [HO.out]; exact wh_end_dn p m)
        go_wp2_with (go_at_call 52; refine HC.out.mono ?_; rintro e w2 ⟨rfl, hs2⟩; refine Hid.out ?_)
        refine Lib.hid ?_
        have HB := Lib.hid hs2.bel
        clear hs2
        go_wp2_with fail
        go_ret2
        exact ⟨ret_opt (by rw [HE.out]; exact ⟨rfl, rfl⟩), HB.out⟩
      · have HE : Hid (o = wh_dn p d (d + (-1)) m) := Lib.hid (by rw [HO.out, wh_next_dn])
        have hq : (d == 0) = false := beqFalse hto
        have HTO := Lib.hid hto
        clear hto
        go_wp2_with (go_at_call 52; refine HC.out.mono ?_; rintro e w2 ⟨rfl, hs2⟩; refine Hid.out ?_)
        refine Lib.hid ?_
        have HS2 := Lib.hid hs2
        clear hs2
        go_wp2_with fail
        go_roundw
        case rel => exact ⟨d + (-1), m, by have := HTO.out; omega, rfl, HM, HE, HS2⟩
        case measure => have := HTO.out; simp [intOf]; omega
    · have HNE := Lib.hid hds
      have HGO : Hid (d + (-1) ≠ s) := Lib.hid (by omega)
      obtain ⟨q, hq0⟩ : ∃ q, p d = q := ⟨_, rfl⟩
      have HP := Lib.hid hq0
      clear hq0 hds
      cases q
      · have HC := Lib.hid (L2.out wr d m HS.out HD.out HNE.out HP.out)
        have HE : Hid (o = nth p (-1) (left (-1) (d + (-1))) (d + (-1)) m) := Lib.hid (by rw [HO.out, wh_off_dn HD.out HNE.out, nth_miss HP.out])
        by_cases hto : d = 0
        · subst hto
          have HE2 : Hid (o = none) := Lib.hid (by rw [HE.out, left_end_dn]; rfl)
          go_wp2_with (go_at_call 52; refine HC.out.mono ?_; rintro e w2 ⟨rfl, hs2⟩; refine Hid.out ?_)
          refine Lib.hid ?_
          have HB := Lib.hid hs2.bel
          clear hs2
          go_wp2_with fail
          go_ret2
          exact ⟨ret_opt (by rw [HE2.out]; exact ⟨rfl, rfl⟩), HB.out⟩
        · have HE2 : Hid (o = wh_dn p s (d + (-1)) m) := Lib.hid (by rw [HE.out]; exact wh_go_dn HGO.out m)
          have hq : (d == 0) = false := beqFalse hto
          have HTO := Lib.hid hto
          clear hto
          go_wp2_with (go_at_call 52; refine HC.out.mono ?_; rintro e w2 ⟨rfl, hs2⟩; refine Hid.out ?_)
          refine Lib.hid ?_
          have HS2 := Lib.hid hs2
          clear hs2
          go_wp2_with fail
          go_roundw
          case rel => exact ⟨d + (-1), m, by have := HTO.out; omega, rfl, HM, HE2, HS2⟩
          case measure => have := HTO.out; simp [intOf]; omega
      · have HC := Lib.hid (L3.out wr d m HM.out.1 HM.out.2 HS.out HD.out HNE.out HP.out)
        by_cases hm1 : m = 1
        · have HE : Hid (o = some d) := Lib.hid (by rw [HO.out, wh_off_dn HD.out HNE.out, hm1, nth_hit HP.out])
          rw [show ((m : Int) - 1 == 0) = true by rw [hm1]; rfl] at HC
          clear hm1
          go_wp2_with (go_at_call 52; refine HC.out.mono ?_; rintro e w2 ⟨rfl, hs2⟩; refine Hid.out ?_)
          refine Lib.hid ?_
          have HB := Lib.hid hs2.bel
          clear hs2
          go_wp2_with fail
          go_ret2
          exact ⟨ret_opt (by rw [HE.out]; exact ⟨rfl, rfl⟩), HB.out⟩
        · obtain ⟨j, hj⟩ : ∃ j, m = j + 2 := ⟨m - 2, by have := HM.out; omega⟩
          have HE : Hid (o = nth p (-1) (left (-1) (d + (-1))) (d + (-1)) (j + 1)) := Lib.hid (by rw [HO.out, wh_off_dn HD.out HNE.out, hj, nth_more HP.out])
          rw [show ((m : Int) - 1 == 0) = false by rw [beq_eq_false_iff_ne]; omega, show (m : Int) - 1 = ((j + 1 : Nat) : Int) by omega] at HC
          have HM2 : Hid (1 ≤ j + 1 ∧ j + 1 ≤ 1000) := Lib.hid (by have := HM.out; omega)
          clear hm1 hj
          generalize j + 1 = m' at *
          by_cases hto : d = 0
          · subst hto
            have HE2 : Hid (o = none) := Lib.hid (by rw [HE.out, left_end_dn]; rfl)
            go_wp2_with (go_at_call 52; refine HC.out.mono ?_; rintro e w2 ⟨rfl, hs2⟩; refine Hid.out ?_)
            refine Lib.hid ?_
            have HB := Lib.hid hs2.bel
            clear hs2
            go_wp2_with fail
            go_ret2
            exact ⟨ret_opt (by rw [HE2.out]; exact ⟨rfl, rfl⟩), HB.out⟩
          · have HE2 : Hid (o = wh_dn p s (d + (-1)) m') := Lib.hid (by rw [HE.out]; exact wh_go_dn HGO.out m')
            have hq : (d == 0) = false := beqFalse hto
            have HTO := Lib.hid hto
            clear hto
            go_wp2_with (go_at_call 52; refine HC.out.mono ?_; rintro e w2 ⟨rfl, hs2⟩; refine Hid.out ?_)
            refine Lib.hid ?_
            have HS2 := Lib.hid hs2
            clear hs2
            go_wp2_with fail
            go_roundw
            case rel => exact ⟨d + (-1), m', by have := HTO.out; omega, rfl, HM2, HE2, HS2⟩
            case measure => have := HTO.out; simp [intOf]; omega

end Go.Proofs.Ytglpkanegehcbaa.NthI
