/-
  Ascending lists and valid calendars: what the program's and the model's tests return.
-/
import Derived.Test.YtglpkanegehcbaaIRow
import Derived.Test.YtglpkanegehcbaaBiz
import Derived.Test.YtglpkanegehcbaaWd
namespace Go.Proofs.Ytglpkanegehcbaa.Asc
open Go.RowKit Go.Proofs.Ytglpkanegehcbaa.IRow Go.Proofs.Ytglpkanegehcbaa.Cal Go.Proofs.Ytglpkanegehcbaa.Biz Go.Proofs.Ytglpkanegehcbaa.Wd

theorem quiet_eq {P : Program} {f : FuncId} {args : Array Value} {w : World} {n : Nat} {v : Value}
    (h : Calls P f args (w.drewN n) fun e w' => e = .returned v ∧ w.drewN n = w') : Calls P f args (w.drewN n) fun e w'' => e = .returned v ∧ ∃ m, w'' = w.drewN m :=
  h.mono fun _ _ ⟨he, hm⟩ => ⟨he, n, hm.symm⟩

theorem drewN_drewN {w wr : World} {m : Nat} (h : wr = w.drewN m) (n : Nat) : wr.drewN n = w.drewN (m + n) := by subst h; exact World.drewN_drewN _ _ _

set_option maxHeartbeats 1000000 in
theorem ascYes (A : Option Addr) (n c : Nat) (zs : List Int) (lim : Nat) (last : Int) (w : World) (B : Nat) (hn : n = zs.length) (hl : lim ≤ 1000) (hA : Is w B A zs) (h : Asc zs lim last) :
    Calls Try.prog 44 #[.slice A n c, .int .i64 lim, .int .i64 last] w fun e w' => e = .returned (.bool true) ∧ w = w' := by
  have HN := Lib.hid hn
  obtain ⟨h1, h2⟩ := h
  have hm : n ≤ lim := by omega
  have HU := Lib.hid h2
  clear hn h1 h2
  go_enter Try.func44, Try.ntmps44
  go_wp2
  go_loop [7, 16] (fun b i => ∃ k : Nat, k ≤ n ∧ i = .int .i64 k ∧ b = .int .i64 (prev zs k)) (fun _ i => n - (intOf i).toNat)
  case atStart => exact ⟨0, Nat.zero_le _, rfl, rfl⟩
  case round =>
    obtain ⟨k, hk, rfl, rfl⟩ := hrel
    by_cases hlt : k < n
    · have hk' : k < zs.length := by have := HN.out; omega
      obtain ⟨ad, rfl, hB, hc⟩ := hA (by omega)
      obtain ⟨p, hp⟩ : ∃ p, p = zs.getD k 0 := ⟨_, rfl⟩
      have hcell : w.cell? (ad.add k) = some (.int .i64 p) := by rw [hp, getD_get zs hk']; exact hc k hk'
      have hf := (fits_prev (fun j hj => HU.out j (by omega))).1 (HU.out k hk')
      rw [← hp] at hf
      have f1 : ¬ p ≤ prev zs k := by omega
      have f2 : ¬ last < p := by omega
      clear hf
      have HP : Hid (prev zs (k + 1) = p) := Lib.hid (by rw [prev_succ, hp])
      clear hp hc
      generalize prev zs k = q at *
      go_wp2
      go_round
      case rel => exact ⟨k + 1, by omega, by go_num, by rw [HP.out]⟩
      case measure => simp [intOf]; omega
    · go_wp2
      go_ret
      exact ⟨rfl, rfl⟩

set_option maxHeartbeats 1000000 in
theorem ascNo (A : Option Addr) (n c : Nat) (zs : List Int) (lim : Nat) (last : Int) (w : World) (B : Nat) (hn : n = zs.length) (hl : lim ≤ 1000) (hA : Is w B A zs) (h : ¬ Asc zs lim last) :
    Calls Try.prog 44 #[.slice A n c, .int .i64 lim, .int .i64 last] w fun e w' => e = .returned (.bool false) ∧ w = w' := by
  have HN := Lib.hid hn
  have HU := Lib.hid h
  clear hn h
  by_cases hm : lim < n
  · go_enter Try.func44, Try.ntmps44
    go_wp2
    go_ret
    exact ⟨rfl, rfl⟩
  · go_enter Try.func44, Try.ntmps44
    go_wp2
    go_loop [7, 16] (fun b i => ∃ k : Nat, k ≤ n ∧ i = .int .i64 k ∧ b = .int .i64 (prev zs k) ∧ Hid (Up zs last k)) (fun _ i => n - (intOf i).toNat)
    case atStart => exact ⟨0, Nat.zero_le _, rfl, rfl, Lib.hid (up_zero _ _)⟩
    case round =>
      obtain ⟨k, hk, rfl, rfl, HK⟩ := hrel
      by_cases hlt : k < n
      · have hk' : k < zs.length := by have := HN.out; omega
        obtain ⟨ad, rfl, hB, hc⟩ := hA (by omega)
        obtain ⟨p, hp⟩ : ∃ p, p = zs.getD k 0 := ⟨_, rfl⟩
        have hcell : w.cell? (ad.add k) = some (.int .i64 p) := by rw [hp, getD_get zs hk']; exact hc k hk'
        have HF := Lib.hid (fits_prev HK.out)
        rw [← hp] at HF
        have HP : Hid (prev zs (k + 1) = p) := Lib.hid (by rw [prev_succ, hp])
        clear hp hc
        generalize prev zs k = q at *
        by_cases f1 : p ≤ q
        · go_wp2
          go_ret
          exact ⟨rfl, rfl⟩
        · by_cases f2 : last < p
          · go_wp2
            go_ret
            exact ⟨rfl, rfl⟩
          · have HX : Hid (Fits zs last k) := Lib.hid (HF.out.2 ⟨by omega, by omega⟩)
            go_wp2
            go_round
            case rel => exact ⟨k + 1, by omega, by go_num, by rw [HP.out], Lib.hid (up_succ HK.out HX.out)⟩
            case measure => simp [intOf]; omega
      · exfalso
        have e : k = zs.length := by have := HN.out; omega
        exact HU.out ⟨by have := HN.out; omega, by have := HK.out; rwa [e] at this⟩

set_option maxHeartbeats 2000000 in
theorem risYes (A : Option Addr) (n c : Nat) (zs : List Int) (hi : Int) (w : World) (B : Nat) (hn : n = zs.length) (hl : n ≤ 1000) (hA : Is w B A zs) (h : Up zs hi zs.length) :
    Calls Try.prog 53 #[.slice A n c, .int .i64 0, .int .i64 hi] w fun e w' => e = .returned (.bool true) ∧ ∃ m, w' = w.drewN m := by
  have HN := Lib.hid hn
  have HU := Lib.hid h
  clear hn h
  go_enter Try.func53, Try.ntmps53
  go_wp2_with fail
  go_loopw [7] (fun i wr => ∃ k m : Nat, k ≤ n ∧ i = .int .i64 k ∧ wr = w.drewN m) (fun i _ => n - (intOf i).toNat)
  case atStart => exact ⟨0, 0, Nat.zero_le _, rfl, rfl⟩
  case round =>
    obtain ⟨k, m, hk, rfl, hw⟩ := hrel
    have hcl : ∀ a, wr.cell? a = w.cell? a := fun a => by rw [hw]; rfl
    have HW := Lib.hid hw
    clear hw
    by_cases hlt : k < n
    · have hk' : k < zs.length := by have := HN.out; omega
      obtain ⟨ad, rfl, hB, hc⟩ := hA (by omega)
      obtain ⟨p, hp⟩ : ∃ p, p = zs.getD k 0 := ⟨_, rfl⟩
      obtain ⟨q, hq⟩ : ∃ q, q = zs.getD (k - 1) 0 := ⟨_, rfl⟩
      have hcell : wr.cell? (ad.add k) = some (.int .i64 p) := by rw [hcl, hp, getD_get zs hk']; exact hc k hk'
      have hcell2 : wr.cell? (ad.add (k - 1)) = some (.int .i64 q) := by rw [hcl, hq, getD_get zs (show k - 1 < zs.length by omega)]; exact hc _ (by omega)
      have hf := HU.out k hk'
      unfold Fits at hf
      rw [← hp, ← hq] at hf
      obtain ⟨f1, f2, f3⟩ := hf
      clear hp hc hq hcl
      have h0 : (0 : Int) ≤ (k : Int) := by omega
      have h1 : (k : Int) < (n : Int) := by omega
      by_cases hk0 : k = 0
      · have hz : decide (0 < k) = false := by rw [decide_eq_false_iff_not]; omega
        clear f3 hk0 hcell2
        go_wp2_with fail
        go_quiet ((go_at_call 35; with_reducible exact quiet_eq (l1In_true p 0 hi f1 f2 _)))
        go_wp2_with fail
        go_roundw
        case rel => exact ⟨k + 1, _, by omega, by go_num, drewN_drewN HW.out _⟩
        case measure => simp [intOf]; omega
      · have hz : decide (0 < k) = true := by rw [decide_eq_true_iff]; omega
        have hz2 : (0 : Int) ≤ (k : Int) - 1 := by omega
        have hz3 : (k : Int) - 1 < (n : Int) := by omega
        have f4 : q < p := f3 (by omega)
        have f5 : ((k : Int) - 1).toNat = k - 1 := by omega
        clear f3 hk0
        go_wp2_with fail
        go_quiet ((go_at_call 35; with_reducible exact quiet_eq (l1In_true p 0 hi f1 f2 _)))
        go_wp2_with fail
        go_roundw
        case rel => exact ⟨k + 1, _, by omega, by go_num, drewN_drewN HW.out _⟩
        case measure => simp [intOf]; omega
    · clear hcl
      go_wp2_with fail
      go_ret
      exact ⟨rfl, _, HW.out⟩

set_option maxHeartbeats 2000000 in
theorem risNo (A : Option Addr) (n c : Nat) (zs : List Int) (hi : Int) (w : World) (B : Nat) (hn : n = zs.length) (hl : n ≤ 1000) (hA : Is w B A zs) (h : ¬ Up zs hi zs.length) :
    Calls Try.prog 53 #[.slice A n c, .int .i64 0, .int .i64 hi] w fun e w' => e = .returned (.bool false) ∧ ∃ m, w' = w.drewN m := by
  have HN := Lib.hid hn
  have HU := Lib.hid h
  clear hn h
  go_enter Try.func53, Try.ntmps53
  go_wp2_with fail
  go_loopw [7] (fun i wr => ∃ k m : Nat, k ≤ n ∧ i = .int .i64 k ∧ wr = w.drewN m ∧ Hid (Up zs hi k)) (fun i _ => n - (intOf i).toNat)
  case atStart => exact ⟨0, 0, Nat.zero_le _, rfl, rfl, Lib.hid (up_zero _ _)⟩
  case round =>
    obtain ⟨k, m, hk, rfl, hw, HK⟩ := hrel
    have hcl : ∀ a, wr.cell? a = w.cell? a := fun a => by rw [hw]; rfl
    have HW := Lib.hid hw
    clear hw
    by_cases hlt : k < n
    · have hk' : k < zs.length := by have := HN.out; omega
      obtain ⟨ad, rfl, hB, hc⟩ := hA (by omega)
      obtain ⟨p, hp⟩ : ∃ p, p = zs.getD k 0 := ⟨_, rfl⟩
      obtain ⟨q, hq⟩ : ∃ q, q = zs.getD (k - 1) 0 := ⟨_, rfl⟩
      have hcell : wr.cell? (ad.add k) = some (.int .i64 p) := by rw [hcl, hp, getD_get zs hk']; exact hc k hk'
      have hcell2 : wr.cell? (ad.add (k - 1)) = some (.int .i64 q) := by rw [hcl, hq, getD_get zs (show k - 1 < zs.length by omega)]; exact hc _ (by omega)
      have HF : Hid (Fits zs hi k ↔ 0 ≤ p ∧ p ≤ hi ∧ (0 < k → q < p)) := Lib.hid (by unfold Fits; rw [hp, hq])
      clear hp hc hq hcl
      have h0 : (0 : Int) ≤ (k : Int) := by omega
      have h1 : (k : Int) < (n : Int) := by omega
      by_cases f1 : 0 ≤ p ∧ p ≤ hi
      · obtain ⟨f1, f2⟩ := f1
        by_cases hk0 : k = 0
        · have hz : decide (0 < k) = false := by rw [decide_eq_false_iff_not]; omega
          have HX : Hid (Fits zs hi k) := Lib.hid (HF.out.2 ⟨f1, f2, fun h => by omega⟩)
          clear hk0 hcell2
          go_wp2_with fail
          go_quiet ((go_at_call 35; with_reducible exact quiet_eq (l1In_true p 0 hi f1 f2 _)))
          go_wp2_with fail
          go_roundw
          case rel => exact ⟨k + 1, _, by omega, by go_num, drewN_drewN HW.out _, Lib.hid (up_succ HK.out HX.out)⟩
          case measure => simp [intOf]; omega
        · have hz : decide (0 < k) = true := by rw [decide_eq_true_iff]; omega
          have hz2 : (0 : Int) ≤ (k : Int) - 1 := by omega
          have hz3 : (k : Int) - 1 < (n : Int) := by omega
          have f5 : ((k : Int) - 1).toNat = k - 1 := by omega
          by_cases f4 : q < p
          · have HX : Hid (Fits zs hi k) := Lib.hid (HF.out.2 ⟨f1, f2, fun _ => f4⟩)
            clear hk0
            go_wp2_with fail
            go_quiet ((go_at_call 35; with_reducible exact quiet_eq (l1In_true p 0 hi f1 f2 _)))
            go_wp2_with fail
            go_roundw
            case rel => exact ⟨k + 1, _, by omega, by go_num, drewN_drewN HW.out _, Lib.hid (up_succ HK.out HX.out)⟩
            case measure => simp [intOf]; omega
          · have f4 : p ≤ q := by omega
            clear hk0
            go_wp2_with fail
            go_quiet ((go_at_call 35; with_reducible exact quiet_eq (l1In_true p 0 hi f1 f2 _)))
            go_wp2_with fail
            go_ret
            exact ⟨rfl, _, drewN_drewN HW.out _⟩
      · have f2 : p < 0 ∨ hi < p := by omega
        clear f1
        go_wp2_with fail
        go_quiet ((go_at_call 35; with_reducible exact quiet_eq (l1In_false p 0 hi f2 _)))
        go_wp2_with fail
        go_ret
        exact ⟨rfl, _, drewN_drewN HW.out _⟩
    · exfalso
      have e : k = zs.length := by have := HN.out; omega
      exact HU.out (by have := HK.out; rwa [e] at this)

theorem below1 (w : World) (o : Obj) : Below w.heap.size w (w.alloc o) := (Below.refl _ _).alloc (Nat.le_refl _) _

/-- The slice that begins at A, at the start of a block below B, holds the ints zs. -/
def At (w : World) (B : Nat) (A : Option Addr) (zs : List Int) : Prop :=
  0 < zs.length → ∃ b, A = some ⟨b, 0, none⟩ ∧ b < B ∧ ∀ j, ∀ h : j < zs.length, w.cell? ⟨b, j, none⟩ = some (.int .i64 zs[j])

theorem At.below {w w' : World} {B : Nat} {A : Option Addr} {zs : List Int} (h : At w B A zs) (hb : Below B w w') : At w' B A zs := fun hp => by
  obtain ⟨b, e, hB, hc⟩ := h hp
  exact ⟨b, e, hB, fun j hj => (hb.cell hB).trans (hc j hj)⟩
theorem At.more {w : World} {B B' : Nat} {A : Option Addr} {zs : List Int} (h : At w B A zs) (hB : B ≤ B') : At w B' A zs := fun hp => by
  obtain ⟨b, e, hB', hc⟩ := h hp
  exact ⟨b, e, by omega, hc⟩
theorem add0 (b j : Nat) : (⟨b, 0, none⟩ : Addr).add j = ⟨b, j, none⟩ := by
  unfold Addr.add
  by_cases h : j = 0
  · subst h; rfl
  · simp [h]
theorem At.is {w : World} {B : Nat} {A : Option Addr} {zs : List Int} (h : At w B A zs) : Is w B A zs := fun hp => by
  obtain ⟨b, e, hB, hc⟩ := h hp
  refine ⟨_, e, hB, fun j hj => ?_⟩
  rw [add0]; exact hc j hj
theorem At.of_own {w : World} {base n cap : Nat} {A : Option Addr} {zs : List Int} (h : w.ownsRow base 3 1 (.slice A n cap) n (zs.map (Value.int .i64))) (hn : n = zs.length) : At w w.heap.size A zs := fun hp => by
  subst hn
  rcases h.2 with ⟨hv, h0⟩ | ⟨g, c, cur, hv, _, hh, _⟩
  · omega
  · injection hv with h1 h2 h3
    subst h1; subst h3
    refine ⟨g, rfl, (Array.getElem?_eq_some_iff.1 hh).1, fun j hj => ?_⟩
    have := h.cells (g := g) rfl j (.int .i64 zs[j]) (by simp [hj])
    rwa [add0] at this

/-- A calendar's two rows. -/
structure Cl (w : World) (B : Nat) (A1 : Option Addr) (n1 : Nat) (A2 : Option Addr) (n2 : Nat) (we ho : List Int) : Prop where
  l1 : n1 = we.length
  l2 : n2 = ho.length
  r1 : At w B A1 we
  r2 : At w B A2 ho
  m1 : n1 ≤ 1048576
  m2 : n2 ≤ 1048576
theorem Cl.below {w w' : World} {B : Nat} {A1 A2 : Option Addr} {n1 n2 : Nat} {we ho : List Int} (h : Cl w B A1 n1 A2 n2 we ho) (hb : Below B w w') : Cl w' B A1 n1 A2 n2 we ho :=
  ⟨h.l1, h.l2, h.r1.below hb, h.r2.below hb, h.m1, h.m2⟩
theorem Cl.more {w : World} {B B' : Nat} {A1 A2 : Option Addr} {n1 n2 : Nat} {we ho : List Int} (h : Cl w B A1 n1 A2 n2 we ho) (hB : B ≤ B') : Cl w B' A1 n1 A2 n2 we ho :=
  ⟨h.l1, h.l2, h.r1.more hB, h.r2.more hB, h.m1, h.m2⟩
/-- In a later world. -/
theorem Cl.on {w w' : World} {A1 A2 : Option Addr} {n1 n2 : Nat} {we ho : List Int} (h : Cl w w.heap.size A1 n1 A2 n2 we ho) (hb : Below w.heap.size w w') : Cl w' w'.heap.size A1 n1 A2 n2 we ho :=
  (h.below hb).more hb.size

theorem not_good {we ho : List Int} (h : ¬ GoodC we ho) (h1 : Asc we 6 6) : ¬ Asc ho 40 36524 := fun h2 => h ⟨h1, h2⟩

set_option maxHeartbeats 1000000 in
theorem validYes (A1 A2 : Option Addr) (n1 c1 n2 c2 : Nat) (we ho : List Int) (w : World) (B : Nat) (h : Cl w B A1 n1 A2 n2 we ho) (hB : B ≤ w.heap.size) (hg : GoodC we ho) :
    Calls Try.prog 21 #[.agg #[.slice A1 n1 c1, .slice A2 n2 c2]] w fun e w' => e = .returned (.bool true) ∧ w.alloc (.cells #[.slice A1 n1 c1, .slice A2 n2 c2] 26) = w' := by
  have H := Lib.hid (h.below ((Below.refl _ w).alloc hB (.cells #[.slice A1 n1 c1, .slice A2 n2 c2] 26)))
  have HG := Lib.hid hg
  clear h hg
  go_enter Try.func21, Try.ntmps21
  go_wp2_with (go_at_call 44; refine (ascYes A1 n1 c1 we 6 6 _ B H.out.l1 (by omega) H.out.r1.is HG.out.1).mono ?_; rintro e w' ⟨rfl, rfl⟩; refine Hid.out ?_)
  refine Lib.hid ?_
  go_wp2_with (go_at_call 44; refine (ascYes A2 n2 c2 ho 40 36524 _ B H.out.l2 (by omega) H.out.r2.is HG.out.2).mono ?_; rintro e w' ⟨rfl, rfl⟩)
  go_ret
  exact ⟨rfl, rfl⟩

set_option maxHeartbeats 1000000 in
theorem validNo (A1 A2 : Option Addr) (n1 c1 n2 c2 : Nat) (we ho : List Int) (w : World) (B : Nat) (h : Cl w B A1 n1 A2 n2 we ho) (hB : B ≤ w.heap.size) (hg : ¬ GoodC we ho) :
    Calls Try.prog 21 #[.agg #[.slice A1 n1 c1, .slice A2 n2 c2]] w fun e w' => e = .returned (.bool false) ∧ w.alloc (.cells #[.slice A1 n1 c1, .slice A2 n2 c2] 26) = w' := by
  have H := Lib.hid (h.below ((Below.refl _ w).alloc hB (.cells #[.slice A1 n1 c1, .slice A2 n2 c2] 26)))
  by_cases h1 : Asc we 6 6
  · have H1 := Lib.hid h1
    have H2 := Lib.hid (not_good hg h1)
    clear h hg h1
    go_enter Try.func21, Try.ntmps21
    go_wp2_with (go_at_call 44; refine (ascYes A1 n1 c1 we 6 6 _ B H.out.l1 (by omega) H.out.r1.is H1.out).mono ?_; rintro e w' ⟨rfl, rfl⟩; refine Hid.out ?_)
    refine Lib.hid ?_
    go_wp2_with (go_at_call 44; refine (ascNo A2 n2 c2 ho 40 36524 _ B H.out.l2 (by omega) H.out.r2.is H2.out).mono ?_; rintro e w' ⟨rfl, rfl⟩)
    go_ret
    exact ⟨rfl, rfl⟩
  · have H1 := Lib.hid h1
    clear h hg h1
    go_enter Try.func21, Try.ntmps21
    go_wp2_with (go_at_call 44; refine (ascNo A1 n1 c1 we 6 6 _ B H.out.l1 (by omega) H.out.r1.is H1.out).mono ?_; rintro e w' ⟨rfl, rfl⟩)
    go_ret
    exact ⟨rfl, rfl⟩

theorem bel_drew (w : World) (o : Obj) (n : Nat) : Below w.heap.size w ((w.alloc o).drewN n) := below_drewN (below1 _ _) n

set_option maxHeartbeats 1000000 in
theorem goodYes (A1 A2 : Option Addr) (n1 c1 n2 c2 : Nat) (we ho : List Int) (w : World) (B : Nat) (h : Cl w B A1 n1 A2 n2 we ho) (hB : B ≤ w.heap.size) (hg : GoodC we ho) :
    Calls Try.prog 33 #[.agg #[.slice A1 n1 c1, .slice A2 n2 c2]] w fun e w' => e = .returned (.bool true) ∧ ∃ m, w' = (w.alloc (.cells #[.slice A1 n1 c1, .slice A2 n2 c2] 26)).drewN m := by
  have H := Lib.hid (h.below ((Below.refl _ w).alloc hB (.cells #[.slice A1 n1 c1, .slice A2 n2 c2] 26)))
  have g1 : n1 ≤ 6 := by rw [h.l1]; exact hg.1.1
  have g2 : n2 ≤ 40 := by rw [h.l2]; exact hg.2.1
  have HG := Lib.hid hg
  clear h hg
  go_enter Try.func33, Try.ntmps33
  go_wp2_with (go_at_call 53; refine (risYes A1 n1 c1 we 6 _ B H.out.l1 (by omega) H.out.r1.is HG.out.1.2).mono ?_; rintro e w' ⟨rfl, m1, rfl⟩; refine Hid.out ?_)
  refine Lib.hid ?_
  go_wp2_with (go_at_call 53; refine (risYes A2 n2 c2 ho 36524 _ B H.out.l2 (by omega) ((H.out.r2.is).below (below_drewN (Below.refl _ _) _)) HG.out.2.2).mono ?_; rintro e w' ⟨rfl, m2, rfl⟩)
  go_ret
  exact ⟨rfl, _, rfl⟩

set_option maxHeartbeats 1000000 in
theorem goodNo (A1 A2 : Option Addr) (n1 c1 n2 c2 : Nat) (we ho : List Int) (w : World) (B : Nat) (h : Cl w B A1 n1 A2 n2 we ho) (hB : B ≤ w.heap.size) (hg : ¬ GoodC we ho) :
    Calls Try.prog 33 #[.agg #[.slice A1 n1 c1, .slice A2 n2 c2]] w fun e w' => e = .returned (.bool false) ∧ ∃ m, w' = (w.alloc (.cells #[.slice A1 n1 c1, .slice A2 n2 c2] 26)).drewN m := by
  have H := Lib.hid (h.below ((Below.refl _ w).alloc hB (.cells #[.slice A1 n1 c1, .slice A2 n2 c2] 26)))
  have q1 := h.l1
  have q2 := h.l2
  by_cases g1 : n1 ≤ 6
  · by_cases h1 : Up we 6 we.length
    · have H1 := Lib.hid h1
      by_cases g2 : n2 ≤ 40
      · have H2 : Hid (¬ Up ho 36524 ho.length) := Lib.hid (fun hu => hg ⟨⟨by omega, h1⟩, ⟨by omega, hu⟩⟩)
        clear h hg h1 q1 q2
        go_enter Try.func33, Try.ntmps33
        go_wp2_with (go_at_call 53; refine (risYes A1 n1 c1 we 6 _ B H.out.l1 (by omega) H.out.r1.is H1.out).mono ?_; rintro e w' ⟨rfl, m1, rfl⟩; refine Hid.out ?_)
        refine Lib.hid ?_
        go_wp2_with (go_at_call 53; refine (risNo A2 n2 c2 ho 36524 _ B H.out.l2 (by omega) ((H.out.r2.is).below (below_drewN (Below.refl _ _) _)) H2.out).mono ?_; rintro e w' ⟨rfl, m2, rfl⟩)
        go_ret
        exact ⟨rfl, _, rfl⟩
      · clear h hg h1 q1 q2
        have g3 : 40 < n2 := by omega
        go_enter Try.func33, Try.ntmps33
        go_wp2_with (go_at_call 53; refine (risYes A1 n1 c1 we 6 _ B H.out.l1 (by omega) H.out.r1.is H1.out).mono ?_; rintro e w' ⟨rfl, m1, rfl⟩; refine Hid.out ?_)
        refine Lib.hid ?_
        go_wp2_with fail
        go_ret
        exact ⟨rfl, _, rfl⟩
    · have H1 := Lib.hid h1
      clear h hg h1 q1 q2
      go_enter Try.func33, Try.ntmps33
      go_wp2_with (go_at_call 53; refine (risNo A1 n1 c1 we 6 _ B H.out.l1 (by omega) H.out.r1.is H1.out).mono ?_; rintro e w' ⟨rfl, m1, rfl⟩; refine Hid.out ?_)
      refine Lib.hid ?_
      go_wp2_with fail
      go_ret
      exact ⟨rfl, _, rfl⟩
  · clear h hg q1 q2
    have g3 : 6 < n1 := by omega
    go_enter Try.func33, Try.ntmps33
    go_wp2_with fail
    go_ret
    exact ⟨rfl, 0, rfl⟩

end Go.Proofs.Ytglpkanegehcbaa.Asc
