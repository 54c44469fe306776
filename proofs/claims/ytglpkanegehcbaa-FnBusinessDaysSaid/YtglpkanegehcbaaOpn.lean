/-
  Business days: what isOpen, l4Open and both IsBusinessDay return.
-/
import Derived.Test.YtglpkanegehcbaaCalLaw
import Derived.Test.YtglpkanegehcbaaShelfSl
namespace Go.Proofs.Ytglpkanegehcbaa.Opn
open Go.RowKit Go.Proofs.Ytglpkanegehcbaa.IRow Go.Proofs.Ytglpkanegehcbaa.Cal Go.Proofs.Ytglpkanegehcbaa.Biz Go.Proofs.Ytglpkanegehcbaa.Wd Go.Proofs.Ytglpkanegehcbaa.Asc Go.Proofs.Ytglpkanegehcbaa.CalLaw

theorem beqFalse {a b : Int} (h : a ≠ b) : (a == b) = false := by simp [h]

theorem contains_iff (zs : List Int) (x : Int) : zs.contains x = true ↔ ∃ j, ∃ h : j < zs.length, zs[j] = x := by
  rw [List.contains_iff_mem]
  constructor
  · intro h; obtain ⟨j, hj, e⟩ := List.getElem_of_mem h; exact ⟨j, hj, e⟩
  · rintro ⟨j, hj, e⟩; rw [← e]; exact List.getElem_mem hj

set_option maxHeartbeats 1000000 in
theorem l1HasAux (A : Option Addr) (n c : Nat) (zs : List Int) (x : Int) (b : Bool) (HB : Hid (zs.contains x = b)) (w : World) (B : Nat) (hn : n = zs.length) (hm : n ≤ 1048576) (hA : Is w B A zs) :
    Calls Try.prog 69 #[.slice A n c, .int .i64 x] w fun e w' => e = .returned (.bool b) ∧ w = w' := by
  have HN := Lib.hid hn
  clear hn
  go_enter Try.func69, Try.ntmps69
  go_wp2
  go_loop [5] (fun i => ∃ k : Nat, k ≤ n ∧ i = .int .i64 k ∧ Hid (∀ j, j < k → zs.getD j 0 ≠ x)) (fun i => n - (intOf i).toNat)
  case atStart => exact ⟨0, Nat.zero_le _, rfl, Lib.hid fun j hj => by omega⟩
  case round =>
    obtain ⟨k, hk, rfl, HK⟩ := hrel
    by_cases hlt : k < n
    · have hk' : k < zs.length := by have := HN.out; omega
      obtain ⟨ad, rfl, hB, hc⟩ := hA (by omega)
      obtain ⟨p, hp⟩ : ∃ p, p = zs.getD k 0 := ⟨_, rfl⟩
      have hcell : w.cell? (ad.add k) = some (.int .i64 p) := by rw [hp, getD_get zs hk']; exact hc k hk'
      have HP := Lib.hid hp
      have HK' := Lib.hid hk'
      clear hp hc hk'
      by_cases hx : p = x
      · subst hx
        have HE : Hid (true = b) := Lib.hid (by rw [← HB.out]; exact ((contains_iff zs p).2 ⟨k, HK'.out, by rw [← getD_get zs HK'.out]; exact HP.out.symm⟩).symm)
        go_wp2
        go_ret
        exact ⟨congrArg (fun b => Ending.returned (.bool b)) HE.out, rfl⟩
      · have HX := Lib.hid hx
        have hx1 : (p == x) = false := beqFalse hx
        clear hx
        go_wp2
        go_round
        case rel => exact ⟨k + 1, by omega, by go_num, Lib.hid fun j hj => by
          by_cases e : j = k
          · subst e; intro e2; exact HX.out (by rw [HP.out]; exact e2)
          · exact HK.out j (by omega)⟩
        case measure => simp [intOf]; omega
    · have HE : Hid (false = b) := Lib.hid (by
        rw [← HB.out]
        symm
        rw [Bool.eq_false_iff]
        intro h
        obtain ⟨j, hj, e⟩ := (contains_iff zs x).1 h
        exact HK.out j (by have := HN.out; omega) (by rw [getD_get zs hj]; exact e))
      go_wp2
      go_ret
      exact ⟨congrArg (fun b => Ending.returned (.bool b)) HE.out, rfl⟩

theorem l1Has (A : Option Addr) (n c : Nat) (zs : List Int) (x : Int) (w : World) (B : Nat) (hn : n = zs.length) (hm : n ≤ 1048576) (hA : Is w B A zs) :
    Calls Try.prog 69 #[.slice A n c, .int .i64 x] w fun e w' => e = .returned (.bool (zs.contains x)) ∧ w = w' := l1HasAux A n c zs x _ (Lib.hid rfl) w B hn hm hA

theorem take_all {n : Nat} {zs : List Int} (h : n = zs.length) : zs.take n = zs := List.take_of_length_le (by omega)
theorem cells0 {w : World} {b : Nat} {zs : List Int} (h : ∀ j, ∀ h : j < zs.length, w.cell? ⟨b, j, none⟩ = some (.int .i64 zs[j])) : ∀ j, j < zs.length → w.cell? ⟨b, 0 + j, none⟩ = some (.int .i64 (zs.getD j 0)) := fun j hj => by
  rw [getD_get zs hj, Nat.zero_add]; exact h j hj

theorem hasS (A : Option Addr) (n c : Nat) (zs : List Int) (x : Int) (w : World) (B : Nat) (hn : n = zs.length) (hm : n ≤ 1048576) (hA : At w B A zs) :
    Calls Try.prog 54 #[.slice A n c, .int .i64 x] w fun e w' => e = .returned (.bool (zs.contains x)) ∧ w = w' := by
  by_cases h0 : 0 < zs.length
  · obtain ⟨b, rfl, _, hc⟩ := hA h0
    refine (Try.slices_Contains_int b 0 n c zs x w (by omega) (by omega) (cells0 hc)).mono fun e w' ⟨a, b⟩ => ⟨?_, b.symm⟩
    rw [take_all hn] at a; exact a
  · have e : zs = [] := List.length_eq_zero_iff.1 (by omega)
    subst e
    have : n = 0 := by simpa using hn
    subst this
    exact (Try.slices_Contains_int_empty A c x w).mono fun e w' ⟨a, b⟩ => ⟨a, b.symm⟩

theorem findS (A : Option Addr) (n c : Nat) (zs : List Int) (x : Int) (w : World) (B : Nat) (hn : n = zs.length) (hm : n ≤ 1048576) (hA : At w B A zs) (hs : zs.Pairwise (· ≤ ·)) :
    Calls Try.prog 56 #[.slice A n c, .int .i64 x] w fun e w' => ∃ k : Int, e = .returned (.tuple #[.int .i64 k, .bool (zs.contains x)]) ∧ ∃ q, w' = w.drewN q := by
  by_cases h0 : 0 < zs.length
  · obtain ⟨b, rfl, _, hc⟩ := hA h0
    refine (Try.slices_BinarySearch_int b 0 n c zs x w (by omega) (by omega) (cells0 hc) (by rw [take_all hn]; exact hs)).mono fun e w' ⟨a, b⟩ => ?_
    rw [take_all hn] at a
    exact ⟨_, a, b⟩
  · have e : zs = [] := List.length_eq_zero_iff.1 (by omega)
    subst e
    have : n = 0 := by simpa using hn
    subst this
    exact (Try.slices_BinarySearch_int_empty A c x w).mono fun e w' ⟨a, b⟩ => ⟨_, a, 0, b⟩

set_option maxHeartbeats 1000000 in
theorem isOpen (A1 A2 : Option Addr) (n1 c1 n2 c2 : Nat) (we ho : List Int) (d : Int) (w : World) (h : Cl w w.heap.size A1 n1 A2 n2 we ho) (hg : GoodC we ho) (hd : Day d) :
    Calls Try.prog 37 #[.agg #[.slice A1 n1 c1, .slice A2 n2 c2], .int .i64 d] w fun e w' => e = .returned (.bool (opn we ho d)) ∧ Below w.heap.size w w' := by
  have H1 : Hid (∀ v m, v = (w.alloc (.cells #[.slice A1 n1 c1, .slice A2 n2 c2] 26)).drewN m → Calls Try.prog 54 #[.slice A1 n1 c1, .int .i64 ((d + 5) % 7)] v fun e w' => e = .returned (.bool (we.contains ((d + 5) % 7))) ∧ v = w') :=
    Lib.hid fun v m hv => by subst hv; exact hasS A1 n1 c1 we _ _ w.heap.size h.l1 h.m1 (h.r1.below (bel_drew _ _ _))
  have H2 : Hid (∀ v m, v = (w.alloc (.cells #[.slice A1 n1 c1, .slice A2 n2 c2] 26)).drewN m → Calls Try.prog 56 #[.slice A2 n2 c2, .int .i64 d] v fun e w' => ∃ k : Int, e = .returned (.tuple #[.int .i64 k, .bool (ho.contains d)]) ∧ ∃ q, w' = v.drewN q) :=
    Lib.hid fun v m hv => by subst hv; exact findS A2 n2 c2 ho d _ w.heap.size h.l2 h.m2 (h.r2.below (bel_drew _ _ _)) (asc_le hg.2)
  obtain ⟨d0, d1⟩ := hd
  have HO : Hid (opn we ho d = (!we.contains ((d + 5) % 7) && !ho.contains d)) := Lib.hid rfl
  generalize opn we ho d = o at *
  clear h hg
  generalize we.contains ((d + 5) % 7) = b1 at *
  generalize ho.contains d = b2 at *
  cases b1
  · go_enter Try.func37, Try.ntmps37
    go_wp2_with fail
    go_quiet ((first
      | (go_at_call 55; with_reducible exact quiet_eq (weekdayOf d d0 (by omega) _))
      | (go_at_call 54; with_reducible exact quiet_eq (H1.out _ _ rfl))))
    go_wp2_with (go_at_call 56; refine (H2.out _ _ rfl).mono ?_; rintro e w' ⟨k, rfl, q, rfl⟩)
    go_ret
    exact ⟨by rw [HO.out]; rfl, bel_drew _ _ _⟩
  · go_enter Try.func37, Try.ntmps37
    go_wp2_with fail
    go_quiet ((first
      | (go_at_call 55; with_reducible exact quiet_eq (weekdayOf d d0 (by omega) _))
      | (go_at_call 54; with_reducible exact quiet_eq (H1.out _ _ rfl))))
    go_wp2_with fail
    go_ret
    exact ⟨by rw [HO.out]; rfl, bel_drew _ _ _⟩

set_option maxHeartbeats 1000000 in
theorem l4Open (A1 A2 : Option Addr) (n1 c1 n2 c2 : Nat) (we ho : List Int) (d : Int) (w : World) (h : Cl w w.heap.size A1 n1 A2 n2 we ho) (hd : Day d) :
    Calls Try.prog 46 #[.agg #[.slice A1 n1 c1, .slice A2 n2 c2], .int .i64 d] w fun e w' => e = .returned (.bool (opn we ho d)) ∧ Below w.heap.size w w' := by
  have H1 : Hid (∀ v m, v = (w.alloc (.cells #[.slice A1 n1 c1, .slice A2 n2 c2] 26)).drewN m → Calls Try.prog 69 #[.slice A1 n1 c1, .int .i64 ((d + 5) % 7)] v fun e w' => e = .returned (.bool (we.contains ((d + 5) % 7))) ∧ v = w') :=
    Lib.hid fun v m hv => by subst hv; exact l1Has A1 n1 c1 we _ _ w.heap.size h.l1 h.m1 (h.r1.below (bel_drew _ _ _)).is
  have H2 : Hid (∀ v m, v = (w.alloc (.cells #[.slice A1 n1 c1, .slice A2 n2 c2] 26)).drewN m → Calls Try.prog 69 #[.slice A2 n2 c2, .int .i64 d] v fun e w' => e = .returned (.bool (ho.contains d)) ∧ v = w') :=
    Lib.hid fun v m hv => by subst hv; exact l1Has A2 n2 c2 ho d _ w.heap.size h.l2 h.m2 (h.r2.below (bel_drew _ _ _)).is
  obtain ⟨d0, d1⟩ := hd
  have HO : Hid (opn we ho d = (!we.contains ((d + 5) % 7) && !ho.contains d)) := Lib.hid rfl
  generalize opn we ho d = o at *
  clear h
  generalize we.contains ((d + 5) % 7) = b1 at *
  generalize ho.contains d = b2 at *
  cases b1
  all_goals
    go_enter Try.func46, Try.ntmps46
    go_wp2_with fail
    go_quiet ((first
      | (go_at_call 70; with_reducible exact quiet_eq (l3Weekday d d0 (by omega) _))
      | (go_at_call 69; with_reducible exact quiet_eq (H1.out _ _ rfl))
      | (go_at_call 69; with_reducible exact quiet_eq (H2.out _ _ rfl))))
    go_wp2_with fail
    go_ret
    exact ⟨by rw [HO.out]; first | rfl | (cases b2 <;> rfl), bel_drew _ _ _⟩

end Go.Proofs.Ytglpkanegehcbaa.Opn
