/-
  ShareAmount of the model.
-/
import Derived.Test.YtjibnfeeomlnlaaShare
import Derived.Maps.AppendAt
namespace Go.Proofs.Ytjibnfeeomlnlaa.ShareSpec
open Go.RowKit Go.Proofs.Ytjibnfeeomlnlaa.IRow Go.Proofs.Ytjibnfeeomlnlaa.Amount Go.Proofs.Ytjibnfeeomlnlaa.Sums Go.Proofs.Ytjibnfeeomlnlaa.ShareMath Go.Proofs.Ytjibnfeeomlnlaa.SumW Go.Proofs.Ytjibnfeeomlnlaa.Order Go.Proofs.Ytjibnfeeomlnlaa.Share

/-- Two rows of ints of our own, apart. -/
structure Two (w wr : World) (B : Nat) (v1 v2 : Value) (xs ys : List Int) : Prop where
  r1 : wr.ownsRow B 3 1 v1 xs.length (xs.map (Value.int .i64))
  r2 : wr.ownsRow B 3 1 v2 ys.length (ys.map (Value.int .i64))
  ne : ∀ b, v1.ownBlock = some b → v2.ownBlock ≠ some b
  bel : Below B w wr
  le : B ≤ wr.heap.size

theorem Two.swap {w wr : World} {B : Nat} {v1 v2 : Value} {xs ys : List Int} (h : Two w wr B v1 v2 xs ys) : Two w wr B v2 v1 ys xs := ⟨h.r2, h.r1, fun b e1 e2 => h.ne b e2 e1, h.bel, h.le⟩

theorem Two.more {w wr w1 : World} {B : Nat} {v1 v2 v' : Value} {xs ys : List Int} {q : Int} {o : Obj} (h : Two w wr B v1 v2 xs ys)
    (hown' : w1.ownsRow B 3 1 v' (xs.length + 1) (xs.map (Value.int .i64) ++ [.int .i64 q])) (hg : (wr.alloc o).grownBy w1 v1.ownBlock) (hat : v'.ownBlock = v1.ownBlock ∨ v'.ownBlock = some (wr.alloc o).heap.size) :
    Two w w1 B v' v2 (xs ++ [q]) ys := by
  have hbel : Below B w w1 := (h.bel.alloc h.le o).grown hg (by simp; have := h.le; omega) (fun k hk => ((h.r1.lt) k hk).1)
  refine ⟨by simpa using hown', (h.r2.alloc o).kept hg ?_, ?_, hbel, ?_⟩
  · cases e : v2.ownBlock with
    | none => exact .inl rfl
    | some b => exact .inr (fun e2 => h.ne b e2.symm e)
  · intro b e1 e2
    rcases hat with e | e
    · exact h.ne b (e ▸ e1) e2
    · have := (h.r2.lt b e2).2
      rw [e] at e1
      simp at e1
      omega
  · have h1 := hg.size
    have := h.le
    simp at h1
    omega

theorem Two.open {w wr : World} {B : Nat} {v1 v2 : Value} {xs ys : List Int} (h : Two w wr B v1 v2 xs ys) (hp : 0 < xs.length) : ∃ g c, v1 = .slice (some ⟨g, 0, none⟩) xs.length c := by
  rcases h.r1.2 with ⟨_, h0⟩ | ⟨g, c, cur, hv, _⟩
  · omega
  · exact ⟨g, c, hv⟩

theorem Two.set {w wr : World} {B g c n : Nat} {v2 : Value} {xs ys : List Int} (h : Two w wr B (.slice (some ⟨g, 0, none⟩) n c) v2 xs ys) (hn : n = xs.length) (x : Nat) (z : Int) :
    Two w (wr.setCell ⟨g, x, none⟩ (.int .i64 z)) B (.slice (some ⟨g, 0, none⟩) n c) v2 (xs.set x z) ys := by
  subst hn
  have h1 := h.r1.stored x (.int .i64 z)
  have hg : B ≤ g := (h.r1.lt g rfl).1
  refine ⟨?_, h.r2.kept h1.2 ?_, h.ne, h.bel.setCell hg _, ?_⟩
  · rw [List.length_set, List.map_set]; exact h1.1
  · cases e : v2.ownBlock with
    | none => exact .inl rfl
    | some b => exact .inr (fun e2 => h.ne b e2.symm e)
  · have := h1.2.size
    have := h.le
    omega

theorem Two.at {w wr : World} {B g c n : Nat} {v2 : Value} {xs ys : List Int} (h : Two w wr B (.slice (some ⟨g, 0, none⟩) n c) v2 xs ys) (hn : n = xs.length) (x : Nat) (hx : x < n) : wr.cell? ⟨g, x, none⟩ = some (.int .i64 xs[x]!) := by
  subst hn
  rw [h.r1.cellAt x (by omega), List.getElem?_map, List.getElem?_eq_getElem hx, getElem!_pos xs x hx]
  rfl

theorem Two.thawed {w wr : World} {B g c n : Nat} {v2 : Value} {xs ys : List Int} (h : Two w wr B (.slice (some ⟨g, 0, none⟩) n c) v2 xs ys) (hn : n = xs.length) (x : Nat) : wr.frozen? ⟨g, x, none⟩ = false := by
  subst hn
  exact h.r1.frozenAt x

theorem Two.drewN {w wr : World} {B : Nat} {v1 v2 : Value} {xs ys : List Int} (h : Two w wr B v1 v2 xs ys) (m : Nat) : Two w (wr.drewN m) B v1 v2 xs ys :=
  ⟨h.r1, h.r2, h.ne, below_drewN h.bel m, h.le⟩

theorem one_int (q : Int) : ∀ u ∈ [Value.int .i64 q], u.oneCell' = true := by intro u hu; simp at hu; subst hu; rfl

set_option maxHeartbeats 1000000 in
theorem l2Share (t : Int) (A : Option Addr) (n cap : Nat) (zs : List Int) (w : World) (hn : n = zs.length) (hA : Is w w.heap.size A zs) (hT : Takes t zs) :
    Calls Try.prog 18 #[.int .i64 t, .slice A n cap] w fun e w' =>
      ∃ v, e = .returned v ∧ Below w.heap.size w w' ∧ w'.ownsRow w.heap.size 3 1 v n ((shares t zs).map (Value.int .i64)) := by
  have HT := Lib.hid hT
  obtain ⟨⟨h20, hw, hpos⟩, ht0, ht1⟩ := hT
  have hn20 : n ≤ 20 := by omega
  have H1 := Lib.hid (l2Sum A n cap zs w w.heap.size hn (by omega) hA (fun j h _ => by have := hw _ (List.getElem_mem h); unfold Wt at this; omega))
  obtain ⟨s, hs⟩ : ∃ s, s = tot zs := ⟨_, rfl⟩
  have hs0 : 0 < s := by rw [hs]; exact hpos
  have hs1 : s ≤ 20000000 := by
    have := tot_pos zs n (by omega) (fun j h _ => hw _ (List.getElem_mem h))
    rw [List.take_of_length_le (by omega)] at this
    omega
  rw [← hs] at H1
  have HS := Lib.hid hs
  have HN := Lib.hid hn
  have HA := Lib.hid hA
  have HW := Lib.hid hw
  clear hs hn hA h20 hw hpos
  obtain ⟨i0, hi, hz0, hz1, hz2⟩ := info_parts infoInt
  go_enter Try.func18, Try.ntmps18
  go_wp2_with (go_at_call 17; refine H1.out.mono ?_; rintro e w' ⟨rfl, rfl⟩)
  go_loopw [6, 7, 8, 9] (fun v1 v2 l i wr => ∃ k : Nat, k ≤ n ∧ i = .int .i64 k ∧ l = .int .i64 (t - tot ((base t zs).take k)) ∧ Two w wr w.heap.size v1 v2 ((base t zs).take k) ((rems t zs).take k)) (fun _ _ _ i _ => n - (intOf i).toNat)
  case atStart =>
    refine ⟨0, Nat.zero_le _, rfl, by simp [tot], ⟨?_, ?_, ?_, ?_, ?_⟩⟩
    · exact World.ownsRow.alloc (World.ownsRow_made w #[] 0 (Nat.le_refl _) (by unfold maxLen; omega) rfl) _
    · have := World.ownsRow_made (base := w.heap.size) (e := 3) (size := 1) (w.alloc (Obj.cells #[] 3)) #[] 0 (by simp) (by unfold maxLen; omega) rfl
      simpa using this
    · intro b h1 h2
      simp [Value.ownBlock] at h1 h2
      omega
    · exact ((Below.refl _ _).alloc (Nat.le_refl _) _).alloc (by simp) _
    · simp; omega
  case round =>
    obtain ⟨k, hk, rfl, rfl, hTwo⟩ := hrel
    have hbd := tot_bd 1000000000000000 (base t zs) k (by rw [base_length]; have := HN.out; omega) (base_within t zs HT.out k)
    obtain ⟨hd0, hd1⟩ := hbd
    have hl1 : ((base t zs).take k).length = k := by rw [List.length_take, base_length]; have := HN.out; omega
    have hl2 : ((rems t zs).take k).length = k := by rw [List.length_take, rems_length]; have := HN.out; omega
    by_cases hlt : k < n
    · have hk' : k < zs.length := by have := HN.out; omega
      obtain ⟨ad, rfl, hB, hc⟩ := HA.out (by omega)
      obtain ⟨p, hp⟩ : ∃ p, p = zs[k] := ⟨_, rfl⟩
      have hcell : wr.cell? (ad.add k) = some (.int .i64 p) := by rw [hp]; exact (hTwo.bel.cell (by rw [block_add]; exact hB)).trans (hc k hk')
      have HCW : Hid (w.cell? (ad.add k) = some (.int .i64 p)) := Lib.hid (by rw [hp]; exact hc k hk')
      have hpw : Wt p := by rw [hp]; exact HW.out _ (List.getElem_mem hk')
      obtain ⟨⟨hm0, hm1⟩, ⟨hq0, hq1⟩, hr0, hquo, hrem⟩ := quo_bd t p s ht0 ht1 hpw.1 hpw.2 hs0
      have hp0 := hpw.1
      have hp1 := hpw.2
      have HQ : Hid (t * p / s = (base t zs)[k]'(by rw [base_length]; exact hk')) := Lib.hid (by rw [base_get, ← hp, ← HS.out])
      have HR : Hid (t * p % s = (rems t zs)[k]'(by rw [rems_length]; exact hk')) := Lib.hid (by rw [rems_get, ← hp, ← HS.out])
      clear hc hp hpw
      generalize t * p / s = q at *
      generalize t * p % s = m at *
      have T0 := Lib.hid hTwo
      clear hTwo
      have HL1 := Lib.hid hl1
      have HL2 := Lib.hid hl2
      clear hl1 hl2
      go_wp2_with (at_builtin; refine wpList_append_own_at _ rfl _ _ 24 rfl w.heap.size 3 i0 (.int .i64 0) 1 8 Try.underlying24 hi hz0 hz1 hz2 rfl (by decide) _ _ _ rfl (T0.out.r1.alloc _) ⟨wr.heap.size, 0, none⟩ 1 1 [.int .i64 q] rfl rfl (cell_one_new _ _ _) (one_int _) (by rw [HL1.out]; unfold maxLen; omega) (by rw [HL1.out]; omega) (by have := T0.out.le; simp; omega) ?_; intro v' w1 hown' hgrow _ hat; refine Hid.out ?_)
      refine Lib.hid ?_
      have T1 := Lib.hid (T0.out.more hown' hgrow hat).swap
      clear hown' hgrow hat
      have hcell1 : w1.cell? (ad.add k) = some (.int .i64 p) := (T1.out.bel.cell (by rw [block_add]; exact hB)).trans HCW.out
      go_wp2_with (at_builtin; refine wpList_append_own_at _ rfl _ _ 24 rfl w.heap.size 3 i0 (.int .i64 0) 1 8 Try.underlying24 hi hz0 hz1 hz2 rfl (by decide) _ _ _ rfl (T1.out.r1.alloc _) ⟨w1.heap.size, 0, none⟩ 1 1 [.int .i64 m] rfl rfl (cell_one_new _ _ _) (one_int _) (by rw [HL2.out]; unfold maxLen; omega) (by rw [HL2.out]; omega) (by have := T1.out.le; simp; omega) ?_; intro v'' w3 hown' hgrow _ hat; refine Hid.out ?_)
      refine Lib.hid ?_
      have hT2 := (T1.out.more hown' hgrow hat).swap
      clear hown' hgrow hat
      have hlen : ((base t zs).take k ++ [q]).length = k + 1 := by rw [List.length_append, HL1.out]; rfl
      obtain ⟨g, c, rfl⟩ := hT2.open (by omega)
      have hld : w3.cell? ⟨g, k, none⟩ = some (.int .i64 q) := by
        rw [hT2.r1.cellAt k (by omega), List.map_append, List.getElem?_append_right (by rw [List.length_map, HL1.out]; exact Nat.le_refl _), List.length_map, HL1.out, Nat.sub_self]
        rfl
      have T2 : Hid (Two w w3 w.heap.size (.slice (some ⟨g, 0, none⟩) (k + 1) c) v'' ((base t zs).take (k + 1)) ((rems t zs).take (k + 1))) := Lib.hid (by
        rw [List.take_succ_eq_append_getElem (by rw [base_length]; exact hk'), List.take_succ_eq_append_getElem (by rw [rems_length]; exact hk'), ← HQ.out, ← HR.out]
        rw [hlen] at hT2
        exact hT2)
      have HL : Hid (tot ((base t zs).take (k + 1)) = tot ((base t zs).take k) + q) := Lib.hid (by rw [tot_snoc _ k (by rw [base_length]; exact hk'), ← HQ.out])
      rw [hlen]
      clear hT2 hlen
      go_wp2
      go_roundw
      case rel => exact ⟨k + 1, by omega, by go_num, by rw [HL.out, Int.sub_sub], T2.out⟩
      case measure => simp [intOf]; omega
    · rw [List.take_of_length_le (by rw [base_length]; have := HN.out; omega), List.take_of_length_le (by rw [rems_length]; have := HN.out; omega)] at hTwo
      have hb0 : (base t zs).length = n := by rw [base_length]; exact HN.out.symm
      have hr0 : (rems t zs).length = n := by rw [rems_length]; exact HN.out.symm
      have hn0 : 0 < n := by
        have h1 := HN.out
        have h2 := HS.out
        rcases Nat.eq_zero_or_pos n with e | e
        · have : zs = [] := List.eq_nil_of_length_eq_zero (by omega)
          rw [this] at h2; simp [tot] at h2; omega
        · exact e
      obtain ⟨g1, c1, rfl⟩ := hTwo.open (by omega)
      obtain ⟨g2, c2, rfl⟩ := hTwo.swap.open (by omega)
      have hl := left_lt t zs (by rw [← tot_sum, ← HS.out]; exact hs0)
      have hl2 : t - tot ((base t zs).take k) = (left t zs : Nat) ∧ left t zs < n := by
        rw [List.take_of_length_le (by rw [base_length]; have := HN.out; omega)]
        unfold left
        have e : (zs.map fun x => t * x / zs.sum).sum = tot (base t zs) := by rw [tot_sum]; unfold base; rw [tot_sum]
        rw [e, ← HN.out] at hl
        omega
      obtain ⟨hl3, hl4⟩ := hl2
      have hord : Ord n (fun i => (rems t zs)[i]!) (ordOf (n - 1) (rems t zs)) := by
        have := isOrd (n - 1) (rems t zs)
        rw [show n - 1 + 1 = n by omega] at this
        exact this
      obtain ⟨o, ho⟩ : ∃ o, o = ordOf (n - 1) (rems t zs) := ⟨_, rfl⟩
      rw [← ho] at hord
      have HOO := Lib.hid ho
      have HORD := Lib.hid hord
      have HPK : Hid (∀ j, j < n → best (rests o (rems t zs) j) n = o j) := Lib.hid (fun j hj => pick hord (rems t zs) hr0 (fun i _ => rfl) (fun i hi => by
        show 0 ≤ (rems t zs)[i]!
        rw [getElem!_pos _ i (by omega), rems_get]
        exact Int.emod_nonneg _ (by rw [← HS.out]; omega)) j hj)
      rw [hb0] at hTwo
      rw [hr0] at hTwo
      rw [hl3, hb0, hr0]
      have HB0 := Lib.hid hb0
      have HR0 := Lib.hid hr0
      have T0 := Lib.hid hTwo
      generalize hL : left t zs = L at *
      have HLf := Lib.hid hL
      clear hL hl3 hl hord ho hTwo hl1 hl2 hd0 hd1 hb0 hr0
      go_wp2_with fail
      go_loopw [8] (fun l wx => ∃ j : Nat, j ≤ L ∧ l = .int .i64 ((L : Int) - j) ∧ Two w wx w.heap.size (.slice (some ⟨g1, 0, none⟩) n c1) (.slice (some ⟨g2, 0, none⟩) n c2) (bumps o (base t zs) j) (rests o (rems t zs) j)) (fun l _ => (intOf l).toNat)
      case atStart => exact ⟨0, Nat.zero_le _, by simp, T0.out⟩
      case round =>
        obtain ⟨j, hj, rfl, hT⟩ := hrel
        have hbl : n = (bumps o (base t zs) j).length := by rw [bumps_length, HB0.out]
        have hrl : n = (rests o (rems t zs) j).length := by rw [rests_length, HR0.out]
        by_cases hlt2 : j < L
        · have hpk := HPK.out j (by omega)
          have hx : o j < n := HORD.out.lt j (by omega)
          have TJ := Lib.hid hT
          have HBL := Lib.hid hbl
          have HRL := Lib.hid hrl
          have HPJ := Lib.hid hpk
          clear hT hbl hrl hpk
          go_wp2_with fail
          go_loopw [10, 11] (fun b i wy => ∃ p m : Nat, 1 ≤ p ∧ p ≤ n ∧ i = .int .i64 p ∧ b = .int .i64 (best (rests o (rems t zs) j) p) ∧ wy = wr.drewN m) (fun _ i _ => n - (intOf i).toNat)
          case atStart => exact ⟨1, 0, Nat.le_refl _, hn0, rfl, by simp [best], rfl⟩
          case round =>
            obtain ⟨p, m, hp1, hpn, rfl, rfl, rfl⟩ := hrel
            have hbp : best (rests o (rems t zs) j) p < p := best_lt _ p (by omega)
            by_cases hlt3 : p < n
            · have hcp := TJ.out.swap.at HRL.out p hlt3
              have hcb := TJ.out.swap.at HRL.out (best (rests o (rems t zs) j) p) (by omega)
              have HBS : Hid (best (rests o (rems t zs) j) (p + 1) = if (rests o (rems t zs) j)[p]! > (rests o (rems t zs) j)[best (rests o (rems t zs) j) p]! then p else best (rests o (rems t zs) j) p) := Lib.hid rfl
              generalize (rests o (rems t zs) j)[p]! = x at *
              generalize (rests o (rems t zs) j)[best (rests o (rems t zs) j) p]! = y at *
              generalize hbb : best (rests o (rems t zs) j) p = bb at *
              clear hbb
              have e0 : (0 : Int) ≤ (p : Int) := by omega
              have e1 : (p : Int) < (n : Int) := by omega
              have e2 : (0 : Int) ≤ (bb : Int) := by omega
              have e3 : (bb : Int) < (n : Int) := by omega
              by_cases hxy : x > y
              · go_wp2_with fail
                go_quiet (fail)
                go_wp2_with fail
                go_roundw
                case rel => exact ⟨p + 1, _, by omega, by omega, by go_num, by rw [HBS.out, if_pos hxy], rfl⟩
                case measure => simp [intOf]; omega
              · go_wp2_with fail
                go_quiet (fail)
                go_wp2_with fail
                go_roundw
                case rel => exact ⟨p + 1, _, by omega, by omega, by go_num, by rw [HBS.out, if_neg (by omega)], rfl⟩
                case measure => simp [intOf]; omega
            · have HX : Hid (best (rests o (rems t zs) j) p = o j) := Lib.hid (by rw [← HPJ.out, show p = n by omega])
              have hx2 : best (rests o (rems t zs) j) p < n := by omega
              generalize best (rests o (rems t zs) j) p = x at *
              have T3 := TJ.out.drewN m
              generalize wr.drewN m = wz at *
              obtain ⟨v, hv⟩ : ∃ v, v = (bumps o (base t zs) j)[x]! := ⟨_, rfl⟩
              have hvb : 0 ≤ v ∧ v ≤ 1000000000000000 + j := by
                rw [hv]
                refine bumps_le o (base t zs) 1000000000000000 ?_ j x (by rw [HB0.out]; exact hx2)
                intro i hi
                rw [getElem!_pos _ i hi]
                exact base_in t zs HT.out i hi
              obtain ⟨hv0, hv1⟩ := hvb
              have hcv : wz.cell? ⟨g1, x, none⟩ = some (.int .i64 v) := by rw [hv]; exact T3.at HBL.out x hx2
              have hfz : wz.frozen? ⟨g1, x, none⟩ = false := T3.thawed HBL.out x
              have T4 := T3.set HBL.out x (v + 1)
              have hfz2 : (wz.setCell ⟨g1, x, none⟩ (.int .i64 (v + 1))).frozen? ⟨g2, x, none⟩ = false := T4.swap.thawed HRL.out x
              have hcr : (wz.setCell ⟨g1, x, none⟩ (.int .i64 (v + 1))).cell? ⟨g2, x, none⟩ = some (.int .i64 (rests o (rems t zs) j)[x]!) := T4.swap.at HRL.out x hx2
              have T5 : Hid (Two w ((wz.setCell ⟨g1, x, none⟩ (.int .i64 (v + 1))).setCell ⟨g2, x, none⟩ (.int .i64 (-1))) w.heap.size (.slice (some ⟨g1, 0, none⟩) n c1) (.slice (some ⟨g2, 0, none⟩) n c2) (bumps o (base t zs) (j + 1)) (rests o (rems t zs) (j + 1))) := Lib.hid (by
                have := (T4.swap.set HRL.out x (-1)).swap
                rw [hv, HX.out] at this
                rw [hv, HX.out]
                exact this)
              generalize (rests o (rems t zs) j)[x]! = y at *
              clear T3 T4 hv
              go_wp2
              go_roundw
              case rel => exact ⟨j + 1, by omega, by congr 1; omega, T5.out⟩
              case measure => simp [intOf]; omega
        · have HE : Hid (bumps o (base t zs) j = shares t zs) := Lib.hid (by
            unfold shares
            rw [HLf.out, ← HN.out, ← HOO.out, show j = L by omega])
          have TJ := Lib.hid hT
          have HBL := Lib.hid hbl
          have h0 : ¬ ((L : Int) - j > 0) := by omega
          clear hT hbl hrl
          go_wp2_with fail
          go_ret
          refine ⟨_, rfl, TJ.out.bel, ?_⟩
          have := TJ.out.r1
          rw [← HBL.out, HE.out] at this
          exact this

set_option maxHeartbeats 1000000 in
theorem specShare (t : Int) (A : Option Addr) (n cap : Nat) (zs : List Int) (w : World) (hn : n = zs.length) (hm : n ≤ maxLen) (hA : Is w w.heap.size A zs) :
    Calls Try.prog 8 #[.int .i64 t, .slice A n cap] w (Ans t zs w) := by
  unfold maxLen at hm
  have HN := Lib.hid hn
  have HA := Lib.hid hA
  clear hn hA
  by_cases ha : Amt t
  · have HAm := Lib.hid ha
    obtain ⟨ha0, ha1⟩ := ha
    by_cases h0 : t < 0
    · have HT : Hid (¬ Takes t zs) := Lib.hid (fun h => by have := h.2.1; omega)
      go_enter Try.func8, Try.ntmps8
      go_wp2_with (go_at_call 15; refine (specYes _ HAm.out _).mono ?_; rintro e w' ⟨rfl, rfl⟩)
      go_ret2
      exact ans_no HT.out ((Below.refl _ _).alloc (Nat.le_refl _) _) (made0 _)
    · by_cases hl : 1 ≤ n ∧ n ≤ 20
      · obtain ⟨hl1, hl2⟩ := hl
        go_enter Try.func8, Try.ntmps8
        go_wp2_with (first
          | (go_at_call 15; refine (specYes _ HAm.out _).mono ?_; rintro e w' ⟨rfl, rfl⟩)
          | (go_at_call 16; refine (l1In_true _ _ _ (by omega) (by omega) _).mono ?_; rintro e w' ⟨rfl, rfl⟩))
        go_loop [6] (fun i => ∃ k : Nat, k ≤ n ∧ i = .int .i64 k ∧ Hid (∀ j, ∀ h : j < zs.length, j < k → Wt zs[j])) (fun i => n - (intOf i).toNat)
        case atStart => exact ⟨0, Nat.zero_le _, rfl, Lib.hid (fun j h hj => by omega)⟩
        case round =>
          obtain ⟨k, hk, rfl, HK⟩ := hrel
          by_cases hlt : k < n
          · have hk' : k < zs.length := by have := HN.out; omega
            obtain ⟨ad, rfl, hB, hc⟩ := HA.out (by omega)
            obtain ⟨p, hp⟩ : ∃ p, p = zs[k] := ⟨_, rfl⟩
            have hcell : w.cell? (ad.add k) = some (.int .i64 p) := by rw [hp]; exact hc k hk'
            have HP0 := Lib.hid hp
            have HK' := Lib.hid hk'
            clear hp hc
            by_cases hw : Wt p
            · have HP := Lib.hid hw
              clear hw
              go_wp2_with (go_at_call 16; refine (l1In_true _ _ _ HP.out.1 HP.out.2 _).mono ?_; rintro e w' ⟨rfl, rfl⟩)
              go_round
              case rel => exact ⟨k + 1, by omega, by go_num, Lib.hid (fun j h hj => by
                by_cases e : j = k
                · subst e; have := HP.out; rw [HP0.out] at this; exact this
                · exact HK.out j h (by omega))⟩
              case measure => simp [intOf]; omega
            · have HP : Hid (p < 0 ∨ 1000000 < p) := Lib.hid (by unfold Wt at hw; omega)
              have HT : Hid (¬ Takes t zs) := Lib.hid (fun h => hw (by rw [HP0.out]; exact h.1.2.1 _ (List.getElem_mem HK'.out)))
              clear hw
              go_wp2_with (go_at_call 16; refine (l1In_false _ _ _ HP.out _).mono ?_; rintro e w' ⟨rfl, rfl⟩)
              go_ret2
              exact ans_no HT.out ((Below.refl _ _).alloc (Nat.le_refl _) _) (made0 _)
          · have hall : ∀ z ∈ zs, Wt z := fun z hz => by
              obtain ⟨j, hj, rfl⟩ := List.getElem_of_mem hz
              exact HK.out j hj (by have := HN.out; omega)
            have H1 := Lib.hid (l2Sum A n cap zs w w.heap.size HN.out (by omega) HA.out (fun j h _ => by have := hall _ (List.getElem_mem h); unfold Wt at this; omega))
            obtain ⟨s, hs⟩ : ∃ s, s = tot zs := ⟨_, rfl⟩
            rw [← hs] at H1
            by_cases h2 : s = 0
            · have HT : Hid (¬ Takes t zs) := Lib.hid (fun h => by have := h.1.2.2; omega)
              clear hall hs
              go_wp2_with (go_at_call 17; refine H1.out.mono ?_; rintro e w' ⟨rfl, rfl⟩)
              go_ret2
              exact ans_no HT.out ((Below.refl _ _).alloc (Nat.le_refl _) _) (made0 _)
            · have hpos := tot_pos zs n (by have := HN.out; omega) (fun j h _ => hall _ (List.getElem_mem h))
              rw [List.take_of_length_le (by have := HN.out; omega), ← hs] at hpos
              have HT : Hid (Takes t zs) := Lib.hid ⟨⟨by have := HN.out; omega, hall, by omega⟩, by omega, ha1⟩
              have H3 := Lib.hid (l2Share t A n cap zs w HN.out HA.out HT.out)
              clear hall hs hpos
              go_wp2_with (first
                | (go_at_call 17; refine H1.out.mono ?_; rintro e w' ⟨rfl, rfl⟩)
                | (go_at_call 18; refine H3.out.mono ?_; rintro e w5 ⟨v, rfl, hb5, ho5⟩; refine Hid.out ?_))
              refine Lib.hid ?_
              have HB5 := Lib.hid hb5
              have HO5 := Lib.hid ho5
              clear hb5 ho5
              go_wp2_with fail
              go_ret2
              exact ans_yes HT.out HN.out HB5.out HO5.out
      · have HT : Hid (¬ Takes t zs) := Lib.hid (fun h => hl (by
          have h1 := h.1.1
          have h2 := h.1.2.2
          rcases Nat.eq_zero_or_pos n with e | e
          · have : zs = [] := List.eq_nil_of_length_eq_zero (by have := HN.out; omega)
            rw [this] at h2; simp [tot] at h2
          · have := HN.out; omega))
        have hl' : n < 1 ∨ 20 < n := by omega
        go_enter Try.func8, Try.ntmps8
        go_wp2_with (first
          | (go_at_call 15; refine (specYes _ HAm.out _).mono ?_; rintro e w' ⟨rfl, rfl⟩)
          | (go_at_call 16; refine (l1In_false _ _ _ (by omega) _).mono ?_; rintro e w' ⟨rfl, rfl⟩))
        go_ret2
        exact ans_no HT.out ((Below.refl _ _).alloc (Nat.le_refl _) _) (made0 _)
  · have HAm := Lib.hid ha
    have HT : Hid (¬ Takes t zs) := Lib.hid (fun h => ha ⟨by have := h.2.1; omega, h.2.2⟩)
    clear ha
    go_enter Try.func8, Try.ntmps8
    go_wp2_with (go_at_call 15; refine (specNo _ HAm.out _).mono ?_; rintro e w' ⟨rfl, rfl⟩)
    go_ret2
    exact ans_no HT.out ((Below.refl _ _).alloc (Nat.le_refl _) _) (made0 _)

end Go.Proofs.Ytjibnfeeomlnlaa.ShareSpec
