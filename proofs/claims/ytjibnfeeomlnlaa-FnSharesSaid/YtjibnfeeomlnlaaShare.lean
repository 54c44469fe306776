/-
  ShareAmount of the program.
-/
import Derived.Test.YtjibnfeeomlnlaaOrder
namespace Go.Proofs.Ytjibnfeeomlnlaa.Share
open Go.RowKit Go.Proofs.Ytjibnfeeomlnlaa.IRow Go.Proofs.Ytjibnfeeomlnlaa.Amount Go.Proofs.Ytjibnfeeomlnlaa.Sums Go.Proofs.Ytjibnfeeomlnlaa.ShareMath Go.Proofs.Ytjibnfeeomlnlaa.SumW Go.Proofs.Ytjibnfeeomlnlaa.Order

/-- The shares rounded down, the remainders, what is left. -/
def base (t : Int) (zs : List Int) : List Int := zs.map fun x => t * x / tot zs
def rems (t : Int) (zs : List Int) : List Int := zs.map fun x => t * x % tot zs
def left (t : Int) (zs : List Int) : Nat := (t - tot (base t zs)).toNat
/-- The shares. -/
def shares (t : Int) (zs : List Int) : List Int := bumps (ordOf (zs.length - 1) (rems t zs)) (base t zs) (left t zs)
/-- What ShareAmount takes. -/
def Takes (t : Int) (zs : List Int) : Prop := SumW.Good zs ∧ 0 ≤ t ∧ t ≤ 1000000000

theorem tot_sum (zs : List Int) : tot zs = zs.sum := by unfold tot; exact List.sum_eq_foldl.symm

theorem base_length (t : Int) (zs : List Int) : (base t zs).length = zs.length := by simp [base]
theorem rems_length (t : Int) (zs : List Int) : (rems t zs).length = zs.length := by simp [rems]
theorem base_get (t : Int) (zs : List Int) (k : Nat) (h : k < (base t zs).length) : (base t zs)[k] = t * (zs[k]'(by simpa [base] using h)) / tot zs := by simp [base]
theorem rems_get (t : Int) (zs : List Int) (k : Nat) (h : k < (rems t zs).length) : (rems t zs)[k] = t * (zs[k]'(by simpa [rems] using h)) % tot zs := by simp [rems]

theorem quo_bd (t p s : Int) (ht0 : 0 ≤ t) (ht1 : t ≤ 1000000000) (hp0 : 0 ≤ p) (hp1 : p ≤ 1000000) (hs : 0 < s) :
    (0 ≤ t * p ∧ t * p ≤ 1000000000000000) ∧ (0 ≤ t * p / s ∧ t * p / s ≤ 1000000000000000) ∧ 0 ≤ t * p % s ∧ (t * p).tdiv s = t * p / s ∧ (t * p).tmod s = t * p % s := by
  have h1 : 0 ≤ t * p := Int.mul_nonneg ht0 hp0
  have h2 : t * p ≤ 1000000000 * 1000000 := Int.mul_le_mul ht1 hp1 hp0 (by omega)
  have h3 : 0 ≤ t * p / s := Int.ediv_nonneg h1 (by omega)
  have h4 : t * p / s ≤ t * p := Int.ediv_le_self s h1
  exact ⟨⟨h1, by omega⟩, ⟨h3, by omega⟩, Int.emod_nonneg _ (by omega), Int.tdiv_eq_ediv_of_nonneg h1, Int.tmod_eq_emod_of_nonneg h1⟩

theorem base_in (t : Int) (zs : List Int) (hT : Takes t zs) (j : Nat) (h : j < (base t zs).length) : 0 ≤ (base t zs)[j] ∧ (base t zs)[j] ≤ 1000000000000000 := by
  rw [base_get]
  obtain ⟨⟨_, hw, hpos⟩, ht0, ht1⟩ := hT
  have hz := hw _ (List.getElem_mem (show j < zs.length by simpa [base] using h))
  exact (quo_bd t _ (tot zs) ht0 ht1 hz.1 hz.2 hpos).2.1

/-- A row stays where nothing below the heap's end changes. -/
theorem own_to {B : Nat} {e : TypeId} {k : Nat} {v : Value} {n : Nat} {xs : List Value} {w w' : World} (h : w.ownsRow B e k v n xs) (hb : Below w.heap.size w w') : w'.ownsRow B e k v n xs := by
  refine h.kept (row := none) ⟨hb.os, hb.tape, hb.output, hb.size, fun j hj _ => hb.block j hj⟩ ?_
  cases v.ownBlock with
  | none => exact .inl rfl
  | some b => exact .inr (by simp)

theorem base_within (t : Int) (zs : List Int) (hT : Takes t zs) (k : Nat) : Within 1000000000000000 (base t zs) k := fun j h _ => by
  rw [base_get]
  obtain ⟨⟨_, hw, hpos⟩, ht0, ht1⟩ := hT
  have hz := hw _ (List.getElem_mem (show j < zs.length by simpa [base] using h))
  have := (quo_bd t _ (tot zs) ht0 ht1 hz.1 hz.2 hpos).2.1
  omega

theorem made0 (w : World) : (w.alloc (Obj.cells #[] 3)).ownsRow w.heap.size 3 1 (.slice (some ⟨w.heap.size, 0, none⟩) 0 0) 0 [] :=
  World.ownsRow_made w #[] 0 (Nat.le_refl _) (by unfold maxLen; omega) rfl

/-- What ShareAmount answers. -/
instance (t : Int) (zs : List Int) : Decidable (Takes t zs) := by unfold Takes; infer_instance
def res (t : Int) (zs : List Int) : List Int := if Takes t zs then shares t zs else []
def ok (t : Int) (zs : List Int) : Bool := decide (Takes t zs)
def Ans (t : Int) (zs : List Int) (w : World) (e : Ending) (w' : World) : Prop :=
  ∃ v, e = .returned (.tuple #[v, .bool (ok t zs)]) ∧ Below w.heap.size w w' ∧ w'.ownsRow w.heap.size 3 1 v (res t zs).length ((res t zs).map (Value.int .i64))

theorem shares_length (t : Int) (zs : List Int) : (shares t zs).length = zs.length := by unfold shares; rw [bumps_length]; exact List.length_map _

theorem ans_yes {t : Int} {zs : List Int} {w w' : World} {v : Value} {n : Nat} (h : Takes t zs) (hn : n = zs.length) (hb : Below w.heap.size w w') (ho : w'.ownsRow w.heap.size 3 1 v n ((shares t zs).map (Value.int .i64))) :
    Ans t zs w (.returned (.tuple #[v, .bool true])) w' := by
  refine ⟨v, ?_, hb, ?_⟩
  · unfold ok; rw [decide_eq_true h]
  · unfold res; rw [if_pos h, shares_length, ← hn]; exact ho
theorem ans_no {t : Int} {zs : List Int} {w w' : World} {v : Value} (h : ¬ Takes t zs) (hb : Below w.heap.size w w') (ho : w'.ownsRow w.heap.size 3 1 v 0 []) :
    Ans t zs w (.returned (.tuple #[v, .bool false])) w' := by
  refine ⟨v, ?_, hb, ?_⟩
  · unfold ok; rw [decide_eq_false h]
  · unfold res; rw [if_neg h]; exact ho

set_option maxHeartbeats 1000000 in
theorem implNo (t : Int) (A : Option Addr) (n cap : Nat) (zs : List Int) (w : World) (B : Nat) (hn : n = zs.length) (hm : n ≤ maxLen) (hA : Is w B A zs) (hT : ¬ Takes t zs) :
    Calls Try.prog 7 #[.int .i64 t, .slice A n cap] w fun e w' =>
      e = .returned (.tuple #[.slice (some ⟨w.heap.size, 0, none⟩) 0 0, .bool false]) ∧ Below w.heap.size w w' ∧ w'.ownsRow w.heap.size 3 1 (.slice (some ⟨w.heap.size, 0, none⟩) 0 0) 0 [] := by
  have H1 := Lib.hid (sumWeights A n cap zs w B hn hm hA)
  obtain ⟨s, hs⟩ : ∃ s, s = (if SumW.Good zs then tot zs else 0) := ⟨_, rfl⟩
  obtain ⟨g, hg⟩ : ∃ g, g = decide (SumW.Good zs) := ⟨_, rfl⟩
  have HS := Lib.hid hs
  have HG := Lib.hid hg
  have HT := Lib.hid hT
  clear hs hg hT hn hA
  cases g with
  | false =>
    go_enter Try.func7, Try.ntmps7
    go_wp2_with (go_at_call 13; refine H1.out.mono ?_; rintro e w' ⟨rfl, he⟩; rw [← HS.out, ← HG.out] at he; subst he)
    go_ret2
    exact ⟨rfl, (Below.refl _ _).alloc (Nat.le_refl _) _, made0 w⟩
  | true =>
    have hx : t < 0 ∨ t > 1000000000 := by
      have h1 : SumW.Good zs := of_decide_eq_true HG.out.symm
      rcases Int.lt_or_le t 0 with h | h
      · exact .inl h
      · rcases Int.lt_or_le 1000000000 t with h2 | h2
        · exact .inr h2
        · exact absurd ⟨h1, h, h2⟩ HT.out
    by_cases h0 : t < 0
    · clear hx
      go_enter Try.func7, Try.ntmps7
      go_wp2_with (go_at_call 13; refine H1.out.mono ?_; rintro e w' ⟨rfl, he⟩; rw [← HS.out, ← HG.out] at he; subst he)
      go_ret2
      exact ⟨rfl, (Below.refl _ _).alloc (Nat.le_refl _) _, made0 w⟩
    · have h2 : t > 1000000000 := by omega
      clear hx
      go_enter Try.func7, Try.ntmps7
      go_wp2_with (go_at_call 13; refine H1.out.mono ?_; rintro e w' ⟨rfl, he⟩; rw [← HS.out, ← HG.out] at he; subst he)
      go_ret2
      exact ⟨rfl, (Below.refl _ _).alloc (Nat.le_refl _) _, made0 w⟩

set_option maxHeartbeats 1000000 in
theorem implYes (t : Int) (A : Option Addr) (n cap : Nat) (zs : List Int) (w : World) (hn : n = zs.length) (hA : Is w w.heap.size A zs) (hT : Takes t zs) :
    Calls Try.prog 7 #[.int .i64 t, .slice A n cap] w fun e w' =>
      e = .returned (.tuple #[.slice (some ⟨w.heap.size, 0, none⟩) n n, .bool true]) ∧ Below w.heap.size w w' ∧
      w'.ownsRow w.heap.size 3 1 (.slice (some ⟨w.heap.size, 0, none⟩) n n) n ((shares t zs).map (Value.int .i64)) := by
  have HT := Lib.hid hT
  obtain ⟨⟨h20, hw, hpos⟩, ht0, ht1⟩ := hT
  have hn20 : n ≤ 20 := by omega
  have H1 := Lib.hid (sumWeights A n cap zs w w.heap.size hn (by unfold maxLen; omega) hA)
  obtain ⟨s, hs⟩ : ∃ s, s = tot zs := ⟨_, rfl⟩
  have hs0 : 0 < s := by rw [hs]; exact hpos
  have hs1 : s ≤ 20000000 := by
    have := tot_pos zs n (by omega) (fun j h _ => hw _ (List.getElem_mem h))
    rw [List.take_of_length_le (by omega)] at this
    omega
  have HE : Hid (∀ e w', wAns zs w e w' → w = w' ∧ e = .returned (.tuple #[.int .i64 s, .bool true])) := Lib.hid (by
    intro e w' h
    have hg : SumW.Good zs := HT.out.1
    unfold wAns at h
    rw [if_pos hg, decide_eq_true hg, ← hs] at h
    exact h)
  have HS := Lib.hid hs
  have HN := Lib.hid hn
  have HA := Lib.hid hA
  have HW := Lib.hid hw
  clear hs hn hA h20 hw hpos
  obtain ⟨i0, hi, hz0, hz1, hz2⟩ := info_parts infoInt
  have HZ := Lib.hid hz2
  clear hz2
  go_enter Try.func7, Try.ntmps7
  go_wp2_with (go_at_call 13; refine H1.out.mono ?_; intro e w' he; obtain ⟨rfl, rfl⟩ := HE.out _ _ he; refine Hid.out ?_)
  refine Lib.hid ?_
  go_wp2_with (at_make; refine wpList_make_full _ rfl _ _ 24 rfl w.heap.size 3 i0 (.int .i64 0) 1 Try.underlying24 hi hz0 hz1 .i64 .i64 _ _ n rfl rfl rfl rfl (by rw [HZ.out]; omega) (by unfold maxLen; omega) (Nat.le_refl _) ?_; intro w1 hown1 hgrow1; refine Hid.out ?_)
  refine Lib.hid ?_
  have hn0 : 0 < n := by
    have h1 := HN.out
    have h2 := HS.out
    rcases Nat.eq_zero_or_pos n with e | e
    · have : zs = [] := List.eq_nil_of_length_eq_zero (by omega)
      rw [this] at h2; simp [tot] at h2; omega
    · exact e
  have hb1 : Below w.heap.size w w1 := (Below.refl _ _).grown hgrow1 (Nat.le_refl _) (fun k hk => by cases hk)
  have hsz1 : w.heap.size < w1.heap.size := by
    have := hown1.cellAt 0 (by omega)
    rw [made, List.getElem?_eq_getElem (by simp; omega)] at this
    exact World.block_lt_of_cell? w1 _ this
  go_wp2_with (at_make; refine wpList_make_full _ rfl _ _ 24 rfl w.heap.size 3 i0 (.int .i64 0) 1 Try.underlying24 hi hz0 hz1 .i64 .i64 _ _ n rfl rfl rfl rfl (by rw [HZ.out]; omega) (by unfold maxLen; omega) (Nat.le_of_lt hsz1) ?_; intro w2 hown2 hgrow2; refine Hid.out ?_)
  refine Lib.hid ?_
  have hown1' := hown1.kept hgrow2 (.inr (by simp [Value.ownBlock]))
  have hb2 : Below w.heap.size w w2 := hb1.grown hgrow2 (Nat.le_of_lt hsz1) (fun k hk => by cases hk)
  obtain ⟨r, hr⟩ : ∃ r, r = w1.heap.size := ⟨_, rfl⟩
  rw [← hr] at hown2 hsz1 ⊢
  rw [made] at hown1' hown2
  clear hown1 hgrow1 hgrow2 hb1 hr
  go_wp2_with fail
  have hne : w.heap.size ≠ r := by omega
  go_loopw [10, 40] (fun l i wr => ∃ k : Nat, k ≤ n ∧ i = .int .i64 k ∧ l = .int .i64 (t - tot ((base t zs).take k)) ∧
    wr.ownsRow w.heap.size 3 1 (.slice (some ⟨w.heap.size, 0, none⟩) n n) n (upTo (base t zs) n k) ∧
    wr.ownsRow w.heap.size 3 1 (.slice (some ⟨r, 0, none⟩) n n) n (upTo (rems t zs) n k) ∧ Below w.heap.size w wr) (fun _ i _ => n - (intOf i).toNat)
  case atStart => exact ⟨0, Nat.zero_le _, rfl, by simp [tot], by simpa [upTo] using hown1', by simpa [upTo] using hown2, hb2⟩
  case round =>
    obtain ⟨k, hk, rfl, rfl, ho1, ho2, hb⟩ := hrel
    have hbd := tot_bd 1000000000000000 (base t zs) k (by rw [base_length]; have := HN.out; omega) (base_within t zs HT.out k)
    obtain ⟨hd0, hd1⟩ := hbd
    by_cases hlt : k < n
    · have hk' : k < zs.length := by have := HN.out; omega
      obtain ⟨ad, rfl, hB, hc⟩ := HA.out (by omega)
      obtain ⟨p, hp⟩ : ∃ p, p = zs[k] := ⟨_, rfl⟩
      have hcell : wr.cell? (ad.add k) = some (.int .i64 p) := by rw [hp]; exact (hb.cell (by rw [block_add]; exact hB)).trans (hc k hk')
      have hpw : Wt p := by rw [hp]; exact HW.out _ (List.getElem_mem hk')
      obtain ⟨⟨hm0, hm1⟩, ⟨hq0, hq1⟩, hr0, hquo, hrem⟩ := quo_bd t p s ht0 ht1 hpw.1 hpw.2 hs0
      have hp0 := hpw.1
      have hp1 := hpw.2
      have HQ : Hid (t * p / s = (base t zs)[k]'(by rw [base_length]; exact hk')) := Lib.hid (by rw [base_get, ← hp, ← HS.out])
      have HR : Hid (t * p % s = (rems t zs)[k]'(by rw [rems_length]; exact hk')) := Lib.hid (by rw [rems_get, ← hp, ← HS.out])
      clear hc hp hpw
      generalize t * p / s = q at *
      generalize t * p % s = m at *
      have hfz : wr.frozen? ⟨w.heap.size, k, none⟩ = false := ho1.frozenAt k
      obtain ⟨old, hold⟩ : ∃ old, wr.cell? ⟨w.heap.size, k, none⟩ = some old := by
        rw [ho1.cellAt k (by omega)]
        exact ⟨_, List.getElem?_eq_getElem (by rw [ho1.1]; omega)⟩
      have s1 := ho1.stored k (.int .i64 q)
      have k2 := ho2.kept s1.2 (.inr (by simp [Value.ownBlock]; omega))
      obtain ⟨w3, hw3⟩ : ∃ w3, w3 = wr.setCell ⟨w.heap.size, k, none⟩ (.int .i64 q) := ⟨_, rfl⟩
      have hb3 : Below w.heap.size w w3 := by rw [hw3]; exact hb.setCell (Nat.le_refl _) _
      rw [← hw3] at s1 k2
      have s2 := k2.stored k (.int .i64 m)
      have k1 := s1.1.kept s2.2 (.inr (by simp [Value.ownBlock]; omega))
      have hfz2 : w3.frozen? ⟨r, k, none⟩ = false := k2.frozenAt k
      obtain ⟨old2, hold2⟩ : ∃ old, w3.cell? ⟨r, k, none⟩ = some old := by
        rw [k2.cellAt k (by omega)]
        exact ⟨_, List.getElem?_eq_getElem (by rw [k2.1]; omega)⟩
      have e1 := upTo_set (zs := base t zs) (n := n) (k := k) (by rw [base_length]; exact HN.out) hlt
      have e2 := upTo_set (zs := rems t zs) (n := n) (k := k) (by rw [rems_length]; exact HN.out) hlt
      rw [← HQ.out] at e1
      rw [← HR.out] at e2
      rw [e1] at k1
      rw [e2] at s2
      have hld : (w3.setCell ⟨r, k, none⟩ (.int .i64 m)).cell? ⟨w.heap.size, k, none⟩ = some (.int .i64 q) := by
        rw [k1.cellAt k (by omega), ← e1, List.getElem?_set_self (by unfold upTo; simp; rw [base_length]; have := HN.out; omega)]
      have K : Hid (∀ w4, w3.setCell ⟨r, k, none⟩ (.int .i64 m) = w4 → w4.ownsRow w.heap.size 3 1 (.slice (some ⟨w.heap.size, 0, none⟩) n n) n (upTo (base t zs) n (k + 1)) ∧
          w4.ownsRow w.heap.size 3 1 (.slice (some ⟨r, 0, none⟩) n n) n (upTo (rems t zs) n (k + 1)) ∧ Below w.heap.size w w4) := Lib.hid (by
        rintro _ rfl
        exact ⟨k1, s2.1, hb3.setCell (Nat.le_of_lt hsz1) _⟩)
      have HL : Hid (tot ((base t zs).take (k + 1)) = tot ((base t zs).take k) + q) := Lib.hid (by rw [tot_snoc _ k (by rw [base_length]; exact hk'), ← HQ.out])
      clear s1 s2 k1 k2 e1 e2 ho1 ho2 hb hb3
      subst hw3
      go_wp2
      go_roundw
      case rel => exact ⟨k + 1, by omega, by go_num, by rw [HL.out, Int.sub_sub], K.out _ rfl⟩
      case measure => simp [intOf]; omega
    · have HK : Hid ((base t zs).take k = base t zs) := Lib.hid (List.take_of_length_le (by rw [base_length]; have := HN.out; omega))
      have E1 : upTo (base t zs) n k = (base t zs).map (Value.int .i64) := by
        unfold upTo
        rw [List.take_of_length_le (by rw [base_length]; have := HN.out; omega), show n - k = 0 by omega]; simp
      have E2 : upTo (rems t zs) n k = (rems t zs).map (Value.int .i64) := by
        unfold upTo
        rw [List.take_of_length_le (by rw [rems_length]; have := HN.out; omega), show n - k = 0 by omega]; simp
      rw [E1] at ho1
      rw [E2] at ho2
      have hIs := Is.of_own ho2 (by rw [rems_length]; exact HN.out)
      have HF := Lib.hid (Order.largestFirst (m := n - 1) (cap := n) (by rw [rems_length]; exact HN.out) (by omega) hn20 hIs)
      have hl := left_lt t zs (by rw [← tot_sum, ← HS.out]; exact hs0)
      have hl2 : t - tot ((base t zs).take k) = (left t zs : Nat) ∧ left t zs < n := by
        rw [HK.out]
        unfold left
        have e : (zs.map fun x => t * x / zs.sum).sum = tot (base t zs) := by rw [tot_sum]; unfold base; rw [tot_sum]
        rw [e, ← HN.out] at hl
        omega
      obtain ⟨hl3, hl4⟩ := hl2
      have HO1 := Lib.hid ho1
      have HB := Lib.hid hb
      clear E1 E2 ho1 ho2 hb hIs hl hd0 hd1
      rw [hl3]
      generalize hL : left t zs = L at *
      have HLf := Lib.hid hL
      clear hL hl3
      go_wp2_with (go_at_call 14; refine HF.out.mono ?_; rintro e w5 ⟨rfl, hb5, hs5, hc5⟩; refine Hid.out ?_)
      refine Lib.hid ?_
      have HO5 : Hid (w5.ownsRow w.heap.size 3 1 (.slice (some ⟨w.heap.size, 0, none⟩) n n) n ((base t zs).map (Value.int .i64))) := Lib.hid (own_to HO1.out hb5)
      have HB5 : Hid (Below w.heap.size w w5) := Lib.hid (HB.out.trans (hb5.mono HB.out.size))
      have HC5 := Lib.hid hc5
      have hord : Ord n (fun i => (rems t zs)[i]!) (ordOf (n - 1) (rems t zs)) := by
        have := isOrd (n - 1) (rems t zs)
        rw [show n - 1 + 1 = n by omega] at this
        exact this
      have HOR := Lib.hid hord.lt
      obtain ⟨o, ho⟩ : ∃ o, o = ordOf (n - 1) (rems t zs) := ⟨_, rfl⟩
      rw [← ho] at HC5 HOR
      have HOO := Lib.hid ho
      obtain ⟨ob, hob⟩ : ∃ ob, ob = wr.heap.size + 1 := ⟨_, rfl⟩
      rw [← hob] at HC5 ⊢
      have hobn : w.heap.size ≠ ob := by have := HB.out.size; omega
      clear hord ho hob hb5 hs5 hc5 HF HO1 HB
      go_wp2_with fail
      go_loopw [73] (fun i wx => ∃ j : Nat, j ≤ L ∧ i = .int .i64 j ∧
        wx.ownsRow w.heap.size 3 1 (.slice (some ⟨w.heap.size, 0, none⟩) n n) n ((bumps o (base t zs) j).map (Value.int .i64)) ∧
        Hid (∀ j, j < n → wx.cell? ⟨ob, j, none⟩ = some (.int .i64 (o j))) ∧ Below w.heap.size w wx) (fun i _ => L - (intOf i).toNat)
      case atStart => exact ⟨0, Nat.zero_le _, rfl, HO5.out, HC5, HB5.out⟩
      case round =>
        obtain ⟨j, hj, rfl, hox, HCx, hbx⟩ := hrel
        by_cases hlt2 : j < L
        · have hx : o j < n := HOR.out j (by omega)
          have hcj : wr.cell? ⟨ob, j, none⟩ = some (.int .i64 (o j)) := HCx.out j (by omega)
          obtain ⟨v, hv⟩ : ∃ v, v = (bumps o (base t zs) j)[o j]! := ⟨_, rfl⟩
          have hlen : (bumps o (base t zs) j).length = n := by rw [bumps_length, base_length]; exact HN.out.symm
          have hvb : 0 ≤ v ∧ v ≤ 1000000000000000 + j := by
            rw [hv]
            refine bumps_le o (base t zs) 1000000000000000 ?_ j (o j) (by rw [base_length, ← HN.out]; exact hx)
            intro i hi
            rw [getElem!_pos _ i hi]
            exact base_in t zs HT.out i hi
          obtain ⟨hv0, hv1⟩ := hvb
          have hcv : wr.cell? ⟨w.heap.size, o j, none⟩ = some (.int .i64 v) := by
            rw [hox.cellAt (o j) (by omega), List.getElem?_map, List.getElem?_eq_getElem (by rw [hlen]; exact hx), hv, getElem!_pos _ _ (by rw [hlen]; exact hx)]; rfl
          have hfz : wr.frozen? ⟨w.heap.size, o j, none⟩ = false := hox.frozenAt (o j)
          have K : Hid (∀ w4, wr.setCell ⟨w.heap.size, o j, none⟩ (.int .i64 (v + 1)) = w4 →
              w4.ownsRow w.heap.size 3 1 (.slice (some ⟨w.heap.size, 0, none⟩) n n) n ((bumps o (base t zs) (j + 1)).map (Value.int .i64)) ∧
              Hid (∀ j, j < n → w4.cell? ⟨ob, j, none⟩ = some (.int .i64 (o j))) ∧ Below w.heap.size w w4) := Lib.hid (by
            rintro _ rfl
            refine ⟨?_, Lib.hid (fun i hi => ?_), hbx.setCell (Nat.le_refl _) _⟩
            · have h1 := (hox.stored (o j) (.int .i64 (v + 1))).1
              rw [hv, ← List.map_set] at h1
              rw [hv]; exact h1
            · rw [World.cell?_of_block (w := wr) (Below.heap_setCell wr _ _ ob (fun e => hobn e.symm))]
              exact HCx.out i hi)
          generalize o j = x at *
          clear hox hbx hv hlen
          go_wp2
          go_roundw
          case rel => exact ⟨j + 1, by omega, by go_num, K.out _ rfl⟩
          case measure => simp [intOf]; omega
        · have HE : Hid (bumps o (base t zs) j = shares t zs) := Lib.hid (by
            unfold shares
            rw [HLf.out, ← HN.out, ← HOO.out, show j = L by omega])
          have HOX := Lib.hid hox
          have HBX := Lib.hid hbx
          clear hox hbx
          go_wp2_with fail
          go_ret2
          exact ⟨rfl, HBX.out, by rw [← HE.out]; exact HOX.out⟩

theorem implShare (t : Int) (A : Option Addr) (n cap : Nat) (zs : List Int) (w : World) (hn : n = zs.length) (hm : n ≤ maxLen) (hA : Is w w.heap.size A zs) :
    Calls Try.prog 7 #[.int .i64 t, .slice A n cap] w (Ans t zs w) := by
  by_cases h : Takes t zs
  · refine (implYes t A n cap zs w hn hA h).mono ?_
    rintro e w' ⟨rfl, hb, ho⟩
    exact ans_yes h hn hb ho
  · refine (implNo t A n cap zs w w.heap.size hn hm hA h).mono ?_
    rintro e w' ⟨rfl, hb, ho⟩
    exact ans_no h hb ho

end Go.Proofs.Ytjibnfeeomlnlaa.Share
