/-
  The walk of the law FnShares.
-/
import Derived.Test.YtjibnfeeomlnlaaDrawW
import Derived.Test.YtjibnfeeomlnlaaShareSum
namespace Go.Proofs.Ytjibnfeeomlnlaa.SharesWalk
open Go.RowKit Go.Proofs.Ytjibnfeeomlnlaa.Cur Go.Proofs.Ytjibnfeeomlnlaa.IRow Go.Proofs.Ytjibnfeeomlnlaa.Amount Go.Proofs.Ytjibnfeeomlnlaa.Sums Go.Proofs.Ytjibnfeeomlnlaa.SumW Go.Proofs.Ytjibnfeeomlnlaa.ShareMath Go.Proofs.Ytjibnfeeomlnlaa.Share Go.Proofs.Ytjibnfeeomlnlaa.ShareSpec Go.Proofs.Ytjibnfeeomlnlaa.ShareSum Go.Proofs.Ytjibnfeeomlnlaa.DrawW
set_option linter.unusedVariables false
set_option linter.unusedSimpArgs false

theorem slice_of {w : World} {base : Nat} {e : TypeId} {v : Value} {n : Nat} {xs : List Value} (h : w.ownsRow base e 1 v n xs) : ∃ a c, v = .slice a n c := by
  rcases h.2 with ⟨hv, h0⟩ | ⟨g', c, cur, hv, _⟩
  · exact ⟨none, 0, by rw [hv, h0]⟩
  · exact ⟨_, c, hv⟩

theorem share_get {t : Int} {zs : List Int} (h : Takes t zs) (i : Nat) (hi : i < zs.length) :
    ((shares t zs)[i]'(by rw [shares_length]; exact hi) = t * zs[i] / tot zs ∨ (shares t zs)[i]'(by rw [shares_length]; exact hi) = t * zs[i] / tot zs + 1) ∧ 0 ≤ (shares t zs)[i]'(by rw [shares_length]; exact hi) ∧ (shares t zs)[i]'(by rw [shares_length]; exact hi) ≤ 1000000000000001 := by
  have hl : i < (shares t zs).length := by rw [shares_length]; exact hi
  have h1 := shares_near h i hi
  rw [getElem!_pos _ i hl] at h1
  obtain ⟨⟨_, hw, hp⟩, t0, t1⟩ := h
  have hz := hw zs[i] (List.getElem_mem hi)
  have hq := quo_bd t zs[i] (tot zs) t0 t1 hz.1 hz.2 hp
  refine ⟨h1, ?_⟩
  omega

theorem within_shares {t : Int} {zs : List Int} (h : Takes t zs) (k : Nat) : Within 1000000000000001 (shares t zs) k := by
  intro j hj _
  have := share_get h j (by rw [shares_length] at hj; exact hj)
  omega

set_option maxRecDepth 100000 in
set_option maxHeartbeats 8000000 in
theorem small (A : Option Addr) (len cap : Nat) (w : World) (hlen : len ≤ 65536) (hA : Cur.Bytes w w.heap.size A len) :
    Calls Try.prog 3 #[.slice A len cap] w fun e w' => e = .returned (.bool true) ∧ Below w.heap.size w w' := by
  have HD := Lib.hid (drawShare A len cap w hlen hA)
  have HB := Lib.hid (DrawW.vBigNo A len cap w hlen)
  clear hA
  go_enter Try.func3, Try.ntmps3
  go_wp2_with (first
    | (go_at_call 5; refine HB.out.mono ?_; rintro e w' ⟨rfl, rfl⟩)
    | (go_at_call 6; refine HD.out.mono ?_; rintro e w1 ⟨t, v, zs, rfl, t0, t1, hz, own1, hb1⟩; refine Hid.out ?_))
  refine Lib.hid ?_
  clear HD HB
  obtain ⟨a, c, rfl⟩ := slice_of own1
  obtain ⟨n, hn⟩ : ∃ n, n = zs.length := ⟨_, rfl⟩
  rw [← hn] at own1 ⊢
  have I1 := Lib.hid (Is.of_own own1 hn)
  have HN := Lib.hid hn
  have HW1 := Lib.hid hb1
  have hn50 : n ≤ 50 := by omega
  have HI := Lib.hid (implShare t a n c zs w1 hn (by unfold maxLen; omega) I1.out)
  clear own1 hn hz hb1
  go_wp2_with (go_at_call 7; refine HI.out.mono ?_; rintro e w2 ⟨v2, rfl, hb2, own2⟩; refine Hid.out ?_)
  refine Lib.hid ?_
  have I2 := Lib.hid ((I1.out.below hb2).more hb2.size)
  have HS := Lib.hid (specShare t a n c zs w2 HN.out (by unfold maxLen; omega) I2.out)
  have HW2 := Lib.hid (HW1.out.trans (hb2.mono HW1.out.size))
  have OWN2 := Lib.hid own2
  clear hb2 own2 HI I1 HW1
  by_cases h : Takes t zs
  · have ek : ok t zs = true := decide_eq_true h
    have er : res t zs = shares t zs := if_pos h
    rw [ek]
    rw [er] at OWN2
    have HT := Lib.hid h
    have HE : Hid (∀ e w', Ans t zs w2 e w' → ∃ v, e = .returned (.tuple #[v, .bool true]) ∧ Below w2.heap.size w2 w') := Lib.hid (fun e w' ⟨v, he, hb, _⟩ => ⟨v, by rw [he, ek], hb⟩)
    clear h ek er
    go_wp2_with (go_at_call 8; refine HS.out.mono ?_; intro e w3 he; obtain ⟨v3, rfl, hb3⟩ := HE.out _ _ he; refine Hid.out ?_)
    refine Lib.hid ?_
    have I3 := Lib.hid ((I2.out.below hb3).more hb3.size)
    have HW3 := Lib.hid (HW2.out.trans (hb3.mono HW2.out.size))
    have OWN3 := Lib.hid (own_to OWN2.out hb3)
    clear he hb3 HE HS HW2 OWN2 I2
    obtain ⟨a2, c2, hv2⟩ := slice_of OWN3.out
    subst hv2
    have hsl : Hid ((shares t zs).length = n) := Lib.hid (by rw [shares_length]; exact HN.out.symm)
    rw [hsl.out] at OWN3
    rw [hsl.out]
    have J3 := Lib.hid (Is.of_own OWN3.out hsl.out.symm)
    clear OWN3
    have HWT : Hid (∀ z ∈ zs, Wt z) := Lib.hid HT.out.1.2.1
    have h20 : n ≤ 20 := by have := HT.out.1.1; have := HN.out; omega
    have HPOS := Lib.hid HT.out.1.2.2
    have ht0 := HT.out.2.1
    have ht1 := HT.out.2.2
    clear t0 t1
    go_wp2_with fail
    go_loop [10, 11] (fun s i => ∃ k : Nat, k ≤ n ∧ i = .int .i64 k ∧ s = .int .i64 (tot (zs.take k))) (fun _ i => n - (intOf i).toNat)
    case atStart => exact ⟨0, Nat.zero_le _, rfl, rfl⟩
    case round =>
      obtain ⟨k, hk, rfl, rfl⟩ := hrel
      have hbd := tot_pos zs k (by have := HN.out; omega) (fun j h hj => HWT.out _ (List.getElem_mem h))
      obtain ⟨hd0, hd1⟩ := hbd
      by_cases hlt : k < n
      · have hk' : k < zs.length := by have := HN.out; omega
        obtain ⟨ad, rfl, hB, hc⟩ := I3.out (by omega)
        obtain ⟨p, hp⟩ : ∃ p, p = zs[k] := ⟨_, rfl⟩
        have hcell : w3.cell? (ad.add k) = some (.int .i64 p) := by rw [hp]; exact hc k hk'
        have HS : Hid (tot (zs.take (k + 1)) = tot (zs.take k) + p) := Lib.hid (by rw [hp]; exact tot_snoc zs k hk')
        have hpw : Wt p := by rw [hp]; exact HWT.out _ (List.getElem_mem hk')
        obtain ⟨hp0, hp1⟩ := hpw
        clear hp hc
        go_wp2_with fail
        go_round
        case rel => exact ⟨k + 1, by omega, by go_num, by rw [HS.out]⟩
        case measure => simp [intOf]; omega
      · have hkn : k = n := by omega
        subst hkn
        have HE : Hid (zs.take k = zs) := Lib.hid (List.take_of_length_le (by have := HN.out; omega))
        rw [HE.out]
        rw [HE.out] at hd0 hd1
        clear HE hlt hk
        obtain ⟨S, hS⟩ : ∃ S, tot zs = S := ⟨_, rfl⟩
        have HTS := Lib.hid hS
        rw [hS] at hd0 hd1 HPOS ⊢
        have hS0 := HPOS.out
        clear hS
        go_wp2_with fail
        go_loopw [9, 12] (fun s i wr => ∃ (j q : Nat), j ≤ k ∧ i = .int .i64 j ∧ s = .int .i64 (tot ((shares t zs).take j)) ∧ wr = w3.drewN q) (fun _ i _ => k - (intOf i).toNat)
        case atStart => exact ⟨0, 0, Nat.zero_le _, rfl, rfl, rfl⟩
        case round =>
          obtain ⟨j, q, hj, rfl, rfl, rfl⟩ := hrel
          have hbd := tot_bd 1000000000000001 (shares t zs) j (by have := hsl.out; omega) (within_shares HT.out j)
          obtain ⟨he0, he1⟩ := hbd
          by_cases hlt : j < k
          · have hj' : j < zs.length := by have := HN.out; omega
            have hj2 : j < (shares t zs).length := by have := hsl.out; omega
            obtain ⟨ad, ea, hB, hc⟩ := I3.out (by omega)
            obtain ⟨ad2, ea2, hB2, hc2⟩ := J3.out (by omega)
            subst ea ea2
            obtain ⟨p, hp⟩ : ∃ p, p = zs[j] := ⟨_, rfl⟩
            obtain ⟨y, hy⟩ : ∃ y, y = (shares t zs)[j] := ⟨_, rfl⟩
            have hcell : w3.cell? (ad.add j) = some (.int .i64 p) := by rw [hp]; exact hc j hj'
            have hcell2 : w3.cell? (ad2.add j) = some (.int .i64 y) := by rw [hy]; exact hc2 j hj2
            have HSM : Hid (tot ((shares t zs).take (j + 1)) = tot ((shares t zs).take j) + y) := Lib.hid (by rw [hy]; exact tot_snoc _ j hj2)
            have hpw : Wt p := by rw [hp]; exact HWT.out _ (List.getElem_mem hj')
            obtain ⟨⟨hm0, hm1⟩, ⟨hq0, hq1⟩, hr0, hquo, hrem⟩ := quo_bd t p S ht0 ht1 hpw.1 hpw.2 hS0
            have hnear := (share_get HT.out j hj').1
            rw [← hy, ← hp, HTS.out] at hnear
            have HNE := Lib.hid hnear
            have hp0 := hpw.1
            have hp1 := hpw.2
            have hne0 : ¬ S = 0 := by omega
            clear hp hy hc hc2 hpw hnear hrem hr0
            generalize tot ((shares t zs).take j) = T0 at *
            obtain ⟨Q, hQ⟩ : ∃ Q, t * p / S = Q := ⟨_, rfl⟩
            rw [hQ] at hquo hq0 hq1 HNE
            clear hQ
            rcases HNE.out with e | e
            · subst e
              go_wp2_with fail
              go_roundw
              case rel => exact ⟨j + 1, q, by omega, by go_num, by rw [HSM.out], rfl⟩
              case measure => simp [intOf]; omega
            · subst e
              have g1 : ¬ Q + 1 = Q := by omega
              have g2 : (Q + 1 == Q) = false := by simp; omega
              have g3 : (Q + 1 != Q) = true := by simp; omega
              go_wp2_with fail
              go_roundw
              case rel => exact ⟨j + 1, q, by omega, by go_num, by rw [HSM.out], rfl⟩
              case measure => simp [intOf]; omega
          · have hjk : j = k := by omega
            subst hjk
            have HE : Hid (tot ((shares t zs).take j) = t) := Lib.hid (by rw [List.take_of_length_le (by have := hsl.out; omega)]; exact shares_tot HT.out)
            rw [HE.out]
            clear he0 he1 hlt
            go_wp2_with fail
            go_ret
            exact ⟨by simp, below_drewN HW3.out _⟩
  · have ek : ok t zs = false := decide_eq_false h
    have er : res t zs = [] := if_neg h
    rw [ek]
    rw [er] at OWN2
    have HE : Hid (∀ e w', Ans t zs w2 e w' → ∃ v, e = .returned (.tuple #[v, .bool false]) ∧ Below w2.heap.size w2 w') := Lib.hid (fun e w' ⟨v, he, hb, _⟩ => ⟨v, by rw [he, ek], hb⟩)
    clear h ek er
    obtain ⟨a2, c2, hv2⟩ := slice_of OWN2.out
    subst hv2
    clear OWN2
    go_wp2_with (go_at_call 8; refine HS.out.mono ?_; intro e w3 he; obtain ⟨v3, rfl, hb3⟩ := HE.out _ _ he; refine Hid.out ?_)
    refine Lib.hid ?_
    have HW3 := Lib.hid (HW2.out.trans (hb3.mono HW2.out.size))
    clear he hb3 HE HS HW2 I2
    go_wp2_with fail
    go_ret
    exact ⟨by simp, HW3.out⟩

set_option maxRecDepth 100000 in
theorem bigWalk (A : Option Addr) (len cap : Nat) (w : World) (h : 65536 < len) (hm : len ≤ maxLen) :
    Calls Try.prog 3 #[.slice A len cap] w fun e w' => e = .returned (.bool true) ∧ Below w.heap.size w w' := by
  have HB := Lib.hid (DrawW.vBigYes A len cap w h hm)
  clear h hm
  go_enter Try.func3, Try.ntmps3
  go_wp2_with (go_at_call 5; refine HB.out.mono ?_; rintro e w' ⟨rfl, rfl⟩)
  go_ret
  exact ⟨rfl, Below.refl _ _⟩

theorem walk (A : Option Addr) (len cap : Nat) (w : World) (hm : len ≤ maxLen) (hA : Cur.Bytes w w.heap.size A len) :
    Calls Try.prog 3 #[.slice A len cap] w fun e w' => e = .returned (.bool true) ∧ Below w.heap.size w w' := by
  by_cases h : 65536 < len
  · exact bigWalk A len cap w h hm
  · exact small A len cap w (by omega) hA

end Go.Proofs.Ytjibnfeeomlnlaa.SharesWalk
