/-
  Sums of lists of amounts: what AddAmounts returns, of the model and of the program, at every list.
-/
import Derived.Test.YthobejaiapdanaaAmount
namespace Go.Proofs.Ythobejaiapdanaa.Sums
open Go.RowKit Go.Proofs.Ythobejaiapdanaa.IRow Go.Proofs.Ythobejaiapdanaa.Amount

def tot (zs : List Int) : Int := zs.foldl (· + ·) 0

theorem tot_snoc (zs : List Int) (k : Nat) (h : k < zs.length) : tot (zs.take (k + 1)) = tot (zs.take k) + zs[k] := by
  unfold tot
  rw [List.take_succ_eq_append_getElem h, List.foldl_append]; rfl

theorem ret_int {k : IntKind} {a b : Int} (h : a = b) : Ending.returned (.int k a) = .returned (.int k b) := by rw [h]

/-- All elements up to k lie within b. -/
def Within (b : Int) (zs : List Int) (k : Nat) : Prop := ∀ j, ∀ h : j < zs.length, j < k → -b ≤ zs[j] ∧ zs[j] ≤ b

theorem tot_bd (b : Int) (zs : List Int) : ∀ k, k ≤ zs.length → Within b zs k → -(b * k) ≤ tot (zs.take k) ∧ tot (zs.take k) ≤ b * k := by
  intro k
  induction k with
  | zero => intro _ _; simp [tot]
  | succ k ih =>
    intro hk hw
    have h1 := ih (by omega) (fun j h hj => hw j h (by omega))
    have h2 := hw k (by omega) (by omega)
    rw [tot_snoc zs k (by omega)]
    have e : b * ((k + 1 : Nat) : Int) = b * k + b := by rw [Int.natCast_add, Int.mul_add]; simp
    omega

instance (x : Int) : Decidable (Amt x) := inferInstanceAs (Decidable (_ ∧ _))

theorem within_of (zs : List Int) (h : ∀ z ∈ zs, Amt z) (k : Nat) : Within 1000000000 zs k := fun _ hj _ => h _ (List.getElem_mem hj)

set_option maxHeartbeats 1000000 in
/-- The model's sum of at most 20 elements of at most 10^9. -/
theorem l2Sum (A : Option Addr) (n cap : Nat) (zs : List Int) (w : World) (B : Nat) (hn : n = zs.length) (hm : n ≤ 25) (hA : Is w B A zs) (hg : Within 1000000000 zs n) :
    Calls Try.prog 22 #[.slice A n cap] w fun e w' => e = .returned (.int .i64 (tot zs)) ∧ w = w' := by
  have HN := Lib.hid hn
  have HG := Lib.hid hg
  clear hn hg
  go_enter Try.func22, Try.ntmps22
  go_wp2
  go_loop [3, 4] (fun s i => ∃ k : Nat, k ≤ n ∧ i = .int .i64 k ∧ s = .int .i64 (tot (zs.take k))) (fun _ i => n - (intOf i).toNat)
  case atStart => exact ⟨0, Nat.zero_le _, rfl, rfl⟩
  case round =>
    obtain ⟨k, hk, rfl, rfl⟩ := hrel
    have hbd := tot_bd 1000000000 zs k (by have := HN.out; omega) (fun j h hj => HG.out j h (by omega))
    obtain ⟨hd0, hd1⟩ := hbd
    by_cases hlt : k < n
    · have hk' : k < zs.length := by have := HN.out; omega
      obtain ⟨ad, rfl, hB, hc⟩ := hA (by omega)
      obtain ⟨p, hp⟩ : ∃ p, p = zs[k] := ⟨_, rfl⟩
      have hcell : w.cell? (ad.add k) = some (.int .i64 p) := by rw [hp]; exact hc k hk'
      have hpb : -1000000000 ≤ p ∧ p ≤ 1000000000 := by rw [hp]; exact HG.out k hk' hlt
      obtain ⟨hp0, hp1⟩ := hpb
      have HS : Hid (tot (zs.take (k + 1)) = tot (zs.take k) + p) := Lib.hid (by rw [hp]; exact tot_snoc zs k hk')
      clear hp hc
      go_wp2
      go_round
      case rel => exact ⟨k + 1, by omega, by go_num, by rw [HS.out]⟩
      case measure => simp [intOf]; omega
    · have HE : Hid (zs.take k = zs) := Lib.hid (List.take_of_length_le (by have := HN.out; omega))
      go_wp2
      go_ret
      exact ⟨ret_int (by rw [HE.out]), rfl⟩

set_option maxHeartbeats 1000000 in
theorem l2AmountsYes (A : Option Addr) (n cap : Nat) (zs : List Int) (w : World) (B : Nat) (hn : n = zs.length) (hm : n ≤ 20) (hA : Is w B A zs) (hg : ∀ z ∈ zs, Amt z) :
    Calls Try.prog 24 #[.slice A n cap] w fun e w' => e = .returned (.bool true) ∧ w = w' := by
  have HN := Lib.hid hn
  have HG := Lib.hid hg
  clear hn hg
  go_enter Try.func24, Try.ntmps24
  go_wp2
  go_loop [3] (fun i => ∃ k : Nat, k ≤ n ∧ i = .int .i64 k) (fun i => n - (intOf i).toNat)
  case atStart => exact ⟨0, Nat.zero_le _, rfl⟩
  case round =>
    obtain ⟨k, hk, rfl⟩ := hrel
    have hk20 : k ≤ 20 := by omega
    by_cases hlt : k < n
    · have hk' : k < zs.length := by have := HN.out; omega
      obtain ⟨ad, rfl, hB, hc⟩ := hA (by omega)
      obtain ⟨p, hp⟩ : ∃ p, p = zs[k] := ⟨_, rfl⟩
      have hcell : w.cell? (ad.add k) = some (.int .i64 p) := by rw [hp]; exact hc k hk'
      have HP : Hid (Amt p) := Lib.hid (by rw [hp]; exact HG.out _ (List.getElem_mem hk'))
      clear hp hc
      go_wp2_with (go_at_call 20; refine (specYes p HP.out _).mono ?_; rintro e w' ⟨rfl, rfl⟩)
      go_round
      case rel => exact ⟨k + 1, by omega, by go_num⟩
      case measure => simp [intOf]; omega
    · go_wp2
      go_ret
      exact ⟨by simp; omega, rfl⟩

set_option maxHeartbeats 1000000 in
theorem l2AmountsNo (A : Option Addr) (n cap : Nat) (zs : List Int) (w : World) (B : Nat) (hn : n = zs.length) (hm : n ≤ maxLen) (hA : Is w B A zs) (hg : 20 < n ∨ ¬ ∀ z ∈ zs, Amt z) :
    Calls Try.prog 24 #[.slice A n cap] w fun e w' => e = .returned (.bool false) ∧ w = w' := by
  unfold maxLen at hm
  have HN := Lib.hid hn
  have HG := Lib.hid hg
  clear hn hg
  go_enter Try.func24, Try.ntmps24
  go_wp2
  go_loop [3] (fun i => ∃ k : Nat, k ≤ n ∧ k ≤ 21 ∧ i = .int .i64 k ∧ Hid (∀ j, ∀ h : j < zs.length, j < k → Amt zs[j])) (fun i => n - (intOf i).toNat)
  case atStart => exact ⟨0, Nat.zero_le _, Nat.zero_le _, rfl, Lib.hid (fun j h hj => by omega)⟩
  case round =>
    obtain ⟨k, hk, hk21, rfl, HK⟩ := hrel
    by_cases hlt : k < n
    · by_cases hk20 : k ≤ 20
      · have hk' : k < zs.length := by have := HN.out; omega
        obtain ⟨ad, rfl, hB, hc⟩ := hA (by omega)
        obtain ⟨p, hp⟩ : ∃ p, p = zs[k] := ⟨_, rfl⟩
        have hcell : w.cell? (ad.add k) = some (.int .i64 p) := by rw [hp]; exact hc k hk'
        have HP0 := Lib.hid hp
        clear hp hc
        by_cases ha : Amt p
        · have HP := Lib.hid ha
          clear ha
          go_wp2_with (go_at_call 20; refine (specYes p HP.out _).mono ?_; rintro e w' ⟨rfl, rfl⟩)
          go_round
          case rel => exact ⟨k + 1, by omega, by omega, by go_num, Lib.hid (fun j h hj => by
            by_cases e : j = k
            · subst e; have := HP.out; rw [HP0.out] at this; exact this
            · exact HK.out j h (by omega))⟩
          case measure => simp [intOf]; omega
        · have HP := Lib.hid ha
          clear ha
          go_wp2_with (go_at_call 20; refine (specNo p HP.out _).mono ?_; rintro e w' ⟨rfl, rfl⟩)
          go_ret
          exact ⟨rfl, rfl⟩
      · have h20 : 20 < n := by omega
        go_wp2
        go_ret
        exact ⟨by simp; omega, rfl⟩
    · by_cases h20 : 20 < n
      · go_wp2
        go_ret
        exact ⟨by simp; omega, rfl⟩
      · exfalso
        rcases HG.out with h | h
        · exact h20 h
        · refine h (fun z hz => ?_)
          obtain ⟨j, hj, rfl⟩ := List.getElem_of_mem hz
          exact HK.out j hj (by have := HN.out; omega)

/-- What AddAmounts answers. -/
def val (zs : List Int) : Int := if zs.length ≤ 20 ∧ (∀ z ∈ zs, Amt z) ∧ Amt (tot zs) then tot zs else 0
def ok (zs : List Int) : Bool := decide (zs.length ≤ 20 ∧ (∀ z ∈ zs, Amt z) ∧ Amt (tot zs))
def addAns (zs : List Int) (w : World) (e : Ending) (w' : World) : Prop := w = w' ∧ e = .returned (.tuple #[.int .i64 (val zs), .bool (ok zs)])

theorem ans_yes {zs : List Int} (h : zs.length ≤ 20 ∧ (∀ z ∈ zs, Amt z) ∧ Amt (tot zs)) (w : World) : addAns zs w (.returned (.tuple #[.int .i64 (tot zs), .bool true])) w := by
  refine ⟨rfl, ?_⟩
  unfold val ok
  rw [if_pos h, decide_eq_true h]
theorem ans_no {zs : List Int} (h : ¬ (zs.length ≤ 20 ∧ (∀ z ∈ zs, Amt z) ∧ Amt (tot zs))) (w : World) : addAns zs w (.returned (.tuple #[.int .i64 0, .bool false])) w := by
  refine ⟨rfl, ?_⟩
  unfold val ok
  rw [if_neg h, decide_eq_false h]

set_option maxHeartbeats 1000000 in
theorem specAdd (A : Option Addr) (n cap : Nat) (zs : List Int) (w : World) (B : Nat) (hn : n = zs.length) (hm : n ≤ maxLen) (hA : Is w B A zs) :
    Calls Try.prog 10 #[.slice A n cap] w (addAns zs w) := by
  have HN := Lib.hid hn
  have HM := Lib.hid hm
  clear hn hm
  by_cases h1 : n ≤ 20 ∧ ∀ z ∈ zs, Amt z
  · obtain ⟨h20, hg⟩ := h1
    have HG := Lib.hid hg
    clear hg
    by_cases h2 : Amt (tot zs)
    · have H2 := Lib.hid h2
      clear h2
      go_enter Try.func10, Try.ntmps10
      go_wp2_with (first
        | (go_at_call 24; refine (l2AmountsYes A n cap zs _ B HN.out h20 hA HG.out).mono ?_; rintro e w' ⟨rfl, rfl⟩)
        | (go_at_call 22; refine (l2Sum A n cap zs _ B HN.out (by omega) hA (within_of zs HG.out n)).mono ?_; rintro e w' ⟨rfl, rfl⟩)
        | (go_at_call 20; refine (specYes _ H2.out _).mono ?_; rintro e w' ⟨rfl, rfl⟩))
      go_ret2
      exact ans_yes ⟨by rw [← HN.out]; exact h20, HG.out, H2.out⟩ _
    · have H2 := Lib.hid h2
      clear h2
      go_enter Try.func10, Try.ntmps10
      go_wp2_with (first
        | (go_at_call 24; refine (l2AmountsYes A n cap zs _ B HN.out h20 hA HG.out).mono ?_; rintro e w' ⟨rfl, rfl⟩)
        | (go_at_call 22; refine (l2Sum A n cap zs _ B HN.out (by omega) hA (within_of zs HG.out n)).mono ?_; rintro e w' ⟨rfl, rfl⟩)
        | (go_at_call 20; refine (specNo _ H2.out _).mono ?_; rintro e w' ⟨rfl, rfl⟩))
      go_ret2
      exact ans_no (fun h => H2.out h.2.2) _
  · have H1 : Hid (20 < n ∨ ¬ ∀ z ∈ zs, Amt z) := Lib.hid (by
      by_cases h20 : n ≤ 20
      · exact .inr (fun h => h1 ⟨h20, h⟩)
      · exact .inl (by omega))
    have H3 : Hid (¬ (zs.length ≤ 20 ∧ (∀ z ∈ zs, Amt z) ∧ Amt (tot zs))) := Lib.hid (fun h => h1 ⟨by rw [HN.out]; exact h.1, h.2.1⟩)
    clear h1
    go_enter Try.func10, Try.ntmps10
    go_wp2_with (go_at_call 24; refine (l2AmountsNo A n cap zs _ B HN.out HM.out hA H1.out).mono ?_; rintro e w' ⟨rfl, rfl⟩)
    go_ret2
    exact ans_no H3.out _

set_option maxHeartbeats 1000000 in
theorem implAdd (A : Option Addr) (n cap : Nat) (zs : List Int) (w : World) (B : Nat) (hn : n = zs.length) (hm : n ≤ maxLen) (hA : Is w B A zs) :
    Calls Try.prog 12 #[.slice A n cap] w (addAns zs w) := by
  unfold maxLen at hm
  have HN := Lib.hid hn
  clear hn
  by_cases h20 : 20 < n
  · go_enter Try.func12, Try.ntmps12
    go_wp2
    go_ret2
    exact ans_no (fun h => by have := h.1; have := HN.out; omega) _
  · go_enter Try.func12, Try.ntmps12
    go_wp2
    go_loop [4, 12] (fun s i => ∃ k : Nat, k ≤ n ∧ i = .int .i64 k ∧ s = .int .i64 (tot (zs.take k)) ∧ Hid (∀ j, ∀ h : j < zs.length, j < k → Amt zs[j])) (fun _ i => n - (intOf i).toNat)
    case atStart => exact ⟨0, Nat.zero_le _, rfl, rfl, Lib.hid (fun j h hj => by omega)⟩
    case round =>
      obtain ⟨k, hk, rfl, rfl, HK⟩ := hrel
      have hbd := tot_bd 1000000000 zs k (by have := HN.out; omega) (fun j h hj => HK.out j h hj)
      obtain ⟨hd0, hd1⟩ := hbd
      by_cases hlt : k < n
      · have hk' : k < zs.length := by have := HN.out; omega
        obtain ⟨ad, rfl, hB, hc⟩ := hA (by omega)
        obtain ⟨p, hp⟩ : ∃ p, p = zs[k] := ⟨_, rfl⟩
        have hcell : w.cell? (ad.add k) = some (.int .i64 p) := by rw [hp]; exact hc k hk'
        have HS : Hid (tot (zs.take (k + 1)) = tot (zs.take k) + p) := Lib.hid (by rw [hp]; exact tot_snoc zs k hk')
        have HP0 := Lib.hid hp
        have HK' := Lib.hid hk'
        clear hp hc
        by_cases ha : Amt p
        · have HP := Lib.hid ha
          obtain ⟨hp0, hp1⟩ := ha
          go_wp2_with (go_at_call 25; refine (implYes p HP.out _).mono ?_; rintro e w' ⟨rfl, rfl⟩)
          go_round
          case rel => exact ⟨k + 1, by omega, by go_num, by rw [HS.out], Lib.hid (fun j h hj => by
            by_cases e : j = k
            · subst e; have := HP.out; rw [HP0.out] at this; exact this
            · exact HK.out j h (by omega))⟩
          case measure => simp [intOf]; omega
        · have HP := Lib.hid ha
          clear ha
          go_wp2_with (go_at_call 25; refine (implNo p HP.out _).mono ?_; rintro e w' ⟨rfl, rfl⟩)
          go_ret2
          exact ans_no (fun h => HP.out (by rw [HP0.out]; exact h.2.1 _ (List.getElem_mem HK'.out))) _
      · have HE : Hid (zs.take k = zs) := Lib.hid (List.take_of_length_le (by have := HN.out; omega))
        have HA' : Hid (∀ z ∈ zs, Amt z) := Lib.hid (fun z hz => by
          obtain ⟨j, hj, rfl⟩ := List.getElem_of_mem hz
          exact HK.out j hj (by have := HN.out; omega))
        have HL : Hid (zs.length ≤ 20) := Lib.hid (by have := HN.out; omega)
        by_cases h2 : Amt (tot (zs.take k))
        · have H2 := Lib.hid h2
          clear h2
          go_wp2_with (go_at_call 25; refine (implYes _ H2.out _).mono ?_; rintro e w' ⟨rfl, rfl⟩)
          go_ret2
          have := ans_yes (zs := zs) ⟨HL.out, HA'.out, by have := H2.out; rw [HE.out] at this; exact this⟩ w
          rw [HE.out]; exact this
        · have H2 := Lib.hid h2
          clear h2
          go_wp2_with (go_at_call 25; refine (implNo _ H2.out _).mono ?_; rintro e w' ⟨rfl, rfl⟩)
          go_ret2
          exact ans_no (fun h => H2.out (by rw [HE.out]; exact h.2.2)) _

end Go.Proofs.Ythobejaiapdanaa.Sums
