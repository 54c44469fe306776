/-
  sumWeights of the program: the sum of the weights and whether they are good.
-/
import Derived.Test.YtjibnfeeomlnlaaSums
namespace Go.Proofs.Ytjibnfeeomlnlaa.SumW
open Go.RowKit Go.Proofs.Ytjibnfeeomlnlaa.IRow Go.Proofs.Ytjibnfeeomlnlaa.Amount Go.Proofs.Ytjibnfeeomlnlaa.Sums

/-- A weight. -/
def Wt (z : Int) : Prop := 0 ≤ z ∧ z ≤ 1000000
instance (z : Int) : Decidable (Wt z) := by unfold Wt; infer_instance
/-- Weights that a total is shared by. -/
def Good (zs : List Int) : Prop := zs.length ≤ 20 ∧ (∀ z ∈ zs, Wt z) ∧ 0 < tot zs
instance (zs : List Int) : Decidable (Good zs) := by unfold Good; infer_instance

def wAns (zs : List Int) (w : World) (e : Ending) (w' : World) : Prop := w = w' ∧ e = .returned (.tuple #[.int .i64 (if Good zs then tot zs else 0), .bool (decide (Good zs))])

theorem yes {zs : List Int} (h : Good zs) (w : World) : wAns zs w (.returned (.tuple #[.int .i64 (tot zs), .bool true])) w := by
  refine ⟨rfl, ?_⟩
  rw [if_pos h, decide_eq_true h]
theorem no {zs : List Int} (h : ¬ Good zs) (w : World) : wAns zs w (.returned (.tuple #[.int .i64 0, .bool false])) w := by
  refine ⟨rfl, ?_⟩
  rw [if_neg h, decide_eq_false h]

theorem tot_pos (zs : List Int) : ∀ k, k ≤ zs.length → (∀ j, ∀ h : j < zs.length, j < k → Wt zs[j]) → 0 ≤ tot (zs.take k) ∧ tot (zs.take k) ≤ 1000000 * k := by
  intro k
  induction k with
  | zero => intro _ _; simp [tot]
  | succ k ih =>
    intro hk hw
    have h1 := ih (by omega) (fun j h hj => hw j h (by omega))
    have h2 := hw k (by omega) (by omega)
    unfold Wt at h2
    rw [tot_snoc zs k (by omega)]
    omega

set_option maxHeartbeats 1000000 in
theorem sumWeights (A : Option Addr) (n cap : Nat) (zs : List Int) (w : World) (B : Nat) (hn : n = zs.length) (hm : n ≤ maxLen) (hA : Is w B A zs) :
    Calls Try.prog 13 #[.slice A n cap] w (wAns zs w) := by
  unfold maxLen at hm
  have HN := Lib.hid hn
  clear hn
  by_cases h20 : 20 < n
  · go_enter Try.func13, Try.ntmps13
    go_wp2
    go_ret2
    exact no (fun h => by have := h.1; have := HN.out; omega) _
  · go_enter Try.func13, Try.ntmps13
    go_wp2
    go_loop [4, 12] (fun s i => ∃ k : Nat, k ≤ n ∧ i = .int .i64 k ∧ s = .int .i64 (tot (zs.take k)) ∧ Hid (∀ j, ∀ h : j < zs.length, j < k → Wt zs[j])) (fun _ i => n - (intOf i).toNat)
    case atStart => exact ⟨0, Nat.zero_le _, rfl, rfl, Lib.hid (fun j h hj => by omega)⟩
    case round =>
      obtain ⟨k, hk, rfl, rfl, HK⟩ := hrel
      have hbd := tot_pos zs k (by have := HN.out; omega) (fun j h hj => HK.out j h hj)
      obtain ⟨hd0, hd1⟩ := hbd
      by_cases hlt : k < n
      · have hk' : k < zs.length := by have := HN.out; omega
        obtain ⟨ad, rfl, hB, hc⟩ := hA (by omega)
        obtain ⟨p, hp⟩ : ∃ p, p = zs[k] := ⟨_, rfl⟩
        have hcell : w.cell? (ad.add k) = some (.int .i64 p) := by rw [hp]; exact hc k hk'
        have HS : Hid (tot (zs.take (k + 1)) = tot (zs.take k) + p) := Lib.hid (by rw [hp]; exact tot_snoc zs k hk')
        have HP0 := Lib.hid hp
        have HK' := Lib.hid hk'
        clear hp hc
        by_cases ha : Wt p
        · have HP := Lib.hid ha
          obtain ⟨hp0, hp1⟩ := ha
          have hx0 : ¬ p < 0 := by omega
          have hx1 : ¬ p > 1000000 := by omega
          go_wp2
          go_round
          case rel => exact ⟨k + 1, by omega, by go_num, by rw [HS.out], Lib.hid (fun j h hj => by
            by_cases e : j = k
            · subst e; have := HP.out; rw [HP0.out] at this; exact this
            · exact HK.out j h (by omega))⟩
          case measure => simp [intOf]; omega
        · have HP := Lib.hid ha
          by_cases hx : p < 0
          · clear ha
            go_wp2
            go_ret2
            exact no (fun h => HP.out (by rw [HP0.out]; exact h.2.1 _ (List.getElem_mem HK'.out))) _
          · have hx1 : p > 1000000 := by unfold Wt at ha; omega
            clear ha
            go_wp2
            go_ret2
            exact no (fun h => HP.out (by rw [HP0.out]; exact h.2.1 _ (List.getElem_mem HK'.out))) _
      · have HE : Hid (zs.take k = zs) := Lib.hid (List.take_of_length_le (by have := HN.out; omega))
        have HA' : Hid (∀ z ∈ zs, Wt z) := Lib.hid (fun z hz => by
          obtain ⟨j, hj, rfl⟩ := List.getElem_of_mem hz
          exact HK.out j hj (by have := HN.out; omega))
        have HL : Hid (zs.length ≤ 20) := Lib.hid (by have := HN.out; omega)
        by_cases h2 : tot (zs.take k) > 0
        · go_wp2
          go_ret2
          have := yes (zs := zs) ⟨HL.out, HA'.out, by rw [HE.out] at h2; exact h2⟩ w
          rw [HE.out]; exact this
        · have h3 : tot (zs.take k) = 0 := by omega
          go_wp2
          go_ret2
          have := no (zs := zs) (fun h => by have := h.2.2; rw [HE.out] at h3; omega) w
          exact this

end Go.Proofs.Ytjibnfeeomlnlaa.SumW
