/-
  Sums of lists of amounts: what AddAmounts returns, of the model and of the program, at every list.
-/
import Derived.Test.YtjibnfeeomlnlaaAmount
import Derived.Test.YtjibnfeeomlnlaaIRow
namespace Go.Proofs.Ytjibnfeeomlnlaa.Sums
open Go.RowKit Go.Proofs.Ytjibnfeeomlnlaa.IRow Go.Proofs.Ytjibnfeeomlnlaa.Amount

def tot (zs : List Int) : Int := zs.foldl (· + ·) 0

theorem tot_snoc (zs : List Int) (k : Nat) (h : k < zs.length) : tot (zs.take (k + 1)) = tot (zs.take k) + zs[k] := by
  unfold tot
  rw [List.take_succ_eq_append_getElem h, List.foldl_append]; rfl

theorem ret_int {k : IntKind} {a b : Int} (h : a = b) : Ending.returned (.int k a) = .returned (.int k b) := by rw [h]

/-- All elements up to k lie within b. -/
def Within (b : Int) (zs : List Int) (k : Nat) : Prop := ∀ j, ∀ h : j < zs.length, j < k → -b ≤ zs[j] ∧ zs[j] ≤ b

theorem tot_bd (b : Int) (zs : List Int) : ∀ k, k ≤ zs.length → Within b zs k → -(b * k) ≤ tot (zs.take k) ∧ tot (zs.take k) ≤ b * k := by
  intro k
  induction k with
  | zero => intro _ _; simp [tot]
  | succ k ih =>
    intro hk hw
    have h1 := ih (by omega) (fun j h hj => hw j h (by omega))
    have h2 := hw k (by omega) (by omega)
    rw [tot_snoc zs k (by omega)]
    have e : b * ((k + 1 : Nat) : Int) = b * k + b := by rw [Int.natCast_add, Int.mul_add]; simp
    omega


theorem within_of (zs : List Int) (h : ∀ z ∈ zs, Amt z) (k : Nat) : Within 1000000000 zs k := fun _ hj _ => h _ (List.getElem_mem hj)

set_option maxHeartbeats 1000000 in
/-- The model's sum of at most 20 elements of at most 10^9. -/
theorem l2Sum (A : Option Addr) (n cap : Nat) (zs : List Int) (w : World) (B : Nat) (hn : n = zs.length) (hm : n ≤ 25) (hA : Is w B A zs) (hg : Within 1000000000 zs n) :
    Calls Try.prog 17 #[.slice A n cap] w fun e w' => e = .returned (.int .i64 (tot zs)) ∧ w = w' := by
  have HN := Lib.hid hn
  have HG := Lib.hid hg
  clear hn hg
  go_enter Try.func17, Try.ntmps17
  go_wp2
  go_loop [3, 4] (fun s i => ∃ k : Nat, k ≤ n ∧ i = .int .i64 k ∧ s = .int .i64 (tot (zs.take k))) (fun _ i => n - (intOf i).toNat)
  case atStart => exact ⟨0, Nat.zero_le _, rfl, rfl⟩
  case round =>
    obtain ⟨k, hk, rfl, rfl⟩ := hrel
    have hbd := tot_bd 1000000000 zs k (by have := HN.out; omega) (fun j h hj => HG.out j h (by omega))
    obtain ⟨hd0, hd1⟩ := hbd
    by_cases hlt : k < n
    · have hk' : k < zs.length := by have := HN.out; omega
      obtain ⟨ad, rfl, hB, hc⟩ := hA (by omega)
      obtain ⟨p, hp⟩ : ∃ p, p = zs[k] := ⟨_, rfl⟩
      have hcell : w.cell? (ad.add k) = some (.int .i64 p) := by rw [hp]; exact hc k hk'
      have hpb : -1000000000 ≤ p ∧ p ≤ 1000000000 := by rw [hp]; exact HG.out k hk' hlt
      obtain ⟨hp0, hp1⟩ := hpb
      have HS : Hid (tot (zs.take (k + 1)) = tot (zs.take k) + p) := Lib.hid (by rw [hp]; exact tot_snoc zs k hk')
      clear hp hc
      go_wp2
      go_round
      case rel => exact ⟨k + 1, by omega, by go_num, by rw [HS.out]⟩
      case measure => simp [intOf]; omega
    · have HE : Hid (zs.take k = zs) := Lib.hid (List.take_of_length_le (by have := HN.out; omega))
      go_wp2
      go_ret
      exact ⟨ret_int (by rw [HE.out]), rfl⟩

/-- What AddAmounts answers. -/
def val (zs : List Int) : Int := if zs.length ≤ 20 ∧ (∀ z ∈ zs, Amt z) ∧ Amt (tot zs) then tot zs else 0
def ok (zs : List Int) : Bool := decide (zs.length ≤ 20 ∧ (∀ z ∈ zs, Amt z) ∧ Amt (tot zs))
def addAns (zs : List Int) (w : World) (e : Ending) (w' : World) : Prop := w = w' ∧ e = .returned (.tuple #[.int .i64 (val zs), .bool (ok zs)])

theorem ans_yes {zs : List Int} (h : zs.length ≤ 20 ∧ (∀ z ∈ zs, Amt z) ∧ Amt (tot zs)) (w : World) : addAns zs w (.returned (.tuple #[.int .i64 (tot zs), .bool true])) w := by
  refine ⟨rfl, ?_⟩
  unfold val ok
  rw [if_pos h, decide_eq_true h]
theorem ans_no {zs : List Int} (h : ¬ (zs.length ≤ 20 ∧ (∀ z ∈ zs, Amt z) ∧ Amt (tot zs))) (w : World) : addAns zs w (.returned (.tuple #[.int .i64 0, .bool false])) w := by
  refine ⟨rfl, ?_⟩
  unfold val ok
  rw [if_neg h, decide_eq_false h]

end Go.Proofs.Ytjibnfeeomlnlaa.Sums
