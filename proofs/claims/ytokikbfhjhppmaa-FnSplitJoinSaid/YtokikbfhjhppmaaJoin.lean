/-
  Plain facts on strings that are joined by a byte. No program stands in it.
-/
import Derived.Test.YtokikbfhjhppmaaRow
import Derived.Test.YtokikbfhjhppmaaStands
namespace Go.Proofs.Ytokikbfhjhppmaa.Join
open Go Go.Proofs.Ytokikbfhjhppmaa.Plain Go.Proofs.Ytokikbfhjhppmaa.Seal Go.Proofs.Ytokikbfhjhppmaa.Row

def joinL (b : UInt8) : List ByteArray → List UInt8
  | [] => []
  | p :: r => p.data.toList ++ (r.map fun q => b :: q.data.toList).flatten

theorem joinL_snoc (b : UInt8) (l : List ByteArray) (p : ByteArray) (h : l ≠ []) : joinL b (l ++ [p]) = joinL b l ++ [b] ++ p.data.toList := by
  cases l with
  | nil => exact absurd rfl h
  | cons q r => simp [joinL]

theorem joinL_first (b : UInt8) (ss : List ByteArray) (h : 0 < ss.length) : joinL b (ss.take 1) = ss[0].data.toList := by
  cases ss with
  | nil => simp at h
  | cons p r => simp [joinL]

theorem joinL_step (b : UInt8) (ss : List ByteArray) (k : Nat) (hk : k < ss.length) (h0 : 0 < k) : joinL b (ss.take (k + 1)) = joinL b (ss.take k) ++ [b] ++ ss[k].data.toList := by
  rw [List.take_succ_eq_append_getElem hk, joinL_snoc]
  intro e
  have h1 : (ss.take k).length = 0 := by rw [e]; rfl
  rw [List.length_take] at h1
  omega

theorem joinL_len (b : UInt8) (ss : List ByteArray) (h : ss ≠ []) : (joinL b ss).length + 1 = sizes ss + ss.length := by
  cases ss with
  | nil => exact absurd rfl h
  | cons p r =>
    have key : ∀ r : List ByteArray, (r.map fun q => b :: q.data.toList).flatten.length = sizes r + r.length := by
      intro r
      induction r with
      | nil => rfl
      | cons q r ih =>
        simp only [List.map_cons, List.flatten_cons, List.length_append, List.length_cons, ih]
        have : sizes (q :: r) = q.size + sizes r := by simp [sizes]
        have h2 := size_len q
        omega
    have h1 : sizes (p :: r) = p.size + sizes r := by simp [sizes]
    have h2 := size_len p
    simp only [joinL, List.length_append, key, List.length_cons]
    omega

theorem joinL_le (b : UInt8) (ss : List ByteArray) (k : Nat) (h0 : 0 < k) (hk : k ≤ ss.length) : (joinL b (ss.take k)).length ≤ (joinL b ss).length := by
  have hl : (ss.take k).length = k := by simp; omega
  have h1 := joinL_len b (ss.take k) (by intro e; rw [e] at hl; simp at hl; omega)
  have h2 := joinL_len b ss (by intro e; rw [e] at hk; simp at hk; omega)
  have h3 := sizes_take_le ss k
  omega

/-- The strings can be joined. -/
def Joins (b : UInt8) (ss : List ByteArray) : Prop := ss ≠ [] ∧ (∀ p ∈ ss, ¬ In b p) ∧ (joinL b ss).length ≤ 4000

end Go.Proofs.Ytokikbfhjhppmaa.Join
