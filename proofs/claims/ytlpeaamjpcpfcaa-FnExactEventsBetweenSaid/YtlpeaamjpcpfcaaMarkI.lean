/-
  The marks that the laws write into a slice of ints, and read back: markIntS and heldIntS.
-/
import Derived.Test.YtlpeaamjpcpfcaaIRow
namespace Go.Proofs.Ytlpeaamjpcpfcaa.MarkI
open Go.RowKit Go.Proofs.Ytlpeaamjpcpfcaa.IRow
set_option linter.unusedVariables false

theorem own_addr {w : World} {base e n cap : Nat} {A : Option Addr} {xs : List Value} (h : w.ownsRow base e 1 (.slice A n cap) n xs) (h0 : 0 < n) : ∃ g, A = some ⟨g, 0, none⟩ ∧ base ≤ g := by
  rcases h.2 with ⟨_, h2⟩ | ⟨g, c, cur, hv, hb, _⟩
  · omega
  · injection hv with h1 h2 h3
    exact ⟨g, h1, hb⟩

/-- A row of our own is a slice. -/
theorem own_slice {w : World} {base e n : Nat} {v : Value} {xs : List Value} (h : w.ownsRow base e 1 v n xs) : ∃ A cap, v = .slice A n cap := by
  rcases h.2 with ⟨hv, h2⟩ | ⟨g, c, cur, hv, hb, _⟩
  · subst h2; exact ⟨none, 0, hv⟩
  · exact ⟨_, _, hv⟩

/-- The first k elements are the marks from 1 on. -/
def Marked (k : Nat) (xs : List Value) : Prop := ∀ j, j < k → xs[j]? = some (.int .i64 ((1 + j : Nat) : Int))

theorem Marked.set {k : Nat} {xs : List Value} (h : Marked k xs) (hk : k < xs.length) : Marked (k + 1) (xs.set k (.int .i64 ((1 + k : Nat) : Int))) := fun j hj => by
  by_cases e : j = k
  · subst e; rw [List.getElem?_set_self hk]
  · rw [List.getElem?_set_ne (by omega)]; exact h j (by omega)

/-- Only the block that the slice begins in has changed. -/
def Only (A : Option Addr) (w w' : World) : Prop := w.heap.size ≤ w'.heap.size ∧ w'.os = w.os ∧ w'.tape = w.tape ∧ w'.output = w.output ∧ ∀ k, (∀ ad, A = some ad → k ≠ ad.block) → w'.heap[k]? = w.heap[k]?

theorem Only.refl (A : Option Addr) (w : World) : Only A w w := ⟨Nat.le_refl _, rfl, rfl, rfl, fun _ _ => rfl⟩
theorem Only.set {g : Nat} {w w' : World} (h : Only (some ⟨g, 0, none⟩) w w') (k : Nat) (u : Value) : Only (some ⟨g, 0, none⟩) w (w'.setCell ⟨g, k, none⟩ u) :=
  ⟨by simpa using h.1, h.2.1, h.2.2.1, h.2.2.2.1, fun j hj => (Below.heap_setCell w' ⟨g, k, none⟩ u j (hj ⟨g, 0, none⟩ rfl)).trans (h.2.2.2.2 j hj)⟩
theorem Only.below {A : Option Addr} {w w' : World} (h : Only A w w') {B : Nat} (hB : ∀ ad, A = some ad → B ≤ ad.block) : Below B w w' :=
  ⟨h.2.1, h.2.2.1, h.2.2.2.1, h.1, fun k hk => h.2.2.2.2 k (fun ad e => by have := hB ad e; omega)⟩

set_option maxHeartbeats 1000000 in
theorem markI (A : Option Addr) (n cap base : Nat) (xs : List Value) (w : World) (hn : n ≤ 3000000) (hown : w.ownsRow base 3 1 (.slice A n cap) n xs) :
    Calls Try.prog 41 #[.slice A n cap, .int .i64 1] w fun e w' =>
      e = .returned (.int .i64 ((1 + n : Nat) : Int)) ∧ (∃ ys, w'.ownsRow base 3 1 (.slice A n cap) n ys ∧ Marked n ys) ∧ Only A w w' := by
  go_enter Try.func41, Try.ntmps41
  go_wp2_with fail
  go_loopw [1, 5] (fun m i wr => ∃ (k : Nat) (ys : List Value), k ≤ n ∧ m = .int .i64 ((1 + k : Nat) : Int) ∧ i = .int .i64 k ∧ wr.ownsRow base 3 1 (.slice A n cap) n ys ∧ Hid (Marked k ys) ∧ Only A w wr) (fun _ i _ => n - (intOf i).toNat)
  case atStart => exact ⟨0, xs, Nat.zero_le _, rfl, rfl, hown, Lib.hid (fun j hj => by omega), Only.refl _ _⟩
  case round =>
    obtain ⟨k, ys, hk, rfl, rfl, hown, HM, hb⟩ := hrel
    by_cases hlt : k < n
    · obtain ⟨g, rfl, hg⟩ := own_addr hown (by omega)
      have hfz : wr.frozen? ⟨g, k, none⟩ = false := hown.frozenAt k
      obtain ⟨old, hold⟩ : ∃ old, wr.cell? ⟨g, k, none⟩ = some old := by
        rw [hown.cellAt k (by omega)]
        exact ⟨_, List.getElem?_eq_getElem (by rw [hown.1]; omega)⟩
      obtain ⟨p, hp⟩ : ∃ p : Nat, p = 1 + k := ⟨_, rfl⟩
      have hpb : p ≤ 3000001 := by omega
      have HR : Hid (∀ w4, wr.setCell ⟨g, k, none⟩ (.int .i64 p) = w4 → w4.ownsRow base 3 1 (.slice (some ⟨g, 0, none⟩) n cap) n (ys.set k (.int .i64 p)) ∧ Only (some ⟨g, 0, none⟩) w w4) := Lib.hid (by
        rintro _ rfl
        exact ⟨(hown.stored k (.int .i64 p)).1, hb.set k _⟩)
      have HL : Hid (Marked (k + 1) (ys.set k (.int .i64 p))) := Lib.hid (by rw [hp]; exact HM.out.set (by rw [hown.1]; omega))
      have HP : Hid (p + 1 = 1 + (k + 1)) := Lib.hid (by omega)
      rw [← hp]
      clear hown hp hb
      go_wp2
      go_roundw
      case rel => exact ⟨k + 1, ys.set k (.int .i64 p), by omega, by rw [← HP.out]; go_num, by go_num, (HR.out _ rfl).1, Lib.hid HL.out, (HR.out _ rfl).2⟩
      case measure => simp [intOf]; omega
    · have e : k = n := by omega
      subst e
      go_wp2
      go_ret
      exact ⟨rfl, ⟨ys, hown, HM.out⟩, hb⟩

set_option maxHeartbeats 1000000 in
theorem heldI (A : Option Addr) (n cap base : Nat) (ys : List Value) (w : World) (hn : n ≤ 3000000) (hown : w.ownsRow base 3 1 (.slice A n cap) n ys) (hm : Marked n ys) :
    Calls Try.prog 42 #[.slice A n cap, .int .i64 1] w fun e w' =>
      e = .returned (.int .i64 ((1 + n : Nat) : Int)) ∧ ∃ q, w' = w.drewN q := by
  have HM := Lib.hid hm
  clear hm
  go_enter Try.func42, Try.ntmps42
  go_wp2_with fail
  go_loopw [1, 5] (fun m i wr => ∃ (k q : Nat), k ≤ n ∧ m = .int .i64 ((1 + k : Nat) : Int) ∧ i = .int .i64 k ∧ wr = w.drewN q) (fun _ i _ => n - (intOf i).toNat)
  case atStart => exact ⟨0, 0, Nat.zero_le _, rfl, rfl, rfl⟩
  case round =>
    obtain ⟨k, q, hk, rfl, rfl, rfl⟩ := hrel
    by_cases hlt : k < n
    · obtain ⟨g, rfl, hg⟩ := own_addr hown (by omega)
      obtain ⟨p, hp⟩ : ∃ p : Nat, p = 1 + k := ⟨_, rfl⟩
      have hc : w.cell? ⟨g, k, none⟩ = some (.int .i64 p) := by rw [hown.cellAt k (by omega), hp]; exact HM.out k hlt
      have hpb : p ≤ 3000001 := by omega
      have HP : Hid (p + 1 = 1 + (k + 1)) := Lib.hid (by omega)
      rw [← hp]
      clear hp
      have i0 : (0 : Int) ≤ (k : Int) := by omega
      have i1 : (k : Int) < (n : Int) := by omega
      go_wp2_with fail
      go_roundw
      case rel => exact ⟨k + 1, _, by omega, by rw [← HP.out]; go_num, by go_num, rfl⟩
      case measure => simp [intOf]; omega
    · have e : k = n := by omega
      subst e
      go_wp2_with fail
      go_ret
      exact ⟨rfl, _, rfl⟩

end Go.Proofs.Ytlpeaamjpcpfcaa.MarkI
