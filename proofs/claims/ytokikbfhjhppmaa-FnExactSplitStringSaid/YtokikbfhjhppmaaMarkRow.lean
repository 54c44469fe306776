/-
  The marks that the laws write into a slice of strings, and read back: markStringS and heldStringS.
-/
import Derived.Test.YtokikbfhjhppmaaMark
import Derived.Test.YtokikbfhjhppmaaSplitImpl
import Derived.Deep.RegionWith
namespace Go.Proofs.Ytokikbfhjhppmaa.Mark
open Go.RowKit Go.Proofs.Ytokikbfhjhppmaa.Plain Go.Proofs.Ytokikbfhjhppmaa.SplitImpl
set_option linter.unusedVariables false

theorem own_addr {w : World} {base e n cap : Nat} {A : Option Addr} {xs : List Value} (h : w.ownsRow base e 1 (.slice A n cap) n xs) (h0 : 0 < n) : ∃ g, A = some ⟨g, 0, none⟩ ∧ base ≤ g := by
  rcases h.2 with ⟨_, h2⟩ | ⟨g, c, cur, hv, hb, _⟩
  · omega
  · injection hv with h1 h2 h3
    exact ⟨g, h1, hb⟩

/-- The first k elements are the marks from 1 on. -/
def Marked (k : Nat) (xs : List Value) : Prop := ∀ j, j < k → xs[j]? = some (.string (mt (1 + j)))

theorem Marked.set {k : Nat} {xs : List Value} (h : Marked k xs) (hk : k < xs.length) : Marked (k + 1) (xs.set k (.string (mt (1 + k)))) := fun j hj => by
  by_cases e : j = k
  · subst e; rw [List.getElem?_set_self hk]
  · rw [List.getElem?_set_ne (by omega)]; exact h j (by omega)

set_option maxHeartbeats 1000000 in
theorem markRow (A : Option Addr) (n cap base : Nat) (xs : List Value) (w : World) (hn : n ≤ 5000) (hbase : base ≤ w.heap.size) (hown : w.ownsRow base 9 1 (.slice A n cap) n xs) :
    Calls Try.prog 19 #[.slice A n cap, .int .i64 1] w fun e w' =>
      e = .returned (.int .i64 ((1 + n : Nat) : Int)) ∧ (∃ ys, w'.ownsRow base 9 1 (.slice A n cap) n ys ∧ Marked n ys) ∧ Below base w w' := by
  go_enter Try.func19, Try.ntmps19
  go_wp2_with fail
  go_loopw [1, 5] (fun m i wr => ∃ (k : Nat) (ys : List Value), k ≤ n ∧ m = .int .i64 ((1 + k : Nat) : Int) ∧ i = .int .i64 k ∧ wr.ownsRow base 9 1 (.slice A n cap) n ys ∧ Hid (Marked k ys) ∧ Below base w wr) (fun _ i _ => n - (intOf i).toNat)
  case atStart => exact ⟨0, xs, Nat.zero_le _, rfl, rfl, hown, Lib.hid (fun j hj => by omega), Below.refl _ _⟩
  case round =>
    obtain ⟨k, ys, hk, rfl, rfl, hown, HM, hb⟩ := hrel
    by_cases hlt : k < n
    · obtain ⟨g, rfl, hg⟩ := own_addr hown (by omega)
      have hbs := hb.size
      go_wp2_with (go_at_call 37; refine (markText (1 + k) (by omega) (by omega) wr).mono ?_; rintro e w3 ⟨rfl, hb3⟩; refine Hid.out ?_)
      refine Lib.hid ?_
      have hown3 := own_below hown hb3
      have hfz : w3.frozen? ⟨g, k, none⟩ = false := hown3.frozenAt k
      obtain ⟨old, hold⟩ : ∃ old, w3.cell? ⟨g, k, none⟩ = some old := by
        rw [hown3.cellAt k (by omega)]
        exact ⟨_, List.getElem?_eq_getElem (by rw [hown3.1]; omega)⟩
      have hbb : Below base w w3 := hb.trans (hb3.mono (by omega))
      obtain ⟨p, hp⟩ : ∃ p, p = mt (1 + k) := ⟨_, rfl⟩
      have R : ∀ w4, w3.setCell ⟨g, k, none⟩ (.string p) = w4 → w4.ownsRow base 9 1 (.slice (some ⟨g, 0, none⟩) n cap) n (ys.set k (.string p)) ∧ Below base w w4 := by
        rintro _ rfl
        exact ⟨(hown3.stored k (.string p)).1, hbb.setCell hg _⟩
      have HR := Lib.hid R
      have HL : Hid (Marked (k + 1) (ys.set k (.string p))) := Lib.hid (by rw [hp]; exact HM.out.set (by rw [hown.1]; omega))
      rw [← hp]
      clear R hown hown3 hp hbb
      go_wp2
      go_roundw
      case rel => exact ⟨k + 1, ys.set k (.string p), by omega, by go_num, by go_num, (HR.out _ rfl).1, Lib.hid HL.out, (HR.out _ rfl).2⟩
      case measure => simp [intOf]; omega
    · have e : k = n := by omega
      subst e
      go_wp2
      go_ret
      exact ⟨rfl, ⟨ys, hown, HM.out⟩, hb⟩

set_option maxHeartbeats 1000000 in
theorem heldRow (A : Option Addr) (n cap base : Nat) (ys : List Value) (w : World) (hn : n ≤ 5000) (hown : w.ownsRow base 9 1 (.slice A n cap) n ys) (hm : Marked n ys) :
    Calls Try.prog 20 #[.slice A n cap, .int .i64 1] w fun e w' =>
      e = .returned (.int .i64 ((1 + n : Nat) : Int)) ∧ Below w.heap.size w w' := by
  have HM := Lib.hid hm
  clear hm
  go_enter Try.func20, Try.ntmps20
  go_wp2_with fail
  go_loopw [1, 5] (fun m i wr => ∃ (k : Nat), k ≤ n ∧ m = .int .i64 ((1 + k : Nat) : Int) ∧ i = .int .i64 k ∧ Below w.heap.size w wr) (fun _ i _ => n - (intOf i).toNat)
  case atStart => exact ⟨0, Nat.zero_le _, rfl, rfl, Below.refl _ _⟩
  case round =>
    obtain ⟨k, hk, rfl, rfl, hb⟩ := hrel
    by_cases hlt : k < n
    · obtain ⟨g, rfl, hg⟩ := own_addr hown (by omega)
      have hbs := hb.size
      have hown2 := own_below hown hb
      obtain ⟨p, hp⟩ : ∃ p, p = mt (1 + k) := ⟨_, rfl⟩
      have hc : wr.drew.cell? ⟨g, k, none⟩ = some (.string p) := by
        have h1 : wr.cell? ⟨g, k, none⟩ = some (.string p) := by rw [hown2.cellAt k (by omega), hp]; exact HM.out k hlt
        exact h1
      have hgl : g < wr.heap.size := World.block_lt_of_cell? wr ⟨g, k, none⟩ hc
      have HT : Hid (Calls Try.prog 37 #[.int .i64 ((1 + k : Nat) : Int)] wr.drew fun e w' => e = .returned (.string p) ∧ Below wr.heap.size wr w' ∧ w'.cell? ⟨g, k, none⟩ = some (.string p)) := Lib.hid (by
        refine (markText (1 + k) (by omega) (by omega) wr.drew).mono ?_
        rintro e w3 ⟨rfl, hb3⟩
        rw [← hp]
        exact ⟨rfl, ⟨hb3.os, hb3.tape, hb3.output, hb3.size, hb3.block⟩, (hb3.cell (p := ⟨g, k, none⟩) hgl).trans hc⟩)
      clear hown2 hp
      have i0 : (0 : Int) ≤ (k : Int) := by omega
      have i1 : (k : Int) < (n : Int) := by omega
      go_wp2_with fail
      go_region_with (go_at_call 37; refine HT.out.mono ?_; rintro e w3 ⟨rfl, hb3, hc3⟩)
      all_goals go_wp2
      all_goals go_roundw
      all_goals first
        | exact ⟨k + 1, by omega, by go_num, by go_num, hb.trans (hb3.mono hbs)⟩
        | (simp [intOf]; omega)
    · have e : k = n := by omega
      subst e
      go_wp2
      go_ret
      exact ⟨rfl, hb⟩

end Go.Proofs.Ytokikbfhjhppmaa.Mark
