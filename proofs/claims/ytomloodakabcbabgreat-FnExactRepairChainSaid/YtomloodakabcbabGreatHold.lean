/-
  The value of a condition: l5Holds of the model, holds of the program.
-/
import Derived.Test.YtomloodakabcbabGreatGoodI
import Derived.Test.YtomloodakabcbabGreatFc
import Derived.Test.YtomloodakabcbabGreatShelfNm
import Derived.Test.YtomloodakabcbabGreatOpC
import Derived.Lib.SlicesS
namespace Go.Proofs.YtomloodakabcbabGreat.Cond
open Go.RowKit

def Q.holds (kn : ByteArray → Bool) (d : Int) : Q → Bool
  | .tru => true
  | .fact s => kn s
  | .frm x => decide (x ≤ d)
  | .neg a => !a.holds kn d
  | .and a b => a.holds kn d && b.holds kn d
  | .or a b => a.holds kn d || b.holds kn d

theorem tl_inj {a b : ByteArray} (h : a.toList = b.toList) : a = b := by
  rw [Go.ByteArray.toList_eq, Go.ByteArray.toList_eq] at h
  cases a; cases b
  simpa [Array.toList_inj] using h

def has (ss : List ByteArray) (x : ByteArray) : Bool := ss.any fun p => decide (p.toList = x.toList)

theorem contains_has (ss : List ByteArray) (x : ByteArray) : Lib.containsS ss x = has ss x := by
  rw [Bool.eq_iff_iff, Lib.containsS_iff, has, List.any_eq_true]
  constructor
  · intro h
    exact ⟨x, h, by simp⟩
  · rintro ⟨p, hp, he⟩
    rw [← tl_inj (of_decide_eq_true he)]; exact hp

theorem has_no {ss : List ByteArray} {k : Nat} (hk : ss.length ≤ k) {x : ByteArray} (h : ∀ j, ∀ hj : j < ss.length, j < k → ¬ ss[j].toList = x.toList) : has ss x = false := by
  unfold has
  rw [List.any_eq_false]
  intro p hp
  obtain ⟨j, hj, rfl⟩ := List.mem_iff_getElem.1 hp
  simpa using h j hj (by omega)
theorem has_yes {ss : List ByteArray} {k : Nat} (hk : k < ss.length) {x : ByteArray} (h : ss[k].toList = x.toList) : has ss x = true := by
  unfold has
  rw [List.any_eq_true]
  exact ⟨ss[k], List.getElem_mem hk, by simpa using h⟩

set_option maxHeartbeats 1000000 in
theorem l5Has (A : Option Addr) (n cap : Nat) (ss : List ByteArray) (x : ByteArray) (B : Nat) (w : World) (hn : n = ss.length) (hm : n ≤ 1048576) (hA : Row.Is w B A ss) :
    Calls Tryz.prog 45 #[.slice A n cap, .string x] w fun e w' => e = .returned (.bool (has ss x)) ∧ w = w' := by
  have HN := Lib.hid hn
  clear hn
  go_enter Tryz.func45, Tryz.ntmps45
  go_wp2_with fail
  go_loopw [5] (fun i wr => ∃ k : Nat, k ≤ n ∧ i = .int .i64 k ∧ Hid (∀ j, ∀ hj : j < ss.length, j < k → ¬ ss[j].toList = x.toList) ∧ w = wr) (fun i _ => n - (intOf i).toNat)
  case atStart => exact ⟨0, Nat.zero_le _, rfl, Lib.hid fun j _ hj => by omega, rfl⟩
  case round =>
    obtain ⟨k, hk, rfl, HK, rfl⟩ := hrel
    by_cases hlt : k < n
    · have hk' : k < ss.length := by have := HN.out; omega
      obtain ⟨ad, rfl, hB, hc⟩ := hA (by omega)
      obtain ⟨p, hp⟩ : ∃ p, p = ss[k] := ⟨_, rfl⟩
      have hcell : w.cell? (ad.add k) = some (.string p) := by rw [hp]; exact hc k hk'
      have HP := Lib.hid hp
      clear hp hc
      by_cases he : p.toList = x.toList
      · have he' : (p.toList == x.toList) = true := by simpa using he
        go_wp2_with fail
        go_ret
        exact ⟨by rw [has_yes hk' (by rw [← HP.out]; exact he)]; rfl, rfl⟩
      · have he' : (p.toList == x.toList) = false := by simpa using he
        go_wp2_with fail
        go_roundw
        case rel => exact ⟨k + 1, by omega, by go_num, Lib.hid fun j hj hjk => by
          by_cases e : j = k
          · subst e; rw [← HP.out]; exact he
          · exact HK.out j hj (by omega), trivial⟩
        case measure => simp [intOf]; omega
    · go_wp2_with fail
      go_ret
      exact ⟨by rw [has_no (k := k) (by have := HN.out; omega) HK.out]; rfl, rfl⟩

theorem One {w : World} {B : Nat} {op : Int} {nm : ByteArray} {day : Int} {A : Option Addr} {cap : Nat} {p : K} (h : Lies w B (.mk op nm day A cap [p])) : ∃ b o, A = some ⟨b, o, none⟩ ∧ b < B ∧ El w b o p := by
  obtain ⟨b, o, rfl, hb, he⟩ := h.at (by simp)
  exact ⟨b, o, rfl, hb, by simpa using he 0 (by simp)⟩
theorem Two {w : World} {B : Nat} {op : Int} {nm : ByteArray} {day : Int} {A : Option Addr} {cap : Nat} {p q : K} (h : Lies w B (.mk op nm day A cap [p, q])) : ∃ b o, A = some ⟨b, o, none⟩ ∧ b < B ∧ El w b o p ∧ El w b (o + 4) q := by
  obtain ⟨b, o, rfl, hb, he⟩ := h.at (by simp)
  exact ⟨b, o, rfl, hb, by simpa using he 0 (by simp), by simpa using he 1 (by simp)⟩

end Go.Proofs.YtomloodakabcbabGreat.Cond
