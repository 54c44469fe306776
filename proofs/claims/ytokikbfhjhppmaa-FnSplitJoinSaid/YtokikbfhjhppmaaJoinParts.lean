/-
  What the program's fitsJoined and containsByte return, at every slice of at most a million letters.
-/
import Derived.Test.YtokikbfhjhppmaaJoinSpec
import Derived.Deep.LoopGhost
namespace Go.Proofs.Ytokikbfhjhppmaa.Join
open Go.RowKit Go.Proofs.Ytokikbfhjhppmaa.Plain Go.Proofs.Ytokikbfhjhppmaa.Seal Go.Proofs.Ytokikbfhjhppmaa.Row

def fitsAns (ss : List ByteArray) (w : World) (e : Ending) (w' : World) : Prop :=
  w = w' ∧ ((sizes ss + ss.length ≤ 4001 ∧ e = .returned (.bool true)) ∨ (4001 < sizes ss + ss.length ∧ e = .returned (.bool false)))

set_option maxHeartbeats 1000000 in
theorem fits (A : Option Addr) (n cap B : Nat) (ss : List ByteArray) (w : World) (hn : n = ss.length) (hpos : 0 < n) (hm : n ≤ 1048576) (hA : Is w B A ss) (hs : ∀ p ∈ ss, p.size ≤ 1048576) :
    Calls Try.prog 31 #[.slice A n cap] w (fitsAns ss w) := by
  have HN := Lib.hid hn
  clear hn
  go_enter Try.func31, Try.ntmps31
  go_wp2
  go_loop [3, 11] (fun l i => ∃ (k t : Nat), k ≤ n ∧ i = .int .i64 k ∧ l = .int .i64 (t : Int) ∧ Hid (t + 1 = n + sizes (ss.take k)) ∧ (0 < k → t ≤ 4000) ∧ t ≤ 2000000) (fun _ i => n - (intOf i).toNat)
  case atStart => exact ⟨0, n - 1, Nat.zero_le _, rfl, by congr 1; omega, Lib.hid (by simp [sizes]; omega), fun h => by omega, by omega⟩
  case round =>
    obtain ⟨k, t, hk, rfl, rfl, HT, h4, htl⟩ := hrel
    by_cases hlt : k < n
    · have hk' : k < ss.length := by have := HN.out; omega
      obtain ⟨ad, rfl, hB, hc⟩ := hA (by omega)
      obtain ⟨p, hp⟩ : ∃ p, p = ss[k] := ⟨_, rfl⟩
      have hcell : w.cell? (ad.add k) = some (.string p) := by rw [hp]; exact hc k hk'
      have hps : p.size ≤ 1048576 := hs p (by rw [hp]; exact List.getElem_mem hk')
      have HS : Hid (sizes (ss.take (k + 1)) = sizes (ss.take k) + p.size) := Lib.hid (by rw [hp]; exact sizes_step hk')
      have HLE := Lib.hid (sizes_take_le ss (k + 1))
      clear hp hc
      by_cases hneg : 4000 < t + p.size
      · go_wp2
        go_ret
        exact ⟨rfl, .inr ⟨by have := HT.out; have := HS.out; have := HLE.out; have := HN.out; omega, rfl⟩⟩
      · go_wp2
        go_round
        case rel => exact ⟨k + 1, t + p.size, by omega, by go_num, by congr 1, Lib.hid (by have := HT.out; have := HS.out; omega), fun _ => by omega, by omega⟩
        case measure => simp [intOf]; omega
    · have HE : Hid (ss.take k = ss) := Lib.hid (List.take_of_length_le (by have := HN.out; omega))
      have h4' := h4 (by omega)
      clear h4
      go_wp2
      go_ret
      exact ⟨rfl, .inl ⟨by have h1 := HT.out; rw [HE.out] at h1; have := HN.out; omega, rfl⟩⟩

def holdsAns (b : UInt8) (ss : List ByteArray) (w : World) (e : Ending) (w' : World) : Prop :=
  w = w' ∧ (((∃ p ∈ ss, In b p) ∧ e = .returned (.bool true)) ∨ ((∀ p ∈ ss, ¬ In b p) ∧ e = .returned (.bool false)))

set_option maxHeartbeats 1000000 in
theorem holdsByte (A : Option Addr) (n cap B : Nat) (ss : List ByteArray) (b : UInt8) (c : Int) (hcb : c = (b.toNat : Int)) (w : World) (hn : n = ss.length) (hm : n ≤ 1048576) (hA : Is w B A ss) (hs : ∀ p ∈ ss, p.size ≤ 1048576) :
    Calls Try.prog 32 #[.slice A n cap, .int .u8 c] w (holdsAns b ss w) := by
  have HN := Lib.hid hn
  clear hn
  have HB := Lib.hid hcb
  clear hcb
  go_enter Try.func32, Try.ntmps32
  go_wp2
  go_step3
  go_wp2
  go_step3
  go_wp2
  go_loopg [5, 11] n (fun g f i wr => ∃ k : Nat, Hid (k + g = n) ∧ k ≤ n ∧ f = .bool false ∧ i = .int .i64 k ∧ w = wr ∧ Hid (∀ j, ∀ h : j < ss.length, j < k → ¬ In b ss[j]))
  case atStart => exact ⟨0, Lib.hid (by omega), Nat.zero_le _, rfl, rfl, rfl, Lib.hid (fun j h hj => by omega)⟩
  case round =>
    obtain ⟨k, HG, hk, rfl, rfl, rfl, HF⟩ := hrel
    cases gk with
    | zero =>
      have hge : n ≤ k := by have := HG.out; omega
      go_wp2
      try rw [Exit.noGoto_ret]
      go_ret
      refine ⟨rfl, .inr ⟨fun p hp => ?_, rfl⟩⟩
      obtain ⟨j, hj, e⟩ := List.getElem_of_mem hp
      rw [← e]; exact HF.out j hj (by have := HN.out; omega)
    | succ g =>
      have hlt : k < n := by have := HG.out; omega
      have hk' : k < ss.length := by have := HN.out; omega
      obtain ⟨ad, rfl, hB, hc⟩ := hA (by omega)
      obtain ⟨p, hp⟩ : ∃ p, p = ss[k] := ⟨_, rfl⟩
      have hcell : w.cell? (ad.add k) = some (.string p) := by rw [hp]; exact hc k hk'
      have HM : Hid (p ∈ ss) := Lib.hid (by rw [hp]; exact List.getElem_mem hk')
      have hps : p.size ≤ 1048576 := hs p HM.out
      have HE := Lib.hid hp
      clear hp hc
      go_wp2
      go_loopg [5, 17] p.size (fun g2 f i wx => ∃ t : Nat, Hid (t + g2 = p.size) ∧ t ≤ p.size ∧ f = .bool false ∧ i = .int .i64 t ∧ w = wx ∧ Hid (∀ j, ∀ h : j < p.size, j < t → p[j] ≠ b))
      case atStart => exact ⟨0, Lib.hid (by omega), Nat.zero_le _, rfl, rfl, rfl, Lib.hid (fun j h hj => by omega)⟩
      case round =>
        obtain ⟨t, HG2, ht, rfl, rfl, rfl, HT⟩ := hrel
        cases gk with
        | zero =>
          have hge : p.size ≤ t := by have := HG2.out; omega
          go_wp2
          go_roundg g
          case measure => omega
          case rel => exact ⟨k + 1, Lib.hid (by have := HG.out; omega), by omega, rfl, by go_num, rfl, Lib.hid (fun j h hj => by
            by_cases e : j = k
            · subst e; rw [← HE.out]; exact fun ⟨i, hi, e2⟩ => HT.out i hi (by omega) e2
            · exact HF.out j h (by omega))⟩
        | succ g2 =>
          have htl : t < p.size := by have := HG2.out; omega
          by_cases hx : p[t] = b
          · have hq : ((p[t].toNat : Int) == c) = true := by rw [HB.out, hx]; simp
            have HX := Lib.hid hx
            clear hx
            go_wp2
            try rw [Exit.noGoto_ret]
            go_ret
            exact ⟨rfl, .inl ⟨⟨p, HM.out, t, htl, HX.out⟩, rfl⟩⟩
          · have hq : ((p[t].toNat : Int) == c) = false := by
              rw [HB.out, beq_eq_false_iff_ne]; intro e; exact hx (UInt8.toNat_inj.1 (by omega))
            have HX := Lib.hid hx
            clear hx
            go_wp2
            go_roundg g2
            case measure => omega
            case rel => exact ⟨t + 1, Lib.hid (by have := HG2.out; omega), by omega, rfl, by go_num, rfl, Lib.hid (fun j h hj => by
              by_cases e : j = t
              · subst e; exact HX.out
              · exact HT.out j h (by omega))⟩

end Go.Proofs.Ytokikbfhjhppmaa.Join
