/-
  What the laws' helper szStringS takes away, from any number on.
-/
import Derived.Test.YtomloodakabcbabGreatRow
namespace Go.Proofs.YtomloodakabcbabGreat.Row
open Go.RowKit Go.Proofs.YtomloodakabcbabGreat.Plain

def szAnsG (M : Nat) (ss : List ByteArray) (w : World) (e : Ending) (w' : World) : Prop :=
  w = w' ∧ ((sizes ss + ss.length ≤ M ∧ e = .returned (.int .i64 ((M : Int) - (sizes ss + ss.length : Nat)))) ∨ (M < sizes ss + ss.length ∧ e = .returned (.int .i64 (-1))))

set_option maxHeartbeats 1000000 in
theorem szG (M : Nat) (hM : M ≤ 1048576) (A : Option Addr) (n cap : Nat) (ss : List ByteArray) (w : World) (B : Nat) (hn : n = ss.length) (hm : n ≤ maxLen) (hA : Is w B A ss) (hs : ∀ p ∈ ss, p.size ≤ maxLen) :
    Calls Tryz.prog 13 #[.slice A n cap, .int .i64 (M : Int)] w (szAnsG M ss w) := by
  unfold maxLen at hm
  have HN := Lib.hid hn
  by_cases hbig : M < n
  · go_enter Tryz.func13, Tryz.ntmps13
    clear hn
    go_wp2
    go_ret
    exact ⟨rfl, .inr ⟨by have := HN.out; omega, rfl⟩⟩
  · clear hn
    go_enter Tryz.func13, Tryz.ntmps13
    go_wp2
    go_loop [1, 5] (fun l i => ∃ (k t : Nat), k ≤ n ∧ i = .int .i64 k ∧ l = .int .i64 (t : Int) ∧ Hid (t + n + sizes (ss.take k) = M)) (fun _ i => n - (intOf i).toNat)
    case atStart => exact ⟨0, M - n, Nat.zero_le _, rfl, by congr 1; omega, Lib.hid (by simp [sizes]; omega)⟩
    case round =>
      obtain ⟨k, t, hk, rfl, rfl, HT⟩ := hrel
      by_cases hlt : k < n
      · have hk' : k < ss.length := by have := HN.out; omega
        obtain ⟨ad, rfl, hB, hc⟩ := hA (by omega)
        obtain ⟨p, hp⟩ : ∃ p, p = ss[k] := ⟨_, rfl⟩
        have hcell : w.cell? (ad.add k) = some (.string p) := by rw [hp]; exact hc k hk'
        have hps : p.size ≤ 9223372036854775807 := by have := hs p (by rw [hp]; exact List.getElem_mem hk'); unfold maxLen at this; omega
        have HS : Hid (sizes (ss.take (k + 1)) = sizes (ss.take k) + p.size) := Lib.hid (by rw [hp]; exact sizes_step hk')
        have HLE := Lib.hid (sizes_take_le ss (k + 1))
        have htl : t ≤ M := by have := HT.out; omega
        clear hp hc
        by_cases hneg : t < p.size
        · go_wp2
          go_ret
          exact ⟨rfl, .inr ⟨by have := HT.out; have := HS.out; have := HLE.out; have := HN.out; omega, rfl⟩⟩
        · go_wp2
          go_round
          case rel => exact ⟨k + 1, t - p.size, by omega, by go_num, by congr 1; omega, Lib.hid (by have := HT.out; have := HS.out; omega)⟩
          case measure => simp [intOf]; omega
      · have HE : Hid (ss.take k = ss) := Lib.hid (List.take_of_length_le (by have := HN.out; omega))
        go_wp2
        go_ret
        refine ⟨rfl, .inl ⟨?_, ?_⟩⟩
        · have h1 := HT.out; rw [HE.out] at h1; have := HN.out; omega
        · have h1 := HT.out; rw [HE.out] at h1; have := HN.out
          show Ending.returned (.int .i64 (t : Int)) = _
          congr 2; omega


theorem szNo (M : Nat) (hM : M ≤ 1048576) (A : Option Addr) (n cap : Nat) (ss : List ByteArray) (h : M < sizes ss + ss.length) (w : World) (B : Nat) (hn : n = ss.length) (hm : n ≤ maxLen) (hA : Is w B A ss) (hs : ∀ p ∈ ss, p.size ≤ maxLen) :
    Calls Tryz.prog 13 #[.slice A n cap, .int .i64 (M : Int)] w fun e w' => e = .returned (.int .i64 (-1)) ∧ w = w' :=
  (szG M hM A n cap ss w B hn hm hA hs).mono fun e w' ⟨hw, hh⟩ => by
    rcases hh with ⟨h2, _⟩ | ⟨_, rfl⟩
    · omega
    · exact ⟨rfl, hw⟩

theorem szYes (M : Nat) (hM : M ≤ 1048576) (A : Option Addr) (n cap : Nat) (ss : List ByteArray) (h : sizes ss + ss.length ≤ M) (w : World) (B : Nat) (hn : n = ss.length) (hm : n ≤ maxLen) (hA : Is w B A ss) (hs : ∀ p ∈ ss, p.size ≤ maxLen) :
    Calls Tryz.prog 13 #[.slice A n cap, .int .i64 (M : Int)] w fun e w' => ∃ r : Nat, e = .returned (.int .i64 (r : Int)) ∧ w = w' :=
  (szG M hM A n cap ss w B hn hm hA hs).mono fun e w' ⟨hw, hh⟩ => by
    rcases hh with ⟨_, rfl⟩ | ⟨h2, _⟩
    · exact ⟨M - (sizes ss + ss.length), by congr 2; omega, hw⟩
    · omega

theorem size_le {ss : List ByteArray} {p : ByteArray} (hp : p ∈ ss) : p.size ≤ sizes ss := by
  induction ss with
  | nil => simp at hp
  | cons q r ih =>
    have h1 : sizes (q :: r) = q.size + sizes r := by simp [sizes]
    rcases List.mem_cons.1 hp with rfl | hp
    · omega
    · have := ih hp; omega

end Go.Proofs.YtomloodakabcbabGreat.Row
