/-
  What the model's JoinStrings returns, at every slice of at most a million letters.
-/
import Derived.Test.YtokikbfhjhppmaaJoin
namespace Go.Proofs.Ytokikbfhjhppmaa.Join
open Go.RowKit Go.Proofs.Ytokikbfhjhppmaa.Plain Go.Proofs.Ytokikbfhjhppmaa.Seal Go.Proofs.Ytokikbfhjhppmaa.Row

theorem quiet_later {P : Program} {f : FuncId} {args : Array Value} {w : World} {a n : Nat} {v : Value}
    (h : Calls P f args (w.drewN (a + n)) fun e w' => e = .returned v ∧ w.drewN (a + n) = w') :
    Calls P f args (w.drewN (a + n)) fun e w'' => e = .returned v ∧ ∃ m, w'' = w.drewN (a + m) :=
  h.mono fun _ _ ⟨he, hm⟩ => ⟨he, n, hm.symm⟩

/-- The separator is the one byte b. -/
def Sep (sep : ByteArray) (b : UInt8) : Prop := sep = ⟨#[b]⟩

theorem sep_index {sep : ByteArray} {b : UInt8} (h : Sep sep b) (w : World) : (Instr.index 9 (.string sep) (.int .i64 0)).run Try.prog w = .ok (.int .u8 (b.toNat : Int)) w := by
  unfold Sep at h; subst h
  simp [go_sem, Try.underlying9]; rfl

theorem sep_of {sep : ByteArray} (h : sep.size = 1) : ∃ b, Sep sep b := by
  refine ⟨sep[0], ?_⟩
  apply ByteArray.ext
  apply Array.ext
  · simpa using h
  · intro i h1 h2
    have : i = 0 := by simp at h2; omega
    subst this; rfl

theorem Sep.size {sep : ByteArray} {b : UInt8} (h : Sep sep b) : sep.size = 1 := by unfold Sep at h; subst h; rfl

theorem cat (a c : ByteArray) (h : a.size + c.size ≤ 100000000) (l : List UInt8) (hl : l = a.data.toList ++ c.data.toList) (w : World) :
    (Op.stringOp .add a c).run Try.prog w = .ok (.string ⟨l.toArray⟩) w := by
  rw [run_string_add_sum w _ _ (by omega), show a ++ c = ⟨l.toArray⟩ by
    apply ByteArray.ext
    rw [ByteArray.data_append]
    apply Array.ext'
    simp [hl]]

def joinAns (b : UInt8) (ss : List ByteArray) (w : World) (e : Ending) (w' : World) : Prop :=
  (∃ m, w' = w.drewN m) ∧ ((Joins b ss ∧ e = .returned (.tuple #[.string ⟨(joinL b ss).toArray⟩, .bool true])) ∨ (¬ Joins b ss ∧ e = .returned (.tuple #[.string ⟨#[]⟩, .bool false])))

set_option maxHeartbeats 2000000 in
theorem specJoin (A : Option Addr) (n cap B : Nat) (ss : List ByteArray) (sep : ByteArray) (b : UInt8) (hsep : Sep sep b) (w : World) (hn : n = ss.length) (hpos : 0 < n) (hm : n ≤ 1048576) (hA : Is w B A ss) (hs : ∀ p ∈ ss, p.size ≤ 1048576) :
    Calls Try.prog 13 #[.slice A n cap, .string sep] w (joinAns b ss w) := by
  have HN := Lib.hid hn
  clear hn
  have hidx := sep_index hsep
  have h1a : sep.size ≤ 1 := by have := hsep.size; omega
  have h1b : 1 ≤ sep.size := by have := hsep.size; omega
  have HP := Lib.hid hsep
  clear hsep
  obtain ⟨c, hc⟩ : ∃ c : Int, c = (b.toNat : Int) := ⟨_, rfl⟩
  rw [← hc] at hidx
  have HC := Lib.hid hc
  clear hc
  have hn0 : ((n : Int) == 0) = false := by rw [beq_eq_false_iff_ne]; omega
  go_enter Try.func13, Try.ntmps13
  go_wp2_with fail
  go_loopw [6, 7] (fun o i wr => ∃ (k m : Nat) (q : ByteArray), k ≤ n ∧ i = .int .i64 k ∧ o = .string q ∧ wr = w.drewN m ∧ q.size ≤ 4000 ∧ Hid (q.data.toList = joinL b (ss.take k)) ∧ Hid (∀ j, ∀ h : j < ss.length, j < k → ¬ In b ss[j])) (fun _ i _ => n - (intOf i).toNat)
  case atStart => exact ⟨0, 0, ⟨#[]⟩, Nat.zero_le _, rfl, rfl, rfl, Nat.zero_le _, Lib.hid rfl, Lib.hid (fun j h hj => by omega)⟩
  case round =>
    obtain ⟨k, m, q, hk, rfl, rfl, rfl, hq, HQ, HF⟩ := hrel
    by_cases hlt : k < n
    · have hk' : k < ss.length := by have := HN.out; omega
      obtain ⟨ad, rfl, hB, hcs⟩ := hA (by omega)
      obtain ⟨p, hp⟩ : ∃ p, p = ss[k] := ⟨_, rfl⟩
      have hcell : w.cell? (ad.add k) = some (.string p) := by rw [hp]; exact hcs k hk'
      have HM : Hid (p ∈ ss) := Lib.hid (by rw [hp]; exact List.getElem_mem hk')
      have hps := hs p HM.out
      have HPM : Hid (p.size ≤ maxLen) := Lib.hid (by unfold maxLen; omega)
      have HE := Lib.hid hp
      clear hp hcs
      have h0 : (0 : Int) ≤ (k : Int) := by omega
      have h1 : (k : Int) < (n : Int) := by omega
      by_cases hin : In b p
      · have HI := Lib.hid hin
        clear hin
        go_wp2_with fail
        go_quiet ((go_at_call 35; with_reducible exact quiet_later (standsYes p b c HC.out HI.out _ HPM.out)))
        go_wp2_with fail
        go_ret2
        exact ⟨by first | exact ⟨_, rfl⟩ | (rw [World.drewN_drewN]; exact ⟨_, rfl⟩), .inr ⟨fun hj => hj.2.1 p HM.out HI.out, rfl⟩⟩
      · have HI := Lib.hid hin
        clear hin
        by_cases hk0 : k < 1
        · obtain ⟨q2, hq2⟩ : ∃ q2 : ByteArray, q2 = ⟨(joinL b (ss.take (k + 1))).toArray⟩ := ⟨_, rfl⟩
          have hadd : ∀ w, (Op.stringOp .add q p).run Try.prog w = .ok (.string q2) w := fun w => by
            rw [hq2]
            refine cat q p (by omega) _ ?_ w
            have e : k = 0 := by omega
            rw [HQ.out]
            subst e
            rw [joinL_first b ss (by omega), ← HE.out]; simp [joinL]
          have HQ2 : Hid (q2.data.toList = joinL b (ss.take (k + 1))) := Lib.hid (by rw [hq2])
          clear hq2
          by_cases hbig : 4000 < q2.size
          · go_wp2_with fail
            go_quiet ((go_at_call 35; with_reducible exact quiet_later (standsNo p b c HC.out HI.out _ HPM.out)))
            go_wp2_with fail
            go_ret2
            exact ⟨⟨_, rfl⟩, .inr ⟨fun hj => by have h3 := hj.2.2; have h4 := joinL_le b ss (k + 1) (by omega) (by omega); have h5 := size_len q2; rw [HQ2.out] at h5; omega, rfl⟩⟩
          · go_wp2_with fail
            go_quiet ((go_at_call 35; with_reducible exact quiet_later (standsNo p b c HC.out HI.out _ HPM.out)))
            go_wp2_with fail
            go_roundw
            case rel => exact ⟨k + 1, _, q2, by omega, by go_num, rfl, rfl, by omega, HQ2, Lib.hid (fun j h hj => by
              by_cases e : j = k
              · subst e; rw [← HE.out]; exact HI.out
              · exact HF.out j h (by omega))⟩
            case measure => simp [intOf]; omega
        · obtain ⟨q2, hq2⟩ : ∃ q2 : ByteArray, q2 = ⟨(joinL b (ss.take (k + 1))).toArray⟩ := ⟨_, rfl⟩
          obtain ⟨q1, hq1⟩ : ∃ q1 : ByteArray, q1 = ⟨(joinL b (ss.take k) ++ [b]).toArray⟩ := ⟨_, rfl⟩
          have hadd1 : ∀ w, (Op.stringOp .add q sep).run Try.prog w = .ok (.string q1) w := fun w => by
            rw [hq1]
            refine cat q sep (by omega) _ ?_ w
            have e := HP.out
            unfold Sep at e
            rw [HQ.out, e]
          have hq1s : q1.size ≤ 4001 := by
            have h2 := size_len q; have h3 := size_len q1
            rw [HQ.out] at h2
            rw [hq1] at h3 ⊢
            simp at h3
            omega
          have hadd : ∀ w, (Op.stringOp .add q1 p).run Try.prog w = .ok (.string q2) w := fun w => by
            rw [hq2]
            refine cat q1 p (by omega) _ ?_ w
            rw [joinL_step b ss k hk' (by omega), hq1, ← HE.out]
          have HQ2 : Hid (q2.data.toList = joinL b (ss.take (k + 1))) := Lib.hid (by rw [hq2])
          clear hq2 hq1
          by_cases hbig : 4000 < q2.size
          · go_wp2_with fail
            go_quiet ((go_at_call 35; with_reducible exact quiet_later (standsNo p b c HC.out HI.out _ HPM.out)))
            go_wp2_with fail
            go_ret2
            exact ⟨⟨_, rfl⟩, .inr ⟨fun hj => by have h3 := hj.2.2; have h4 := joinL_le b ss (k + 1) (by omega) (by omega); have h5 := size_len q2; rw [HQ2.out] at h5; omega, rfl⟩⟩
          · go_wp2_with fail
            go_quiet ((go_at_call 35; with_reducible exact quiet_later (standsNo p b c HC.out HI.out _ HPM.out)))
            go_wp2_with fail
            go_roundw
            case rel => exact ⟨k + 1, _, q2, by omega, by go_num, rfl, rfl, by omega, HQ2, Lib.hid (fun j h hj => by
              by_cases e : j = k
              · subst e; rw [← HE.out]; exact HI.out
              · exact HF.out j h (by omega))⟩
            case measure => simp [intOf]; omega
    · have HE : Hid (ss.take k = ss) := Lib.hid (List.take_of_length_le (by have := HN.out; omega))
      go_wp2_with fail
      go_ret2
      have e1 : q.data.toList = joinL b ss := by have := HQ.out; rwa [HE.out] at this
      refine ⟨⟨_, rfl⟩, .inl ⟨⟨?_, ?_, ?_⟩, ?_⟩⟩
      · intro e; have := HN.out; rw [e] at this; simp at this; omega
      · intro p hp
        obtain ⟨j, hj, e⟩ := List.getElem_of_mem hp
        rw [← e]; exact HF.out j hj (by have := HN.out; omega)
      · rw [← e1, ← size_len]; exact hq
      · rw [← e1]; rfl

end Go.Proofs.Ytokikbfhjhppmaa.Join
