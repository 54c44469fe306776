/-
  What ParseAmount returns, of the model and of the program.
-/
import Derived.Test.YthobejaiapdanaaDoorParsePlain
import Derived.Test.YthobejaiapdanaaDoorFmtAmt
import Derived.Test.YthobejaiapdanaaDoorLies
namespace Go.Proofs.YthobejaiapdanaaDoor.ParseAmt
open Go.RowKit Go.Proofs.YthobejaiapdanaaDoor.Plain Go.Proofs.YthobejaiapdanaaDoor.FmtPlain Go.Proofs.YthobejaiapdanaaDoor.ParsePlain Go.Proofs.YthobejaiapdanaaDoor.Num Go.Proofs.YthobejaiapdanaaDoor.Amount Go.Proofs.YthobejaiapdanaaDoor.FmtAmt Go.Proofs.YthobejaiapdanaaDoor.Lies

/-- s is the text of the amount x. -/
def IsT (s : ByteArray) (x : Int) : Prop := Amt x ∧ s = ⟨(text x).toArray⟩

theorem IsT.list {s : ByteArray} {x : Int} (h : IsT s x) : s.data.toList = text x := by rw [h.2]
theorem size_len (s : ByteArray) : s.size = s.data.toList.length := (Array.length_toList (xs := s.data)).symm

theorem ne_text {s : ByteArray} {l : List UInt8} (h : ¬ s = ⟨l.toArray⟩) : (!l == s.toList) = true := by
  rw [Bool.not_eq_true', beq_eq_false_iff_ne]
  intro e
  apply h
  rw [e, ByteArray.toList_eq]

/-- The sign and the digits of a text give the amount. -/
theorem IsT.val {s : ByteArray} {x : Int} (h : IsT s x) : ∃ h0 : 0 < s.size, (s[0] = 45 ↔ x < 0) ∧ ParsePlain.val s.data.toList = x.natAbs := by
  have hl := h.list
  obtain ⟨c, t, e, hc⟩ := head_text x
  have h0 : 0 < s.size := by rw [size_len, hl, e]; simp
  refine ⟨h0, ?_, by rw [hl, val_text]⟩
  have e0 : s[0] = c := by
    have : s.data.toList[0]? = some c := by rw [hl, e]; rfl
    have h1 : s.data.toList[0]? = some s[0] := by
      rw [List.getElem?_eq_getElem (by rw [← size_len]; exact h0)]; rfl
    rw [h1] at this; injection this
  rw [e0]; exact hc

theorem IsT.uniq {s : ByteArray} {x y : Int} (hx : IsT s x) (hy : IsT s y) : x = y := by
  obtain ⟨h0, a1, a2⟩ := hx.val
  obtain ⟨_, b1, b2⟩ := hy.val
  have : x < 0 ↔ y < 0 := a1.symm.trans b1
  omega

theorem IsT.may {s : ByteArray} {x : Int} (h : IsT s x) (i : Nat) (hi : i < s.size) : May i s[i] := by
  have hl := h.list
  have := may_text x i (by rw [← hl, ← size_len]; exact hi)
  have e : (text x)[i]'(by rw [← hl, ← size_len]; exact hi) = s[i] := by
    have h1 : s.data.toList[i]? = some s[i] := by
      rw [List.getElem?_eq_getElem (by rw [← size_len]; exact hi)]; rfl
    rw [hl, List.getElem?_eq_getElem (by rw [← hl, ← size_len]; exact hi)] at h1
    injection h1
  rw [e] at this; exact this

theorem IsT.len {s : ByteArray} {x : Int} (h : IsT s x) : 4 ≤ s.size ∧ s.size ≤ 12 := by
  rw [size_len, h.list]; exact len_text x h.1.1 h.1.2

/-- The answer, and what became of the world. -/
def Ans (s : ByteArray) (e : Ending) : Prop :=
  (∃ x, IsT s x ∧ e = .returned (.tuple #[.int .i64 x, .bool true])) ∨ ((∀ x, ¬ IsT s x) ∧ e = .returned (.tuple #[.int .i64 0, .bool false]))

def specAns (s : ByteArray) (w : World) (e : Ending) (w' : World) : Prop := Ans s e ∧ ∃ m, w' = w.drewN m
def implAns (s : ByteArray) (w : World) (e : Ending) (w' : World) : Prop := Ans s e ∧ Below w.heap.size w w'

theorem val_step (s : ByteArray) (k : Nat) (h : k < s.size) : ParsePlain.val (s.data.toList.take (k + 1)) = ParsePlain.step (ParsePlain.val (s.data.toList.take k)) s[k] := by
  rw [take_snoc s k h, val_snoc]

set_option maxHeartbeats 2000000 in
theorem spec (s : ByteArray) (w : World) (hs : s.size ≤ maxLen) : Calls Tryd.prog 28 #[.string s] w (specAns s w) := by
  unfold maxLen at hs
  by_cases hlen : 4 ≤ s.size ∧ s.size ≤ 12
  · obtain ⟨h4, h12⟩ := hlen
    go_enter Tryd.func28, Tryd.ntmps28
    go_wp2_with (go_at_call 48; refine (l1In_true _ _ _ (by omega) (by omega) _).mono ?_; rintro e w' ⟨rfl, rfl⟩)
    go_loop [4, 5] (fun n i => ∃ k : Nat, k ≤ s.size ∧ i = .int .i64 k ∧ n = .int .i64 (ParsePlain.val (s.data.toList.take k) : Nat)) (fun _ i => s.size - (intOf i).toNat)
    case atStart => exact ⟨0, Nat.zero_le _, rfl, rfl⟩
    case round =>
      obtain ⟨k, hk, rfl, rfl⟩ := hrel
      have hv : ParsePlain.val (s.data.toList.take k) < 10 ^ 12 := by
        have h1 := val_lt (s.data.toList.take k)
        have h2 : (s.data.toList.take k).length ≤ 12 := by have := List.length_take_le k s.data.toList; omega
        exact Nat.lt_of_lt_of_le h1 (Nat.pow_le_pow_right (by omega) h2)
      simp only [Nat.reducePow] at hv
      obtain ⟨V, hV⟩ : ∃ V, ParsePlain.val (s.data.toList.take k) = V := ⟨_, rfl⟩
      rw [hV] at hv
      rw [hV]
      have HV := Lib.hid hV
      clear hV
      by_cases hlt : k < s.size
      · have HS := Lib.hid (val_step s k hlt)
        have hc : s[k].toNat < 256 := UInt8.toNat_lt _
        by_cases hd : 48 ≤ s[k].toNat ∧ s[k].toNat ≤ 57
        · have HN : Hid (ParsePlain.step V s[k] = 10 * V + (s[k].toNat - 48)) := Lib.hid (by unfold ParsePlain.step; exact if_pos hd)
          obtain ⟨d0, d1⟩ := hd
          go_wp2
          go_round
          case rel => exact ⟨k + 1, by omega, by go_num, by rw [HS.out, HV.out, HN.out]; congr 1; omega⟩
          case measure => simp [intOf]; omega
        · have HN : Hid (ParsePlain.step V s[k] = V) := Lib.hid (by unfold ParsePlain.step; exact if_neg hd)
          have hd' : (s[k].toNat < 48) ∨ (57 < s[k].toNat) := by omega
          by_cases hp : s[k].toNat = 46
          · have hq : ((s[k].toNat : Int) != 46) = false := by simp; omega
            have hlo : s[k].toNat < 48 := by omega
            clear hd hd' hp
            go_wp2
            go_round
            case rel => exact ⟨k + 1, by omega, by go_num, by rw [HS.out, HV.out, HN.out]⟩
            case measure => simp [intOf]; omega
          · have hq : ((s[k].toNat : Int) != 46) = true := by simp; omega
            by_cases hm : s[k].toNat = 45 ∧ k = 0
            · obtain ⟨hm, rfl⟩ := hm
              have hq2 : ((s[0].toNat : Int) != 45) = false := by simp; omega
              have hlo : s[0].toNat < 48 := by omega
              clear hd hd' hp hm
              go_wp2
              go_round
              case rel => exact ⟨0 + 1, by omega, by go_num, by rw [HS.out, HV.out, HN.out]⟩
              case measure => simp [intOf]; omega
            · have HBad : Hid (∀ x, ¬ IsT s x) := Lib.hid (fun x hx => by
                rcases hx.may k hlt with h | h | ⟨h, h'⟩
                · exact hd h
                · exact hp (by rw [h]; rfl)
                · exact hm ⟨by rw [h]; rfl, h'⟩)
              by_cases hm2 : s[k].toNat = 45
              · have hk0 : 0 < k := by omega
                have hq2 : ((s[k].toNat : Int) != 45) = false := by simp; omega
                have hlo : s[k].toNat < 48 := by omega
                clear hd hd' hp hm hm2
                go_wp2
                go_ret2
                exact ⟨.inr ⟨HBad.out, rfl⟩, 0, rfl⟩
              · have hq2 : ((s[k].toNat : Int) != 45) = true := by simp; omega
                clear hp hm hm2 hd
                rcases hd' with hlo | hhi
                · go_wp2
                  go_ret2
                  exact ⟨.inr ⟨HBad.out, rfl⟩, 0, rfl⟩
                · have hlo : 48 ≤ s[k].toNat := by omega
                  go_wp2
                  go_ret2
                  exact ⟨.inr ⟨HBad.out, rfl⟩, 0, rfl⟩
      · have HE : Hid (ParsePlain.val s.data.toList = V) := Lib.hid (by rw [← HV.out, take_all s k (by omega)])
        have h0 : 0 < s.size := by omega
        by_cases hneg : s[0].toNat = 45
        · have hq : ((s[0].toNat : Int) == 45) = true := by simp; omega
          have HU : Hid (∀ x, IsT s x → x = -(V : Int)) := Lib.hid (fun x hx => by
            obtain ⟨_, a1, a2⟩ := hx.val
            have : x < 0 := a1.1 (UInt8.toNat_inj.1 hneg)
            rw [HE.out] at a2; omega)
          clear hneg
          by_cases hA : Amt (-(V : Int))
          · have HA := Lib.hid hA
            clear hA
            by_cases ht : s = ⟨(text (-(V : Int))).toArray⟩
            · have HX := Lib.hid ht
              have hq3 : (!text (-(V : Int)) == s.toList) = false := by rw [ht]; simp
              clear ht
              go_wp2_with (first
                | (go_at_call 46; refine (specYes _ HA.out _).mono ?_; rintro e w' ⟨rfl, rfl⟩)
                | (go_at_call 39; refine (l2Format _ HA.out _).mono ?_; rintro e w' ⟨rfl, m, rfl⟩))
              go_ret2
              exact ⟨.inl ⟨_, ⟨HA.out, HX.out⟩, rfl⟩, _, rfl⟩
            · have HX := Lib.hid ht
              have hq3 : (!text (-(V : Int)) == s.toList) = true := ne_text ht
              clear ht
              go_wp2_with (first
                | (go_at_call 46; refine (specYes _ HA.out _).mono ?_; rintro e w' ⟨rfl, rfl⟩)
                | (go_at_call 39; refine (l2Format _ HA.out _).mono ?_; rintro e w' ⟨rfl, m, rfl⟩))
              go_ret2
              exact ⟨.inr ⟨fun x hx => HX.out (by have e := HU.out x hx; rw [← e]; exact hx.2), rfl⟩, _, rfl⟩
          · have HA := Lib.hid hA
            clear hA
            go_wp2_with (go_at_call 46; refine (specNo _ HA.out _).mono ?_; rintro e w' ⟨rfl, rfl⟩)
            go_ret2
            exact ⟨.inr ⟨fun x hx => HA.out (by have e := HU.out x hx; rw [← e]; exact hx.1), rfl⟩, 0, rfl⟩
        · have hq : ((s[0].toNat : Int) == 45) = false := by simp; omega
          have HU : Hid (∀ x, IsT s x → x = (V : Int)) := Lib.hid (fun x hx => by
            obtain ⟨_, a1, a2⟩ := hx.val
            have : ¬ x < 0 := fun h => hneg (by rw [a1.2 h]; rfl)
            rw [HE.out] at a2; omega)
          clear hneg
          by_cases hA : Amt (V : Int)
          · have HA := Lib.hid hA
            clear hA
            by_cases ht : s = ⟨(text (V : Int)).toArray⟩
            · have HX := Lib.hid ht
              have hq3 : (!text (V : Int) == s.toList) = false := by rw [ht]; simp
              clear ht
              go_wp2_with (first
                | (go_at_call 46; refine (specYes _ HA.out _).mono ?_; rintro e w' ⟨rfl, rfl⟩)
                | (go_at_call 39; refine (l2Format _ HA.out _).mono ?_; rintro e w' ⟨rfl, m, rfl⟩))
              go_ret2
              exact ⟨.inl ⟨_, ⟨HA.out, HX.out⟩, rfl⟩, _, rfl⟩
            · have HX := Lib.hid ht
              have hq3 : (!text (V : Int) == s.toList) = true := ne_text ht
              clear ht
              go_wp2_with (first
                | (go_at_call 46; refine (specYes _ HA.out _).mono ?_; rintro e w' ⟨rfl, rfl⟩)
                | (go_at_call 39; refine (l2Format _ HA.out _).mono ?_; rintro e w' ⟨rfl, m, rfl⟩))
              go_ret2
              exact ⟨.inr ⟨fun x hx => HX.out (by have e := HU.out x hx; rw [← e]; exact hx.2), rfl⟩, _, rfl⟩
          · have HA := Lib.hid hA
            clear hA
            go_wp2_with (go_at_call 46; refine (specNo _ HA.out _).mono ?_; rintro e w' ⟨rfl, rfl⟩)
            go_ret2
            exact ⟨.inr ⟨fun x hx => HA.out (by have e := HU.out x hx; rw [← e]; exact hx.1), rfl⟩, 0, rfl⟩
  · have hl' : (s.size : Int) < 4 ∨ 12 < (s.size : Int) := by omega
    have HBad : Hid (∀ x, ¬ IsT s x) := Lib.hid (fun x hx => hlen hx.len)
    clear hlen
    go_enter Tryd.func28, Tryd.ntmps28
    go_wp2_with (go_at_call 48; refine (l1In_false _ _ _ hl' _).mono ?_; rintro e w' ⟨rfl, rfl⟩)
    go_ret2
    exact ⟨.inr ⟨HBad.out, rfl⟩, 0, rfl⟩

theorem IsT.struck {s : ByteArray} {x : Int} (h : IsT s x) : Lib.atoiAll (Lib.replace s.data.toList [46] [] 1) = .ok x := by
  rw [h.list, replace_text]; exact atoiAll_flat x h.1.1 h.1.2

set_option maxHeartbeats 2000000 in
theorem impl (s : ByteArray) (w : World) (hs : s.size ≤ maxLen) (hL : Lies w) : Calls Tryd.prog 15 #[.string s] w (implAns s w) := by
  unfold maxLen at hs
  have HL := Lib.hid hL
  clear hL
  by_cases h12 : 12 < s.size
  · have HBad : Hid (∀ x, ¬ IsT s x) := Lib.hid (fun x hx => by have := hx.len; omega)
    go_enter Tryd.func15, Tryd.ntmps15
    go_wp2
    go_ret2
    exact ⟨.inr ⟨HBad.out, rfl⟩, Below.refl _ _⟩
  · obtain ⟨t, ht⟩ : ∃ t : ByteArray, (⟨(Lib.replace s.data.toList [46] [] 1).toArray⟩ : ByteArray) = t := ⟨_, rfl⟩
    have HK : Hid (∀ x, IsT s x → Lib.atoiAll t.data.toList = .ok x) := Lib.hid (fun x hx => by rw [← ht]; exact hx.struck)
    have HS : Hid (Calls Tryd.prog 38 #[.string s, .string ⟨#[46]⟩, .string ⟨#[]⟩, .int .i64 1] w fun e w' => e = .returned (.string t) ∧ Below w.heap.size w w') := Lib.hid (by
      rw [← ht]; exact strike s (by omega) w HL.out)
    have HZ : Hid (t.size ≤ 2000000) := Lib.hid (by
      rw [← ht, FmtPlain.size]
      have : ∀ l : List UInt8, (Lib.replace l [46] [] 1).length ≤ l.length := fun l => by
        unfold Lib.replace
        rw [if_neg (by decide)]
        generalize Lib.replaceNum l [46] 1 = k
        induction k generalizing l with
        | zero => exact Nat.le_refl _
        | succ k ih =>
          unfold Lib.replaceK
          split
          · exact Nat.le_refl _
          · have := ih (l.drop ((Lib.index l [46]).toNat + ([46] : List UInt8).length))
            simp only [List.length_append, List.length_nil, List.length_take, List.length_drop, List.length_singleton] at this ⊢
            omega
      have h1 := this s.data.toList
      rw [← size_len] at h1
      omega)
    clear ht
    by_cases hok : ∃ v, Lib.atoiAll t.data.toList = .ok v
    · obtain ⟨v, hv⟩ := hok
      have HV := Lib.hid hv
      have HU : Hid (∀ x, IsT s x → x = v) := Lib.hid (fun x hx => by have := HK.out x hx; rw [hv] at this; injection this with h; exact h.symm)
      clear hv
      by_cases hA : Amt v
      · have HA := Lib.hid hA
        have HF : Hid (∀ w, Pow w → Calls Tryd.prog 14 #[.int .i64 v] w fun e w' => e = .returned (.tuple #[.string ⟨(text v).toArray⟩, .bool true]) ∧ Below w.heap.size w w') := Lib.hid (fun w hw => by
          have := FmtAmt.impl v w hw
          unfold fmtT fmtB at this
          rw [if_pos hA, decide_eq_true hA] at this
          exact this)
        clear hA
        by_cases hx : s = ⟨(text v).toArray⟩
        · have HX := Lib.hid hx
          have hq : (!text v == s.toList) = false := by rw [hx]; simp
          clear hx
          go_enter Tryd.func15, Tryd.ntmps15
          go_wp2_with (first
            | (go_at_call 38; refine HS.out.mono ?_; rintro e w1 ⟨rfl, hb1⟩)
            | (go_at_call 37; refine (atoiOk t HZ.out v HV.out _).mono ?_; rintro e w2 ⟨rfl, hb2⟩)
            | (go_at_call 14; refine (HF.out _ ((HL.out.below hb1).below hb2).tab).mono ?_; rintro e w3 ⟨rfl, hb3⟩))
          go_ret2
          have b2 : Below w.heap.size w w2 := hb1.trans (hb2.mono hb1.size)
          exact ⟨.inl ⟨v, ⟨HA.out, HX.out⟩, rfl⟩, b2.trans (hb3.mono b2.size)⟩
        · have HX := Lib.hid hx
          have hq : (!text v == s.toList) = true := ne_text hx
          clear hx
          go_enter Tryd.func15, Tryd.ntmps15
          go_wp2_with (first
            | (go_at_call 38; refine HS.out.mono ?_; rintro e w1 ⟨rfl, hb1⟩)
            | (go_at_call 37; refine (atoiOk t HZ.out v HV.out _).mono ?_; rintro e w2 ⟨rfl, hb2⟩)
            | (go_at_call 14; refine (HF.out _ ((HL.out.below hb1).below hb2).tab).mono ?_; rintro e w3 ⟨rfl, hb3⟩))
          go_ret2
          have b2 : Below w.heap.size w w2 := hb1.trans (hb2.mono hb1.size)
          exact ⟨.inr ⟨fun x hx => HX.out (by have e := HU.out x hx; rw [← e]; exact hx.2), rfl⟩, b2.trans (hb3.mono b2.size)⟩
      · have HA := Lib.hid hA
        have HF : Hid (∀ w, Pow w → Calls Tryd.prog 14 #[.int .i64 v] w fun e w' => e = .returned (.tuple #[.string ⟨#[]⟩, .bool false]) ∧ Below w.heap.size w w') := Lib.hid (fun w hw => by
          have := FmtAmt.impl v w hw
          unfold fmtT fmtB at this
          rw [if_neg hA, decide_eq_false hA] at this
          exact this)
        clear hA
        go_enter Tryd.func15, Tryd.ntmps15
        go_wp2_with (first
          | (go_at_call 38; refine HS.out.mono ?_; rintro e w1 ⟨rfl, hb1⟩)
          | (go_at_call 37; refine (atoiOk t HZ.out v HV.out _).mono ?_; rintro e w2 ⟨rfl, hb2⟩)
          | (go_at_call 14; refine (HF.out _ ((HL.out.below hb1).below hb2).tab).mono ?_; rintro e w3 ⟨rfl, hb3⟩))
        go_ret2
        have b2 : Below w.heap.size w w2 := hb1.trans (hb2.mono hb1.size)
        exact ⟨.inr ⟨fun x hx => HA.out (by have e := HU.out x hx; rw [← e]; exact hx.1), rfl⟩, b2.trans (hb3.mono b2.size)⟩
    · have HB : Hid (∀ v, Lib.atoiAll t.data.toList ≠ .ok v) := Lib.hid (fun v h => hok ⟨v, h⟩)
      clear hok
      go_enter Tryd.func15, Tryd.ntmps15
      go_wp2_with (first
        | (go_at_call 38; refine HS.out.mono ?_; rintro e w1 ⟨rfl, hb1⟩)
        | (go_at_call 37; refine (atoiBad t HZ.out HB.out _ (HL.out.below hb1)).mono ?_; rintro e w2 ⟨v, y, q, rfl, hb2⟩))
      go_ret2
      exact ⟨.inr ⟨fun x hx => HB.out x (HK.out x hx), rfl⟩, hb1.trans (hb2.mono hb1.size)⟩

/-- Two answers to one text are one. -/
theorem ans_one {s : ByteArray} {e e' : Ending} (h : Ans s e) (h' : Ans s e') : e = e' := by
  rcases h with ⟨x, hx, rfl⟩ | ⟨hn, rfl⟩
  · rcases h' with ⟨y, hy, rfl⟩ | ⟨hn, _⟩
    · rw [hx.uniq hy]
    · exact absurd hx (hn x)
  · rcases h' with ⟨y, hy, _⟩ | ⟨_, rfl⟩
    · exact absurd hy (hn y)
    · rfl

theorem ans_is (s : ByteArray) : ∃ (v : Int) (b : Bool), Ans s (.returned (.tuple #[.int .i64 v, .bool b])) := by
  by_cases h : ∃ x, IsT s x
  · obtain ⟨x, hx⟩ := h; exact ⟨x, true, .inl ⟨x, hx, rfl⟩⟩
  · exact ⟨0, false, .inr ⟨fun x hx => h ⟨x, hx⟩, rfl⟩⟩

theorem specAt {s : ByteArray} {v : Int} {b : Bool} (h : Ans s (.returned (.tuple #[.int .i64 v, .bool b]))) (w : World) (hs : s.size ≤ maxLen) :
    Calls Tryd.prog 28 #[.string s] w fun e w' => e = .returned (.tuple #[.int .i64 v, .bool b]) ∧ ∃ m, w' = w.drewN m :=
  (spec s w hs).mono fun _ _ ⟨ha, hw⟩ => ⟨ans_one ha h, hw⟩

theorem implAt {s : ByteArray} {v : Int} {b : Bool} (h : Ans s (.returned (.tuple #[.int .i64 v, .bool b]))) (w : World) (hs : s.size ≤ maxLen) (hL : Lies w) :
    Calls Tryd.prog 15 #[.string s] w fun e w' => e = .returned (.tuple #[.int .i64 v, .bool b]) ∧ Below w.heap.size w w' :=
  (impl s w hs hL).mono fun _ _ ⟨ha, hw⟩ => ⟨ans_one ha h, hw⟩

set_option maxHeartbeats 400000 in
theorem walk (s : ByteArray) (hs : s.size ≤ maxLen) (w : World) (hL : Lies w) :
    Calls Tryd.prog 7 #[.string s] w fun e w' => e = .returned (.bool true) ∧ Below w.heap.size w w' := by
  have HL : Hid (∀ m, Lies (w.drewN m)) := Lib.hid (fun m => hL.below (below_drewN (Below.refl _ _) m))
  have HS := Lib.hid hs
  unfold maxLen at hs
  clear hL
  by_cases h1 : 1048576 < s.size
  · go_enter Tryd.func7, Tryd.ntmps7
    go_wp2
    go_ret
    exact ⟨rfl, Below.refl _ _⟩
  · obtain ⟨v, b, ha⟩ := ans_is s
    have HA := Lib.hid ha
    clear ha
    go_enter Tryd.func7, Tryd.ntmps7
    go_wp2_with (first
      | (go_at_call 28; refine (specAt HA.out _ HS.out).mono ?_; rintro e w' ⟨rfl, m, rfl⟩)
      | (go_at_call 15; refine (implAt HA.out _ HS.out (HL.out _)).mono ?_; rintro e w' ⟨rfl, hb⟩))
    all_goals go_ret
    all_goals exact ⟨rfl, (below_drewN (Below.refl _ _) _).trans hb⟩

end Go.Proofs.YthobejaiapdanaaDoor.ParseAmt
