/-
  ParseDate of the program.
-/
import Derived.Test.YtlaogladhadliaaGreatDoorDPlain
import Derived.Test.YtlaogladhadliaaGreatDoorLiesD
import Derived.Test.YtlaogladhadliaaGreatDoorFmtDate
namespace Go.Proofs.YtlaogladhadliaaGreatDoor.PImpl
open Go.RowKit Go.Proofs.YtlaogladhadliaaGreatDoor.Cal Go.Proofs.YtlaogladhadliaaGreatDoor.Tab Go.Proofs.YtlaogladhadliaaGreatDoor.Wd Go.Proofs.YtlaogladhadliaaGreatDoor.Len Go.Proofs.YtlaogladhadliaaGreatDoor.Valid Go.Proofs.YtlaogladhadliaaGreatDoor.DayOf Go.Proofs.YtlaogladhadliaaGreatDoor.DateOf Go.Proofs.YtlaogladhadliaaGreatDoor.FmtPlain Go.Proofs.YtlaogladhadliaaGreatDoor.LiesD Go.Proofs.YtlaogladhadliaaGreatDoor.DPlain
set_option linter.unusedVariables false
set_option linter.unusedSimpArgs false

/-- The answer. -/
def Ans (s : ByteArray) (e : Ending) : Prop :=
  (∃ x, Is s.data.toList x ∧ e = .returned (.tuple #[.int .i64 x, .bool true])) ∨ ((∀ x, ¬ Is s.data.toList x) ∧ e = .returned (.tuple #[.int .i64 0, .bool false]))

theorem size_len (s : ByteArray) : s.size = s.data.toList.length := (Array.length_toList (xs := s.data)).symm

theorem short (s : ByteArray) (h : s.size ≠ 10) (hs : s.size ≤ 2000000) (w : World) :
    Calls Tryz.prog 69 #[.string s] w fun e w' => Ans s e ∧ Below w.heap.size w w' := by
  have h1 : ((s.size : Int) == 10) = false := by simp; omega
  have h2 : ((s.size : Int) != 10) = true := by simp; omega
  have HN : Hid (∀ x, ¬ Is s.data.toList x) := Lib.hid fun x hx => h (by rw [size_len]; exact hx.len)
  clear h
  go_enter Tryz.func69, Tryz.ntmps69
  go_wp2_with fail
  go_ret2
  exact ⟨.inr ⟨HN.out, rfl⟩, Below.refl _ _⟩

theorem ix0 (p1 p2 p3 : ByteArray) (w : World) : (Instr.index 84 (.agg #[.string p1, .string p2, .string p3]) (.int .i64 0)).run Tryz.prog w = .ok (.string p1) w := by
  simp [Instr.index, run_underlying Tryz.underlying84, asIntOf, go_sem]
theorem ix1 (p1 p2 p3 : ByteArray) (w : World) : (Instr.index 84 (.agg #[.string p1, .string p2, .string p3]) (.int .i64 1)).run Tryz.prog w = .ok (.string p2) w := by
  simp [Instr.index, run_underlying Tryz.underlying84, asIntOf, go_sem]
theorem ix2 (p1 p2 p3 : ByteArray) (w : World) : (Instr.index 84 (.agg #[.string p1, .string p2, .string p3]) (.int .i64 2)).run Tryz.prog w = .ok (.string p3) w := by
  simp [Instr.index, run_underlying Tryz.underlying84, asIntOf, go_sem]

/-- What has been read behind k rounds. -/
def St (S : Nat) (l1 l2 l3 : List UInt8) (k : Nat) (w : World) : Prop :=
  (k = 0 ∧ Box S w 0 0 0) ∨ (k = 1 ∧ ∃ y, Lib.atoiAll l1 = .ok y ∧ Box S w y 0 0) ∨ (k = 2 ∧ ∃ y m, Lib.atoiAll l1 = .ok y ∧ Lib.atoiAll l2 = .ok m ∧ Box S w y m 0) ∨
    (k = 3 ∧ ∃ y m d, Lib.atoiAll l1 = .ok y ∧ Lib.atoiAll l2 = .ok m ∧ Lib.atoiAll l3 = .ok d ∧ Box S w y m d)

set_option maxHeartbeats 4000000 in
theorem tenAux (s p1 p2 p3 : ByteArray) (w : World) (hT : Tab w) (hL : Lies w) (hsz : s.size = 10) (z1 : p1.size ≤ 10) (z2 : p2.size ≤ 10) (z3 : p3.size ≤ 10)
    (s1 : ∀ w, (Instr.slice 9 (.string s) none (some (.int .i64 4)) none).run Tryz.prog w = .ok (.string p1) w)
    (s2 : ∀ w, (Instr.slice 9 (.string s) (some (.int .i64 5)) (some (.int .i64 7)) none).run Tryz.prog w = .ok (.string p2) w)
    (s3 : ∀ w, (Instr.slice 9 (.string s) (some (.int .i64 8)) none none).run Tryz.prog w = .ok (.string p3) w)
    (HN1 : Hid ((∀ v, Lib.atoiAll p1.data.toList ≠ .ok v) → ∀ x, ¬ Is s.data.toList x)) (HN2 : Hid ((∀ v, Lib.atoiAll p2.data.toList ≠ .ok v) → ∀ x, ¬ Is s.data.toList x)) (HN3 : Hid ((∀ v, Lib.atoiAll p3.data.toList ≠ .ok v) → ∀ x, ¬ Is s.data.toList x))
    (HNV : Hid (∀ y m d, Lib.atoiAll p1.data.toList = .ok y → Lib.atoiAll p2.data.toList = .ok m → Lib.atoiAll p3.data.toList = .ok d → (¬ Vld y m d ∨ s.data.toList ≠ DPlain.text y m d) → ∀ x, ¬ Is s.data.toList x)) :
    Calls Tryz.prog 69 #[.string s] w fun e w' => Ans s e ∧ Below w.heap.size w w' := by
  have HTb : Hid (∀ v, Below w.heap.size w v → Tab v) := Lib.hid fun v hv => hT.below hv
  have HLb : Hid (∀ v, Below w.heap.size w v → Lies v) := Lib.hid fun v hv => hL.below hv
  have B0 := Lib.hid (Box.new w 0 0 0 83)
  have i0 := ix0 p1 p2 p3
  have i1 := ix1 p1 p2 p3
  have i2 := ix2 p1 p2 p3
  clear hT hL
  go_enter Tryz.func69, Tryz.ntmps69
  go_wp2_with fail
  go_quiet (fail)
  clear s1 s2 s3
  go_wp2_with fail
  go_loopg [22] 4 (fun g i wr => ∃ k : Nat, g + k = 4 ∧ i = .int .i64 k ∧ Hid (St w.heap.size p1.data.toList p2.data.toList p3.data.toList k wr) ∧ Hid (Below w.heap.size w wr))
  case atStart => exact ⟨0, rfl, rfl, Lib.hid (.inl ⟨rfl, B0.out.below (below_drewN (Below.refl _ _) _)⟩), Lib.hid (below_drewN (below1 _ _) _)⟩
  case round =>
    obtain ⟨k, g1, rfl, HS, HW⟩ := hrel
    clear B0
    rcases HS.out with ⟨hk, hB⟩ | ⟨hk, y, r1, hB⟩ | ⟨hk, y, m, r1, r2, hB⟩ | ⟨hk, y, m, d, r1, r2, r3, hB⟩
    · subst hk
      obtain ⟨b1, b2, b3, b4, b5, b6, b7⟩ := id hB
      have HB := Lib.hid hB
      clear hB HS
      by_cases h : ∃ v, Lib.atoiAll p1.data.toList = .ok v
      · obtain ⟨v, hv⟩ := h
        have HV := Lib.hid hv
        clear hv
        go_wp2_with (go_at_call 75; refine (atoiOk p1 (by omega) v HV.out wr).mono ?_; rintro e w1 ⟨rfl, hb1⟩; refine Hid.out ?_)
        refine Lib.hid ?_
        have HB1 := Lib.hid (HB.out.below hb1)
        have HW1 : Hid (Below w.heap.size w w1) := Lib.hid (HW.out.trans (hb1.mono HW.out.size))
        obtain ⟨c1, c2, c3, c4, c5, c6, c7⟩ := HB1.out
        clear hb1 b1 b2 b3 b4 b5 b6 b7 HB
        go_wp2_with fail
        go_roundg (gk - 1)
        case measure => omega
        case rel => exact ⟨1, by omega, rfl, Lib.hid (.inr (.inl ⟨rfl, v, HV.out, Box.set0 HB1.out v⟩)), Lib.hid (HW1.out.setCell (by simp) _)⟩
      · have HX := Lib.hid (HN1.out fun v hv => h ⟨v, hv⟩)
        have HY : Hid (∀ v, Lib.atoiAll p1.data.toList ≠ .ok v) := Lib.hid fun v hv => h ⟨v, hv⟩
        have HLw : Hid (Lies wr) := Lib.hid (HLb.out _ HW.out)
        clear h
        go_wp2_with (go_at_call 75; refine (atoiBad p1 (by omega) HY.out wr HLw.out).mono ?_; rintro e w1 ⟨v, t, q, rfl, hb1⟩; refine Hid.out ?_)
        refine Lib.hid ?_
        have HW1 : Hid (Below w.heap.size w w1) := Lib.hid (HW.out.trans (hb1.mono HW.out.size))
        clear hb1 b1 b2 b3 b4 b5 b6 b7 HB
        go_wp2_with fail
        go_ret2
        exact ⟨.inr ⟨HX.out, rfl⟩, HW1.out⟩
    · subst hk
      obtain ⟨b1, b2, b3, b4, b5, b6, b7⟩ := id hB
      have HB := Lib.hid hB
      clear hB HS
      have R1 := Lib.hid r1
      clear r1
      by_cases h : ∃ v, Lib.atoiAll p2.data.toList = .ok v
      · obtain ⟨v, hv⟩ := h
        have HV := Lib.hid hv
        clear hv
        go_wp2_with (go_at_call 75; refine (atoiOk p2 (by omega) v HV.out wr).mono ?_; rintro e w1 ⟨rfl, hb1⟩; refine Hid.out ?_)
        refine Lib.hid ?_
        have HB1 := Lib.hid (HB.out.below hb1)
        have HW1 : Hid (Below w.heap.size w w1) := Lib.hid (HW.out.trans (hb1.mono HW.out.size))
        obtain ⟨c1, c2, c3, c4, c5, c6, c7⟩ := HB1.out
        clear hb1 b1 b2 b3 b4 b5 b6 b7 HB
        go_wp2_with fail
        go_roundg (gk - 1)
        case measure => omega
        case rel => exact ⟨2, by omega, rfl, Lib.hid (.inr (.inr (.inl ⟨rfl, y, v, R1.out, HV.out, Box.set1 HB1.out v⟩))), Lib.hid (HW1.out.setCell (by simp) _)⟩
      · have HX := Lib.hid (HN2.out fun v hv => h ⟨v, hv⟩)
        have HY : Hid (∀ v, Lib.atoiAll p2.data.toList ≠ .ok v) := Lib.hid fun v hv => h ⟨v, hv⟩
        have HLw : Hid (Lies wr) := Lib.hid (HLb.out _ HW.out)
        clear h
        go_wp2_with (go_at_call 75; refine (atoiBad p2 (by omega) HY.out wr HLw.out).mono ?_; rintro e w1 ⟨v, t, q, rfl, hb1⟩; refine Hid.out ?_)
        refine Lib.hid ?_
        have HW1 : Hid (Below w.heap.size w w1) := Lib.hid (HW.out.trans (hb1.mono HW.out.size))
        clear hb1 b1 b2 b3 b4 b5 b6 b7 HB
        go_wp2_with fail
        go_ret2
        exact ⟨.inr ⟨HX.out, rfl⟩, HW1.out⟩
    · subst hk
      obtain ⟨b1, b2, b3, b4, b5, b6, b7⟩ := id hB
      have HB := Lib.hid hB
      clear hB HS
      have R1 := Lib.hid r1
      have R2 := Lib.hid r2
      clear r1 r2
      by_cases h : ∃ v, Lib.atoiAll p3.data.toList = .ok v
      · obtain ⟨v, hv⟩ := h
        have HV := Lib.hid hv
        clear hv
        go_wp2_with (go_at_call 75; refine (atoiOk p3 (by omega) v HV.out wr).mono ?_; rintro e w1 ⟨rfl, hb1⟩; refine Hid.out ?_)
        refine Lib.hid ?_
        have HB1 := Lib.hid (HB.out.below hb1)
        have HW1 : Hid (Below w.heap.size w w1) := Lib.hid (HW.out.trans (hb1.mono HW.out.size))
        obtain ⟨c1, c2, c3, c4, c5, c6, c7⟩ := HB1.out
        clear hb1 b1 b2 b3 b4 b5 b6 b7 HB
        go_wp2_with fail
        go_roundg (gk - 1)
        case measure => omega
        case rel => exact ⟨3, by omega, rfl, Lib.hid (.inr (.inr (.inr ⟨rfl, y, m, v, R1.out, R2.out, HV.out, Box.set2 HB1.out v⟩))), Lib.hid (HW1.out.setCell (by simp) _)⟩
      · have HX := Lib.hid (HN3.out fun v hv => h ⟨v, hv⟩)
        have HY : Hid (∀ v, Lib.atoiAll p3.data.toList ≠ .ok v) := Lib.hid fun v hv => h ⟨v, hv⟩
        have HLw : Hid (Lies wr) := Lib.hid (HLb.out _ HW.out)
        clear h
        go_wp2_with (go_at_call 75; refine (atoiBad p3 (by omega) HY.out wr HLw.out).mono ?_; rintro e w1 ⟨v, t, q, rfl, hb1⟩; refine Hid.out ?_)
        refine Lib.hid ?_
        have HW1 : Hid (Below w.heap.size w w1) := Lib.hid (HW.out.trans (hb1.mono HW.out.size))
        clear hb1 b1 b2 b3 b4 b5 b6 b7 HB
        go_wp2_with fail
        go_ret2
        exact ⟨.inr ⟨HX.out, rfl⟩, HW1.out⟩
    · subst hk
      obtain ⟨b1, b2, b3, b4, b5, b6, b7⟩ := id hB
      have HB := Lib.hid hB
      have R1 := Lib.hid r1
      have R2 := Lib.hid r2
      have R3 := Lib.hid r3
      have HTw : Hid (Tab wr) := Lib.hid (HTb.out _ HW.out)
      clear hB HS r1 r2 r3
      by_cases h : Vld y m d
      · have HV := Lib.hid h
        have HX := Lib.hid (HNV.out y m d R1.out R2.out R3.out)
        have HI := Lib.hid (Is.num h)
        have HC : Hid (∀ w, Tab w → Calls Tryz.prog 76 #[.agg #[.int .i64 y, .int .i64 m, .int .i64 d]] w fun e w' => e = .returned (.tuple #[.int .i64 (num y m d), .bool true]) ∧ Below w.heap.size w w') := Lib.hid fun w hw => DayOf.implYes y m d HV.out w hw
        have HF : Hid (∀ w, Tab w → FmtDate.Pow w → Calls Tryz.prog 49 #[.int .i64 (num y m d)] w fun e w' => e = .returned (.tuple #[.string ⟨(DPlain.text y m d).toArray⟩, .bool true]) ∧ Below w.heap.size w w') := Lib.hid fun w hw hp => by
          have := FmtDate.implYes (num y m d) (num_day HV.out) w hw hp
          obtain ⟨e1, e2, e3⟩ := date_of HV.out
          rw [← e1, ← e2, ← e3] at this
          exact this
        clear h
        generalize num y m d = N at *
        generalize DPlain.text y m d = T at *
        go_wp2_with (go_at_call 76; refine (HC.out wr HTw.out).mono ?_; rintro e w1 ⟨rfl, hb1⟩; refine Hid.out ?_)
        refine Lib.hid ?_
        have HW1 : Hid (Below w.heap.size w w1) := Lib.hid (HW.out.trans (hb1.mono HW.out.size))
        have HT1 : Hid (Tab w1) := Lib.hid (HTb.out _ HW1.out)
        have HP1 : Hid (FmtDate.Pow w1) := Lib.hid (HLb.out _ HW1.out).tab
        clear hb1 b1 b2 b3 b4 b5 b6 b7 HB
        go_wp2_with (go_at_call 49; refine (HF.out w1 HT1.out HP1.out).mono ?_; rintro e w2 ⟨rfl, hb2⟩; refine Hid.out ?_)
        refine Lib.hid ?_
        have HW2 : Hid (Below w.heap.size w w2) := Lib.hid (HW1.out.trans (hb2.mono HW1.out.size))
        clear hb2
        by_cases ht : s.data.toList = T
        · have q1 : (!T == s.toList) = false := by rw [← ht, ← ByteArray.toList_eq]; simp
          have HE : Hid (Is s.data.toList N) := Lib.hid (by rw [ht]; exact HI.out)
          clear ht
          go_wp2_with fail
          go_ret2
          exact ⟨.inl ⟨N, HE.out, rfl⟩, HW2.out⟩
        · have q1 : (!T == s.toList) = true := by rw [Bool.not_eq_true', beq_eq_false_iff_ne]; intro e; exact ht (by rw [e, ByteArray.toList_eq])
          have HE := Lib.hid (HX.out (.inr ht))
          clear ht
          go_wp2_with fail
          go_ret2
          exact ⟨.inr ⟨HE.out, rfl⟩, HW2.out⟩
      · have HX := Lib.hid (HNV.out y m d R1.out R2.out R3.out (.inl h))
        have HC := Lib.hid (fun w hw => DayOf.implNo y m d h w hw)
        clear h
        go_wp2_with (go_at_call 76; refine (HC.out wr HTw.out).mono ?_; rintro e w1 ⟨rfl, hb1⟩; refine Hid.out ?_)
        refine Lib.hid ?_
        have HW1 : Hid (Below w.heap.size w w1) := Lib.hid (HW.out.trans (hb1.mono HW.out.size))
        clear hb1 b1 b2 b3 b4 b5 b6 b7 HB
        go_wp2_with fail
        go_ret2
        exact ⟨.inr ⟨HX.out, rfl⟩, HW1.out⟩

theorem ten (a0 a1 a2 a3 a4 a5 a6 a7 a8 a9 : UInt8) (w : World) (hT : Tab w) (hL : Lies w) :
    Calls Tryz.prog 69 #[.string ⟨#[a0, a1, a2, a3, a4, a5, a6, a7, a8, a9]⟩] w fun e w' => Ans ⟨#[a0, a1, a2, a3, a4, a5, a6, a7, a8, a9]⟩ e ∧ Below w.heap.size w w' := by
  refine tenAux ⟨#[a0, a1, a2, a3, a4, a5, a6, a7, a8, a9]⟩ ⟨#[a0, a1, a2, a3]⟩ ⟨#[a5, a6]⟩ ⟨#[a8, a9]⟩ w hT hL rfl (by simp [ByteArray.size]) (by simp [ByteArray.size]) (by simp [ByteArray.size]) (fun w => ?_) (fun w => ?_) (fun w => ?_)
    (Lib.hid fun r => none_1 r) (Lib.hid fun r => none_2 r) (Lib.hid fun r => none_3 r) (Lib.hid fun y m d r1 r2 r3 h => none_of r1 r2 r3 h)
  all_goals
    simp [go_sem, ByteArray.size]
    rfl

theorem impl (s : ByteArray) (hs : s.size ≤ 2000000) (w : World) (hT : Tab w) (hL : Lies w) :
    Calls Tryz.prog 69 #[.string s] w fun e w' => Ans s e ∧ Below w.heap.size w w' := by
  by_cases h : s.size = 10
  · have hl : s.data.toList.length = 10 := by rw [← size_len]; exact h
    obtain ⟨a0, a1, a2, a3, a4, a5, a6, a7, a8, a9, e⟩ : ∃ a0 a1 a2 a3 a4 a5 a6 a7 a8 a9, s.data.toList = [a0, a1, a2, a3, a4, a5, a6, a7, a8, a9] := by
      match s.data.toList, hl with
      | [a0, a1, a2, a3, a4, a5, a6, a7, a8, a9], _ => exact ⟨_, _, _, _, _, _, _, _, _, _, rfl⟩
    obtain rfl : s = ⟨#[a0, a1, a2, a3, a4, a5, a6, a7, a8, a9]⟩ := by
      apply ByteArray.ext
      apply Array.toList_inj.1
      rw [e]
    exact ten a0 a1 a2 a3 a4 a5 a6 a7 a8 a9 w hT hL
  · exact short s h hs w

end Go.Proofs.YtlaogladhadliaaGreatDoor.PImpl
