/-
  What the draws of amounts return, whatever the code.
-/
import Derived.Test.YthobejaiapdanaaDoorCurInt
import Derived.Test.YthobejaiapdanaaDoorFmtAmt
import Derived.Test.YthobejaiapdanaaDoorDrawFrac
namespace Go.Proofs.YthobejaiapdanaaDoor.DrawAmt
open Go.RowKit Go.Proofs.YthobejaiapdanaaDoor.Cur Go.Proofs.YthobejaiapdanaaDoor.FmtPlain Go.Proofs.YthobejaiapdanaaDoor.FmtAmt

/-- An int within d is drawn. -/
def numAns (d : Int) (c g : Nat) (A : Option Addr) (n cap k B : Nat) (w : World) (e : Ending) (w' : World) : Prop :=
  ∃ (z : Int) (k' : Nat), e = .returned (.int .i64 z) ∧ -d ≤ z ∧ z ≤ d ∧ k' ≤ k + c ∧ Cur.Ok w' g A n cap k' B ∧ w.grownBy w' (some g)

set_option maxHeartbeats 2000000 in
theorem amount (g : Nat) (A : Option Addr) (n cap k B : Nat) (w : World) (h : Cur.Ok w g A n cap k B) (hk : k ≤ 999990) :
    Calls Tryd.prog 34 #[.pointer (some ⟨g, 0, none⟩)] w (numAns 1000000001 4 g A n cap k B w) := by
  have HH := Lib.hid h
  clear h
  go_enter Tryd.func34, Tryd.ntmps34
  go_wp2_with (go_at_call 53; refine (pick 12 (by omega) (by omega) g A n cap k B _ HH.out (by omega)).mono ?_; rintro e w1 ⟨r1, k1, rfl, hr1, hk1, hok1, hg1⟩; refine Hid.out ?_)
  refine Lib.hid ?_
  have H1 := Lib.hid (And.intro hok1 hg1)
  have N1 : Hid (w1.heap.size ≠ g) := Lib.hid (by have := hok1.lt; omega)
  clear hok1 hg1
  by_cases h0 : r1 = 0
  · have q0 : ((r1 : Int) == 0) = true := by simp <;> omega
    clear h0
    go_wp2_with (go_at_call 43; refine (among w1.heap.size _ 1000000001 4 rfl (by omega) (by omega) g A n cap k1 B _ (H1.out.1.alloc _) (by omega) (heap_alloc_new w1 _) N1.out (by intro v hv; simp at hv; rcases hv with h | h | h | h <;> exact ⟨_, h, by omega, by omega⟩)).mono ?_; rintro e w2 ⟨z2, k2, rfl, hz2, hy2, hk2, hok2, hg2⟩)
    go_ret
    exact ⟨z2, k2, rfl, hz2, hy2, by omega, hok2, grow2 H1.out.2 (grow2 (World.grownBy_alloc w1 _ _) hg2)⟩
  · have q0 : ((r1 : Int) == 0) = false := by simp <;> omega
    by_cases h1 : r1 = 1
    · have q1 : ((r1 : Int) == 1) = true := by simp <;> omega
      clear h0 h1
      go_wp2_with (go_at_call 53; refine (pick 2000 (by omega) (by omega) g A n cap k1 B w1 H1.out.1 (by omega)).mono ?_; rintro e w2 ⟨r2, k2, rfl, hr2, hk2, hok2, hg2⟩)
      go_ret
      exact ⟨-(r2 : Int), k2, rfl, by omega, by omega, by omega, hok2, grow2 H1.out.2 hg2⟩
    · have q1 : ((r1 : Int) == 1) = false := by simp <;> omega
      by_cases h2 : r1 = 2
      · have q2 : ((r1 : Int) == 2) = true := by simp <;> omega
        clear h0 h1 h2
        go_wp2_with (go_at_call 53; refine (pick 60000 (by omega) (by omega) g A n cap k1 B w1 H1.out.1 (by omega)).mono ?_; rintro e w2 ⟨r2, k2, rfl, hr2, hk2, hok2, hg2⟩)
        go_ret
        exact ⟨(r2 : Int) * 101, k2, rfl, by omega, by omega, by omega, hok2, grow2 H1.out.2 hg2⟩
      · have q2 : ((r1 : Int) == 2) = false := by simp <;> omega
        clear h0 h1 h2
        go_wp2_with (go_at_call 53; refine (pick 2000 (by omega) (by omega) g A n cap k1 B w1 H1.out.1 (by omega)).mono ?_; rintro e w2 ⟨r2, k2, rfl, hr2, hk2, hok2, hg2⟩)
        go_ret
        exact ⟨(r2 : Int), k2, rfl, by omega, by omega, by omega, hok2, grow2 H1.out.2 hg2⟩

set_option maxHeartbeats 1000000 in
theorem drawFormat (A : Option Addr) (n cap : Nat) (w : World) (hn : n ≤ 1000000) (hA : Bytes w w.heap.size A n) :
    Calls Tryd.prog 13 #[.slice A n cap] w fun e w' => ∃ z : Int, e = .returned (.int .i64 z) ∧ -1000000001 ≤ z ∧ z ≤ 1000000001 ∧ Below w.heap.size w w' := by
  have HO := Lib.hid (Ok.new w A n cap hn hA)
  clear hA
  go_enter Tryd.func13, Tryd.ntmps13
  go_wp2_with (go_at_call 34; refine (amount w.heap.size A n cap 0 w.heap.size _ HO.out (by omega)).mono ?_; rintro e w1 ⟨z, k', rfl, h0, h1, hk', hok, hg⟩)
  go_ret
  exact ⟨z, rfl, h0, h1, below_cur hg⟩

/-- A text of at most d letters is drawn. -/
def txtAns (d c g : Nat) (A : Option Addr) (n cap k B : Nat) (w : World) (e : Ending) (w' : World) : Prop :=
  ∃ (s : ByteArray) (k' : Nat), e = .returned (.string s) ∧ s.size ≤ d ∧ k' ≤ k + c ∧ Cur.Ok w' g A n cap k' B ∧ w.grownBy w' (some g)

theorem from_ (s : ByteArray) (i : Nat) (h : i ≤ s.size) (w : World) : (Instr.slice 9 (.string s) (some (.int .i64 (i : Int))) none none).run Tryd.prog w = .ok (.string (s.extract i s.size)) w := by
  rw [run_slice_string_l w 9 s Tryd.underlying9 .i64 (i : Int) (by omega) (by omega), Int.toNat_natCast]
theorem to_ (s : ByteArray) (i : Nat) (h : i ≤ s.size) (w : World) : (Instr.slice 9 (.string s) none (some (.int .i64 (i : Int))) none).run Tryd.prog w = .ok (.string (s.extract 0 i)) w := by
  rw [run_slice_string_h w 9 s Tryd.underlying9 .i64 (i : Int) (by omega) (by omega), Int.toNat_natCast]

theorem okDrew {w : World} {g : Nat} {A : Option Addr} {n cap k B : Nat} (h : Cur.Ok w g A n cap k B) (m : Nat) : Cur.Ok (w.drewN m) g A n cap k B :=
  DrawFrac.okBelow h h.lt (below_drewN (Below.refl _ _) m)
theorem growDrew {w0 w : World} {r : Option Nat} (h : w0.grownBy w r) (m : Nat) : w0.grownBy (w.drewN m) r :=
  DrawFrac.grow_below h (below_drewN (Below.refl w0.heap.size w) m) (Nat.le_refl _)

set_option maxHeartbeats 4000000 in
theorem spoilt (t : ByteArray) (ht0 : 1 ≤ t.size) (ht : t.size ≤ 100) (g : Nat) (A : Option Addr) (n cap k B : Nat) (w : World) (h : Cur.Ok w g A n cap k B) (hk : k ≤ 999980) :
    Calls Tryd.prog 41 #[.pointer (some ⟨g, 0, none⟩), .string t, .string ⟨#[48, 49, 50, 51, 46, 45, 44]⟩] w (txtAns 201 8 g A n cap k B w) := by
  have HH := Lib.hid h
  have hne : ¬ t.toList = [] := by
    intro e
    have : t.data.toList.length = 0 := by rw [← ByteArray.toList_eq, e]; rfl
    have h2 : t.size = t.data.toList.length := (Array.length_toList (xs := t.data)).symm
    omega
  have hne2 : t.toList.isEmpty = false := by simpa using hne
  clear h
  go_enter Tryd.func41, Tryd.ntmps41
  go_wp2_with (go_at_call 53; refine (pick (t.size : Int) (by omega) (by omega) g A n cap k B _ HH.out (by omega)).mono ?_; rintro e w1 ⟨r1, k1, rfl, hr1, hk1, hok1, hg1⟩; refine Hid.out ?_)
  refine Lib.hid ?_
  have H1 := Lib.hid (And.intro hok1 hg1)
  clear hok1 hg1
  go_wp2_with (go_at_call 53; refine (pick 7 (by omega) (by omega) g A n cap k1 B w1 H1.out.1 (by omega)).mono ?_; rintro e w2 ⟨r2, k2, rfl, hr2, hk2, hok2, hg2⟩; have S1 := Lib.hid (from_ ⟨#[48, 49, 50, 51, 46, 45, 44]⟩ r2 (by show r2 ≤ 7; omega)); refine Hid.out ?_)
  refine Lib.hid ?_
  have G2 := Lib.hid (grow2 H1.out.2 hg2)
  have O2 := Lib.hid hok2
  clear hok2 hg2
  have s1 := S1.out
  have hsz : ((⟨#[48, 49, 50, 51, 46, 45, 44]⟩ : ByteArray).extract r2 (⟨#[48, 49, 50, 51, 46, 45, 44]⟩ : ByteArray).size).size = 7 - r2 := by
    rw [ByteArray.size_extract]; show min 7 7 - r2 = _; omega
  generalize (⟨#[48, 49, 50, 51, 46, 45, 44]⟩ : ByteArray).extract r2 (⟨#[48, 49, 50, 51, 46, 45, 44]⟩ : ByteArray).size = a1 at *
  have s2 : ∀ w, (Instr.slice 9 (.string a1) none (some (.int .i64 1)) none).run Tryd.prog w = .ok (.string (a1.extract 0 1)) w := fun w => to_ a1 1 (by omega) w
  have hb1 : (a1.extract 0 1).size ≤ 1 := by rw [ByteArray.size_extract]; omega
  generalize a1.extract 0 1 = b1 at *
  clear S1 hsz
  go_wp2_with (go_at_call 53; refine (pick 3 (by omega) (by omega) g A n cap k2 B w2 O2.out (by omega)).mono ?_; rintro e w3 ⟨r3, k3, rfl, hr3, hk3, hok3, hg3⟩; refine Hid.out ?_)
  refine Lib.hid ?_
  have G3 := Lib.hid (grow2 G2.out hg3)
  have O3 := Lib.hid hok3
  clear hok3 hg3 s1 s2
  have t1 := to_ t r1 (by omega)
  have t2 := from_ t r1 (by omega)
  have t3 : ∀ w, (Instr.slice 9 (.string t) (some (.int .i64 ((r1 : Int) + 1))) none none).run Tryd.prog w = .ok (.string (t.extract (r1 + 1) t.size)) w := fun w => from_ t (r1 + 1) (by omega) w
  have z1 : (t.extract 0 r1).size ≤ 100 := by rw [ByteArray.size_extract]; omega
  have z2 : (t.extract r1 t.size).size ≤ 100 := by rw [ByteArray.size_extract]; omega
  have z3 : (t.extract (r1 + 1) t.size).size ≤ 100 := by rw [ByteArray.size_extract]; omega
  generalize t.extract 0 r1 = x1 at *
  generalize t.extract r1 t.size = x2 at *
  generalize t.extract (r1 + 1) t.size = x3 at *
  have e4 : IntKind.i64.wrap ((r1 : Int) + 1) = (r1 : Int) + 1 := IntWalk.i64_in _ (by omega)
  by_cases h0 : r3 = 0
  · have q0 : ((r3 : Int) == 0) = true := by simp <;> omega
    clear h0
    have d1 : ∀ w, (Op.stringOp .add x1 b1).run Tryd.prog w = .ok (.string (x1 ++ b1)) w := fun w => run_string_add_sum w _ _ (by omega)
    have y1 : (x1 ++ b1).size ≤ 101 := by rw [ByteArray.size_append]; omega
    have HY : Hid (((x1 ++ b1) ++ x2).size ≤ 201) := Lib.hid (by rw [ByteArray.size_append]; omega)
    generalize x1 ++ b1 = c1 at *
    have d2 : ∀ w, (Op.stringOp .add c1 x2).run Tryd.prog w = .ok (.string (c1 ++ x2)) w := fun w => run_string_add_sum w _ _ (by omega)
    go_wp2_with fail
    go_quiet (fail)
    go_wp2_with fail
    go_ret
    exact ⟨_, k3, rfl, HY.out, by omega, okDrew O3.out _, growDrew G3.out _⟩
  · have q0 : ((r3 : Int) == 0) = false := by simp <;> omega
    by_cases h1 : r3 = 1
    · have q1 : ((r3 : Int) == 1) = true := by simp <;> omega
      clear h0 h1
      have d1 : ∀ w, (Op.stringOp .add x1 b1).run Tryd.prog w = .ok (.string (x1 ++ b1)) w := fun w => run_string_add_sum w _ _ (by omega)
      have y1 : (x1 ++ b1).size ≤ 101 := by rw [ByteArray.size_append]; omega
      have HY : Hid (((x1 ++ b1) ++ x3).size ≤ 201) := Lib.hid (by rw [ByteArray.size_append]; omega)
      generalize x1 ++ b1 = c1 at *
      have d2 : ∀ w, (Op.stringOp .add c1 x3).run Tryd.prog w = .ok (.string (c1 ++ x3)) w := fun w => run_string_add_sum w _ _ (by omega)
      go_wp2_with fail
      go_quiet (fail)
      go_wp2_with fail
      go_ret
      exact ⟨_, k3, rfl, HY.out, by omega, okDrew O3.out _, growDrew G3.out _⟩
    · have q1 : ((r3 : Int) == 1) = false := by simp <;> omega
      clear h0 h1
      have d2 : ∀ w, (Op.stringOp .add x1 x3).run Tryd.prog w = .ok (.string (x1 ++ x3)) w := fun w => run_string_add_sum w _ _ (by omega)
      have HY : Hid ((x1 ++ x3).size ≤ 201) := Lib.hid (by rw [ByteArray.size_append]; omega)
      go_wp2_with fail
      go_quiet (fail)
      go_wp2_with fail
      go_ret
      exact ⟨_, k3, rfl, HY.out, by omega, okDrew O3.out _, growDrew G3.out _⟩

theorem text_size (x : Int) (h0 : -2000000000 ≤ x) (h1 : x ≤ 2000000000) : 1 ≤ (⟨(text x).toArray⟩ : ByteArray).size ∧ (⟨(text x).toArray⟩ : ByteArray).size ≤ 100 := by
  rw [FmtPlain.size]
  have := dec_le (x.natAbs / 100) (by omega)
  unfold text
  split <;> simp [body, two] <;> omega

set_option maxHeartbeats 1000000 in
theorem drawParse (A : Option Addr) (n cap : Nat) (w : World) (hn : n ≤ 1000000) (hA : Bytes w w.heap.size A n) :
    Calls Tryd.prog 16 #[.slice A n cap] w fun e w' => ∃ s : ByteArray, e = .returned (.string s) ∧ s.size ≤ 201 ∧ Below w.heap.size w w' := by
  have HO := Lib.hid (Ok.new w A n cap hn hA)
  clear hA
  go_enter Tryd.func16, Tryd.ntmps16
  go_wp2_with (go_at_call 34; refine (amount w.heap.size A n cap 0 w.heap.size _ HO.out (by omega)).mono ?_; rintro e w1 ⟨z, k1, rfl, h0, h1, hk1, hok, hg⟩; refine Hid.out ?_)
  refine Lib.hid ?_
  have O1 := Lib.hid hok
  have G1 := Lib.hid hg
  have HZ := Lib.hid (text_size z (by omega) (by omega))
  clear hok hg
  obtain ⟨t, ht⟩ : ∃ t : ByteArray, (⟨(text z).toArray⟩ : ByteArray) = t := ⟨_, rfl⟩
  have HF : Hid (∀ w, Calls Tryd.prog 39 #[.int .i64 z] w fun e w' => e = .returned (.string t) ∧ ∃ m, w' = w.drewN m) := Lib.hid (fun w => by rw [← ht]; exact l2FormatWide z (by omega) (by omega) w)
  rw [ht] at HZ
  clear ht
  go_wp2_with (first
    | (go_at_call 39; refine (HF.out _).mono ?_; rintro e w2 ⟨rfl, m, rfl⟩)
    | (go_at_call 40; refine (one 3 (by omega) (by omega) w.heap.size A n cap k1 w.heap.size _ (okDrew O1.out m) (by omega)).mono ?_; rintro e w2 ⟨f, k2, rfl, hk2, hok2, hg2⟩; refine Hid.out ?_))
  refine Lib.hid ?_
  have O2 := Lib.hid hok2
  have G2 := Lib.hid (grow2 (growDrew G1.out m) hg2)
  clear hok2 hg2
  cases f with
  | true =>
    go_wp2_with (go_at_call 41; refine (spoilt t HZ.out.1 HZ.out.2 w.heap.size A n cap k2 w.heap.size _ O2.out (by omega)).mono ?_; rintro e w3 ⟨s, k3, rfl, hs, hk3, hok3, hg3⟩)
    go_ret
    exact ⟨s, rfl, hs, below_cur (grow2 G2.out hg3)⟩
  | false =>
    go_wp2_with fail
    go_ret
    exact ⟨t, rfl, by have := HZ.out.2; omega, below_cur G2.out⟩

end Go.Proofs.YthobejaiapdanaaDoor.DrawAmt
