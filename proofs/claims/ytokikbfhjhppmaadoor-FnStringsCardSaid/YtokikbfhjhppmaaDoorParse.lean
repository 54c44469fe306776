/-
  What ParseInt returns, of the model and of the program, at every string of at most a million letters.
-/
import Derived.Test.YtokikbfhjhppmaaDoorRead
import Derived.Test.YtokikbfhjhppmaaDoorShelfAtoi
import Derived.Test.YtokikbfhjhppmaaDoorLaid
namespace Go.Proofs.YtokikbfhjhppmaaDoor.Parse
open Go.RowKit Go.Proofs.YtokikbfhjhppmaaDoor.Plain Go.Proofs.YtokikbfhjhppmaaDoor.Num Go.Proofs.YtokikbfhjhppmaaDoor.Fmt Go.Proofs.YtokikbfhjhppmaaDoor.IntText Go.Proofs.YtokikbfhjhppmaaDoor.Read

def parseAns (s : ByteArray) (w : World) (e : Ending) (w' : World) : Prop :=
  Below w.heap.size w w' ∧ ((∃ n, Is s n ∧ e = .returned (.tuple #[.int .i64 n, .bool true])) ∨ ((∀ n, ¬ Is s n) ∧ e = .returned (.tuple #[.int .i64 0, .bool false])))

/-- What the two error variables of strconv hold, and the table of powers. -/
structure Lies (w : World) : Prop where
  tab : Lib.TabIs Tryd.prog w "internal/strconv.uint64pow10" .u64 Lib.pow10Tab
  syn : ∃ tp p, w.var? Tryd.prog "strconv.ErrSyntax" = some #[.iface tp p]
  rng : ∃ tp p, w.var? Tryd.prog "strconv.ErrRange" = some #[.iface tp p]

theorem var_below {W W' : World} {name : String} {g : Nat} {cs : Array Value} (hg : Tryd.prog.globalNamed name = some g) (hb : Below W.heap.size W W')
    (h : W.var? Tryd.prog name = some cs) : W'.var? Tryd.prog name = some cs := by
  unfold World.var? at *
  rw [hg] at *
  simp only [Option.bind_some] at *
  have hl : g < W.heap.size := by
    rcases Nat.lt_or_ge g W.heap.size with h' | h'
    · exact h'
    · rw [Array.getElem?_eq_none h'] at h; cases h
  rw [hb.block _ hl]; exact h

theorem gSyn : Tryd.prog.globalNamed "strconv.ErrSyntax" = some 0 := by kernel_rfl
theorem gRng : Tryd.prog.globalNamed "strconv.ErrRange" = some 1 := by kernel_rfl

theorem Lies.below {W W' : World} (h : Lies W) (hb : Below W.heap.size W W') : Lies W' := by
  obtain ⟨t, ⟨tp, p, hs⟩, ⟨tq, q, hr⟩⟩ := h
  exact ⟨Laid.table_below hb t, ⟨tp, p, var_below gSyn hb hs⟩, ⟨tq, q, var_below gRng hb hr⟩⟩

theorem specParse (s : ByteArray) (w : World) (hs : s.size ≤ maxLen) : Calls Tryd.prog 14 #[.string s] w (readAns s w) := by
  go_enter Tryd.func14, Tryd.ntmps14
  go_wp2_with (go_at_call 29; refine (l1Read s _ hs).mono ?_; rintro e w' ⟨⟨m, rfl⟩, ⟨n, hn, rfl⟩ | ⟨hn, rfl⟩⟩)
  · go_ret2
    exact ⟨⟨_, rfl⟩, .inl ⟨_, hn, rfl⟩⟩
  · go_ret2
    exact ⟨⟨_, rfl⟩, .inr ⟨hn, rfl⟩⟩

theorem atoiOk (s : ByteArray) (hs : s.size ≤ 2000000) (v : Int) (h : Lib.atoiAll s.data.toList = .ok v) (w : World) :
    Calls Tryd.prog 28 #[.string s] w fun e w' => e = .returned (.tuple #[.int .i64 v, .nilIface]) ∧ Below w.heap.size w w' := by
  refine (Tryd.strconv_Atoi_ok s (by omega) v h w).mono ?_
  rintro e w' ⟨rfl, rfl | ⟨t, rfl⟩⟩
  · exact ⟨rfl, Below.refl _ _⟩
  · exact ⟨rfl, Lib.bytesWorld_below _ _ _⟩

theorem atoiBad (s : ByteArray) (hs : s.size ≤ 2000000) (h : ∀ v, Lib.atoiAll s.data.toList ≠ .ok v) (w : World) (hL : Lies w) :
    Calls Tryd.prog 28 #[.string s] w fun e w' => ∃ v t q, e = .returned (.tuple #[.int .i64 v, .iface t q]) ∧ Below w.heap.size w w' := by
  obtain ⟨_, ⟨tp, p, hv⟩, ⟨tq, q, hr⟩⟩ := hL
  cases e : Lib.atoiAll s.data.toList with
  | ok v => exact absurd e (h v)
  | «syntax» =>
    refine (Tryd.strconv_Atoi_syntax_var s (by omega) e tp p w hv).mono ?_
    rintro e w' ⟨N, rfl, _, _, hb⟩
    exact ⟨_, _, _, rfl, hb⟩
  | range =>
    refine (Tryd.strconv_Atoi_range_var s (by omega) e tq q w hr).mono ?_
    rintro e w' ⟨N, rfl, _, _, hb⟩
    exact ⟨_, _, _, rfl, hb⟩

theorem implParse (s : ByteArray) (w : World) (hs : s.size ≤ 2000000) (hL : Lies w) : Calls Tryd.prog 13 #[.string s] w (parseAns s w) := by
  by_cases hok : ∃ v, Lib.atoiAll s.data.toList = .ok v
  · obtain ⟨v, hv⟩ := hok
    have HV := Lib.hid hv
    clear hv
    have HL := Lib.hid hL
    clear hL
    by_cases hr : -999999 ≤ v ∧ v ≤ 999999
    · obtain ⟨h0, h1⟩ := hr
      by_cases hx : s = ⟨(Lib.itoa v).toArray⟩
      · have HX := Lib.hid hx
        have hq : (!Lib.itoa v == s.toList) = false := by rw [hx]; simp
        clear hx
        go_enter Tryd.func13, Tryd.ntmps13
        go_wp2_with (first
          | (go_at_call 28; refine (atoiOk s hs v HV.out _).mono ?_; rintro e w1 ⟨rfl, hb1⟩)
          | (go_at_call 10; refine (implIn v h0 h1 _ (HL.out.below hb1).tab).mono ?_; rintro e w2 ⟨rfl, hb2⟩))
        go_ret2
        exact ⟨hb1.trans (hb2.mono hb1.size), .inl ⟨v, ⟨h0, h1, HX.out⟩, rfl⟩⟩
      · have HX := Lib.hid hx
        have hq : (!Lib.itoa v == s.toList) = true := ne_text hx
        clear hx
        go_enter Tryd.func13, Tryd.ntmps13
        go_wp2_with (first
          | (go_at_call 28; refine (atoiOk s hs v HV.out _).mono ?_; rintro e w1 ⟨rfl, hb1⟩)
          | (go_at_call 10; refine (implIn v h0 h1 _ (HL.out.below hb1).tab).mono ?_; rintro e w2 ⟨rfl, hb2⟩))
        go_ret2
        exact ⟨hb1.trans (hb2.mono hb1.size), .inr ⟨fun n hn => HX.out (by have h2 := hn.atoi; rw [HV.out] at h2; injection h2 with h2; rw [h2]; exact hn.2.2), rfl⟩⟩
    · have hr' : v < -999999 ∨ 999999 < v := by omega
      clear hr
      have HR := Lib.hid hr'
      clear hr'
      go_enter Tryd.func13, Tryd.ntmps13
      go_wp2_with (first
        | (go_at_call 28; refine (atoiOk s hs v HV.out _).mono ?_; rintro e w1 ⟨rfl, hb1⟩)
        | (go_at_call 10; refine (implOut v HR.out _).mono ?_; rintro e w2 ⟨rfl, rfl⟩))
      go_ret2
      exact ⟨hb1, .inr ⟨fun n hn => by have h2 := hn.atoi; rw [HV.out] at h2; injection h2 with h2; have h3 := hn.1; have h4 := hn.2.1; have h5 := HR.out; omega, rfl⟩⟩
  · have hbad : ∀ v, Lib.atoiAll s.data.toList ≠ .ok v := fun v h => hok ⟨v, h⟩
    have HB := Lib.hid hbad
    have HL := Lib.hid hL
    clear hL hok hbad
    go_enter Tryd.func13, Tryd.ntmps13
    go_wp2_with (go_at_call 28; refine (atoiBad s hs HB.out _ HL.out).mono ?_; rintro e w1 ⟨v, t, q, rfl, hb1⟩)
    go_ret2
    exact ⟨hb1, .inr ⟨fun n hn => HB.out n hn.atoi, rfl⟩⟩

theorem gSynType : (Tryd.prog.globals[0]?).map (·.type) = some 46 := by kernel_rfl
theorem gRngType : (Tryd.prog.globals[1]?).map (·.type) = some 46 := by kernel_rfl
theorem cellsErr : Tryd.prog.cellsOf 88 = 1 := by kernel_rfl
theorem cellsStr : Tryd.prog.cellsOf 9 = 1 := by kernel_rfl
theorem star : "*" ++ "errors.errorString" = "*errors.errorString" := by decide
theorem errRow (u : TypeId) (h : Tryd.prog.typeName? 3 u = some "*errors.errorString") : u = 86 :=
  typeName_ptr_named (nm := "errors.errorString") (by rw [star]; kernel_rfl) (by kernel_rfl) (by decide) u (by rw [star]; exact h)

/-- What the row's list gives. -/
theorem lies {W : World} {d1 d2 : String × DataW Unit}
    (h : laidMet Tryd.prog (d1 :: d2 :: ("internal/strconv.uint64pow10", Rows.laid_internal_strconv_uint64pow10) :: ("strconv.ErrRange", Rows.laid_strconv_ErrRange) :: ("strconv.ErrSyntax", Rows.laid_strconv_ErrSyntax) :: []) W) : Lies W := by
  obtain ⟨a0, s0, hv0, -, -, -⟩ := laid_sentinel h.tail.tail.tail gRng gRngType Tryd.underlying46 errRow Tryd.underlying86 Tryd.underlying88 rfl rfl Tryd.underlying9 cellsErr cellsStr
  obtain ⟨a1, s1, hv1, -, -, -⟩ := laid_sentinel h.tail.tail.tail.tail gSyn gSynType Tryd.underlying46 errRow Tryd.underlying86 Tryd.underlying88 rfl rfl Tryd.underlying9 cellsErr cellsStr
  exact ⟨Laid.table h, ⟨_, _, hv1⟩, ⟨_, _, hv0⟩⟩

end Go.Proofs.YtokikbfhjhppmaaDoor.Parse
