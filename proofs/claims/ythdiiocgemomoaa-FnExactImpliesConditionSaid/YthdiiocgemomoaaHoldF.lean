/-
  The value of a condition with the closure of findCase.
-/
import Derived.Test.YthdiiocgemomoaaHold
import Derived.Test.YthdiiocgemomoaaBs
import Derived.Test.YthdiiocgemomoaaNdS
namespace Go.Proofs.Ythdiiocgemomoaa.Cond
open Go.RowKit
set_option linter.unusedVariables false

/-- The names of the facts in a condition. -/
def Q.facts : Q → List ByteArray
  | .fact s => [s]
  | .neg a => a.facts
  | .and a b => a.facts ++ b.facts
  | .or a b => a.facts ++ b.facts
  | _ => []

set_option maxHeartbeats 4000000 in
theorem holdsF (f0 f1 : Nat) (kn : ByteArray → Bool) (d : Int) (w : World) (q : Q) : (∀ s ∈ q.facts, ∀ v, Below w.heap.size w v → Calls Try.prog 44 #[.string s, .pointer (some ⟨f0, 0, none⟩), .pointer (some ⟨f1, 0, none⟩)] v fun e w' => e = .returned (.bool (kn s)) ∧ Below v.heap.size v w') → ∀ (k : K) (v : World), Below w.heap.size w v → k.cond = q.c → Lies v v.heap.size k →
    Calls Try.prog 46 #[k.val, .int .i64 d, .func (.func 44) #[] #[.pointer (some ⟨f0, 0, none⟩), .pointer (some ⟨f1, 0, none⟩)]] v fun e w' => e = .returned (.bool (q.holds kn d)) ∧ Below v.heap.size v w' := by
  induction q with
  | tru =>
    intro HL0 k v hbv hk hin
    have HL := Lib.hid HL0
    clear HL0
    obtain ⟨A, cap, rfl⟩ := K.leaf hk
    clear hk hin
    have B0 := Lib.hid (below1 v (.cells #[.int .i64 1, .string .empty, .int .i64 0, .slice A 0 cap] 28))
    show Calls Try.prog 46 #[.agg #[.int .i64 1, .string .empty, .int .i64 0, .slice A 0 cap], .int .i64 d, .func (.func 44) #[] #[.pointer (some ⟨f0, 0, none⟩), .pointer (some ⟨f1, 0, none⟩)]] v fun e w' => e = .returned (.bool ((Q.tru).holds kn d)) ∧ Below v.heap.size v w'
    clear hbv
    go_enter Try.func46, Try.ntmps46
    go_wp2_with fail
    go_ret
    exact ⟨rfl, B0.out⟩
  | fact s =>
    intro HL0 k v hbv hk hin
    have HL := Lib.hid HL0
    clear HL0
    obtain ⟨A, cap, rfl⟩ := K.leaf hk
    clear hk hin
    have B0 := Lib.hid (below1 v (.cells #[.int .i64 2, .string s, .int .i64 0, .slice A 0 cap] 28))
    show Calls Try.prog 46 #[.agg #[.int .i64 2, .string s, .int .i64 0, .slice A 0 cap], .int .i64 d, .func (.func 44) #[] #[.pointer (some ⟨f0, 0, none⟩), .pointer (some ⟨f1, 0, none⟩)]] v fun e w' => e = .returned (.bool ((Q.fact s).holds kn d)) ∧ Below v.heap.size v w'
    have HLL := Lib.hid (HL.out s (by simp [Q.facts]) _ (hbv.trans (B0.out.mono hbv.size)))
    clear hbv
    go_enter Try.func46, Try.ntmps46
    go_wp2_with (go_at_call 44; refine HLL.out.mono ?_; rintro e w2 ⟨rfl, hb2⟩)
    go_ret
    exact ⟨rfl, B0.out.trans (hb2.mono B0.out.size)⟩
  | frm x =>
    intro HL0 k v hbv hk hin
    have HL := Lib.hid HL0
    clear HL0
    obtain ⟨A, cap, rfl⟩ := K.leaf hk
    clear hk hin
    have B0 := Lib.hid (below1 v (.cells #[.int .i64 3, .string .empty, .int .i64 x, .slice A 0 cap] 28))
    show Calls Try.prog 46 #[.agg #[.int .i64 3, .string .empty, .int .i64 x, .slice A 0 cap], .int .i64 d, .func (.func 44) #[] #[.pointer (some ⟨f0, 0, none⟩), .pointer (some ⟨f1, 0, none⟩)]] v fun e w' => e = .returned (.bool ((Q.frm x).holds kn d)) ∧ Below v.heap.size v w'
    clear hbv
    go_enter Try.func46, Try.ntmps46
    go_wp2_with fail
    go_ret
    exact ⟨rfl, B0.out⟩
  | neg a ih =>
    intro HL0 k v hbv hk hin
    have HL := Lib.hid HL0
    clear HL0
    obtain ⟨A, cap, p, rfl, hp⟩ := K.one hk
    obtain ⟨b, o, rfl, hb, hE⟩ := One hin
    have B0 := Lib.hid (below1 v (.cells #[.int .i64 4, .string .empty, .int .i64 0, .slice (some ⟨b, o, none⟩) 1 cap] 28))
    have HI := Lib.hid (ih (fun s hs => HL.out s (by simpa [Q.facts] using hs)) p _ (hbv.trans (B0.out.mono hbv.size)) hp ((hin.part (by simp)).on B0.out))
    obtain ⟨c0, c1, c2, c3⟩ := hE.alike (B0.out.block b hb)
    clear hk hin ih hbv hE hp
    show Calls Try.prog 46 #[.agg #[.int .i64 4, .string .empty, .int .i64 0, .slice (some ⟨b, o, none⟩) 1 cap], .int .i64 d, .func (.func 44) #[] #[.pointer (some ⟨f0, 0, none⟩), .pointer (some ⟨f1, 0, none⟩)]] v fun e w' => e = .returned (.bool ((Q.neg a).holds kn d)) ∧ Below v.heap.size v w'
    obtain ⟨r, hr⟩ : ∃ r, r = a.holds kn d := ⟨_, rfl⟩
    rw [← hr] at HI
    have HR := Lib.hid hr
    clear hr
    go_enter Try.func46, Try.ntmps46
    go_wp2_with (go_at_call 46; refine HI.out.mono ?_; rintro e w2 ⟨rfl, hb2⟩)
    go_ret
    exact ⟨by unfold Q.holds; rw [← HR.out]; rfl, B0.out.trans (hb2.mono B0.out.size)⟩
  | and a b iha ihb =>
    intro HL0 k v hbv hk hin
    have HL := Lib.hid HL0
    clear HL0
    obtain ⟨A, cap, p1, p2, rfl, hp1, hp2⟩ := K.two hk
    obtain ⟨b', o, rfl, hb, hE1, hE2⟩ := Two hin
    have B0 := Lib.hid (below1 v (.cells #[.int .i64 5, .string .empty, .int .i64 0, .slice (some ⟨b', o, none⟩) 2 cap] 28))
    have X0 := Lib.hid (B4.new v (.int .i64 5) (.string .empty) (.int .i64 0) (.slice (some ⟨b', o, none⟩) 2 cap) 28)
    have HI1 := Lib.hid (iha (fun s hs => HL.out s (by simp [Q.facts, hs])) p1 _ (hbv.trans (B0.out.mono hbv.size)) hp1 ((hin.part (by simp)).on B0.out))
    have HI2 : Hid (∀ u, Below v.heap.size v u → Calls Try.prog 46 #[p2.val, .int .i64 d, .func (.func 44) #[] #[.pointer (some ⟨f0, 0, none⟩), .pointer (some ⟨f1, 0, none⟩)]] u fun e w' => e = .returned (.bool (b.holds kn d)) ∧ Below u.heap.size u w') := Lib.hid fun u hu => ihb (fun s hs => HL.out s (by simp [Q.facts, hs])) p2 u (hbv.trans (hu.mono hbv.size)) hp2 ((hin.part (by simp)).on hu)
    obtain ⟨c0, c1, c2, c3⟩ := hE1.alike (B0.out.block b' hb)
    have HE2 : Hid (∀ u, Below v.heap.size v u → El u b' (o + 4) p2) := Lib.hid fun u hu => hE2.alike (hu.block b' hb)
    clear hk hin iha ihb hbv hE1 hE2 hp1 hp2
    show Calls Try.prog 46 #[.agg #[.int .i64 5, .string .empty, .int .i64 0, .slice (some ⟨b', o, none⟩) 2 cap], .int .i64 d, .func (.func 44) #[] #[.pointer (some ⟨f0, 0, none⟩), .pointer (some ⟨f1, 0, none⟩)]] v fun e w' => e = .returned (.bool ((Q.and a b).holds kn d)) ∧ Below v.heap.size v w'
    obtain ⟨r, hr⟩ : ∃ r, r = a.holds kn d := ⟨_, rfl⟩
    rw [← hr] at HI1
    have HR := Lib.hid hr
    clear hr
    cases r
    · go_enter Try.func46, Try.ntmps46
      go_wp2_with (go_at_call 46; refine HI1.out.mono ?_; rintro e w2 ⟨rfl, hb2⟩)
      go_ret
      exact ⟨by unfold Q.holds; rw [← HR.out]; rfl, B0.out.trans (hb2.mono B0.out.size)⟩
    · go_enter Try.func46, Try.ntmps46
      go_wp2_with (go_at_call 46; refine HI1.out.mono ?_; rintro e w2 ⟨rfl, hb2⟩; refine Hid.out ?_)
      refine Lib.hid ?_
      have HB2 := Lib.hid (B0.out.trans (hb2.mono B0.out.size))
      have HX2 := Lib.hid (X0.out.on hb2)
      obtain ⟨_, x0, x1, x2, x3, _⟩ := HX2.out
      obtain ⟨d0, d1, d2, d3⟩ := HE2.out w2 HB2.out
      have HI3 := Lib.hid (HI2.out w2 HB2.out)
      clear hb2 c0 c1 c2 c3
      go_wp2_with (go_at_call 46; refine HI3.out.mono ?_; rintro e w3 ⟨rfl, hb3⟩)
      go_ret
      exact ⟨by show _ = Ending.returned (.bool (a.holds kn d && b.holds kn d)); rw [← HR.out]; rfl, HB2.out.trans (hb3.mono HB2.out.size)⟩
  | or a b iha ihb =>
    intro HL0 k v hbv hk hin
    have HL := Lib.hid HL0
    clear HL0
    obtain ⟨A, cap, p1, p2, rfl, hp1, hp2⟩ := K.two hk
    obtain ⟨b', o, rfl, hb, hE1, hE2⟩ := Two hin
    have B0 := Lib.hid (below1 v (.cells #[.int .i64 6, .string .empty, .int .i64 0, .slice (some ⟨b', o, none⟩) 2 cap] 28))
    have X0 := Lib.hid (B4.new v (.int .i64 6) (.string .empty) (.int .i64 0) (.slice (some ⟨b', o, none⟩) 2 cap) 28)
    have HI1 := Lib.hid (iha (fun s hs => HL.out s (by simp [Q.facts, hs])) p1 _ (hbv.trans (B0.out.mono hbv.size)) hp1 ((hin.part (by simp)).on B0.out))
    have HI2 : Hid (∀ u, Below v.heap.size v u → Calls Try.prog 46 #[p2.val, .int .i64 d, .func (.func 44) #[] #[.pointer (some ⟨f0, 0, none⟩), .pointer (some ⟨f1, 0, none⟩)]] u fun e w' => e = .returned (.bool (b.holds kn d)) ∧ Below u.heap.size u w') := Lib.hid fun u hu => ihb (fun s hs => HL.out s (by simp [Q.facts, hs])) p2 u (hbv.trans (hu.mono hbv.size)) hp2 ((hin.part (by simp)).on hu)
    obtain ⟨c0, c1, c2, c3⟩ := hE1.alike (B0.out.block b' hb)
    have HE2 : Hid (∀ u, Below v.heap.size v u → El u b' (o + 4) p2) := Lib.hid fun u hu => hE2.alike (hu.block b' hb)
    clear hk hin iha ihb hbv hE1 hE2 hp1 hp2
    show Calls Try.prog 46 #[.agg #[.int .i64 6, .string .empty, .int .i64 0, .slice (some ⟨b', o, none⟩) 2 cap], .int .i64 d, .func (.func 44) #[] #[.pointer (some ⟨f0, 0, none⟩), .pointer (some ⟨f1, 0, none⟩)]] v fun e w' => e = .returned (.bool ((Q.or a b).holds kn d)) ∧ Below v.heap.size v w'
    obtain ⟨r, hr⟩ : ∃ r, r = a.holds kn d := ⟨_, rfl⟩
    rw [← hr] at HI1
    have HR := Lib.hid hr
    clear hr
    cases r
    · go_enter Try.func46, Try.ntmps46
      go_wp2_with (go_at_call 46; refine HI1.out.mono ?_; rintro e w2 ⟨rfl, hb2⟩; refine Hid.out ?_)
      refine Lib.hid ?_
      have HB2 := Lib.hid (B0.out.trans (hb2.mono B0.out.size))
      have HX2 := Lib.hid (X0.out.on hb2)
      obtain ⟨_, x0, x1, x2, x3, _⟩ := HX2.out
      obtain ⟨d0, d1, d2, d3⟩ := HE2.out w2 HB2.out
      have HI3 := Lib.hid (HI2.out w2 HB2.out)
      clear hb2 c0 c1 c2 c3
      go_wp2_with (go_at_call 46; refine HI3.out.mono ?_; rintro e w3 ⟨rfl, hb3⟩)
      go_ret
      exact ⟨by show _ = Ending.returned (.bool (a.holds kn d || b.holds kn d)); rw [← HR.out]; rfl, HB2.out.trans (hb3.mono HB2.out.size)⟩
    · go_enter Try.func46, Try.ntmps46
      go_wp2_with (go_at_call 46; refine HI1.out.mono ?_; rintro e w2 ⟨rfl, hb2⟩)
      go_ret
      exact ⟨by unfold Q.holds; rw [← HR.out]; rfl, B0.out.trans (hb2.mono B0.out.size)⟩


end Go.Proofs.Ythdiiocgemomoaa.Cond
