/-
  The value of a condition: l5Holds of the model, holds of the program.
-/
import Derived.Test.YthdiiocgemomoaaGoodI
import Derived.Test.YthdiiocgemomoaaFc
import Derived.Test.YthdiiocgemomoaaShelfNm
import Derived.Test.YthdiiocgemomoaaOpC
import Derived.Lib.SlicesS
namespace Go.Proofs.Ythdiiocgemomoaa.Cond
open Go.RowKit

def Q.holds (kn : ByteArray → Bool) (d : Int) : Q → Bool
  | .tru => true
  | .fact s => kn s
  | .frm x => decide (x ≤ d)
  | .neg a => !a.holds kn d
  | .and a b => a.holds kn d && b.holds kn d
  | .or a b => a.holds kn d || b.holds kn d

theorem tl_inj {a b : ByteArray} (h : a.toList = b.toList) : a = b := by
  rw [Go.ByteArray.toList_eq, Go.ByteArray.toList_eq] at h
  cases a; cases b
  simpa [Array.toList_inj] using h

def has (ss : List ByteArray) (x : ByteArray) : Bool := ss.any fun p => decide (p.toList = x.toList)

theorem contains_has (ss : List ByteArray) (x : ByteArray) : Lib.containsS ss x = has ss x := by
  rw [Bool.eq_iff_iff, Lib.containsS_iff, has, List.any_eq_true]
  constructor
  · intro h
    exact ⟨x, h, by simp⟩
  · rintro ⟨p, hp, he⟩
    rw [← tl_inj (of_decide_eq_true he)]; exact hp

theorem has_no {ss : List ByteArray} {k : Nat} (hk : ss.length ≤ k) {x : ByteArray} (h : ∀ j, ∀ hj : j < ss.length, j < k → ¬ ss[j].toList = x.toList) : has ss x = false := by
  unfold has
  rw [List.any_eq_false]
  intro p hp
  obtain ⟨j, hj, rfl⟩ := List.mem_iff_getElem.1 hp
  simpa using h j hj (by omega)
theorem has_yes {ss : List ByteArray} {k : Nat} (hk : k < ss.length) {x : ByteArray} (h : ss[k].toList = x.toList) : has ss x = true := by
  unfold has
  rw [List.any_eq_true]
  exact ⟨ss[k], List.getElem_mem hk, by simpa using h⟩

set_option maxHeartbeats 1000000 in
theorem l5Has (A : Option Addr) (n cap : Nat) (ss : List ByteArray) (x : ByteArray) (B : Nat) (w : World) (hn : n = ss.length) (hm : n ≤ 1048576) (hA : Row.Is w B A ss) :
    Calls Try.prog 53 #[.slice A n cap, .string x] w fun e w' => e = .returned (.bool (has ss x)) ∧ w = w' := by
  have HN := Lib.hid hn
  clear hn
  go_enter Try.func53, Try.ntmps53
  go_wp2_with fail
  go_loopw [5] (fun i wr => ∃ k : Nat, k ≤ n ∧ i = .int .i64 k ∧ Hid (∀ j, ∀ hj : j < ss.length, j < k → ¬ ss[j].toList = x.toList) ∧ w = wr) (fun i _ => n - (intOf i).toNat)
  case atStart => exact ⟨0, Nat.zero_le _, rfl, Lib.hid fun j _ hj => by omega, rfl⟩
  case round =>
    obtain ⟨k, hk, rfl, HK, rfl⟩ := hrel
    by_cases hlt : k < n
    · have hk' : k < ss.length := by have := HN.out; omega
      obtain ⟨ad, rfl, hB, hc⟩ := hA (by omega)
      obtain ⟨p, hp⟩ : ∃ p, p = ss[k] := ⟨_, rfl⟩
      have hcell : w.cell? (ad.add k) = some (.string p) := by rw [hp]; exact hc k hk'
      have HP := Lib.hid hp
      clear hp hc
      by_cases he : p.toList = x.toList
      · have he' : (p.toList == x.toList) = true := by simpa using he
        go_wp2_with fail
        go_ret
        exact ⟨by rw [has_yes hk' (by rw [← HP.out]; exact he)]; rfl, rfl⟩
      · have he' : (p.toList == x.toList) = false := by simpa using he
        go_wp2_with fail
        go_roundw
        case rel => exact ⟨k + 1, by omega, by go_num, Lib.hid fun j hj hjk => by
          by_cases e : j = k
          · subst e; rw [← HP.out]; exact he
          · exact HK.out j hj (by omega), trivial⟩
        case measure => simp [intOf]; omega
    · go_wp2_with fail
      go_ret
      exact ⟨by rw [has_no (k := k) (by have := HN.out; omega) HK.out]; rfl, rfl⟩

theorem One {w : World} {B : Nat} {op : Int} {nm : ByteArray} {day : Int} {A : Option Addr} {cap : Nat} {p : K} (h : Lies w B (.mk op nm day A cap [p])) : ∃ b o, A = some ⟨b, o, none⟩ ∧ b < B ∧ El w b o p := by
  obtain ⟨b, o, rfl, hb, he⟩ := h.at (by simp)
  exact ⟨b, o, rfl, hb, by simpa using he 0 (by simp)⟩
theorem Two {w : World} {B : Nat} {op : Int} {nm : ByteArray} {day : Int} {A : Option Addr} {cap : Nat} {p q : K} (h : Lies w B (.mk op nm day A cap [p, q])) : ∃ b o, A = some ⟨b, o, none⟩ ∧ b < B ∧ El w b o p ∧ El w b (o + 4) q := by
  obtain ⟨b, o, rfl, hb, he⟩ := h.at (by simp)
  exact ⟨b, o, rfl, hb, by simpa using he 0 (by simp), by simpa using he 1 (by simp)⟩

set_option maxHeartbeats 4000000 in
theorem l5Holds (F : Option Addr) (n cf : Nat) (ss : List ByteArray) (d : Int) (w : World) (hn : n = ss.length) (hm : n ≤ 1048576) (hF : Row.Is w w.heap.size F ss) (q : Q) : ∀ (k : K) (v : World), Below w.heap.size w v → k.cond = q.c → Lies v v.heap.size k →
    Calls Try.prog 42 #[k.val, .slice F n cf, .int .i64 d] v fun e w' => e = .returned (.bool (q.holds (has ss) d)) ∧ Below v.heap.size v w' := by
  have HL : Hid (∀ s v, Below w.heap.size w v → Calls Try.prog 53 #[.slice F n cf, .string s] v fun e w' => e = .returned (.bool (has ss s)) ∧ Below v.heap.size v w') := Lib.hid fun s v hb => (l5Has F n cf ss s w.heap.size v hn hm (hF.below hb)).mono fun e w' ⟨he, hw⟩ => ⟨he, by rw [← hw]; exact Below.refl _ _⟩
  clear hn hm hF
  induction q with
  | tru =>
    intro k v hbv hk hin
    obtain ⟨A, cap, rfl⟩ := K.leaf hk
    clear hk hin
    have B0 := Lib.hid (below1 v (.cells #[.int .i64 1, .string .empty, .int .i64 0, .slice A 0 cap] 28))
    show Calls Try.prog 42 #[.agg #[.int .i64 1, .string .empty, .int .i64 0, .slice A 0 cap], .slice F n cf, .int .i64 d] v fun e w' => e = .returned (.bool ((Q.tru).holds (has ss) d)) ∧ Below v.heap.size v w'
    clear hbv
    go_enter Try.func42, Try.ntmps42
    go_wp2_with fail
    go_ret
    exact ⟨rfl, B0.out⟩
  | fact s =>
    intro k v hbv hk hin
    obtain ⟨A, cap, rfl⟩ := K.leaf hk
    clear hk hin
    have B0 := Lib.hid (below1 v (.cells #[.int .i64 2, .string s, .int .i64 0, .slice A 0 cap] 28))
    show Calls Try.prog 42 #[.agg #[.int .i64 2, .string s, .int .i64 0, .slice A 0 cap], .slice F n cf, .int .i64 d] v fun e w' => e = .returned (.bool ((Q.fact s).holds (has ss) d)) ∧ Below v.heap.size v w'
    have HLL := Lib.hid (HL.out s _ (hbv.trans (B0.out.mono hbv.size)))
    clear hbv
    go_enter Try.func42, Try.ntmps42
    go_wp2_with (go_at_call 53; refine HLL.out.mono ?_; rintro e w2 ⟨rfl, hb2⟩)
    go_ret
    exact ⟨rfl, B0.out.trans (hb2.mono B0.out.size)⟩
  | frm x =>
    intro k v hbv hk hin
    obtain ⟨A, cap, rfl⟩ := K.leaf hk
    clear hk hin
    have B0 := Lib.hid (below1 v (.cells #[.int .i64 3, .string .empty, .int .i64 x, .slice A 0 cap] 28))
    show Calls Try.prog 42 #[.agg #[.int .i64 3, .string .empty, .int .i64 x, .slice A 0 cap], .slice F n cf, .int .i64 d] v fun e w' => e = .returned (.bool ((Q.frm x).holds (has ss) d)) ∧ Below v.heap.size v w'
    clear hbv
    go_enter Try.func42, Try.ntmps42
    go_wp2_with fail
    go_ret
    exact ⟨rfl, B0.out⟩
  | neg a ih =>
    intro k v hbv hk hin
    obtain ⟨A, cap, p, rfl, hp⟩ := K.one hk
    obtain ⟨b, o, rfl, hb, hE⟩ := One hin
    have B0 := Lib.hid (below1 v (.cells #[.int .i64 4, .string .empty, .int .i64 0, .slice (some ⟨b, o, none⟩) 1 cap] 28))
    have HI := Lib.hid (ih p _ (hbv.trans (B0.out.mono hbv.size)) hp ((hin.part (by simp)).on B0.out))
    obtain ⟨c0, c1, c2, c3⟩ := hE.alike (B0.out.block b hb)
    clear hk hin ih hbv hE hp
    show Calls Try.prog 42 #[.agg #[.int .i64 4, .string .empty, .int .i64 0, .slice (some ⟨b, o, none⟩) 1 cap], .slice F n cf, .int .i64 d] v fun e w' => e = .returned (.bool ((Q.neg a).holds (has ss) d)) ∧ Below v.heap.size v w'
    obtain ⟨r, hr⟩ : ∃ r, r = a.holds (has ss) d := ⟨_, rfl⟩
    rw [← hr] at HI
    have HR := Lib.hid hr
    clear hr
    go_enter Try.func42, Try.ntmps42
    go_wp2_with (go_at_call 42; refine HI.out.mono ?_; rintro e w2 ⟨rfl, hb2⟩)
    go_ret
    exact ⟨by unfold Q.holds; rw [← HR.out]; rfl, B0.out.trans (hb2.mono B0.out.size)⟩
  | and a b iha ihb =>
    intro k v hbv hk hin
    obtain ⟨A, cap, p1, p2, rfl, hp1, hp2⟩ := K.two hk
    obtain ⟨b', o, rfl, hb, hE1, hE2⟩ := Two hin
    have B0 := Lib.hid (below1 v (.cells #[.int .i64 5, .string .empty, .int .i64 0, .slice (some ⟨b', o, none⟩) 2 cap] 28))
    have X0 := Lib.hid (B4.new v (.int .i64 5) (.string .empty) (.int .i64 0) (.slice (some ⟨b', o, none⟩) 2 cap) 28)
    have HI1 := Lib.hid (iha p1 _ (hbv.trans (B0.out.mono hbv.size)) hp1 ((hin.part (by simp)).on B0.out))
    have HI2 : Hid (∀ u, Below v.heap.size v u → Calls Try.prog 42 #[p2.val, .slice F n cf, .int .i64 d] u fun e w' => e = .returned (.bool (b.holds (has ss) d)) ∧ Below u.heap.size u w') := Lib.hid fun u hu => ihb p2 u (hbv.trans (hu.mono hbv.size)) hp2 ((hin.part (by simp)).on hu)
    obtain ⟨c0, c1, c2, c3⟩ := hE1.alike (B0.out.block b' hb)
    have HE2 : Hid (∀ u, Below v.heap.size v u → El u b' (o + 4) p2) := Lib.hid fun u hu => hE2.alike (hu.block b' hb)
    clear hk hin iha ihb hbv hE1 hE2 hp1 hp2
    show Calls Try.prog 42 #[.agg #[.int .i64 5, .string .empty, .int .i64 0, .slice (some ⟨b', o, none⟩) 2 cap], .slice F n cf, .int .i64 d] v fun e w' => e = .returned (.bool ((Q.and a b).holds (has ss) d)) ∧ Below v.heap.size v w'
    obtain ⟨r, hr⟩ : ∃ r, r = a.holds (has ss) d := ⟨_, rfl⟩
    rw [← hr] at HI1
    have HR := Lib.hid hr
    clear hr
    cases r
    · go_enter Try.func42, Try.ntmps42
      go_wp2_with (go_at_call 42; refine HI1.out.mono ?_; rintro e w2 ⟨rfl, hb2⟩)
      go_ret
      exact ⟨by unfold Q.holds; rw [← HR.out]; rfl, B0.out.trans (hb2.mono B0.out.size)⟩
    · go_enter Try.func42, Try.ntmps42
      go_wp2_with (go_at_call 42; refine HI1.out.mono ?_; rintro e w2 ⟨rfl, hb2⟩; refine Hid.out ?_)
      refine Lib.hid ?_
      have HB2 := Lib.hid (B0.out.trans (hb2.mono B0.out.size))
      have HX2 := Lib.hid (X0.out.on hb2)
      obtain ⟨_, x0, x1, x2, x3, _⟩ := HX2.out
      obtain ⟨d0, d1, d2, d3⟩ := HE2.out w2 HB2.out
      have HI3 := Lib.hid (HI2.out w2 HB2.out)
      clear hb2 c0 c1 c2 c3
      go_wp2_with (go_at_call 42; refine HI3.out.mono ?_; rintro e w3 ⟨rfl, hb3⟩)
      go_ret
      exact ⟨by show _ = Ending.returned (.bool (a.holds (has ss) d && b.holds (has ss) d)); rw [← HR.out]; rfl, HB2.out.trans (hb3.mono HB2.out.size)⟩
  | or a b iha ihb =>
    intro k v hbv hk hin
    obtain ⟨A, cap, p1, p2, rfl, hp1, hp2⟩ := K.two hk
    obtain ⟨b', o, rfl, hb, hE1, hE2⟩ := Two hin
    have B0 := Lib.hid (below1 v (.cells #[.int .i64 6, .string .empty, .int .i64 0, .slice (some ⟨b', o, none⟩) 2 cap] 28))
    have X0 := Lib.hid (B4.new v (.int .i64 6) (.string .empty) (.int .i64 0) (.slice (some ⟨b', o, none⟩) 2 cap) 28)
    have HI1 := Lib.hid (iha p1 _ (hbv.trans (B0.out.mono hbv.size)) hp1 ((hin.part (by simp)).on B0.out))
    have HI2 : Hid (∀ u, Below v.heap.size v u → Calls Try.prog 42 #[p2.val, .slice F n cf, .int .i64 d] u fun e w' => e = .returned (.bool (b.holds (has ss) d)) ∧ Below u.heap.size u w') := Lib.hid fun u hu => ihb p2 u (hbv.trans (hu.mono hbv.size)) hp2 ((hin.part (by simp)).on hu)
    obtain ⟨c0, c1, c2, c3⟩ := hE1.alike (B0.out.block b' hb)
    have HE2 : Hid (∀ u, Below v.heap.size v u → El u b' (o + 4) p2) := Lib.hid fun u hu => hE2.alike (hu.block b' hb)
    clear hk hin iha ihb hbv hE1 hE2 hp1 hp2
    show Calls Try.prog 42 #[.agg #[.int .i64 6, .string .empty, .int .i64 0, .slice (some ⟨b', o, none⟩) 2 cap], .slice F n cf, .int .i64 d] v fun e w' => e = .returned (.bool ((Q.or a b).holds (has ss) d)) ∧ Below v.heap.size v w'
    obtain ⟨r, hr⟩ : ∃ r, r = a.holds (has ss) d := ⟨_, rfl⟩
    rw [← hr] at HI1
    have HR := Lib.hid hr
    clear hr
    cases r
    · go_enter Try.func42, Try.ntmps42
      go_wp2_with (go_at_call 42; refine HI1.out.mono ?_; rintro e w2 ⟨rfl, hb2⟩; refine Hid.out ?_)
      refine Lib.hid ?_
      have HB2 := Lib.hid (B0.out.trans (hb2.mono B0.out.size))
      have HX2 := Lib.hid (X0.out.on hb2)
      obtain ⟨_, x0, x1, x2, x3, _⟩ := HX2.out
      obtain ⟨d0, d1, d2, d3⟩ := HE2.out w2 HB2.out
      have HI3 := Lib.hid (HI2.out w2 HB2.out)
      clear hb2 c0 c1 c2 c3
      go_wp2_with (go_at_call 42; refine HI3.out.mono ?_; rintro e w3 ⟨rfl, hb3⟩)
      go_ret
      exact ⟨by show _ = Ending.returned (.bool (a.holds (has ss) d || b.holds (has ss) d)); rw [← HR.out]; rfl, HB2.out.trans (hb3.mono HB2.out.size)⟩
    · go_enter Try.func42, Try.ntmps42
      go_wp2_with (go_at_call 42; refine HI1.out.mono ?_; rintro e w2 ⟨rfl, hb2⟩)
      go_ret
      exact ⟨by unfold Q.holds; rw [← HR.out]; rfl, B0.out.trans (hb2.mono B0.out.size)⟩

end Go.Proofs.Ythdiiocgemomoaa.Cond
