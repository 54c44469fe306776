/-
  The walk of the law FnSplitJoin: it returns true at every code.
-/
import Derived.Test.YtokikbfhjhppmaaBack
import Derived.Test.YtokikbfhjhppmaaDrawJoin
import Derived.Test.YtokikbfhjhppmaaLessRes
namespace Go.Proofs.Ytokikbfhjhppmaa.SplitJoin
open Go.RowKit Go.Proofs.Ytokikbfhjhppmaa.Plain Go.Proofs.Ytokikbfhjhppmaa.Pieces Go.Proofs.Ytokikbfhjhppmaa.Cur Go.Proofs.Ytokikbfhjhppmaa.Row Go.Proofs.Ytokikbfhjhppmaa.DrawSJ Go.Proofs.Ytokikbfhjhppmaa.SplitRes Go.Proofs.Ytokikbfhjhppmaa.Back
set_option linter.unusedVariables false

theorem bytesAt {w w' : World} {A : Option Addr} {n : Nat} (h : Bytes w w.heap.size A n) (hb : Below w.heap.size w w') : Bytes w' w'.heap.size A n := fun hp => by
  obtain ⟨ad, e, hB, hc⟩ := h hp
  refine ⟨ad, e, by have := hb.size; omega, fun j hj => ?_⟩
  obtain ⟨z, hz, h0⟩ := hc j hj
  exact ⟨z, (hb.cell (by rw [Cur.block_add]; exact hB)).trans hz, h0⟩

/-- Where the walk stands. -/
structure Here (w wr : World) (A : Option Addr) (n : Nat) : Prop where
  bel : Below w.heap.size w wr
  bytes : Bytes wr wr.heap.size A n

theorem Here.on {w wr w' : World} {A : Option Addr} {n : Nat} (h : Here w wr A n) (hb : Below wr.heap.size wr w') : Here w w' A n :=
  ⟨h.bel.trans (hb.mono h.bel.size), bytesAt h.bytes hb⟩

theorem form {w : World} {base e n : Nat} {v : Value} {xs : List Value} (h : w.ownsRow base e 1 v n xs) : ∃ A cap, v = .slice A n cap := by
  rcases h.2 with ⟨rfl, h0⟩ | ⟨g, c, cur, hv, _⟩
  · exact ⟨none, 0, by rw [h0]⟩
  · exact ⟨_, _, hv⟩

set_option maxHeartbeats 2000000 in
theorem walk (A : Option Addr) (n cap : Nat) (w : World) (hm : n ≤ maxLen) (hA : Bytes w w.heap.size A n) :
    Calls Try.prog 3 #[.slice A n cap] w fun e w' => e = .returned (.bool true) ∧ Below w.heap.size w w' := by
  by_cases hsm : 65536 < n
  · have HM := Lib.hid hm
    clear hm hA
    go_enter Try.func3, Try.ntmps3
    go_wp2_with (go_at_call 8; refine (vBigYes A n cap _ hsm HM.out).mono ?_; rintro e w' ⟨rfl, rfl⟩)
    go_ret
    exact ⟨rfl, Below.refl _ _⟩
  · have H0 : Hid (Here w w A n) := Lib.hid ⟨Below.refl _ _, hA⟩
    clear hm hA
    go_enter Try.func3, Try.ntmps3
    go_wp2_with (go_at_call 8; refine (vBigNo A n cap _ (by omega)).mono ?_; rintro e w' ⟨rfl, rfl⟩; refine Hid.out ?_)
    refine Lib.hid ?_
    go_wp2_with (go_at_call 9; refine (drawSplit A n cap w (by omega) H0.out.bytes).mono ?_; rintro e w1 ⟨s, sep, rfl, hs, ht, hb⟩; refine Hid.out ?_)
    refine Lib.hid ?_
    have H1 := Lib.hid (H0.out.on hb)
    clear hb
    obtain ⟨ss, f, ho⟩ := out_is s sep
    have HO := Lib.hid ho
    have hl := ho.len
    obtain ⟨nl, hnl⟩ : ∃ nl, nl = ss.length := ⟨_, rfl⟩
    rw [← hnl] at hl
    have HNL := Lib.hid hnl
    clear ho hnl
    go_wp2_with (go_at_call 10; refine (SplitRes.implRes s sep ss f HO.out w1 (by unfold maxLen; omega) (by unfold maxLen; omega)).mono ?_; rintro e w2 ⟨AL, cl, rfl, ownL, hb⟩; refine Hid.out ?_)
    refine Lib.hid ?_
    rw [← HNL.out] at ownL ⊢
    have IL := Lib.hid (Is.of_own ownL HNL.out)
    have H2 := Lib.hid (H1.out.on hb)
    clear hb ownL
    go_wp2_with (go_at_call 11; refine (drawJoin A n cap w2 (by omega) H2.out.bytes).mono ?_; rintro e w3 ⟨v, sign, D, rfl, ownM, hlen, hszs, hsg, hb⟩; refine Hid.out ?_)
    refine Lib.hid ?_
    obtain ⟨AM, cm, rfl⟩ := form ownM
    obtain ⟨nm, hnm⟩ : ∃ nm, nm = D.length := ⟨_, rfl⟩
    rw [← hnm] at ownM hlen ⊢
    have HNM := Lib.hid hnm
    have IM := Lib.hid (Is.of_own ownM hnm)
    have H3 := Lib.hid (H2.out.on hb)
    have IL3 : Hid (Is w3 w3.heap.size AL ss) := Lib.hid ((IL.out.below hb).more hb.size)
    have HSZ : Hid (∀ p ∈ D, p.size ≤ 1048576) := Lib.hid (fun p hp => by have := hszs p hp; omega)
    clear hb ownM hnm hszs IL
    obtain ⟨R, g, hr⟩ := Join.res_is D sign
    have HR := Lib.hid hr
    clear hr
    go_wp2_with (go_at_call 12; refine (Join.implRes AM nm cm D sign R g HR.out w3 HNM.out (by omega) IM.out HSZ.out (by omega)).mono ?_; rintro e w4 ⟨rfl, hb⟩; refine Hid.out ?_)
    refine Lib.hid ?_
    have H4 := Lib.hid (H3.out.on hb)
    have IM4 : Hid (Is w4 w4.heap.size AM D) := Lib.hid ((IM.out.below hb).more hb.size)
    have IL4 : Hid (Is w4 w4.heap.size AL ss) := Lib.hid ((IL3.out.below hb).more hb.size)
    clear hb
    go_wp2_with (go_at_call 13; refine (Join.specRes AM nm cm w4.heap.size D sign R g HR.out w4 HNM.out (by omega) IM4.out HSZ.out (by omega)).mono ?_; rintro e w5 ⟨rfl, m, rfl⟩; refine Hid.out ?_)
    refine Lib.hid ?_
    have hb5 : Below w4.heap.size w4 (w4.drewN m) := below_drewN (Below.refl _ _) m
    have H5 := Lib.hid (H4.out.on hb5)
    have IL5 : Hid (Is (w4.drewN m) (w4.drewN m).heap.size AL ss) := Lib.hid ((IL4.out.below hb5).more hb5.size)
    generalize w4.drewN m = w5 at *
    clear hb5
    go_wp2_with (go_at_call 14; refine (drawLess A n cap w5 (by omega) H5.out.bytes).mono ?_; rintro e w6 ⟨x, y, rfl, hb⟩; refine Hid.out ?_)
    refine Lib.hid ?_
    have H6 := Lib.hid (H5.out.on hb)
    have IL6 : Hid (Is w6 w6.heap.size AL ss) := Lib.hid ((IL5.out.below hb).more hb.size)
    clear hb
    have hbg : (g != g) = false := by cases g <;> rfl
    obtain ⟨p, q, hp, hq, hpq⟩ : ∃ p q : Bool, Op.bytesLess x.toList y.toList = p ∧ Op.bytesLess y.toList x.toList = q ∧ (p = true → q = false) := ⟨_, _, rfl, rfl, LessRes.asym _ _⟩
    have L1 := Lib.hid (fun w => LessRes.impl x y w)
    have L2 := Lib.hid (fun w => LessRes.spec x y w)
    have L3 := Lib.hid (fun w => LessRes.impl y x w)
    rw [hp] at L1 L2
    rw [hq] at L3
    have HPQ := Lib.hid hpq
    clear hp hq hpq
    have HQ0 : Hid (p = true → q = false) := HPQ
    by_cases h1 : sep.size = 1
    · obtain ⟨hf, HB, HPC⟩ : f = true ∧ Hid (Join.Res ss sep s true) ∧ Hid (∀ p ∈ ss, p.size ≤ 1048576) := by
        rcases HO.out with ⟨b, hb, h2, rfl, hf⟩ | ⟨h2, _⟩
        · exact ⟨hf, Lib.hid (res_back hb h2), Lib.hid (piece_le b s h2)⟩
        · omega
      subst hf
      have hq1 : ((sep.size : Int) != 1) = false := by rw [bne_eq_false_iff_eq]; omega
      have hq2 : sep.size ≤ 1 := by omega
      have hq3 : 1 ≤ sep.size := by omega
      clear h1
      cases p with
      | false =>
        go_wp2_with (first
        | (go_at_call 15; with_reducible refine (L1.out _).mono ?_; rintro e w7 ⟨rfl, rfl⟩)
        | (go_at_call 16; with_reducible refine (L2.out _).mono ?_; rintro e w7 ⟨rfl, rfl⟩)
        | (go_at_call 15; with_reducible refine (L3.out _).mono ?_; rintro e w7 ⟨rfl, rfl⟩)
        | (go_at_call 12; refine (Join.implRes AL nl cl ss sep s true HB.out w6 HNL.out (by omega) IL6.out HPC.out (by omega)).mono ?_; rintro e w7 ⟨rfl, hb⟩))
        go_ret
        exact ⟨rfl, (H6.out.on hb).bel⟩
      | true =>
        obtain rfl : q = false := HPQ.out rfl
        go_wp2_with (first
        | (go_at_call 15; with_reducible refine (L1.out _).mono ?_; rintro e w7 ⟨rfl, rfl⟩)
        | (go_at_call 16; with_reducible refine (L2.out _).mono ?_; rintro e w7 ⟨rfl, rfl⟩)
        | (go_at_call 15; with_reducible refine (L3.out _).mono ?_; rintro e w7 ⟨rfl, rfl⟩)
        | (go_at_call 12; refine (Join.implRes AL nl cl ss sep s true HB.out w6 HNL.out (by omega) IL6.out HPC.out (by omega)).mono ?_; rintro e w7 ⟨rfl, hb⟩))
        go_ret
        exact ⟨rfl, (H6.out.on hb).bel⟩
    · obtain ⟨hf, hss⟩ : f = false ∧ ss = [] := by
        rcases HO.out with ⟨b, hb, _⟩ | ⟨_, h2, hf⟩
        · exact absurd hb.size h1
        · exact ⟨hf, h2⟩
      subst hf
      obtain rfl : nl = 0 := by rw [HNL.out, hss]; rfl
      have hq1 : ((sep.size : Int) != 1) = true := by rw [bne_iff_ne]; omega
      clear h1 hss
      cases p with
      | false =>
        go_wp2_with (first
        | (go_at_call 15; with_reducible refine (L1.out _).mono ?_; rintro e w7 ⟨rfl, rfl⟩)
        | (go_at_call 16; with_reducible refine (L2.out _).mono ?_; rintro e w7 ⟨rfl, rfl⟩)
        | (go_at_call 15; with_reducible refine (L3.out _).mono ?_; rintro e w7 ⟨rfl, rfl⟩))
        go_ret
        exact ⟨rfl, H6.out.bel⟩
      | true =>
        obtain rfl : q = false := HPQ.out rfl
        go_wp2_with (first
        | (go_at_call 15; with_reducible refine (L1.out _).mono ?_; rintro e w7 ⟨rfl, rfl⟩)
        | (go_at_call 16; with_reducible refine (L2.out _).mono ?_; rintro e w7 ⟨rfl, rfl⟩)
        | (go_at_call 15; with_reducible refine (L3.out _).mono ?_; rintro e w7 ⟨rfl, rfl⟩))
        go_ret
        exact ⟨rfl, H6.out.bel⟩

end Go.Proofs.Ytokikbfhjhppmaa.SplitJoin
