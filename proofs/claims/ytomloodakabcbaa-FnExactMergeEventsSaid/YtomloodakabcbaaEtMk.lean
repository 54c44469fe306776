/-
  The marks that the laws write into events, and their reading back: markEventS, heldEventS.
-/
import Derived.Test.YtomloodakabcbaaEtTo
import Derived.Test.YtomloodakabcbaaClMk
import Derived.Deep.RegionHeld3
namespace Go.Proofs.Ytomloodakabcbaa.Et
open Go.RowKit Go.Proofs.Ytomloodakabcbaa.Cond Go.Proofs.Ytomloodakabcbaa.Gx Go.Proofs.Ytomloodakabcbaa.Mark
set_option linter.unusedVariables false
set_option linter.unusedSimpArgs false

/-- An event with marks from t on. -/
def mkE (t : Nat) : E := ⟨(t : Int), ((t + 1 : Nat) : Int), mt (t + 2), ((t + 3 : Nat) : Int)⟩
def mkR (t : Nat) : Nat → List E
  | 0 => []
  | n + 1 => mkE t :: mkR (t + 4) n
theorem mkR_length : ∀ (n t : Nat), (mkR t n).length = n
  | 0, _ => rfl
  | n + 1, t => by simp [mkR, mkR_length n]
theorem mkR_get : ∀ (n t i : Nat) (h : i < n), (mkR t n)[i]'(by rw [mkR_length]; exact h) = mkE (t + 4 * i)
  | n + 1, t, 0, h => by simp [mkR]
  | n + 1, t, i + 1, h => by
    have := mkR_get n (t + 4) i (by omega)
    simp only [mkR, List.getElem_cons_succ, this]
    congr 1; omega
theorem mkE_cells (t : Nat) : (mkE t).cells = [.int .i64 (t : Int), .int .i64 ((t : Int) + 1), .string (mt (t + 2)), .int .i64 ((t : Int) + 1 + 1 + 1)] := by
  unfold mkE E.cells
  rw [show ((t + 1 : Nat) : Int) = (t : Int) + 1 by omega, show ((t + 3 : Nat) : Int) = (t : Int) + 1 + 1 + 1 by omega]

/-- The first i events of a row at b, o bear their marks; the others stand as they were. -/
structure MidE (w0 w : World) (b o t n i : Nat) : Prop where
  lb : b < w.heap.size
  fb : ∀ x, w.frozen? ⟨b, x, none⟩ = false
  e1 : ∀ j, j < n → j < i → El w b (o + j * 4) (mkE (t + 4 * j)).cells
  e2 : ∀ j, j < n → i ≤ j → ∃ m : E, El w b (o + j * 4) m.cells
  mv : Mv (fun x => x = b ∨ False) (fun x => x = b ∨ False) w0 w

theorem MidE.step {w0 wr w5 : World} {b o t n i : Nat} (h : MidE w0 wr b o t n i) (hi : i < n)
    (hu : Cl.Up (fun _ => False) b (o + i * 4) wr w5 (mkE (t + 4 * i)).cells) : MidE w0 w5 b o t n (i + 1) := by
  have farEl : ∀ (j : Nat) (q : E), j ≠ i → El wr b (o + j * 4) q.cells → El w5 b (o + j * 4) q.cells := fun j q hne hq => fun p hp => by
    have hp' : p < 4 := by rw [E.len] at hp; exact hp
    exact (hu.far (o + j * 4 + p) (by rw [E.len]; omega)).trans (hq p hp)
  refine ⟨hu.lb', fun x => (hu.fb x).trans (h.fb x), fun j hj hji => ?_, fun j hj hij => ?_, h.mv.trans hu.mv⟩
  · by_cases e : j = i
    · subst e; exact hu.el
    · exact farEl j _ e (h.e1 j hj (by omega))
  · obtain ⟨m, hm⟩ := h.e2 j hj (by omega)
    exact ⟨m, farEl j _ (by omega) hm⟩

/-- A row of events that may be written. -/
structure WrE (w : World) (A : Option Addr) (n cap : Nat) (ms : List E) : Prop where
  has : LiE w w.heap.size A n cap ms
  fz : ∀ b ∈ Cl.frontN A n, ∀ o, w.frozen? ⟨b, o, none⟩ = false

set_option maxHeartbeats 8000000 in
set_option maxRecDepth 100000 in
theorem markES (A : Option Addr) (n cap : Nat) (ms : List E) (t0 : Nat) (w : World) (ht0 : 1 ≤ t0) (hm : t0 + 4 * n ≤ 90000000) (hw : WrE w A n cap ms) :
    Calls Try.prog 10 #[.slice A n cap, .int .i64 (t0 : Int)] w fun e w' => e = .returned (.int .i64 ((t0 + 4 * n : Nat) : Int)) ∧ LiE w' w'.heap.size A n cap (mkR t0 n) ∧ Mv (· ∈ Cl.frontN A n) (· ∈ Cl.frontN A n) w w' := by
  have hnc := hw.has.nc
  have hcm := hw.has.cm
  have hlen := hw.has.len
  by_cases hp : 0 < n
  · obtain ⟨b, o, rfl, hbB, he⟩ := hw.has.at_ (by omega)
    have hfr : Cl.frontN (some ⟨b, o, none⟩) n = [b] := by
      obtain ⟨n', rfl⟩ : ∃ n', n = n' + 1 := ⟨n - 1, by omega⟩
      rfl
    have HFR := Lib.hid hfr
    have HM0 : Hid (MidE w w b o t0 n 0) := Lib.hid (by
      have hfz := hw.fz
      rw [hfr] at hfz
      exact ⟨hbB, fun x => hfz b (by simp) x, fun j hj hji => by omega, fun j hj _ => ⟨ms[j]'(by omega), he j (by omega)⟩, ⟨rfl, rfl, rfl, Nat.le_refl _, fun _ _ _ => rfl, fun _ h => .inl h⟩⟩)
    have HSZ := Lib.hid (And.intro hnc hcm)
    have HSM := Lib.hid hm
    unfold maxLen at hcm
    clear hw hlen he hfr hm hbB
    go_enter Try.func10, Try.ntmps10
    go_wp2_with fail
    go_loopw [1, 5] (fun v i wr => ∃ (j : Nat) (t : Nat), j ≤ n ∧ i = .int .i64 j ∧ v = .int .i64 (t : Int) ∧ Hid (t = t0 + 4 * j) ∧ Hid (MidE w wr b o t0 n j)) (fun _ i _ => n - (intOf i).toNat)
    case atStart => exact ⟨0, t0, Nat.zero_le _, rfl, rfl, Lib.hid rfl, HM0⟩
    case round =>
      clear HM0
      obtain ⟨j, t, hj, rfl, rfl, HT, HM⟩ := hrel
      by_cases hlt : j < n
      · have ht1 : 1 ≤ t := by rw [HT.out]; omega
        have ht2 : t + 4 ≤ 90000000 := by have := HSM.out; have := HT.out; omega
        obtain ⟨p, hE⟩ := HM.out.e2 j hlt (Nat.le_refl _)
        have HMT : Hid (∀ (q : Nat) (z : Int) (v : World), z = (q : Int) → t ≤ q → q ≤ 90000000 → Calls Try.prog 23 #[.int .i64 z] v fun e w' => e = .returned (.string (mt q)) ∧ Below v.heap.size v w') := Lib.hid fun q z v hz h1 h2 => by
          rw [hz]; exact markText q (by omega) (by omega) v
        have U0 : Hid (Cl.Up (fun _ => False) b (o + j * 4) wr wr p.cells) := Lib.hid (Cl.Up.start hE HM.out.lb)
        have FB : Hid (∀ x, wr.frozen? ⟨b, x, none⟩ = false) := Lib.hid HM.out.fb
        obtain ⟨c0, c1, -, -⟩ := e4 hE
        have f0 := FB.out (o + j * 4)
        have f1 := FB.out (o + j * 4 + 1)
        clear hE
        go_wp2_with (go_at_call 23; refine (HMT.out (t + 2) _ _ (by omega) (by omega) (by omega)).mono ?_; rintro e w2 ⟨rfl, hb2⟩; refine Hid.out ?_)
        refine Lib.hid ?_
        have U2 := Lib.hid (((U0.out.set 0 (by simp [E.len]) (.int .i64 (t : Int))).set 1 (by simp [E.len]) (.int .i64 ((t : Int) + 1))).below hb2)
        have G2 : Hid (∀ x, w2.frozen? ⟨b, x, none⟩ = false) := Lib.hid fun x => (U2.out.fb x).trans (FB.out x)
        obtain ⟨s2, hs2⟩ : ∃ s, s = mt (t + 2) := ⟨_, rfl⟩
        rw [← hs2]
        have HS2 := Lib.hid hs2
        clear hs2 hb2 U0 c0 f0 c1 f1
        obtain ⟨x2, c2⟩ : ∃ x, w2.cell? ⟨b, o + j * 4 + 2, none⟩ = some x := ⟨_, U2.out.el 2 (by simp [E.len])⟩
        have f2 := G2.out (o + j * 4 + 2)
        obtain ⟨x3, c3⟩ : ∃ x, w2.cell? ⟨b, o + j * 4 + 3, none⟩ = some x := ⟨_, U2.out.el 3 (by simp [E.len])⟩
        have f3 := G2.out (o + j * 4 + 3)
        have U3 := Lib.hid ((U2.out.set 2 (by simp [E.len]) (.string s2)).set 3 (by simp [E.len]) (.int .i64 ((t : Int) + 1 + 1 + 1)))
        have HNX : Hid (MidE w ((w2.setCell ⟨b, o + j * 4 + 2, none⟩ (.string s2)).setCell ⟨b, o + j * 4 + 3, none⟩ (.int .i64 ((t : Int) + 1 + 1 + 1))) b o t0 n (j + 1)) := Lib.hid (by
          refine HM.out.step hlt ?_
          rw [← HT.out, mkE_cells, ← HS2.out]
          exact U3.out)
        have HTN : Hid (t + 4 = t0 + 4 * (j + 1)) := Lib.hid (by have := HT.out; omega)
        clear U2 U3 G2 HS2
        go_wp2_with fail
        go_roundw
        case rel => exact ⟨j + 1, t + 4, by omega, by go_num, by go_num, HTN, HNX⟩
        case measure => simp [intOf]; omega
      · have HE : Hid (j = n) := Lib.hid (by omega)
        go_wp2_with fail
        go_ret
        refine ⟨?_, ⟨fun hp => ⟨b, o, rfl, HM.out.lb, fun i hi => ?_⟩, fun x hx => ?_, ?_, HSZ.out.1, HSZ.out.2⟩, ?_⟩
        · have := HT.out
          rw [HE.out] at this
          rw [← this]; rfl
        · have hi' : i < n := by rw [mkR_length] at hi; exact hi
          rw [mkR_get n t0 i hi']
          exact HM.out.e1 i hi' (by have := HE.out; omega)
        · obtain ⟨i, hi, rfl⟩ := List.mem_iff_getElem.1 hx
          have hi' : i < n := by rw [mkR_length] at hi; exact hi
          rw [mkR_get n t0 i hi']
          have q1 := mt_size (t0 + 4 * i + 2)
          have hM := HSM.out
          unfold maxLen; simp only [mkE]; omega
        · rw [mkR_length]
        · have := HM.out.mv
          rw [HFR.out]
          simpa only [List.mem_singleton, or_false] using this
  · have hn0 : n = 0 := by omega
    subst hn0
    have hnil : ms = [] := List.eq_nil_of_length_eq_zero (by omega)
    subst hnil
    have HH := Lib.hid hw.has
    clear hw hp hm hlen
    go_enter Try.func10, Try.ntmps10
    go_wp2_with fail
    go_loopw [1, 5] (fun v i wr => v = .int .i64 (t0 : Int) ∧ i = .int .i64 0 ∧ w = wr) (fun _ i _ => 0)
    case atStart => exact ⟨rfl, rfl, rfl⟩
    case round =>
      obtain ⟨rfl, rfl, rfl⟩ := hrel
      go_wp2_with fail
      go_ret
      exact ⟨rfl, HH.out, ⟨rfl, rfl, rfl, Nat.le_refl _, fun _ _ _ => rfl, fun _ h => .inl h⟩⟩

set_option maxHeartbeats 8000000 in
set_option maxRecDepth 100000 in
theorem heldES (A : Option Addr) (n cap : Nat) (t0 : Nat) (w : World) (ht0 : 1 ≤ t0) (hm : t0 + 4 * n ≤ 90000000) (hw : LiE w w.heap.size A n cap (mkR t0 n)) :
    Calls Try.prog 11 #[.slice A n cap, .int .i64 (t0 : Int)] w fun e w' => e = .returned (.int .i64 ((t0 + 4 * n : Nat) : Int)) ∧ Below w.heap.size w w' := by
  have hcm := hw.cm
  have hnc := hw.nc
  have HL := Lib.hid hw
  have HSM := Lib.hid hm
  unfold maxLen at hcm
  clear hw hm
  go_enter Try.func11, Try.ntmps11
  go_wp2_with fail
  go_loopw [1, 5] (fun v i wr => ∃ (j : Nat) (t : Nat), j ≤ n ∧ i = .int .i64 j ∧ v = .int .i64 (t : Int) ∧ Hid (t = t0 + 4 * j) ∧ Hid (Below w.heap.size w wr)) (fun _ i _ => n - (intOf i).toNat)
  case atStart => exact ⟨0, t0, Nat.zero_le _, rfl, rfl, Lib.hid rfl, Lib.hid (Below.refl _ _)⟩
  case round =>
    obtain ⟨j, t, hj, rfl, rfl, HT, HB⟩ := hrel
    by_cases hlt : j < n
    · have ht1 : 1 ≤ t := by rw [HT.out]; omega
      have ht2 : t + 4 ≤ 90000000 := by have := HSM.out; have := HT.out; omega
      obtain ⟨b, o, hj', rfl, hB, hc⟩ := HL.out.get hlt
      obtain ⟨s2, hs2⟩ : ∃ s, s = mt (t + 2) := ⟨_, rfl⟩
      have CT : Hid (∀ v, Below wr.heap.size wr v → v.cell? ⟨b, o + j * 4, none⟩ = some (.int .i64 (t : Int)) ∧ v.cell? ⟨b, o + j * 4 + 1, none⟩ = some (.int .i64 ((t : Int) + 1)) ∧ v.cell? ⟨b, o + j * 4 + 2, none⟩ = some (.string s2) ∧ v.cell? ⟨b, o + j * 4 + 3, none⟩ = some (.int .i64 ((t : Int) + 1 + 1 + 1))) := Lib.hid fun v hv => by
        have hE := hc v (HB.out.trans (hv.mono HB.out.size))
        rw [mkR_get n t0 j hlt, ← HT.out, mkE_cells, ← hs2] at hE
        exact ⟨hE 0 (by simp), hE 1 (by simp), hE 2 (by simp), hE 3 (by simp)⟩
      have CT2 : Hid (∀ v, Below wr.heap.size wr v → v.cell? ⟨b, o + j * 4 + 2, none⟩ = some (.string s2)) := Lib.hid fun v hv => (CT.out v hv).2.2.1
      have HM2 : Hid (∀ v, Calls Try.prog 23 #[.int .i64 ((t : Int) + 1 + 1)] v fun e w' => e = .returned (.string s2) ∧ Below v.heap.size v w') := Lib.hid fun v => by rw [hs2, show (t : Int) + 1 + 1 = ((t + 2 : Nat) : Int) by omega]; exact markText (t + 2) (by omega) (by omega) v
      have HTN : Hid (t + 4 = t0 + 4 * (j + 1)) := Lib.hid (by have := HT.out; omega)
      have hcc := CT.out wr (Below.refl _ _)
      obtain ⟨c0, c1, c2, c3⟩ := hcc
      have i0 : (0 : Int) ≤ (j : Int) := by omega
      have i1 : (j : Int) < (n : Int) := by omega
      clear hc hs2 hB c3
      go_wp2_with fail
      go_region_held3 (fun v => v.cell? ⟨b, o + j * 4 + 2, none⟩ = some (.string s2)) (first | (refine CT2.out _ ?_; (repeat (first | exact Below.refl _ _ | exact b1 | apply Below.drew)); done))
        (first | (go_at_call 23; (with_reducible refine (HM2.out _).mono ?_); rintro e w1 ⟨rfl, hb⟩; have b1 : Below wr.heap.size wr w1 := (Below.trans (by (repeat (first | exact Below.refl _ _ | apply Below.drew))) (hb.mono (by first | omega | (simp; done) | (simp; omega)))); clear hb))
      all_goals clear c0 c1 c2
      all_goals have hcc := CT.out w1 b1
      all_goals obtain ⟨-, -, -, c3⟩ := hcc
      all_goals go_wp2_with fail
      all_goals go_roundw
      all_goals first
        | exact ⟨j + 1, t + 4, by omega, by go_num, by go_num, HTN, Lib.hid (HB.out.trans (b1.mono HB.out.size))⟩
        | (simp [intOf]; omega)
    · have HE : Hid (j = n) := Lib.hid (by omega)
      go_wp2_with fail
      go_ret
      refine ⟨?_, HB.out⟩
      have := HT.out
      rw [HE.out] at this
      rw [← this]; rfl

end Go.Proofs.Ytomloodakabcbaa.Et
