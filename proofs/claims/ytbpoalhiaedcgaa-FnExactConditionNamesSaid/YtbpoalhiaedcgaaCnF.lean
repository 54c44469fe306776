/-
  Both ConditionNames; the marks of a row of strings.
-/
import Derived.Test.YtbpoalhiaedcgaaNcF
import Derived.Test.YtbpoalhiaedcgaaMark
import Derived.Test.YtbpoalhiaedcgaaRowEq
import Derived.Deep.RegionWith
namespace Go.Proofs.Ytbpoalhiaedcgaa.CnF
open Go.RowKit Go.Sort Go.Proofs.Ytbpoalhiaedcgaa.Cond Go.Proofs.Ytbpoalhiaedcgaa.SrtR Go.Proofs.Ytbpoalhiaedcgaa.NdI Go.Proofs.Ytbpoalhiaedcgaa.NdS Go.Proofs.Ytbpoalhiaedcgaa.Mark
set_option linter.unusedVariables false

/-- What ConditionNames answers. -/
structure CnIs (c : C) (D : List (List UInt8)) (y : Bool) : Prop where
  no : c.good = false → D = [] ∧ y = false
  yes : c.good = true → D = UniTM.uni [] (nms c) ∧ y = true
theorem cn_is (c : C) : ∃ D y, CnIs c D y := by
  cases h : c.good with
  | false => exact ⟨[], false, ⟨fun _ => ⟨rfl, rfl⟩, fun h2 => (by rw [h] at h2; cases h2)⟩⟩
  | true => exact ⟨UniTM.uni [] (nms c), true, ⟨fun h2 => (by rw [h] at h2; cases h2), fun _ => ⟨rfl, rfl⟩⟩⟩
theorem CnIs.len {c : C} {D : List (List UInt8)} {y : Bool} (h : CnIs c D y) : D.length ≤ 15 := by
  cases hg : c.good with
  | false => rw [(h.no hg).1]; simp
  | true =>
    rw [(h.yes hg).1]
    have h1 := UniTM.length_uni (nms c) []
    have h2 := nms_len c
    simp only [C.good, Bool.and_eq_true, decide_eq_true_eq] at hg
    simp at h1
    omega

/-- A row of strings of the call's own, and a bool. -/
def CnAns (D : List (List UInt8)) (y : Bool) (w : World) (e : Ending) (w' : World) : Prop :=
  ∃ g n c, n = D.length ∧ e = .returned (.tuple #[.slice (some ⟨g, 0, none⟩) n c, .bool y]) ∧ UniT.Own w' w.heap.size (.slice (some ⟨g, 0, none⟩) n c) D ∧ Below w.heap.size w w'

theorem own_le {w : World} {base base' : Nat} {D : List (List UInt8)} {v : Value} (h : UniT.Own w base v D) (hb : base' ≤ base) : UniT.Own w base' v D := by
  refine ⟨h.1, ?_⟩
  rcases h.2 with h2 | ⟨g, cap, cur, hv, hg, r⟩
  · exact .inl h2
  · exact .inr ⟨g, cap, cur, hv, by omega, r⟩

set_option maxHeartbeats 4000000 in
theorem specCn (k : K) (w : World) (hin : Lies w w.heap.size k) (hw : k.cond.wt ≤ 1048576) (D : List (List UInt8)) (y : Bool) (hx : CnIs k.cond D y) :
    Calls Try.prog 22 #[k.val] w (CnAns D y w) := by
  have B0 := Lib.hid (below1 w (.cells #[.int .i64 k.op, .string k.nm, .int .i64 k.day, .slice k.A k.ps.length k.cap] 30))
  have X0 := Lib.hid (B4.new w (.int .i64 k.op) (.string k.nm) (.int .i64 k.day) (.slice k.A k.ps.length k.cap) 30)
  have HG := l5Good k _ (hin.on B0.out) hw
  have HX := Lib.hid hx
  have HIN := Lib.hid hin
  have HQ : Hid (k.cond.good = true → k.cond.size ≤ 15) := Lib.hid fun h => by simp only [C.good, Bool.and_eq_true, decide_eq_true_eq] at h; exact h.2
  clear hin hw hx
  obtain ⟨g, hg⟩ : ∃ g, g = k.cond.good := ⟨_, rfl⟩
  rw [← hg] at HG
  have HGG := Lib.hid hg
  have HGH := Lib.hid HG
  clear hg HG
  cases g
  · have HE := Lib.hid (HX.out.no HGG.out.symm)
    go_enter Try.func22, Try.ntmps22
    go_wp2_with (go_at_call 38; refine HGH.out.mono ?_; rintro e w2 ⟨rfl, hb2⟩; refine Hid.out ?_)
    refine Lib.hid ?_
    have B2 := Lib.hid (B0.out.trans (hb2.mono B0.out.size))
    clear hb2
    go_wp2_with fail
    go_ret2
    rw [HE.out.1, HE.out.2]
    exact ⟨w2.heap.size, 0, 0, rfl, rfl, own_le (UniT.own_new w2) B2.out.size, B2.out.alloc B2.out.size _⟩
  have HE := Lib.hid (HX.out.yes HGG.out.symm)
  go_enter Try.func22, Try.ntmps22
  go_wp2_with (go_at_call 38; refine HGH.out.mono ?_; rintro e w2 ⟨rfl, hb2⟩; refine Hid.out ?_)
  refine Lib.hid ?_
  have B2 := Lib.hid (B0.out.trans (hb2.mono B0.out.size))
  have X2 := Lib.hid (X0.out.on hb2)
  have b3 := below1 w2 (.cells #[] 9)
  have X3 := Lib.hid (X2.out.on b3)
  obtain ⟨_, x0, x1, x2, x3, _⟩ := X3.out
  have B3 := Lib.hid (B2.out.trans (b3.mono B2.out.size))
  have HDD := Lib.hid (l5Names k w2.heap.size 0 0 [] (w2.alloc (.cells #[] 9)) w2.heap.size rfl (by have := HQ.out HGG.out.symm; omega) b3.size (UniT.own_new w2) (HIN.out.on B3.out))
  clear b3 hb2
  go_wp2_with (go_at_call 52; refine HDD.out.mono ?_; rintro e w4 ⟨g4, n4, c4, hn4, rfl, ho4, hb4⟩; have HN4 := Lib.hid hn4; clear hn4)
  go_ret2
  rw [HE.out.1, HE.out.2]
  exact ⟨g4, n4, c4, HN4.out, rfl, own_le ho4 B2.out.size, B3.out.trans (hb4.mono B3.out.size)⟩

set_option maxHeartbeats 4000000 in
theorem implCn (k : K) (w : World) (hin : Lies w w.heap.size k) (hw : k.cond.wt ≤ 1048576) (D : List (List UInt8)) (y : Bool) (hx : CnIs k.cond D y) :
    Calls Try.prog 23 #[k.val] w (CnAns D y w) := by
  have B0 := Lib.hid (below1 w (.cells #[.int .i64 k.op, .string k.nm, .int .i64 k.day, .slice k.A k.ps.length k.cap] 30))
  have X0 := Lib.hid (B4.new w (.int .i64 k.op) (.string k.nm) (.int .i64 k.day) (.slice k.A k.ps.length k.cap) 30)
  have HG := implGood k _ (hin.on B0.out) hw
  have HX := Lib.hid hx
  have HIN := Lib.hid hin
  have HQ : Hid (k.cond.good = true → k.cond.size ≤ 15 ∧ ∃ q : Q, k.cond = q.c) := Lib.hid fun h => by
    obtain ⟨q, hq, _, _⟩ := good_q h
    simp only [C.good, Bool.and_eq_true, decide_eq_true_eq] at h
    exact ⟨h.2, q, hq⟩
  clear hin hw hx
  obtain ⟨g, hg⟩ : ∃ g, g = k.cond.good := ⟨_, rfl⟩
  rw [← hg] at HG
  have HGG := Lib.hid hg
  have HGH := Lib.hid HG
  clear hg HG
  cases g
  · have HE := Lib.hid (HX.out.no HGG.out.symm)
    go_enter Try.func23, Try.ntmps23
    go_wp2_with (go_at_call 15; refine HGH.out.mono ?_; rintro e w2 ⟨rfl, hb2⟩; refine Hid.out ?_)
    refine Lib.hid ?_
    have B2 := Lib.hid (B0.out.trans (hb2.mono B0.out.size))
    clear hb2
    go_wp2_with fail
    go_ret2
    rw [HE.out.1, HE.out.2]
    exact ⟨w2.heap.size, 0, 0, rfl, rfl, own_le (UniT.own_new w2) B2.out.size, B2.out.alloc B2.out.size _⟩
  have HE := Lib.hid (HX.out.yes HGG.out.symm)
  go_enter Try.func23, Try.ntmps23
  go_wp2_with (go_at_call 15; refine HGH.out.mono ?_; rintro e w2 ⟨rfl, hb2⟩; refine Hid.out ?_)
  refine Lib.hid ?_
  have B2 := Lib.hid (B0.out.trans (hb2.mono B0.out.size))
  have X2 := Lib.hid (X0.out.on hb2)
  obtain ⟨_, x0, x1, x2, x3, _⟩ := X2.out
  obtain ⟨hs15, q, hq⟩ := HQ.out HGG.out.symm
  have b3 := below1 w2 (.cells #[.int .i64 k.op, .string k.nm, .int .i64 k.day, .slice k.A k.ps.length k.cap] 30)
  have B3 := Lib.hid (B2.out.trans (b3.mono B2.out.size))
  have HDD := names (some ⟨w2.heap.size, 0, none⟩) 1 [k] (w2.alloc (.cells #[.int .i64 k.op, .string k.nm, .int .i64 k.day, .slice k.A k.ps.length k.cap] 30)) ((NcF.at_one w2 k).more (by simp)) (fun p hp => by
    have : p = k := by simpa using hp
    subst this
    exact HIN.out.on B3.out) (by simp) (fun p hp => by
    have : p = k := by simpa using hp
    subst this
    exact hs15)
  have HCL : Hid (cols (conds [k]) ([], []) = (nms k.cond, dys k.cond)) := Lib.hid (by
    simp only [conds, cols, List.foldl_cons, List.foldl_nil]
    rw [hq, col_q]; simp)
  rw [HCL.out] at HDD
  have HDH := Lib.hid HDD
  have HYS : Hid (Lib.compact (srtT (nms k.cond)) = UniTM.uni [] (nms k.cond)) := Lib.hid (comp_nms _)
  clear b3 hb2 HDD hs15 hq
  go_wp2_with (go_at_call 53; refine HDH.out.mono ?_; rintro e w4 ⟨g1, m1, c1, g4, n4, c4, rfl, hnd⟩; have HND := Lib.hid hnd; clear hnd)
  go_ret2
  rw [HE.out.1, HE.out.2, ← HYS.out]
  exact ⟨g1, m1, c1, HND.out.l1, rfl, own_le HND.out.o1 B3.out.size, B3.out.trans (HND.out.bel.mono B3.out.size)⟩

theorem isOf {w : World} {S g c : Nat} {D : List (List UInt8)} (h : UniT.Own w S (.slice (some ⟨g, 0, none⟩) D.length c) D) : Row.Is w w.heap.size (some ⟨g, 0, none⟩) (UniT.strs D) := by
  refine Row.Is.of_own (base := S) (n := D.length) (cap := c) ?_ (by simp [UniT.strs])
  rw [← UniT.map_strs]; exact h

theorem own_on {B : Nat} {e : TypeId} {k : Nat} {v : Value} {n : Nat} {xs : List Value} {w w' : World} (h : w.ownsRow B e k v n xs) (hb : Below w.heap.size w w') : w'.ownsRow B e k v n xs :=
  h.kept (row := none) ⟨hb.os, hb.tape, hb.output, hb.size, fun j hj _ => hb.block j hj⟩ (by cases hv : v.ownBlock <;> simp)

theorem own_addr {w : World} {base e n cap : Nat} {A : Option Addr} {xs : List Value} (h : w.ownsRow base e 1 (.slice A n cap) n xs) (h0 : 0 < n) : ∃ g, A = some ⟨g, 0, none⟩ ∧ base ≤ g := by
  rcases h.2 with ⟨_, h2⟩ | ⟨g, c, cur, hv, hb, _⟩
  · omega
  · injection hv with h1 h2 h3
    exact ⟨g, h1, hb⟩

/-- The first k elements are the marks from 1 on. -/
def Marked (k : Nat) (xs : List Value) : Prop := ∀ j, j < k → xs[j]? = some (.string (mt (1 + j)))

theorem Marked.set {k : Nat} {xs : List Value} (h : Marked k xs) (hk : k < xs.length) : Marked (k + 1) (xs.set k (.string (mt (1 + k)))) := fun j hj => by
  by_cases e : j = k
  · subst e; rw [List.getElem?_set_self hk]
  · rw [List.getElem?_set_ne (by omega)]; exact h j (by omega)

set_option maxHeartbeats 1000000 in
theorem markRow (A : Option Addr) (n cap base : Nat) (xs : List Value) (w : World) (hn : n ≤ 5000) (hbase : base ≤ w.heap.size) (hown : w.ownsRow base 9 1 (.slice A n cap) n xs) :
    Calls Try.prog 25 #[.slice A n cap, .int .i64 1] w fun e w' =>
      e = .returned (.int .i64 ((1 + n : Nat) : Int)) ∧ (∃ ys, w'.ownsRow base 9 1 (.slice A n cap) n ys ∧ Marked n ys) ∧ Below base w w' := by
  go_enter Try.func25, Try.ntmps25
  go_wp2_with fail
  go_loopw [1, 5] (fun m i wr => ∃ (k : Nat) (ys : List Value), k ≤ n ∧ m = .int .i64 ((1 + k : Nat) : Int) ∧ i = .int .i64 k ∧ wr.ownsRow base 9 1 (.slice A n cap) n ys ∧ Hid (Marked k ys) ∧ Below base w wr) (fun _ i _ => n - (intOf i).toNat)
  case atStart => exact ⟨0, xs, Nat.zero_le _, rfl, rfl, hown, Lib.hid (fun j hj => by omega), Below.refl _ _⟩
  case round =>
    obtain ⟨k, ys, hk, rfl, rfl, hown, HM, hb⟩ := hrel
    by_cases hlt : k < n
    · obtain ⟨g, rfl, hg⟩ := own_addr hown (by omega)
      have hbs := hb.size
      go_wp2_with (go_at_call 55; refine (markText (1 + k) (by omega) (by omega) wr).mono ?_; rintro e w3 ⟨rfl, hb3⟩; refine Hid.out ?_)
      refine Lib.hid ?_
      have hown3 := own_on hown hb3
      have hfz : w3.frozen? ⟨g, k, none⟩ = false := hown3.frozenAt k
      obtain ⟨old, hold⟩ : ∃ old, w3.cell? ⟨g, k, none⟩ = some old := by
        rw [hown3.cellAt k (by omega)]
        exact ⟨_, List.getElem?_eq_getElem (by rw [hown3.1]; omega)⟩
      have hbb : Below base w w3 := hb.trans (hb3.mono (by omega))
      obtain ⟨p, hp⟩ : ∃ p, p = mt (1 + k) := ⟨_, rfl⟩
      have R : ∀ w4, w3.setCell ⟨g, k, none⟩ (.string p) = w4 → w4.ownsRow base 9 1 (.slice (some ⟨g, 0, none⟩) n cap) n (ys.set k (.string p)) ∧ Below base w w4 := by
        rintro _ rfl
        exact ⟨(hown3.stored k (.string p)).1, hbb.setCell hg _⟩
      have HR := Lib.hid R
      have HL : Hid (Marked (k + 1) (ys.set k (.string p))) := Lib.hid (by rw [hp]; exact HM.out.set (by rw [hown.1]; omega))
      rw [← hp]
      clear R hown hown3 hp hbb
      go_wp2
      go_roundw
      case rel => exact ⟨k + 1, ys.set k (.string p), by omega, by go_num, by go_num, (HR.out _ rfl).1, Lib.hid HL.out, (HR.out _ rfl).2⟩
      case measure => simp [intOf]; omega
    · have e : k = n := by omega
      subst e
      go_wp2
      go_ret
      exact ⟨rfl, ⟨ys, hown, HM.out⟩, hb⟩

set_option maxHeartbeats 1000000 in
theorem heldRow (A : Option Addr) (n cap base : Nat) (ys : List Value) (w : World) (hn : n ≤ 5000) (hown : w.ownsRow base 9 1 (.slice A n cap) n ys) (hm : Marked n ys) :
    Calls Try.prog 26 #[.slice A n cap, .int .i64 1] w fun e w' =>
      e = .returned (.int .i64 ((1 + n : Nat) : Int)) ∧ Below w.heap.size w w' := by
  have HM := Lib.hid hm
  clear hm
  go_enter Try.func26, Try.ntmps26
  go_wp2_with fail
  go_loopw [1, 5] (fun m i wr => ∃ (k : Nat), k ≤ n ∧ m = .int .i64 ((1 + k : Nat) : Int) ∧ i = .int .i64 k ∧ Below w.heap.size w wr) (fun _ i _ => n - (intOf i).toNat)
  case atStart => exact ⟨0, Nat.zero_le _, rfl, rfl, Below.refl _ _⟩
  case round =>
    obtain ⟨k, hk, rfl, rfl, hb⟩ := hrel
    by_cases hlt : k < n
    · obtain ⟨g, rfl, hg⟩ := own_addr hown (by omega)
      have hbs := hb.size
      have hown2 := own_on hown hb
      obtain ⟨p, hp⟩ : ∃ p, p = mt (1 + k) := ⟨_, rfl⟩
      have hc : wr.drew.cell? ⟨g, k, none⟩ = some (.string p) := by
        have h1 : wr.cell? ⟨g, k, none⟩ = some (.string p) := by rw [hown2.cellAt k (by omega), hp]; exact HM.out k hlt
        exact h1
      have hgl : g < wr.heap.size := World.block_lt_of_cell? wr ⟨g, k, none⟩ hc
      have HT : Hid (Calls Try.prog 55 #[.int .i64 ((1 + k : Nat) : Int)] wr.drew fun e w' => e = .returned (.string p) ∧ Below wr.heap.size wr w' ∧ w'.cell? ⟨g, k, none⟩ = some (.string p)) := Lib.hid (by
        refine (markText (1 + k) (by omega) (by omega) wr.drew).mono ?_
        rintro e w3 ⟨rfl, hb3⟩
        rw [← hp]
        exact ⟨rfl, ⟨hb3.os, hb3.tape, hb3.output, hb3.size, hb3.block⟩, (hb3.cell (p := ⟨g, k, none⟩) hgl).trans hc⟩)
      clear hown2 hp
      have i0 : (0 : Int) ≤ (k : Int) := by omega
      have i1 : (k : Int) < (n : Int) := by omega
      go_wp2_with fail
      go_region_with (go_at_call 55; refine HT.out.mono ?_; rintro e w3 ⟨rfl, hb3, hc3⟩)
      all_goals go_wp2
      all_goals go_roundw
      all_goals first
        | exact ⟨k + 1, by omega, by go_num, by go_num, hb.trans (hb3.mono hbs)⟩
        | (simp [intOf]; omega)
    · have e : k = n := by omega
      subst e
      go_wp2
      go_ret
      exact ⟨rfl, hb⟩

end Go.Proofs.Ytbpoalhiaedcgaa.CnF
