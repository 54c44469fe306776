/-
  The model's ClauseNumber, DependentClauses, ClausesOf, FactNames.
  The model's DependentClauses, ClausesOf, FactNames.
  The model's ClausesOf, FactNames.
  The model's l1Has: whether a row of ints holds an int.
  The model's RepairChain.
  The marks of a row of strings.
  The marks that the laws write into a slice of ints, and read back: markIntS and heldIntS.
  Rows in the answers of the functions over contracts; how many marks a contract takes.
-/
import Derived.Test.YtomloodakabcbabGreatClV
import Derived.Test.YtomloodakabcbabGreatUniS
import Derived.Deep.RegionHeld3
import Derived.OwnWalk
import Derived.Test.YtomloodakabcbabGreatUniT
import Derived.Test.YtomloodakabcbabGreatMark
import Derived.Test.YtomloodakabcbabGreatRowEq
import Derived.Deep.RegionWith
import Derived.Test.YtomloodakabcbabGreatIRow
import Derived.Test.YtomloodakabcbabGreatClMc
namespace Go.Proofs.YtomloodakabcbabGreat.Cl
open Go.RowKit Go.Proofs.YtomloodakabcbabGreat.Cond Go.Proofs.YtomloodakabcbabGreat.Gx Go.Proofs.YtomloodakabcbabGreat.NdS
set_option linter.unusedVariables false
set_option linter.unusedSimpArgs false

/-- What ClauseNumber finds. -/
def cnB (c : Ct) (id : ByteArray) : Bool := c.good && decide (fnd c.ls id < c.ls.length)
def cnN (c : Ct) (id : ByteArray) : Int := if cnB c id then (fnd c.ls id : Int) else 0
theorem fndI_yes {ls : List L} {id : ByteArray} (h : fnd ls id < ls.length) : fndI ls id = (fnd ls id : Int) := if_pos h
theorem fndI_none {ls : List L} {id : ByteArray} (h : ¬ fnd ls id < ls.length) : fndI ls id = -1 := if_neg h

/-- Whether a clause names this Id as its repair. -/
def isRep (id : ByteArray) (y : L) : Bool := decide (y.rep.toList = id.toList)
def dep (ls : List L) (id : ByteArray) : Bool := ls.any (isRep id)
theorem dep_yes {ls : List L} {id : ByteArray} {k : Nat} (hk : k < ls.length) (h : ls[k].rep.toList = id.toList) : dep ls id = true := List.any_eq_true.2 ⟨ls[k], List.getElem_mem hk, decide_eq_true h⟩
theorem dep_no {ls : List L} {id : ByteArray} (h : ∀ k, ∀ hk : k < ls.length, isRep id ls[k] = false) : dep ls id = false := by
  unfold dep
  rw [List.any_eq_false]
  intro y hy
  obtain ⟨k, hk, rfl⟩ := List.getElem_of_mem hy
  rw [h k hk]; simp

end Go.Proofs.YtomloodakabcbabGreat.Cl

namespace Go.Proofs.YtomloodakabcbabGreat.Cl
open Go.RowKit Go.Proofs.YtomloodakabcbabGreat.Cond Go.Proofs.YtomloodakabcbabGreat.Gx Go.Proofs.YtomloodakabcbabGreat.NdS
set_option linter.unusedVariables false
set_option linter.unusedSimpArgs false

/-- The numbers below k with a property, in order. -/
def sel (f : Nat → Bool) (k : Nat) : List Int := ((List.range k).filter f).map fun (i : Nat) => (i : Int)
theorem sel_zero (f : Nat → Bool) : sel f 0 = [] := rfl
theorem sel_yes {f : Nat → Bool} {k : Nat} (h : f k = true) : sel f (k + 1) = sel f k ++ [(k : Int)] := by
  unfold sel; rw [List.range_succ, List.filter_append, List.map_append]; simp [h]
theorem sel_no {f : Nat → Bool} {k : Nat} (h : f k = false) : sel f (k + 1) = sel f k := by
  unfold sel; rw [List.range_succ, List.filter_append, List.map_append]; simp [h]
theorem sel_len (f : Nat → Bool) (k : Nat) : (sel f k).length ≤ k := by
  unfold sel
  rw [List.length_map]
  have := List.length_filter_le f (List.range k)
  rw [List.length_range] at this
  exact this

/-- A row of ints of the call's own, with an answer. -/
def RowAns (S : Nat) (zs : List Int) (ok : Bool) (w : World) (e : Ending) (w' : World) : Prop :=
  ∃ g n c, n = zs.length ∧ e = .returned (.tuple #[.slice (some ⟨g, 0, none⟩) n c, .bool ok]) ∧ UniS.Own w' S (.slice (some ⟨g, 0, none⟩) n c) zs ∧ Below w.heap.size w w'
theorem own_some {S : Nat} {w : World} {A : Option Addr} {n c : Nat} {zs : List Int} (h : UniS.Own w S (.slice A n c) zs) (h0 : 0 < zs.length) : ∃ g, A = some ⟨g, 0, none⟩ := by
  rcases h.2 with ⟨_, h2⟩ | ⟨g, c, cur, hv, _⟩
  · omega
  · injection hv with h1 h2 h3
    exact ⟨g, h1⟩

theorem own_onI {S : Nat} {w w' : World} {v : Value} {zs : List Int} (h : UniS.Own w S v zs) (hb : Below w.heap.size w w') : UniS.Own w' S v zs :=
  h.kept (row := none) ⟨hb.os, hb.tape, hb.output, hb.size, fun j hj _ => hb.block j hj⟩ (by cases hv : v.ownBlock <;> simp)
theorem own_less {S S' : Nat} {w : World} {v : Value} {zs : List Int} (h : UniS.Own w S v zs) (hS : S' ≤ S) : UniS.Own w S' v zs := by
  refine ⟨h.1, ?_⟩
  rcases h.2 with h2 | ⟨g, c, cur, hv, hb, hr⟩
  · exact .inl h2
  · exact .inr ⟨g, c, cur, hv, Nat.le_trans hS hb, hr⟩
theorem pt_on {w u u' : World} {v : Value} {D : List Int} (h : UniS.Pt w u v D) (hb : Below u.heap.size u u') : UniS.Pt w u' v D := ⟨own_onI h.own hb, h.bel.trans (hb.mono h.bel.size)⟩

def depAt (ls : List L) (i : Nat) : Bool := if h : i < ls.length then dep ls ls[i].id else false
def depL (c : Ct) : List Int := if c.good then sel (depAt c.ls) c.ls.length else []
theorem depAt_is {ls : List L} {i : Nat} (h : i < ls.length) : depAt ls i = dep ls ls[i].id := dif_pos h

end Go.Proofs.YtomloodakabcbabGreat.Cl

namespace Go.Proofs.YtomloodakabcbabGreat.Cl
open Go.RowKit Go.Proofs.YtomloodakabcbabGreat.Cond Go.Proofs.YtomloodakabcbabGreat.Gx Go.Proofs.YtomloodakabcbabGreat.NdS
set_option linter.unusedVariables false
set_option linter.unusedSimpArgs false

/-- Whether clause i is of this party and kind (0: of any kind). -/
def ofB (y : L) (party kind : Int) : Bool := y.party == party && (kind == 0 || y.kind == kind)
def ofAt (ls : List L) (party kind : Int) (i : Nat) : Bool := if h : i < ls.length then ofB ls[i] party kind else false
theorem ofAt_is {ls : List L} {party kind : Int} {i : Nat} (h : i < ls.length) : ofAt ls party kind i = ofB ls[i] party kind := dif_pos h
def ofOk (c : Ct) (party kind : Int) : Bool := c.good && (decide (0 ≤ party) && decide (party ≤ (c.ss.length : Int) - 1)) && (decide (0 ≤ kind) && decide (kind ≤ 4))
def ofL (c : Ct) (party kind : Int) : List Int := if ofOk c party kind then sel (ofAt c.ls party kind) c.ls.length else []

/-- A row of strings of the call's own, with an answer. -/
def StrAns (S : Nat) (zs : List (List UInt8)) (ok : Bool) (w : World) (e : Ending) (w' : World) : Prop :=
  ∃ g n c, n = zs.length ∧ e = .returned (.tuple #[.slice (some ⟨g, 0, none⟩) n c, .bool ok]) ∧ UniT.Own w' S (.slice (some ⟨g, 0, none⟩) n c) zs ∧ Below w.heap.size w w'
def fnL (c : Ct) : List (List UInt8) := if c.good then names c.ls else []
theorem own_lessT {S S' : Nat} {w : World} {v : Value} {zs : List (List UInt8)} (h : UniT.Own w S v zs) (hS : S' ≤ S) : UniT.Own w S' v zs := by
  refine ⟨h.1, ?_⟩
  rcases h.2 with h2 | ⟨g, c, cur, hv, hb, hr⟩
  · exact .inl h2
  · exact .inr ⟨g, c, cur, hv, Nat.le_trans hS hb, hr⟩

end Go.Proofs.YtomloodakabcbabGreat.Cl

namespace Go.Proofs.YtomloodakabcbabGreat.HasI
open Go.RowKit Go.Proofs.YtomloodakabcbabGreat.IRow

theorem getD_get (zs : List Int) {k : Nat} (h : k < zs.length) : zs.getD k 0 = zs[k] := by simp [h]
theorem beqFalse {a b : Int} (h : a ≠ b) : (a == b) = false := by simp [h]

theorem contains_iff (zs : List Int) (x : Int) : zs.contains x = true ↔ ∃ j, ∃ h : j < zs.length, zs[j] = x := by
  rw [List.contains_iff_mem]
  constructor
  · intro h; obtain ⟨j, hj, e⟩ := List.getElem_of_mem h; exact ⟨j, hj, e⟩
  · rintro ⟨j, hj, e⟩; rw [← e]; exact List.getElem_mem hj

set_option maxHeartbeats 1000000 in
theorem l1HasAux (A : Option Addr) (n c : Nat) (zs : List Int) (x : Int) (b : Bool) (HB : Hid (zs.contains x = b)) (w : World) (B : Nat) (hn : n = zs.length) (hm : n ≤ 1048576) (hA : Is w B A zs) :
    Calls Tryz.prog 33 #[.slice A n c, .int .i64 x] w fun e w' => e = .returned (.bool b) ∧ w = w' := by
  have HN := Lib.hid hn
  clear hn
  go_enter Tryz.func33, Tryz.ntmps33
  go_wp2
  go_loop [5] (fun i => ∃ k : Nat, k ≤ n ∧ i = .int .i64 k ∧ Hid (∀ j, j < k → zs.getD j 0 ≠ x)) (fun i => n - (intOf i).toNat)
  case atStart => exact ⟨0, Nat.zero_le _, rfl, Lib.hid fun j hj => by omega⟩
  case round =>
    obtain ⟨k, hk, rfl, HK⟩ := hrel
    by_cases hlt : k < n
    · have hk' : k < zs.length := by have := HN.out; omega
      obtain ⟨ad, rfl, hB, hc⟩ := hA (by omega)
      obtain ⟨p, hp⟩ : ∃ p, p = zs.getD k 0 := ⟨_, rfl⟩
      have hcell : w.cell? (ad.add k) = some (.int .i64 p) := by rw [hp, getD_get zs hk']; exact hc k hk'
      have HP := Lib.hid hp
      have HK' := Lib.hid hk'
      clear hp hc hk'
      by_cases hx : p = x
      · subst hx
        have HE : Hid (true = b) := Lib.hid (by rw [← HB.out]; exact ((contains_iff zs p).2 ⟨k, HK'.out, by rw [← getD_get zs HK'.out]; exact HP.out.symm⟩).symm)
        go_wp2
        go_ret
        exact ⟨congrArg (fun b => Ending.returned (.bool b)) HE.out, rfl⟩
      · have HX := Lib.hid hx
        have hx1 : (p == x) = false := beqFalse hx
        clear hx
        go_wp2
        go_round
        case rel => exact ⟨k + 1, by omega, by go_num, Lib.hid fun j hj => by
          by_cases e : j = k
          · subst e; intro e2; exact HX.out (by rw [HP.out]; exact e2)
          · exact HK.out j (by omega)⟩
        case measure => simp [intOf]; omega
    · have HE : Hid (false = b) := Lib.hid (by
        rw [← HB.out]
        symm
        rw [Bool.eq_false_iff]
        intro h
        obtain ⟨j, hj, e⟩ := (contains_iff zs x).1 h
        exact HK.out j (by have := HN.out; omega) (by rw [getD_get zs hj]; exact e))
      go_wp2
      go_ret
      exact ⟨congrArg (fun b => Ending.returned (.bool b)) HE.out, rfl⟩

theorem l1Has (A : Option Addr) (n c : Nat) (zs : List Int) (x : Int) (w : World) (B : Nat) (hn : n = zs.length) (hm : n ≤ 1048576) (hA : Is w B A zs) :
    Calls Tryz.prog 33 #[.slice A n c, .int .i64 x] w fun e w' => e = .returned (.bool (zs.contains x)) ∧ w = w' := l1HasAux A n c zs x _ (Lib.hid rfl) w B hn hm hA

end Go.Proofs.YtomloodakabcbabGreat.HasI

namespace Go.Proofs.YtomloodakabcbabGreat.Cl
open Go.RowKit Go.Proofs.YtomloodakabcbabGreat.Cond Go.Proofs.YtomloodakabcbabGreat.Gx Go.Proofs.YtomloodakabcbabGreat.NdS
set_option linter.unusedVariables false
set_option linter.unusedSimpArgs false

def repAt (ls : List L) (i : Nat) : ByteArray := if h : i < ls.length then ls[i].rep else .empty
/-- The chain of repairs from clause i on, behind out, in at most f steps. -/
def chn (ls : List L) : Nat → List Int → Nat → List Int × Bool
  | 0, out, _ => (out, false)
  | f + 1, out, i =>
    if (repAt ls i).toList = [] then (out, false)
    else if out.contains (fnd ls (repAt ls i) : Int) then (out, true)
    else chn ls f (out ++ [(fnd ls (repAt ls i) : Int)]) (fnd ls (repAt ls i))
/-- How many numbers below n the row lacks. -/
def cnt (out : List Int) : Nat → Nat
  | 0 => 0
  | n + 1 => cnt out n + if out.contains (n : Int) then 0 else 1
theorem cnt_le (out : List Int) (n : Nat) : cnt out n ≤ n := by
  induction n with
  | zero => simp [cnt]
  | succ n ih => unfold cnt; split <;> omega
theorem contains_snoc (out : List Int) (k j : Int) : (out ++ [k]).contains j = (out.contains j || j == k) := by
  simp [List.contains_eq_any_beq, List.any_append]
  rfl
theorem cnt_mono (out : List Int) (k : Int) (n : Nat) : cnt (out ++ [k]) n ≤ cnt out n := by
  induction n with
  | zero => simp [cnt]
  | succ n ih =>
    unfold cnt
    rw [contains_snoc]
    cases out.contains (n : Int)
    · cases ((n : Int) == k) <;> simp <;> omega
    · simp; omega
theorem cnt_less {out : List Int} {k n : Nat} (hk : k < n) (h : out.contains (k : Int) = false) : cnt (out ++ [(k : Int)]) n + 1 ≤ cnt out n := by
  induction n with
  | zero => omega
  | succ n ih =>
    unfold cnt
    rw [contains_snoc]
    by_cases e : k = n
    · subst e
      have := cnt_mono out (k : Int) k
      rw [h]; simp; omega
    · have h1 := ih (by omega)
      have h2 : ((n : Int) == (k : Int)) = false := beq_eq_false_iff_ne.2 (by omega)
      rw [h2, Bool.or_false]
      omega
theorem chn_end {ls : List L} {f i : Nat} {out : List Int} (hf : 0 < f) (h : (repAt ls i).toList = []) : chn ls f out i = (out, false) := by
  obtain ⟨f', rfl⟩ : ∃ f', f = f' + 1 := ⟨f - 1, by omega⟩
  unfold chn
  rw [if_pos h]
theorem chn_cyc {ls : List L} {f i k : Nat} {out : List Int} (hf : 0 < f) (h : ¬ (repAt ls i).toList = []) (hk : k = fnd ls (repAt ls i)) (hc : out.contains (k : Int) = true) : chn ls f out i = (out, true) := by
  subst hk
  obtain ⟨f', rfl⟩ : ∃ f', f = f' + 1 := ⟨f - 1, by omega⟩
  unfold chn
  rw [if_neg h, if_pos hc]
theorem chn_on {ls : List L} {f i k : Nat} {out : List Int} (hf : 0 < f) (h : ¬ (repAt ls i).toList = []) (hk : k = fnd ls (repAt ls i)) (hc : out.contains (k : Int) = false) : chn ls f out i = chn ls (f - 1) (out ++ [(k : Int)]) k := by
  subst hk
  obtain ⟨f', rfl⟩ : ∃ f', f = f' + 1 := ⟨f - 1, by omega⟩
  rw [Nat.add_sub_cancel]
  conv => lhs; unfold chn
  rw [if_neg h, if_neg (by rw [hc]; simp)]
def chR (c : Ct) (i : Nat) : List Int × Bool := chn c.ls 14 [(i : Int)] i
theorem rep_fnd {c : Ct} (hg : c.good = true) {i : Nat} (hi : i < c.ls.length) (hr : ¬ c.ls[i].rep.toList = []) : fnd c.ls c.ls[i].rep < c.ls.length := by
  have h := good_all hg i hi
  simp only [okI, okL, okR, Bool.and_eq_true, Bool.or_eq_true, decide_eq_true_eq] at h
  rcases h.2.2 with h | h
  · exact absurd h hr
  · exact h.1.1.1

set_option maxRecDepth 100000 in
set_option maxHeartbeats 4000000 in
theorem l6Chain (x : Kt) (i0 : Nat) (w : World) (h : LiC w w.heap.size x) (hg : x.ct.good = true) (hi : i0 < x.n2) :
    Calls Tryz.prog 17 #[x.val, .int .i64 (i0 : Int)] w (RowAns w.heap.size (chR x.ct i0).1 (chR x.ct i0).2 w) := by
  obtain ⟨X0, hX0⟩ : ∃ X, X = w.alloc (.cells #[.slice x.A1 x.n1 x.c1, .slice x.A2 x.n2 x.c2] 32) := ⟨_, rfl⟩
  obtain ⟨X, hX⟩ : ∃ X, X = X0.alloc (.cells #[.int .i64 (i0 : Int)] 3) := ⟨_, rfl⟩
  have S0 : X0.heap.size = w.heap.size + 1 := by rw [hX0]; simp
  have B0 : Below w.heap.size w X0 := by rw [hX0]; exact below1 _ _
  have B1 : Below X0.heap.size X0 X := by rw [hX]; exact below1 _ _
  have HL := Lib.hid (h.on B0)
  have HLN : Hid (x.n2 = x.ms.length ∧ x.ct.ls.length = x.n2) := Lib.hid ⟨h.c.len, by rw [h.c.len]; simp [Kt.ct]⟩
  have h12 : x.n2 ≤ 12 := by have := (good_len hg).2.1; rw [HLN.out.2] at this; exact this
  have P0 : Hid (Bk w.heap.size X0 [.slice x.A1 x.n1 x.c1, .slice x.A2 x.n2 x.c2]) := Lib.hid (by rw [hX0]; exact Bk.new _ _ _)
  have O0 : Hid (UniS.Pt X0 X (.slice (some ⟨w.heap.size + 1, 0, none⟩) 1 1) [(i0 : Int)]) := Lib.hid (by
    have := World.ownsRow_lit (base := X0.heap.size) (e := 3) (size := 1) X0 #[.int .i64 (i0 : Int)] 1 (Nat.le_refl _) (by decide) (by simp)
    rw [hX]
    refine ⟨?_, below1 _ _⟩
    rw [S0] at this ⊢
    simpa [UniS.Own] using this)
  have KX : Hid (∀ v, Below X0.heap.size X0 v → v.cell? ⟨w.heap.size, 0, none⟩ = some (.slice x.A1 x.n1 x.c1) ∧ v.cell? ⟨w.heap.size, 1, none⟩ = some (.slice x.A2 x.n2 x.c2)) := Lib.hid fun v hv => by
    have h0 := (P0.out.on hv).c 0 (by simp)
    have h1 := (P0.out.on hv).c 1 (by simp)
    simp only [List.getElem_cons_succ, List.getElem_cons_zero] at h0 h1
    exact ⟨h0, h1⟩
  have HF : Hid (∀ v id, Below X0.heap.size X0 v → Calls Tryz.prog 30 #[.agg #[.slice x.A1 x.n1 x.c1, .slice x.A2 x.n2 x.c2], .string id] v fun e w' => e = .returned (.int .i64 (fndI x.ct.ls id)) ∧ Below v.heap.size v w') := Lib.hid fun v id hv => l6Find x id v (HL.out.on hv)
  have HB := Lib.hid B0
  have HX : Hid (X = (w.alloc (.cells #[.slice x.A1 x.n1 x.c1, .slice x.A2 x.n2 x.c2] 32)).alloc (.cells #[.int .i64 (i0 : Int)] 3)) := Lib.hid (by rw [hX, hX0])
  have HG := Lib.hid hg
  obtain ⟨R, hR⟩ : ∃ R, R = chR x.ct i0 := ⟨_, rfl⟩
  have HR := Lib.hid hR
  rw [← hR]
  clear B0 B1 h hg hX hX0 S0 hR
  go_enter Tryz.func17, Tryz.ntmps17
  go_wp2_with fail
  go_loopw [1, 6] (fun i l wr => ∃ (k g n c f : Nat) (zs : List Int), k < x.n2 ∧ i = .int .i64 k ∧ l = .slice (some ⟨g, 0, none⟩) n c ∧ n + f ≤ 15 ∧ f ≤ 14 ∧ Hid (n = zs.length ∧ chn x.ct.ls f zs k = R ∧ cnt zs x.n2 < f) ∧ Hid (UniS.Pt X0 wr (.slice (some ⟨g, 0, none⟩) n c) zs)) (fun _ l _ => 20 - (match l with | .slice _ n _ => n | _ => 0))
  case atStart => exact ⟨i0, _, 1, 1, 14, [(i0 : Int)], hi, rfl, rfl, by omega, by omega, Lib.hid ⟨rfl, HR.out.symm, by have := cnt_le [(i0 : Int)] x.n2; omega⟩, by rw [← HX.out]; exact O0⟩
  case round =>
    clear O0
    obtain ⟨k, g, n, c, f, zs, hk, rfl, rfl, hnf, hf14, HZ, HO⟩ := hrel
    obtain ⟨p0, p1⟩ := KX.out wr HO.out.bel
    have hk' : k < x.ms.length := by have := HLN.out.1; omega
    obtain ⟨p, hp⟩ : ∃ p, p = x.ms[k] := ⟨_, rfl⟩
    have HCP : Hid (CAt x k p) := Lib.hid ⟨hk', hp⟩
    obtain ⟨b, o, e, hB, hc⟩ := HL.out.c.at_ (by omega)
    have hE := (hc k hk').alike (HO.out.bel.block b hB)
    rw [← hp] at hE
    have c11 := hE 11 (by simp [M.len])
    simp only [M.cells, List.getElem_cons_succ, List.getElem_cons_zero] at c11
    rw [e] at p1
    have HA2 : Hid (x.A2 = some ⟨b, o, none⟩) := Lib.hid e
    have i0' : (0 : Int) ≤ (k : Int) := by omega
    have i1 : (k : Int) < (x.n2 : Int) := by omega
    have HRP : Hid (repAt x.ct.ls k = p.rep) := Lib.hid (by
      obtain ⟨h1, h2⟩ := HCP.out.cl
      unfold repAt
      rw [dif_pos h1, h2]; rfl)
    have HF0 : Hid (0 < f) := Lib.hid (by have := HZ.out.2.2; omega)
    clear hp hc hE e
    by_cases hr : p.rep.toList = []
    · have hb1 : (p.rep.toList == []) = true := by rw [hr]; rfl
      have HE : Hid (R = (zs, false)) := Lib.hid (by rw [← HZ.out.2.1]; exact chn_end HF0.out (by rw [HRP.out]; exact hr))
      go_wp2_with fail
      go_ret2
      exact ⟨g, n, c, by rw [HE.out]; exact HZ.out.1, by rw [HE.out]; rfl, by rw [HE.out]; exact own_less HO.out.own HB.out.size, HB.out.trans (HO.out.bel.mono HB.out.size)⟩
    · have hb1 : (p.rep.toList == []) = false := by simpa using hr
      obtain ⟨k2, hk2⟩ : ∃ k2, k2 = fnd x.ct.ls p.rep := ⟨_, rfl⟩
      have HK2 := Lib.hid hk2
      have hk2n : k2 < x.n2 := by
        obtain ⟨h1, h2⟩ := HCP.out.cl
        have h3 := rep_fnd HG.out h1 (by rw [h2]; exact hr)
        rw [h2] at h3
        rw [hk2, ← HLN.out.2]; exact h3
      have HFF : Hid (∀ v, Below X0.heap.size X0 v → Calls Tryz.prog 30 #[.agg #[.slice x.A1 x.n1 x.c1, .slice (some ⟨b, o, none⟩) x.n2 x.c2], .string p.rep] v fun e w' => e = .returned (.int .i64 (k2 : Int)) ∧ Below v.heap.size v w') := Lib.hid fun v hv => by
        have := HF.out v p.rep hv
        rw [fndI_yes (by rw [← hk2, HLN.out.2]; exact hk2n), ← hk2, HA2.out] at this
        exact this
      have HNR : Hid (¬ (repAt x.ct.ls k).toList = []) := Lib.hid (by rw [HRP.out]; exact hr)
      have HKR : Hid (k2 = fnd x.ct.ls (repAt x.ct.ls k)) := Lib.hid (by rw [HRP.out]; exact hk2)
      have hbw : b < wr.heap.size := Nat.lt_of_lt_of_le hB HO.out.bel.size
      have hw1 : w.heap.size < wr.heap.size := Nat.lt_of_lt_of_le P0.out.lt HO.out.bel.size
      have KW : Hid (∀ v, Below wr.heap.size wr v → v.cell? ⟨w.heap.size, 0, none⟩ = some (.slice x.A1 x.n1 x.c1) ∧ v.cell? ⟨w.heap.size, 1, none⟩ = some (.slice (some ⟨b, o, none⟩) x.n2 x.c2) ∧ v.cell? ⟨b, o + k * 12 + 11, none⟩ = some (.string p.rep)) := Lib.hid fun v hv =>
        ⟨(hv.cell (p := ⟨w.heap.size, 0, none⟩) hw1).trans p0, (hv.cell (p := ⟨w.heap.size, 1, none⟩) hw1).trans p1, (hv.cell (p := ⟨b, o + k * 12 + 11, none⟩) hbw).trans c11⟩
      have HFW : Hid (∀ v, Below wr.heap.size wr v → Calls Tryz.prog 30 #[.agg #[.slice x.A1 x.n1 x.c1, .slice (some ⟨b, o, none⟩) x.n2 x.c2], .string p.rep] v fun e w' => e = .returned (.int .i64 (k2 : Int)) ∧ Below v.heap.size v w') := Lib.hid fun v hv => HFF.out v (HO.out.bel.trans (hv.mono HO.out.bel.size))
      clear hr hk2 hB hbw hw1 HFF
      go_wp2_with fail
      go_region_held3 (fun v => v.cell? ⟨w.heap.size, 0, none⟩ = some (.slice x.A1 x.n1 x.c1) ∧ v.cell? ⟨w.heap.size, 1, none⟩ = some (.slice (some ⟨b, o, none⟩) x.n2 x.c2) ∧ v.cell? ⟨b, o + k * 12 + 11, none⟩ = some (.string p.rep)) (first | (refine KW.out _ ?_; (repeat (first | exact Below.refl _ _ | exact b1 | apply Below.drew)); done))
        (first | (go_at_call 30; (with_reducible refine (HFW.out _ (by (repeat (first | exact Below.refl _ _ | apply Below.drew)))).mono ?_); rintro e w3 ⟨rfl, hb⟩; have b1 : Below wr.heap.size wr w3 := (Below.trans (by (repeat (first | exact Below.refl _ _ | apply Below.drew))) (hb.mono (by first | omega | (simp; done) | (simp; omega)))); clear hb))
      all_goals
        have O3 := Lib.hid (pt_on HO.out b1)
        clear b1 p0 p1 c11 HFW KW
        obtain ⟨t, ht⟩ : ∃ t, t = zs.contains (k2 : Int) := ⟨_, rfl⟩
        have HH : Hid (Calls Tryz.prog 33 #[.slice (some ⟨g, 0, none⟩) n c, .int .i64 (k2 : Int)] w3 fun e w' => e = .returned (.bool t) ∧ w3 = w') := Lib.hid (by
          have ho := O3.out.own
          unfold UniS.Own at ho
          rw [← HZ.out.1] at ho
          rw [ht]
          exact HasI.l1Has (some ⟨g, 0, none⟩) n c zs (k2 : Int) w3 _ HZ.out.1 (by omega) (IRow.Is.of_own ho HZ.out.1))
        have HT := Lib.hid ht
        clear ht
        cases t
        · have LQ := Lib.hid (UniS.Lq.new w3 (k2 : Int))
          have O4 := Lib.hid (O3.out.alloc (.cells #[.int .i64 (k2 : Int)] 3))
          have HNL := Lib.hid HZ.out.1
          have HCN : Hid (chn x.ct.ls (f - 1) (zs ++ [(k2 : Int)]) k2 = R ∧ cnt (zs ++ [(k2 : Int)]) x.n2 < f - 1) := Lib.hid ⟨by rw [← chn_on HF0.out HNR.out HKR.out HT.out.symm]; exact HZ.out.2.1, by have := cnt_less hk2n HT.out.symm; have := HZ.out.2.2; omega⟩
          have hf0 := HF0.out
          go_wp2_with (first | (go_at_call 33; refine HH.out.mono ?_; rintro e w4 ⟨rfl, rfl⟩) | (at_builtin; refine UniS.wp_app rfl _ _ rfl X0.heap.size (.slice (some ⟨g, 0, none⟩) n c) zs rfl O4.out.own (some ⟨w3.heap.size, 0, none⟩) 1 1 (w3.heap.size + 1) [(k2 : Int)] rfl rfl (by have := LQ.out.is; rwa [World.size_alloc] at this) (fun e => by cases e) (by have := HNL.out; omega) O4.out.bel.size ?_; intro a3 c3 w7 hown hg hat; refine Hid.out ?_))
          refine Lib.hid ?_
          have HO7 : Hid (UniS.Pt X0 w7 (.slice a3 (zs.length + 1) c3) (zs ++ [(k2 : Int)])) := Lib.hid (O4.out.app hown hg)
          obtain ⟨g7, hg7⟩ := own_some HO7.out.own (by simp)
          subst hg7
          clear hown hg hat
          have hnz : Hid (zs.length + 1 = (zs ++ [(k2 : Int)]).length ∧ chn x.ct.ls (f - 1) (zs ++ [(k2 : Int)]) k2 = R ∧ cnt (zs ++ [(k2 : Int)]) x.n2 < f - 1) := Lib.hid ⟨by simp, HCN.out⟩
          have hlz : zs.length + 1 + (f - 1) ≤ 15 := by have := HNL.out; omega
          have hms : 20 - (zs.length + 1) < 20 - n := by have := HNL.out; omega
          go_wp2_with fail
          go_roundw
          case rel => exact ⟨k2, g7, zs.length + 1, c3, f - 1, zs ++ [(k2 : Int)], hk2n, rfl, rfl, hlz, by omega, hnz, HO7⟩
          case measure => exact hms
        · have HE : Hid (R = (zs, true)) := Lib.hid (by rw [← HZ.out.2.1]; exact chn_cyc HF0.out HNR.out HKR.out HT.out.symm)
          go_wp2_with (go_at_call 33; refine HH.out.mono ?_; rintro e w4 ⟨rfl, rfl⟩)
          go_ret2
          exact ⟨g, n, c, by rw [HE.out]; exact HZ.out.1, by rw [HE.out]; rfl, by rw [HE.out]; exact own_less O3.out.own HB.out.size, HB.out.trans (O3.out.bel.mono HB.out.size)⟩

/-- A row of ints of the call's own, with two answers. -/
def RowAns2 (S : Nat) (zs : List Int) (a b : Bool) (w : World) (e : Ending) (w' : World) : Prop :=
  ∃ g n c, n = zs.length ∧ e = .returned (.tuple #[.slice (some ⟨g, 0, none⟩) n c, .bool a, .bool b]) ∧ UniS.Own w' S (.slice (some ⟨g, 0, none⟩) n c) zs ∧ Below w.heap.size w w'
def rcOk (c : Ct) (i : Int) : Bool := c.good && (decide (0 ≤ i) && decide (i ≤ (c.ls.length : Int) - 1))
def rcL (c : Ct) (i : Int) : List Int := if rcOk c i then (chR c i.toNat).1 else []
def rcC (c : Ct) (i : Int) : Bool := rcOk c i && (chR c i.toNat).2

set_option maxHeartbeats 4000000 in
theorem specRc (x : Kt) (i : Int) (w : World) (h : LiC w w.heap.size x) (hw : x.ct.wt ≤ 1048576) :
    Calls Tryz.prog 5 #[x.val, .int .i64 i] w (RowAns2 w.heap.size (rcL x.ct i) (rcC x.ct i) (rcOk x.ct i) w) := by
  obtain ⟨X, hX⟩ : ∃ X, X = w.alloc (.cells #[.slice x.A1 x.n1 x.c1, .slice x.A2 x.n2 x.c2] 32) := ⟨_, rfl⟩
  have B0 : Below w.heap.size w X := by rw [hX]; exact below1 _ _
  have HL := Lib.hid (h.on B0)
  have P0 : Hid (Bk w.heap.size X [.slice x.A1 x.n1 x.c1, .slice x.A2 x.n2 x.c2]) := Lib.hid (by rw [hX]; exact Bk.new _ _ _)
  have HLN : Hid (x.ct.ls.length = x.n2) := Lib.hid (by rw [h.c.len]; simp [Kt.ct])
  have hn2 : x.n2 ≤ 1048576 := by have := h.c.len; simp only [Ct.wt, Kt.ct, List.length_map] at hw; omega
  obtain ⟨g, hg⟩ : ∃ g, g = x.ct.good := ⟨_, rfl⟩
  obtain ⟨t, ht⟩ : ∃ t, t = (decide (0 ≤ i) && decide (i ≤ (x.ct.ls.length : Int) - 1)) := ⟨_, rfl⟩
  have HG : Hid (Calls Tryz.prog 15 #[.agg #[.slice x.A1 x.n1 x.c1, .slice x.A2 x.n2 x.c2]] X fun e w' => e = .returned (.bool g) ∧ Below X.heap.size X w') := Lib.hid (by rw [hg]; exact l6Good x X HL.out hw)
  have HI : Hid (∀ v, Calls Tryz.prog 16 #[.int .i64 i, .int .i64 0, .int .i64 ((x.n2 : Int) - 1)] v fun e w' => e = .returned (.bool t) ∧ v = w') := Lib.hid fun v => by rw [ht, HLN.out]; exact l1In i 0 _ v
  have HOK : Hid (rcOk x.ct i = (g && t)) := Lib.hid (by rw [hg, ht]; rfl)
  have HTE := Lib.hid ht
  have HGE := Lib.hid hg
  have HB := Lib.hid B0
  have HX := Lib.hid hX
  have HNO : Hid (∀ v, Below w.heap.size w v → rcOk x.ct i = false → RowAns2 w.heap.size (rcL x.ct i) (rcC x.ct i) (rcOk x.ct i) w (.returned (.tuple #[.slice (some ⟨v.heap.size, 0, none⟩) 0 0, .bool false, .bool false])) (v.alloc (.cells #[] 3))) := Lib.hid fun v hv hn => by
    have hl : rcL x.ct i = [] := by unfold rcL; rw [hn]; rfl
    have hc : rcC x.ct i = false := by unfold rcC; rw [hn]; rfl
    rw [hl, hc, hn]
    have := UniS.Pt.new (w := w) hv
    exact ⟨_, _, _, rfl, rfl, this.own, this.bel⟩
  clear B0 h hw hg ht hX
  go_enter Tryz.func5, Tryz.ntmps5
  cases g
  · go_wp2_with (go_at_call 15; (try rw [← HX.out]); refine HG.out.mono ?_; rintro e w2 ⟨rfl, hb⟩; refine Hid.out ?_)
    refine Lib.hid ?_
    have HF := Lib.hid (HNO.out w2 (HB.out.trans (hb.mono HB.out.size)) (by rw [HOK.out]; rfl))
    clear hb
    go_wp2_with fail
    go_ret3
    exact HF.out
  · go_wp2_with (go_at_call 15; (try rw [← HX.out]); refine HG.out.mono ?_; rintro e w2 ⟨rfl, hb⟩; refine Hid.out ?_)
    refine Lib.hid ?_
    have B2 := Lib.hid hb
    have h0 := (P0.out.on hb).c 0 (by simp)
    have h1 := (P0.out.on hb).c 1 (by simp)
    simp only [List.getElem_cons_succ, List.getElem_cons_zero] at h0 h1
    clear hb
    cases t
    · have HF := Lib.hid (HNO.out w2 (HB.out.trans (B2.out.mono HB.out.size)) (by rw [HOK.out]; rfl))
      go_wp2_with (go_at_call 16; refine (HI.out _).mono ?_; rintro e w3 ⟨rfl, rfl⟩)
      go_ret3
      exact HF.out
    · have HR : Hid (0 ≤ i ∧ i ≤ (x.n2 : Int) - 1) := Lib.hid (by
        have := HTE.out
        rw [HLN.out] at this
        have := this.symm
        simpa only [Bool.and_eq_true, decide_eq_true_eq] using this)
      obtain ⟨k, hk⟩ : ∃ k : Nat, i = (k : Int) := ⟨i.toNat, by have := HR.out; omega⟩
      subst hk
      have HCH := Lib.hid (l6Chain x k w2 (HL.out.on B2.out) HGE.out.symm (by have := HR.out; omega))
      have HYES : Hid (rcOk x.ct (k : Int) = true ∧ rcL x.ct (k : Int) = (chR x.ct k).1 ∧ rcC x.ct (k : Int) = (chR x.ct k).2) := Lib.hid (by
        have h1 : rcOk x.ct (k : Int) = true := by rw [HOK.out]; rfl
        refine ⟨h1, ?_, ?_⟩
        · unfold rcL; rw [h1]; rfl
        · unfold rcC; rw [h1]; rfl)
      obtain ⟨R, hR⟩ : ∃ R, R = chR x.ct k := ⟨_, rfl⟩
      rw [← hR] at HCH HYES
      clear hR HNO
      go_wp2_with (first | (go_at_call 16; refine (HI.out _).mono ?_; rintro e w3 ⟨rfl, rfl⟩) | (go_at_call 17; refine HCH.out.mono ?_; rintro e w3 ⟨g3, n3, c3, hn3, rfl, hown, hb3⟩; have HN3 := Lib.hid hn3; clear hn3; refine Hid.out ?_))
      refine Lib.hid ?_
      have HO := Lib.hid hown
      have HB3 := Lib.hid hb3
      clear hown hb3
      go_wp2_with fail
      go_ret3
      have B9 := HB.out.trans (B2.out.mono HB.out.size)
      exact ⟨g3, n3, c3, by rw [HYES.out.2.1]; exact HN3.out, by rw [HYES.out.1, HYES.out.2.2]; rfl, by rw [HYES.out.2.1]; exact own_less HO.out B9.size, B9.trans (HB3.out.mono B9.size)⟩

end Go.Proofs.YtomloodakabcbabGreat.Cl

namespace Go.Proofs.YtomloodakabcbabGreat.MkS
open Go.RowKit Go.Sort Go.Proofs.YtomloodakabcbabGreat.Mark
set_option linter.unusedVariables false

theorem isOf {w : World} {S g c : Nat} {D : List (List UInt8)} (h : UniT.Own w S (.slice (some ⟨g, 0, none⟩) D.length c) D) : Row.Is w w.heap.size (some ⟨g, 0, none⟩) (UniT.strs D) := by
  refine Row.Is.of_own (base := S) (n := D.length) (cap := c) ?_ (by simp [UniT.strs])
  rw [← UniT.map_strs]; exact h

theorem own_on {B : Nat} {e : TypeId} {k : Nat} {v : Value} {n : Nat} {xs : List Value} {w w' : World} (h : w.ownsRow B e k v n xs) (hb : Below w.heap.size w w') : w'.ownsRow B e k v n xs :=
  h.kept (row := none) ⟨hb.os, hb.tape, hb.output, hb.size, fun j hj _ => hb.block j hj⟩ (by cases hv : v.ownBlock <;> simp)

theorem own_addr {w : World} {base e n cap : Nat} {A : Option Addr} {xs : List Value} (h : w.ownsRow base e 1 (.slice A n cap) n xs) (h0 : 0 < n) : ∃ g, A = some ⟨g, 0, none⟩ ∧ base ≤ g := by
  rcases h.2 with ⟨_, h2⟩ | ⟨g, c, cur, hv, hb, _⟩
  · omega
  · injection hv with h1 h2 h3
    exact ⟨g, h1, hb⟩

/-- The first k elements are the marks from 1 on. -/
def Marked (k : Nat) (xs : List Value) : Prop := ∀ j, j < k → xs[j]? = some (.string (mt (1 + j)))

theorem Marked.set {k : Nat} {xs : List Value} (h : Marked k xs) (hk : k < xs.length) : Marked (k + 1) (xs.set k (.string (mt (1 + k)))) := fun j hj => by
  by_cases e : j = k
  · subst e; rw [List.getElem?_set_self hk]
  · rw [List.getElem?_set_ne (by omega)]; exact h j (by omega)

set_option maxHeartbeats 1000000 in
theorem markRow (A : Option Addr) (n cap base : Nat) (xs : List Value) (w : World) (hn : n ≤ 5000) (hbase : base ≤ w.heap.size) (hown : w.ownsRow base 9 1 (.slice A n cap) n xs) :
    Calls Tryz.prog 26 #[.slice A n cap, .int .i64 1] w fun e w' =>
      e = .returned (.int .i64 ((1 + n : Nat) : Int)) ∧ (∃ ys, w'.ownsRow base 9 1 (.slice A n cap) n ys ∧ Marked n ys) ∧ Below base w w' := by
  go_enter Tryz.func26, Tryz.ntmps26
  go_wp2_with fail
  go_loopw [1, 5] (fun m i wr => ∃ (k : Nat) (ys : List Value), k ≤ n ∧ m = .int .i64 ((1 + k : Nat) : Int) ∧ i = .int .i64 k ∧ wr.ownsRow base 9 1 (.slice A n cap) n ys ∧ Hid (Marked k ys) ∧ Below base w wr) (fun _ i _ => n - (intOf i).toNat)
  case atStart => exact ⟨0, xs, Nat.zero_le _, rfl, rfl, hown, Lib.hid (fun j hj => by omega), Below.refl _ _⟩
  case round =>
    obtain ⟨k, ys, hk, rfl, rfl, hown, HM, hb⟩ := hrel
    by_cases hlt : k < n
    · obtain ⟨g, rfl, hg⟩ := own_addr hown (by omega)
      have hbs := hb.size
      go_wp2_with (go_at_call 41; refine (markText (1 + k) (by omega) (by omega) wr).mono ?_; rintro e w3 ⟨rfl, hb3⟩; refine Hid.out ?_)
      refine Lib.hid ?_
      have hown3 := own_on hown hb3
      have hfz : w3.frozen? ⟨g, k, none⟩ = false := hown3.frozenAt k
      obtain ⟨old, hold⟩ : ∃ old, w3.cell? ⟨g, k, none⟩ = some old := by
        rw [hown3.cellAt k (by omega)]
        exact ⟨_, List.getElem?_eq_getElem (by rw [hown3.1]; omega)⟩
      have hbb : Below base w w3 := hb.trans (hb3.mono (by omega))
      obtain ⟨p, hp⟩ : ∃ p, p = mt (1 + k) := ⟨_, rfl⟩
      have R : ∀ w4, w3.setCell ⟨g, k, none⟩ (.string p) = w4 → w4.ownsRow base 9 1 (.slice (some ⟨g, 0, none⟩) n cap) n (ys.set k (.string p)) ∧ Below base w w4 := by
        rintro _ rfl
        exact ⟨(hown3.stored k (.string p)).1, hbb.setCell hg _⟩
      have HR := Lib.hid R
      have HL : Hid (Marked (k + 1) (ys.set k (.string p))) := Lib.hid (by rw [hp]; exact HM.out.set (by rw [hown.1]; omega))
      rw [← hp]
      clear R hown hown3 hp hbb
      go_wp2
      go_roundw
      case rel => exact ⟨k + 1, ys.set k (.string p), by omega, by go_num, by go_num, (HR.out _ rfl).1, Lib.hid HL.out, (HR.out _ rfl).2⟩
      case measure => simp [intOf]; omega
    · have e : k = n := by omega
      subst e
      go_wp2
      go_ret
      exact ⟨rfl, ⟨ys, hown, HM.out⟩, hb⟩

end Go.Proofs.YtomloodakabcbabGreat.MkS

namespace Go.Proofs.YtomloodakabcbabGreat.MarkI
open Go.RowKit Go.Proofs.YtomloodakabcbabGreat.IRow
set_option linter.unusedVariables false

theorem own_addr {w : World} {base e n cap : Nat} {A : Option Addr} {xs : List Value} (h : w.ownsRow base e 1 (.slice A n cap) n xs) (h0 : 0 < n) : ∃ g, A = some ⟨g, 0, none⟩ ∧ base ≤ g := by
  rcases h.2 with ⟨_, h2⟩ | ⟨g, c, cur, hv, hb, _⟩
  · omega
  · injection hv with h1 h2 h3
    exact ⟨g, h1, hb⟩

/-- A row of our own is a slice. -/
theorem own_slice {w : World} {base e n : Nat} {v : Value} {xs : List Value} (h : w.ownsRow base e 1 v n xs) : ∃ A cap, v = .slice A n cap := by
  rcases h.2 with ⟨hv, h2⟩ | ⟨g, c, cur, hv, hb, _⟩
  · subst h2; exact ⟨none, 0, hv⟩
  · exact ⟨_, _, hv⟩

/-- The first k elements are the marks from 1 on. -/
def Marked (k : Nat) (xs : List Value) : Prop := ∀ j, j < k → xs[j]? = some (.int .i64 ((1 + j : Nat) : Int))

theorem Marked.set {k : Nat} {xs : List Value} (h : Marked k xs) (hk : k < xs.length) : Marked (k + 1) (xs.set k (.int .i64 ((1 + k : Nat) : Int))) := fun j hj => by
  by_cases e : j = k
  · subst e; rw [List.getElem?_set_self hk]
  · rw [List.getElem?_set_ne (by omega)]; exact h j (by omega)

/-- Only the block that the slice begins in has changed. -/
def Only (A : Option Addr) (w w' : World) : Prop := w.heap.size ≤ w'.heap.size ∧ w'.os = w.os ∧ w'.tape = w.tape ∧ w'.output = w.output ∧ ∀ k, (∀ ad, A = some ad → k ≠ ad.block) → w'.heap[k]? = w.heap[k]?

theorem Only.refl (A : Option Addr) (w : World) : Only A w w := ⟨Nat.le_refl _, rfl, rfl, rfl, fun _ _ => rfl⟩
theorem Only.set {g : Nat} {w w' : World} (h : Only (some ⟨g, 0, none⟩) w w') (k : Nat) (u : Value) : Only (some ⟨g, 0, none⟩) w (w'.setCell ⟨g, k, none⟩ u) :=
  ⟨by simpa using h.1, h.2.1, h.2.2.1, h.2.2.2.1, fun j hj => (Below.heap_setCell w' ⟨g, k, none⟩ u j (hj ⟨g, 0, none⟩ rfl)).trans (h.2.2.2.2 j hj)⟩
theorem Only.below {A : Option Addr} {w w' : World} (h : Only A w w') {B : Nat} (hB : ∀ ad, A = some ad → B ≤ ad.block) : Below B w w' :=
  ⟨h.2.1, h.2.2.1, h.2.2.2.1, h.1, fun k hk => h.2.2.2.2 k (fun ad e => by have := hB ad e; omega)⟩

set_option maxHeartbeats 1000000 in
theorem markI (A : Option Addr) (n cap base : Nat) (xs : List Value) (w : World) (hn : n ≤ 3000000) (hown : w.ownsRow base 3 1 (.slice A n cap) n xs) :
    Calls Tryz.prog 11 #[.slice A n cap, .int .i64 1] w fun e w' =>
      e = .returned (.int .i64 ((1 + n : Nat) : Int)) ∧ (∃ ys, w'.ownsRow base 3 1 (.slice A n cap) n ys ∧ Marked n ys) ∧ Only A w w' := by
  go_enter Tryz.func11, Tryz.ntmps11
  go_wp2_with fail
  go_loopw [1, 5] (fun m i wr => ∃ (k : Nat) (ys : List Value), k ≤ n ∧ m = .int .i64 ((1 + k : Nat) : Int) ∧ i = .int .i64 k ∧ wr.ownsRow base 3 1 (.slice A n cap) n ys ∧ Hid (Marked k ys) ∧ Only A w wr) (fun _ i _ => n - (intOf i).toNat)
  case atStart => exact ⟨0, xs, Nat.zero_le _, rfl, rfl, hown, Lib.hid (fun j hj => by omega), Only.refl _ _⟩
  case round =>
    obtain ⟨k, ys, hk, rfl, rfl, hown, HM, hb⟩ := hrel
    by_cases hlt : k < n
    · obtain ⟨g, rfl, hg⟩ := own_addr hown (by omega)
      have hfz : wr.frozen? ⟨g, k, none⟩ = false := hown.frozenAt k
      obtain ⟨old, hold⟩ : ∃ old, wr.cell? ⟨g, k, none⟩ = some old := by
        rw [hown.cellAt k (by omega)]
        exact ⟨_, List.getElem?_eq_getElem (by rw [hown.1]; omega)⟩
      obtain ⟨p, hp⟩ : ∃ p : Nat, p = 1 + k := ⟨_, rfl⟩
      have hpb : p ≤ 3000001 := by omega
      have HR : Hid (∀ w4, wr.setCell ⟨g, k, none⟩ (.int .i64 p) = w4 → w4.ownsRow base 3 1 (.slice (some ⟨g, 0, none⟩) n cap) n (ys.set k (.int .i64 p)) ∧ Only (some ⟨g, 0, none⟩) w w4) := Lib.hid (by
        rintro _ rfl
        exact ⟨(hown.stored k (.int .i64 p)).1, hb.set k _⟩)
      have HL : Hid (Marked (k + 1) (ys.set k (.int .i64 p))) := Lib.hid (by rw [hp]; exact HM.out.set (by rw [hown.1]; omega))
      have HP : Hid (p + 1 = 1 + (k + 1)) := Lib.hid (by omega)
      rw [← hp]
      clear hown hp hb
      go_wp2
      go_roundw
      case rel => exact ⟨k + 1, ys.set k (.int .i64 p), by omega, by rw [← HP.out]; go_num, by go_num, (HR.out _ rfl).1, Lib.hid HL.out, (HR.out _ rfl).2⟩
      case measure => simp [intOf]; omega
    · have e : k = n := by omega
      subst e
      go_wp2
      go_ret
      exact ⟨rfl, ⟨ys, hown, HM.out⟩, hb⟩

set_option maxHeartbeats 1000000 in
theorem heldI (A : Option Addr) (n cap base : Nat) (ys : List Value) (w : World) (hn : n ≤ 3000000) (hown : w.ownsRow base 3 1 (.slice A n cap) n ys) (hm : Marked n ys) :
    Calls Tryz.prog 12 #[.slice A n cap, .int .i64 1] w fun e w' =>
      e = .returned (.int .i64 ((1 + n : Nat) : Int)) ∧ ∃ q, w' = w.drewN q := by
  have HM := Lib.hid hm
  clear hm
  go_enter Tryz.func12, Tryz.ntmps12
  go_wp2_with fail
  go_loopw [1, 5] (fun m i wr => ∃ (k q : Nat), k ≤ n ∧ m = .int .i64 ((1 + k : Nat) : Int) ∧ i = .int .i64 k ∧ wr = w.drewN q) (fun _ i _ => n - (intOf i).toNat)
  case atStart => exact ⟨0, 0, Nat.zero_le _, rfl, rfl, rfl⟩
  case round =>
    obtain ⟨k, q, hk, rfl, rfl, rfl⟩ := hrel
    by_cases hlt : k < n
    · obtain ⟨g, rfl, hg⟩ := own_addr hown (by omega)
      obtain ⟨p, hp⟩ : ∃ p : Nat, p = 1 + k := ⟨_, rfl⟩
      have hc : w.cell? ⟨g, k, none⟩ = some (.int .i64 p) := by rw [hown.cellAt k (by omega), hp]; exact HM.out k hlt
      have hpb : p ≤ 3000001 := by omega
      have HP : Hid (p + 1 = 1 + (k + 1)) := Lib.hid (by omega)
      rw [← hp]
      clear hp
      have i0 : (0 : Int) ≤ (k : Int) := by omega
      have i1 : (k : Int) < (n : Int) := by omega
      go_wp2_with fail
      go_roundw
      case rel => exact ⟨k + 1, _, by omega, by rw [← HP.out]; go_num, by go_num, rfl⟩
      case measure => simp [intOf]; omega
    · have e : k = n := by omega
      subst e
      go_wp2_with fail
      go_ret
      exact ⟨rfl, _, rfl⟩

end Go.Proofs.YtomloodakabcbabGreat.MarkI

namespace Go.Proofs.YtomloodakabcbabGreat.Cl
open Go.RowKit Go.Proofs.YtomloodakabcbabGreat.Cond Go.Proofs.YtomloodakabcbabGreat.Gx Go.Proofs.YtomloodakabcbabGreat.NdS
set_option linter.unusedVariables false

/-- A row of ints of the call's own. -/
abbrev RI (w : World) (S g N c : Nat) (D : List Int) : Prop := w.ownsRow S 3 1 (.slice (some ⟨g, 0, none⟩) N c) N (D.map (Value.int .i64))
abbrev RS (w : World) (S g N c : Nat) (D : List ByteArray) : Prop := w.ownsRow S 9 1 (.slice (some ⟨g, 0, none⟩) N c) N (D.map Value.string)
theorem row_ge {w : World} {S g N c : Nat} {T : TypeId} {xs : List Value} (h : w.ownsRow S T 1 (.slice (some ⟨g, 0, none⟩) N c) N xs) : S ≤ g ∧ g < w.heap.size := by
  rcases h.2 with ⟨hv, h0⟩ | ⟨g', cap, cur, hv, hS, hh, _⟩
  · cases hv
  · injection hv with h1 h2 h3
    injection h1 with h1
    injection h1 with h1
    subst h1
    exact ⟨hS, (Array.getElem?_eq_some_iff.1 hh).1⟩
theorem row_same {w w' : World} {S g N c : Nat} {T : TypeId} {xs : List Value} (h : w.ownsRow S T 1 (.slice (some ⟨g, 0, none⟩) N c) N xs) (hb : w'.heap[g]? = w.heap[g]?) : w'.ownsRow S T 1 (.slice (some ⟨g, 0, none⟩) N c) N xs := by
  refine ⟨h.1, ?_⟩
  rcases h.2 with h2 | ⟨g', cap, cur, hv, hS, hh, r⟩
  · exact .inl h2
  · have e := hv
    injection e with h1 h2 h3
    injection h1 with h1
    injection h1 with h1
    subst h1
    exact .inr ⟨g, cap, cur, hv, hS, hb.trans hh, r⟩
theorem row_on {w w' : World} {S g N c : Nat} {T : TypeId} {xs : List Value} (h : w.ownsRow S T 1 (.slice (some ⟨g, 0, none⟩) N c) N xs) (hb : Below w.heap.size w w') : w'.ownsRow S T 1 (.slice (some ⟨g, 0, none⟩) N c) N xs := row_same h (hb.block g (row_ge h).2)
/-- Marks in another block leave it. -/
theorem row_mv {w w' : World} {S g N c : Nat} {T : TypeId} {xs : List Value} {o o' : Nat → Prop} (h : w.ownsRow S T 1 (.slice (some ⟨g, 0, none⟩) N c) N xs) (hm : Mv o o' w w') (ho : ¬ o g) : w'.ownsRow S T 1 (.slice (some ⟨g, 0, none⟩) N c) N xs :=
  row_same h (hm.block g (row_ge h).2 ho)
theorem RowAns.fix {S N : Nat} {zs : List Int} {ok : Bool} {w w' : World} {e : Ending} (hN : N = zs.length) (h : RowAns S zs ok w e w') : ∃ g c, e = .returned (.tuple #[.slice (some ⟨g, 0, none⟩) N c, .bool ok]) ∧ RI w' S g N c zs ∧ Below w.heap.size w w' := by
  obtain ⟨g, n, c, hn, he, ho, hb⟩ := h
  rw [← hN] at hn
  subst hn
  unfold UniS.Own at ho
  rw [← hN] at ho
  exact ⟨g, c, he, ho, hb⟩
theorem RowAns2.fix {S N : Nat} {zs : List Int} {a b : Bool} {w w' : World} {e : Ending} (hN : N = zs.length) (h : RowAns2 S zs a b w e w') : ∃ g c, e = .returned (.tuple #[.slice (some ⟨g, 0, none⟩) N c, .bool a, .bool b]) ∧ RI w' S g N c zs ∧ Below w.heap.size w w' := by
  obtain ⟨g, n, c, hn, he, ho, hb⟩ := h
  rw [← hN] at hn
  subst hn
  unfold UniS.Own at ho
  rw [← hN] at ho
  exact ⟨g, c, he, ho, hb⟩
theorem StrAns.fix {S N : Nat} {zs : List (List UInt8)} {ok : Bool} {w w' : World} {e : Ending} (hN : N = zs.length) (h : StrAns S zs ok w e w') : ∃ g c, e = .returned (.tuple #[.slice (some ⟨g, 0, none⟩) N c, .bool ok]) ∧ RS w' S g N c (UniT.strs zs) ∧ Below w.heap.size w w' := by
  obtain ⟨g, n, c, hn, he, ho, hb⟩ := h
  rw [← hN] at hn
  subst hn
  unfold UniT.Own at ho
  rw [← hN, UniT.map_strs] at ho
  exact ⟨g, c, he, ho, hb⟩

theorem nMk_le : ∀ ms : List M, nMk ms ≤ 11 * ms.length + 3 * wtL (ms.map M.cl)
  | [] => by simp [nMk]
  | m :: ms => by
    have h1 := nMk_le ms
    have h2 := C.size_le m.k.cond
    have h3 : m.k.cond.wt ≤ m.cl.wt := by simp only [L.wt, M.cl]; omega
    simp only [nMk, List.map_cons, wtL, List.length_cons]
    omega
theorem nMkC_le {x : Kt} {w : World} {B : Nat} (h : LiC w B x) (hw : x.ct.wt ≤ 1048576) : 1 + nMkC x ≤ 90000000 := by
  have h1 := nMk_le x.ms
  have h2 := h.p.len
  simp only [Ct.wt, Kt.ct, List.length_map] at hw
  unfold nMkC
  omega

theorem depL_len (c : Ct) : (depL c).length ≤ 3000 := by
  unfold depL
  split
  · rename_i h
    have := sel_len (depAt c.ls) c.ls.length
    have := (good_len h).2.1
    omega
  · simp
theorem ofL_len (c : Ct) (p k : Int) : (ofL c p k).length ≤ 3000 := by
  unfold ofL
  split
  · rename_i h
    have := sel_len (ofAt c.ls p k) c.ls.length
    simp only [ofOk, Bool.and_eq_true] at h
    have := (good_len h.1.1).2.1
    omega
  · simp
theorem chn_len (ls : List L) : ∀ (f : Nat) (out : List Int) (i : Nat), (chn ls f out i).1.length ≤ out.length + f
  | 0, out, i => by simp [chn]
  | f + 1, out, i => by
    unfold chn
    split
    · simp
    · split
      · simp
      · refine Nat.le_trans (chn_len ls f _ _) ?_
        simp; omega
theorem rcL_len (c : Ct) (i : Int) : (rcL c i).length ≤ 3000 := by
  unfold rcL
  split
  · have := chn_len c.ls 14 [(i.toNat : Int)] i.toNat
    simp only [chR, List.length_cons, List.length_nil] at this ⊢
    omega
  · simp
theorem fnL_len (c : Ct) : (fnL c).length ≤ 3000 := by
  unfold fnL
  split
  · rename_i h
    simp only [Ct.good, Bool.and_eq_true, decide_eq_true_eq] at h
    have := h.2
    omega
  · simp

end Go.Proofs.YtomloodakabcbabGreat.Cl
