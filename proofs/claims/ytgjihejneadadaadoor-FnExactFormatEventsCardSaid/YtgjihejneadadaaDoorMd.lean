/-
  An event and a row of events that came in: how they lie in memory.
  The text of an event, in plain facts.
  FormatEvent of the model.
  What the writing method of strings.Builder does to a builder that the call itself has made.
  What a builder's WriteString leaves alone.
  FormatEvent of the program.
  FormatEvent of the program.
  The texts of events, one a line: FormatEvents of the model.
  FormatEvents of the program.
  What the laws' helper szStringS takes away, from any number on.
  What the laws' helper toStringS returns: a copy of the strings in new memory.
  What the laws' helper eqStringS returns of two slices that hold the same strings: true.
  The law FnExactFormatEvent walked.
  The law FnExactFormatEvents walked.
  The law FnExactFormatEvents returns true at every input, and its arguments read afterwards as before, the listed variables of the library holding what the program's text lays.
-/
import Derived.Test.YtgjihejneadadaaDoorEtB
import Derived.Test.YtgjihejneadadaaDoorRows
import Derived.OpenShut
import Derived.ShutString
import Derived.ChangeSlices
import Derived.Carry
import Derived.Lib.SmallJoins
import Derived.Test.YtgjihejneadadaaDoorFmtDate
import Derived.Test.YtgjihejneadadaaDoorFmtAmt
import Derived.Test.YtgjihejneadadaaDoorMc
import Derived.Deep.RegionHeld3
import Derived.WalkKit
import Derived.ProofKit
import Derived.Lib.Builder
import Derived.Lib.AppendStr
import Derived.Lib.UnsafeStr
import Derived.Lib.Hide
import Derived.Laws.Externs
import Derived.Test.YtgjihejneadadaaDoorShelfBu
import Derived.Test.YtgjihejneadadaaDoorRow
import Derived.Test.YtgjihejneadadaaDoorEtTo
import Derived.Test.YtgjihejneadadaaDoorCards
import Derived.Test.YtgjihejneadadaaDoorTie
import Derived.Deep.DeepHandedRow
import Derived.Deep.DeepWitnessRowRef
import Derived.LaidMore
import Derived.MakeChecks
import Derived.Stop.LaidErr
namespace Go.Proofs.YtgjihejneadadaaDoor.Et
open Go.RowKit Go.ChangeShapes Go.WideShapes Go.ChangeAt Go.Joins Go.Deep Go.Proofs.YtgjihejneadadaaDoor.Cond Go.Proofs.YtgjihejneadadaaDoor.Gx
set_option linter.unusedVariables false

theorem wfI {a : Int} (h : (Lit.int .i64 a).wf = true) : -9223372036854775808 ≤ a ∧ a ≤ 9223372036854775807 := by
  simpa [Lit.wf, IntKind.min, IntKind.max, IntKind.signed, IntKind.bits] using h
instance : Inhabited E := ⟨⟨0, 0, .empty, 0⟩⟩
theorem cellsEv : Tryd.prog.cellsOf 23 = 4 := by kernel_rfl
theorem pick_lt {α : Type} [Inhabited α] {n : Nat} {P : Nat → α → Prop} (h : ∀ i, i < n → ∃ a, P i a) : ∃ f : Nat → α, ∀ i, i < n → P i (f i) :=
  ⟨fun i => if hi : i < n then Classical.choose (h i hi) else default, fun i hi => by simp only [hi, dif_pos]; exact Classical.choose_spec (h i hi)⟩

set_option maxRecDepth 100000 in
theorem openE {H : Type} {enc : TypeId × Value → H} {W : World} {spare : Nat → Bool} {held : Bool} {fuel : Nat} {cs : List Value} {x : DataW H × List MemPlace} (h : DataW.trod enc Tryd.prog W 0 spare held fuel 23 cs = some x) :
    ∃ m : E, cs = m.cells ∧ m.act.size ≤ maxLen := by
  obtain ⟨xs, n, hfu, _, hl, hx, hfld⟩ := DataW.trod_struct Tryd.underlying23 h
  rw [cellsEv] at hl
  match cs, hl with
  | [c0, c1, c2, c3], _ =>
    have h0 := hfld 0 _ rfl
    have h1 := hfld 1 _ rfl
    have h2 := hfld 2 _ rfl
    have h3 := hfld 3 _ rfl
    have e0 : Tryd.prog.cellsOf 3 = 1 := by kernel_rfl
    have e1 : Tryd.prog.cellsOf 9 = 1 := by kernel_rfl
    have hx' : xs.length = 4 := hx
    have g0 : DataW.trod enc Tryd.prog W 0 spare held n 3 [c0] = some xs[0] := by simpa [e0, List.getElem?_eq_getElem (show 0 < xs.length by omega)] using h0
    have g1 : DataW.trod enc Tryd.prog W 0 spare held n 3 [c1] = some xs[1] := by simpa [e0, List.getElem?_eq_getElem (show 1 < xs.length by omega)] using h1
    have g2 : DataW.trod enc Tryd.prog W 0 spare held n 9 [c2] = some xs[2] := by simpa [e1, List.getElem?_eq_getElem (show 2 < xs.length by omega)] using h2
    have g3 : DataW.trod enc Tryd.prog W 0 spare held n 3 [c3] = some xs[3] := by simpa [e0, List.getElem?_eq_getElem (show 3 < xs.length by omega)] using h3
    obtain ⟨a0, q0, _, _⟩ := DataW.trod_int Tryd.underlying3 g0
    obtain ⟨a1, q1, _, _⟩ := DataW.trod_int Tryd.underlying3 g1
    obtain ⟨a2, q2, _, s2⟩ := DataW.trod_string Tryd.underlying9 g2
    obtain ⟨a3, q3, _, _⟩ := DataW.trod_int Tryd.underlying3 g3
    simp only [List.cons.injEq, and_true] at q0 q1 q2 q3
    subst q0 q1 q2 q3
    exact ⟨⟨a0, a1, a2, a3⟩, rfl, s2⟩

theorem cellsRow {w : World} {a : Addr} : ∀ {n : Nat} {cs : List Value}, w.cells? 0 a n = some cs → cs.length = n ∧ ∀ i, ∀ h : i < cs.length, w.cell? (a.add i) = some cs[i] := by
  intro n cs h
  simp only [World.cells?, Nat.zero_le, if_true] at h
  have key : ∀ (l : List Nat) (cs : List Value), (l.mapM fun i => w.cell? (a.add i)) = some cs → cs.length = l.length ∧ ∀ i, ∀ h : i < cs.length, ∀ h2 : i < l.length, w.cell? (a.add l[i]) = some cs[i] := by
    intro l
    induction l with
    | nil => intro cs h; simp at h; subst h; simp
    | cons x l ih =>
      intro cs h
      simp only [List.mapM_cons, Option.bind_eq_bind, Option.bind_eq_some_iff, Option.pure_def, Option.some.injEq] at h
      obtain ⟨v, hv, vs, hvs, rfl⟩ := h
      obtain ⟨h1, h2⟩ := ih vs hvs
      refine ⟨by simp [h1], fun i hi hi2 => ?_⟩
      cases i with
      | zero => exact hv
      | succ i => exact h2 i (by simpa using hi) (by simpa using hi2)
  obtain ⟨h1, h2⟩ := key _ _ h
  rw [List.length_range] at h1
  refine ⟨h1, fun i hi => ?_⟩
  have := h2 i hi (by rw [List.length_range]; omega)
  simpa using this
theorem spotNone {w : World} {a : Addr} {v : Value} (h : w.cell? a = some v) : a = ⟨a.block, a.off, none⟩ := by
  cases a with
  | mk b o sp =>
    cases sp with
    | none => rfl
    | some s =>
      unfold World.cell? at h
      split at h <;> simp at h
theorem addNone (b o i : Nat) : (⟨b, o, none⟩ : Addr).add i = ⟨b, o + i, none⟩ := by simp [Addr.add]

set_option maxRecDepth 100000 in
theorem openES {H : Type} {enc : TypeId × Value → H} {W : World} {spare : Nat → Bool} {held : Bool} {fuel : Nat} {c0 : Value} {x : DataW H × List MemPlace} (h : DataW.trod enc Tryd.prog W 0 spare held fuel 34 [c0] = some x) :
    ∃ (A : Option Addr) (n cap : Nat) (ms : List E), c0 = .slice A n cap ∧ LiE W W.heap.size A n cap ms := by
  rcases DataW.trod_slice Tryd.underlying34 h with ⟨hc, _⟩ | ⟨a, len, cap, elems, rest, n', hn', hc, _, _, hl, hm, hel, hall, _, _⟩
  · simp at hc
    exact ⟨none, 0, 0, [], hc, fun h => by simp at h, fun m hm => by simp at hm, rfl, Nat.le_refl _, by unfold maxLen; omega⟩
  · simp at hc
    have key : ∀ i, i < len → ∃ m : E, W.cells? 0 (a.add (i * 4)) 4 = some m.cells ∧ m.act.size ≤ maxLen := fun i hi => by
      have h1 := hall i hi
      rw [cellsEv, List.getElem?_eq_getElem (by omega)] at h1
      obtain ⟨cs', h2, h3⟩ := Option.bind_eq_some_iff.1 h1
      obtain ⟨m, rfl, hk⟩ := openE h3
      exact ⟨m, h2, hk⟩
    obtain ⟨f, hf⟩ := pick_lt key
    have hget : ∀ i, ∀ h : i < ((List.range len).map f).length, ((List.range len).map f)[i] = f i := fun i h => by simp
    refine ⟨some a, len, cap, (List.range len).map f, hc, fun hp => ?_, fun m hm => ?_, by simp, by omega, hm⟩
    · have hp' : 0 < len := by simpa using hp
      have g0 := (cellsRow (hf 0 hp').1).2 0 (by rw [E.len]; omega)
      rw [show (a.add (0 * 4)).add 0 = a by simp [Addr.add]] at g0
      have hsp := spotNone g0
      refine ⟨a.block, a.off, by rw [← hsp], World.block_lt_of_cell? W a g0, fun i hi j hj => ?_⟩
      have hi' : i < len := by simpa using hi
      have h1 := (cellsRow (hf i hi').1).2 j (by rw [hget i hi] at hj; exact hj)
      rw [hsp, addNone, addNone] at h1
      simp only [hget i hi]
      exact h1
    · obtain ⟨i, hi, rfl⟩ := List.mem_map.1 hm
      exact (hf i (by simpa using hi)).2

set_option maxRecDepth 100000 in
theorem openEvs {H : Type} {enc : TypeId × Value → H} {W : World} {spare : Nat → Bool} {held : Bool} {r : Reach} {b0 : Nat} {v : Value} {d : DataW H} {p : List MemPlace} (hv : Value.okWide Tryd.prog W r b0 34 v) (h : DataW.Trod enc Tryd.prog W 0 spare held 34 v d p) :
    ∃ (A : Option Addr) (n cap : Nat) (ms : List E), v = .slice A n cap ∧ LiE W W.heap.size A n cap ms := by
  obtain ⟨a, len, cap, rfl⟩ := okWide_slice Tryd.underlying34 hv
  obtain ⟨fuel, hf⟩ := h
  exact openES hf

set_option maxRecDepth 100000 in
theorem openEv {H : Type} {enc : TypeId × Value → H} {W : World} {spare : Nat → Bool} {held : Bool} {r : Reach} {b0 : Nat} {v : Value} {d : DataW H} {p : List MemPlace} (hv : Value.okWide Tryd.prog W r b0 23 v) (h : DataW.Trod enc Tryd.prog W 0 spare held 23 v d p) :
    ∃ m : E, v = m.val ∧ m.act.size ≤ maxLen := by
  obtain ⟨cs, rfl, hsz⟩ := okWide_struct Tryd.underlying23 hv
  obtain ⟨fuel, hf⟩ := h
  obtain ⟨m, hm, hl⟩ := openE hf
  refine ⟨m, ?_, hl⟩
  have : cs = m.cells.toArray := by
    apply Array.toList_inj.1
    simpa [Value.cells] using hm
  rw [this]
  rfl

end Go.Proofs.YtgjihejneadadaaDoor.Et

namespace Go.Proofs.YtgjihejneadadaaDoor.Fe
open Go.RowKit Go.Proofs.YtgjihejneadadaaDoor.Cond Go.Proofs.YtgjihejneadadaaDoor.Gx Go.Proofs.YtgjihejneadadaaDoor.Et
set_option linter.unusedVariables false
set_option linter.unusedSimpArgs false

def does : List UInt8 := [32, 100, 111, 101, 115, 32]
def paying : List UInt8 := [32, 112, 97, 121, 105, 110, 103, 32]
/-- What is paid, where something is. -/
def payT (a : Int) : List UInt8 := if 0 < a then paying ++ FmtPlain.text a else []
/-- A party's name. -/
def pty (ss : List ByteArray) (i : Int) : List UInt8 := (ss.getD i.toNat .empty).data.toList
/-- The text of an event. -/
def evT (m : E) (ss : List ByteArray) : List UInt8 := (((FmtDate.text (Cal.yr m.day) (Cal.mo m.day) (Cal.da m.day) ++ [32]) ++ pty ss m.party) ++ does) ++ m.act.data.toList
def evP (m : E) (ss : List ByteArray) : List UInt8 := evT m ss ++ payT m.amt
theorem lst (s : ByteArray) : s = ⟨s.data.toList.toArray⟩ := by cases s; simp

end Go.Proofs.YtgjihejneadadaaDoor.Fe

namespace Go.Proofs.YtgjihejneadadaaDoor.Fe
open Go.RowKit Go.Proofs.YtgjihejneadadaaDoor.Cond Go.Proofs.YtgjihejneadadaaDoor.Gx Go.Proofs.YtgjihejneadadaaDoor.Et Go.Proofs.YtgjihejneadadaaDoor.Cal Go.Proofs.YtgjihejneadadaaDoor.Cl
set_option linter.unusedVariables false
set_option linter.unusedSimpArgs false

theorem addIs (a b : List UInt8) (h : a.length + b.length ≤ 100) (w : World) :
    (Op.stringOp .add ⟨a.toArray⟩ ⟨b.toArray⟩).run Tryd.prog w = .ok (.string ⟨(a ++ b).toArray⟩) w := FmtDate.addIs a b h w

/-- A name of the row, in every later world. -/
theorem nameCell {X : World} {A : Option Addr} {n c : Nat} {ss : List ByteArray} (h : LiN X X.heap.size A n c ss) {k : Nat} (hk : k < n) :
    ∃ (b oo : Nat) (hk' : k < ss.length), A = some ⟨b, oo, none⟩ ∧ ∀ v, Below X.heap.size X v → v.cell? ⟨b, oo + k, none⟩ = some (.string ss[k]) := by
  have hk' : k < ss.length := by have := h.len; omega
  obtain ⟨ad, e, hB, hc⟩ := h.is (by omega)
  have had := h.sp ad e (by omega)
  obtain ⟨b, oo, had2⟩ : ∃ b oo, ad = ⟨b, oo, none⟩ := ⟨_, _, had⟩
  refine ⟨b, oo, hk', by rw [e, had2], fun v hv => ?_⟩
  rw [← World.cell?_of_block (hv.block b (by rw [had2] at hB; exact hB)) |>.symm]
  have := hc k hk'
  rw [had2, add_none] at this
  exact this

theorem liN_on {w w' : World} {A : Option Addr} {n cap : Nat} {ss : List ByteArray} (h : LiN w w.heap.size A n cap ss) (hb : Below w.heap.size w w') : LiN w' w'.heap.size A n cap ss := (h.below hb).more hb.size
/-- What a valid event is. -/
structure Ok (m : E) (ss : List ByteArray) (p : Nat) : Prop where
  day : Day m.day
  pt : m.party = (p : Int)
  lt : p < ss.length
  act : m.act.size ≤ 8
  a0 : 0 ≤ m.amt
  a1 : m.amt ≤ 1000000
  nm : ∀ s ∈ ss, s.size ≤ 8
theorem ok_of {m : E} {ss : List ByteArray} (h : okE m ((ss.length : Int) - 1) = true) (hn : okN ss = true) : ∃ p, Ok m ss p := by
  simp only [okE, Bool.and_eq_true, decide_eq_true_eq, isDy, isNm] at h
  simp only [okN, decide_eq_true_eq, isNm, Bool.and_eq_true] at hn
  refine ⟨m.party.toNat, ⟨h.1.1, h.1.2⟩, by omega, by omega, by omega, by omega, by omega, fun s hs => ?_⟩
  obtain ⟨i, hi, rfl⟩ := List.mem_iff_getElem.1 hs
  have := (hn i hi).1
  omega
theorem Ok.pty {m : E} {ss : List ByteArray} {p : Nat} (h : Ok m ss p) : pty ss m.party = (ss[p]'h.lt).data.toList := by
  unfold Fe.pty
  rw [h.pt]
  simp [List.getD, h.lt]

set_option maxRecDepth 100000 in
set_option maxHeartbeats 8000000 in
theorem l7Event (m : E) (A : Option Addr) (n cap : Nat) (ss : List ByteArray) (p : Nat) (ho : Ok m ss p) (w : World) (h : LiN w w.heap.size A n cap ss) :
    Calls Tryd.prog 19 #[m.val, .slice A n cap] w fun e w' => e = .returned (.string ⟨(evP m ss).toArray⟩) ∧ Below w.heap.size w w' := by
  obtain ⟨X, hX⟩ : ∃ X, X = w.alloc (.cells #[.int .i64 m.day, .int .i64 m.party, .string m.act, .int .i64 m.amt] 29) := ⟨_, rfl⟩
  have B0 : Below w.heap.size w X := by rw [hX]; exact below1 _ _
  have P0 : Hid (Bk w.heap.size X m.cells) := Lib.hid (by rw [hX]; exact Bk.new _ _ _)
  have hpn : p < n := by have := ho.lt; have := h.len; omega
  obtain ⟨b, oo, hp', eA, hcell⟩ := nameCell (liN_on h B0) hpn
  obtain ⟨q, hq⟩ : ∃ q : List UInt8, q = (ss[p]).data.toList := ⟨_, rfl⟩
  obtain ⟨ac, hac⟩ : ∃ q : List UInt8, q = m.act.data.toList := ⟨_, rfl⟩
  obtain ⟨t, ht⟩ : ∃ q : List UInt8, q = FmtDate.text (yr m.day) (mo m.day) (da m.day) := ⟨_, rfl⟩
  have hql : q.length ≤ 8 := by rw [hq]; have := ho.nm _ (List.getElem_mem hp'); simpa using this
  have hal : ac.length ≤ 8 := by rw [hac]; have := ho.act; simpa using this
  have htl : t.length ≤ 15 := by
    obtain ⟨⟨y1, y2⟩, ⟨m1, m2⟩, d1, d2⟩ := (date_is ho.day).1
    have h9 := FmtPlain.dec_le (yr m.day).toNat (by omega)
    have e9 : t.length = (Lib.decDigits (yr m.day).toNat).length + 6 := by rw [ht]; simp [FmtDate.text, FmtPlain.two]
    omega
  have hsq : ss[p] = ⟨q.toArray⟩ := by rw [hq]
  have hsa : m.act = ⟨ac.toArray⟩ := by rw [hac]
  have KX : Hid (∀ v, Below X.heap.size X v → (v.cell? ⟨w.heap.size, 0, none⟩ = some (.int .i64 m.day) ∧ v.cell? ⟨w.heap.size, 1, none⟩ = some (.int .i64 (p : Int)) ∧ v.cell? ⟨w.heap.size, 2, none⟩ = some (.string ⟨ac.toArray⟩) ∧ v.cell? ⟨w.heap.size, 3, none⟩ = some (.int .i64 m.amt)) ∧ v.cell? ⟨b, oo + p, none⟩ = some (.string ⟨q.toArray⟩)) := Lib.hid fun v hv => by
    obtain ⟨c0, c1, c2, c3⟩ := b4 (P0.out.on hv)
    rw [ho.pt] at c1
    rw [hsa] at c2
    have := hcell v hv
    rw [hsq] at this
    exact ⟨⟨c0, c1, c2, c3⟩, this⟩
  have HD : Hid (∀ v, Calls Tryd.prog 33 #[.int .i64 m.day] v fun e w' => e = .returned (.string ⟨t.toArray⟩) ∧ Below v.heap.size v w') := Lib.hid fun v => by rw [ht]; exact FmtDate.l3Text m.day ho.day v
  obtain ⟨at_, hat⟩ : ∃ q : List UInt8, q = FmtPlain.text m.amt := ⟨_, rfl⟩
  have HAM : Hid (∀ v, Calls Tryd.prog 34 #[.int .i64 m.amt] v fun e w' => e = .returned (.string ⟨at_.toArray⟩) ∧ Below v.heap.size v w') := Lib.hid fun v => by
    rw [hat]
    exact (FmtAmt.l2Format m.amt (by have := ho.a0; have := ho.a1; unfold Amount.Amt; omega) v).mono fun e w' ⟨he, k, hw⟩ => ⟨he, by rw [hw]; exact below_drewN (Below.refl _ _) _⟩
  have hatl : at_.length ≤ 14 := by
    rw [hat]
    unfold FmtPlain.text FmtPlain.body
    have h1 := FmtPlain.dec_le (m.amt.natAbs / 100) (by have := ho.a0; have := ho.a1; omega)
    split <;> simp [FmtPlain.two] <;> omega
  have HEV : Hid (evP m ss = (((((t ++ [32]) ++ q) ++ does) ++ ac) ++ (if 0 < m.amt then paying ++ at_ else []))) := Lib.hid (by
    unfold evP evT payT
    rw [ho.pty, ← hq, ← hac, ← ht, ← hat])
  have a1 := addIs t [32] (by simp; omega)
  have a2 := addIs (t ++ [32]) q (by simp; omega)
  have a3 := addIs ((t ++ [32]) ++ q) does (by simp [does]; omega)
  have a4 := addIs (((t ++ [32]) ++ q) ++ does) ac (by simp [does]; omega)
  have a5 := addIs ((((t ++ [32]) ++ q) ++ does) ++ ac) paying (by simp [does, paying]; omega)
  have a6 := addIs (((((t ++ [32]) ++ q) ++ does) ++ ac) ++ paying) at_ (by simp [does, paying]; omega)
  have HAS : Hid (((((t ++ [32]) ++ q) ++ does) ++ ac) ++ (paying ++ at_) = (((((t ++ [32]) ++ q) ++ does) ++ ac) ++ paying) ++ at_) := Lib.hid (by simp)
  generalize (((((t ++ [32]) ++ q) ++ does) ++ ac) ++ paying) ++ at_ = E6 at *
  generalize ((((t ++ [32]) ++ q) ++ does) ++ ac) ++ paying = E5 at *
  generalize (((t ++ [32]) ++ q) ++ does) ++ ac = E4 at *
  generalize ((t ++ [32]) ++ q) ++ does = E3 at *
  generalize (t ++ [32]) ++ q = E2 at *
  generalize t ++ [32] = E1 at *
  unfold does at a3
  unfold paying at a5
  have HB := Lib.hid B0
  have HX := Lib.hid hX
  have i0 : (0 : Int) ≤ (p : Int) := by omega
  have i1 : (p : Int) < (n : Int) := by omega
  have hcc := KX.out X (Below.refl _ _)
  obtain ⟨⟨c0, c1, c2, c3⟩, d0⟩ := hcc
  clear ho h hpn hcell hq hac ht hat hql hal htl hatl hsq hsa P0 B0 hp'
  subst eA
  go_enter Tryd.func19, Tryd.ntmps19
  go_wp2_with fail
  rw [← hX]
  clear hX
  go_region_held3 (fun v => (v.cell? ⟨w.heap.size, 0, none⟩ = some (.int .i64 m.day) ∧ v.cell? ⟨w.heap.size, 1, none⟩ = some (.int .i64 (p : Int)) ∧ v.cell? ⟨w.heap.size, 2, none⟩ = some (.string ⟨ac.toArray⟩) ∧ v.cell? ⟨w.heap.size, 3, none⟩ = some (.int .i64 m.amt)) ∧ v.cell? ⟨b, oo + p, none⟩ = some (.string ⟨q.toArray⟩)) (first | (refine KX.out _ ?_; (repeat (first | exact Below.refl _ _ | exact b1 | apply Below.drew)); done))
    (first | (go_at_call 33; (with_reducible refine (HD.out _).mono ?_); rintro e wa ⟨rfl, hb⟩; have b1 : Below X.heap.size X wa := Below.trans (by (repeat (first | exact Below.refl _ _ | apply Below.drew))) (hb.mono (by first | omega | (simp; done) | (simp; omega))); clear hb))
  all_goals clear c0 c1 c2 c3 d0
  all_goals have hcc := KX.out wa b1
  all_goals obtain ⟨⟨c0, c1, c2, c3⟩, d0⟩ := hcc
  all_goals have B1 := Lib.hid b1
  all_goals have KY : Hid (∀ v, Below wa.heap.size wa v → v.cell? ⟨w.heap.size, 3, none⟩ = some (.int .i64 m.amt)) := Lib.hid fun v hv => (KX.out v (B1.out.trans (hv.mono B1.out.size))).1.2.2.2
  all_goals clear b1 HD KX c0 c1 c2 d0
  all_goals by_cases g0 : 0 < m.amt
  · have HR : Hid (evP m ss = E6) := Lib.hid (by rw [HEV.out, if_pos g0, HAS.out])
    go_wp2_with (go_at_call 34; (with_reducible refine (HAM.out _).mono ?_); rintro e wb ⟨rfl, hb⟩)
    go_ret
    exact ⟨by rw [HR.out]; rfl, HB.out.trans ((B1.out.trans (hb.mono B1.out.size)).mono HB.out.size)⟩
  · have HR : Hid (evP m ss = E4) := Lib.hid (by rw [HEV.out, if_neg g0, List.append_nil])
    go_wp2_with fail
    go_ret
    exact ⟨by rw [HR.out]; rfl, HB.out.trans (B1.out.mono HB.out.size)⟩

theorem l7Parties (A : Option Addr) (n cap : Nat) (ss : List ByteArray) (w : World) (h : LiN w w.heap.size A n cap ss) (hn : n ≤ 1048576) (ok : Bool) (hok : ok = (okN ss && (decide (2 ≤ ss.length) && decide (ss.length ≤ 4)))) :
    Calls Tryd.prog 17 #[.slice A n cap] w fun e w' => e = .returned (.bool ok) ∧ Below w.heap.size w w' := by
  have HL := Lib.hid (fun v (hv : LiN v v.heap.size A n cap ss) => l6Parties ⟨A, n, cap, ss, none, 0, 0, []⟩ v ⟨hv, ⟨fun h => by simp at h, fun m hm => by simp at hm, rfl, Nat.le_refl _, Nat.zero_le _⟩⟩ hn ok hok)
  have HN := Lib.hid h
  clear h hok
  go_enter Tryd.func17, Tryd.ntmps17
  go_wp2_with (go_at_call 29; refine (HL.out _ (by first | exact HN.out | (refine liN_on HN.out ?_; (repeat (first | exact Below.refl _ _ | apply Below.drew | refine Below.alloc ?_ (by first | omega | (simp; done) | (simp; omega)) _))))).mono ?_; rintro e w2 ⟨rfl, hb⟩)
  go_ret
  exact ⟨rfl, by first | exact hb | exact Below.trans (by (repeat (first | exact Below.refl _ _ | apply Below.drew | refine Below.alloc ?_ (by first | omega | (simp; done) | (simp; omega)) _))) (hb.mono (by simp))⟩

/-- What FormatEvent asks, and answers. -/
def feOk (m : E) (ss : List ByteArray) : Bool := (okN ss && (decide (2 ≤ ss.length) && decide (ss.length ≤ 4))) && okE m ((ss.length : Int) - 1)
def feT (m : E) (ss : List ByteArray) : List UInt8 := if feOk m ss then evP m ss else []

set_option maxRecDepth 100000 in
set_option maxHeartbeats 8000000 in
theorem specFE (m : E) (A : Option Addr) (n cap : Nat) (ss : List ByteArray) (w : World) (h : LiN w w.heap.size A n cap ss) (hn : n ≤ 1048576) :
    Calls Tryd.prog 7 #[m.val, .slice A n cap] w fun e w' => e = .returned (.tuple #[.string ⟨(feT m ss).toArray⟩, .bool (feOk m ss)]) ∧ Below w.heap.size w w' := by
  obtain ⟨X, hX⟩ : ∃ X, X = w.alloc (.cells #[.int .i64 m.day, .int .i64 m.party, .string m.act, .int .i64 m.amt] 29) := ⟨_, rfl⟩
  have B0 : Below w.heap.size w X := by rw [hX]; exact below1 _ _
  have P0 : Hid (Bk w.heap.size X m.cells) := Lib.hid (by rw [hX]; exact Bk.new _ _ _)
  obtain ⟨t1, ht1⟩ : ∃ t, t = (okN ss && (decide (2 ≤ ss.length) && decide (ss.length ≤ 4))) := ⟨_, rfl⟩
  obtain ⟨t2, ht2⟩ : ∃ t, t = okE m ((ss.length : Int) - 1) := ⟨_, rfl⟩
  have HT := Lib.hid (And.intro ht1 ht2)
  have HP := Lib.hid (l7Parties A n cap ss X (liN_on h B0) hn t1 ht1)
  have HLN := Lib.hid h.len
  have HE : Hid (∀ v, Calls Tryd.prog 18 #[m.val, .int .i64 (n : Int)] v fun e w' => e = .returned (.bool t2) ∧ Below v.heap.size v w') := Lib.hid fun v => by
    have := l8Event m (n : Int) ((ss.length : Int) - 1) (by omega) (by omega) (.inl ⟨by omega, by rw [h.len]⟩) v
    rw [ht2]; exact this
  have HF : Hid (feOk m ss = (t1 && t2)) := Lib.hid (by rw [ht1, ht2]; rfl)
  have HV : Hid (t1 = true → t2 = true → ∀ v, Below X.heap.size X v → Calls Tryd.prog 19 #[m.val, .slice A n cap] v fun e w' => e = .returned (.string ⟨(evP m ss).toArray⟩) ∧ Below v.heap.size v w') := Lib.hid fun e1 e2 v hv => by
    have h1 : okN ss = true := by rw [ht1, Bool.and_eq_true] at e1; exact e1.1
    obtain ⟨p, ho⟩ := ok_of (ht2 ▸ e2) h1
    exact l7Event m A n cap ss p ho v (liN_on (liN_on h B0) hv)
  have HB := Lib.hid B0
  have HX := Lib.hid hX
  have KX : Hid (∀ v, Below X.heap.size X v → v.cell? ⟨w.heap.size, 0, none⟩ = some (.int .i64 m.day) ∧ v.cell? ⟨w.heap.size, 1, none⟩ = some (.int .i64 m.party) ∧ v.cell? ⟨w.heap.size, 2, none⟩ = some (.string m.act) ∧ v.cell? ⟨w.heap.size, 3, none⟩ = some (.int .i64 m.amt)) := Lib.hid fun v hv => b4 (P0.out.on hv)
  clear h B0 hX ht1 ht2 P0
  unfold feT
  rw [HF.out]
  go_enter Tryd.func7, Tryd.ntmps7
  cases t1
  · go_wp2_with (go_at_call 17; (try rw [← HX.out]); refine HP.out.mono ?_; rintro e w2 ⟨rfl, hb⟩)
    go_ret2
    exact ⟨rfl, HB.out.trans (hb.mono HB.out.size)⟩
  go_wp2_with (go_at_call 17; (try rw [← HX.out]); refine HP.out.mono ?_; rintro e w2 ⟨rfl, hb⟩; refine Hid.out ?_)
  refine Lib.hid ?_
  have B2 := Lib.hid hb
  have hcc := KX.out w2 hb
  obtain ⟨c0, c1, c2, c3⟩ := hcc
  clear hb HP
  cases t2
  · go_wp2_with (go_at_call 18; refine (HE.out _).mono ?_; rintro e w3 ⟨rfl, hb⟩)
    go_ret2
    exact ⟨rfl, HB.out.trans ((B2.out.trans (hb.mono B2.out.size)).mono HB.out.size)⟩
  go_wp2_with (go_at_call 18; refine (HE.out _).mono ?_; rintro e w3 ⟨rfl, hb⟩; refine Hid.out ?_)
  refine Lib.hid ?_
  have B3 := Lib.hid (B2.out.trans (hb.mono B2.out.size))
  have HV3 := Lib.hid (HV.out (by first | trivial | rfl) (by first | trivial | rfl) w3 B3.out)
  clear c0 c1 c2 c3 hb HV HE
  have hcc := KX.out w3 B3.out
  obtain ⟨c0, c1, c2, c3⟩ := hcc
  go_wp2_with (go_at_call 19; refine HV3.out.mono ?_; rintro e w4 ⟨rfl, hb⟩)
  go_ret2
  exact ⟨rfl, HB.out.trans ((B3.out.trans (hb.mono B3.out.size)).mono HB.out.size)⟩

end Go.Proofs.YtgjihejneadadaaDoor.Fe

namespace Go.Proofs.YtgjihejneadadaaDoor.Builder
open Go.RowKit

theorem sizeBuilder : (Tryd.prog.info? 48).map (·.size) = some 2 := by kernel_rfl
theorem infoByte : (Tryd.prog.info? 5).map (fun i => (i.zero, i.size, i.bytes)) = some (some (.int .u8 0), 1, 1) := by kernel_rfl

set_option maxRecDepth 100000 in
theorem used (b : Nat) (w : World) (h0 : w.cell? ⟨b, 0, none⟩ = some (.pointer (some ⟨b, 0, none⟩))) :
    Calls Tryd.prog 46 #[.pointer (some ⟨b, 0, none⟩)] w fun e w' => e = .returned (.tuple #[]) ∧ w = w' := by
  obtain ⟨j, hj, _⟩ := Option.map_eq_some_iff.1 sizeBuilder
  go_enter Tryd.func46, Tryd.ntmps46
  go_wp2
  rw [Lib.run_neq_ptr_same w _ Tryd.underlying45 hj]
  go_wp2
  go_end0
  exact ⟨rfl, rfl⟩

theorem liesBuilder : liesAt Tryd.prog Tryd.prog.depth 48 (2 / Tryd.prog.cellsOf 48) 0 48 1 = true := by kernel_rfl

set_option maxRecDepth 100000 in
theorem fresh (b : Nat) (w : World) (h0 : w.cell? ⟨b, 0, none⟩ = some (.pointer none)) (hsh : w.shape? b = some (48, 2)) (hfz : w.frozen? ⟨b, 0, none⟩ = false) :
    Calls Tryd.prog 46 #[.pointer (some ⟨b, 0, none⟩)] w fun e w' => e = .returned (.tuple #[]) ∧ w.setCell ⟨b, 0, none⟩ (.pointer (some ⟨b, 0, none⟩)) = w' := by
  obtain ⟨j, hj, hjs⟩ := Option.map_eq_some_iff.1 sizeBuilder
  go_enter Tryd.func46, Tryd.ntmps46
  go_wp2
  rw [Lib.run_to_unsafe w ⟨b, 0, none⟩ Tryd.underlying45 Tryd.underlying86 hj (by rw [hjs]; decide) hsh (Nat.zero_lt_succ 1)]
  simp only [Result.andThen]
  rw [Oper.upon_value]
  go_wp2
  rw [run_callFunc_extern Tryd.func61 (by kernel_rfl) (by kernel_rfl) (by kernel_rfl) (e := Extern.AbiNoEscape.same) (by kernel_rfl)]
  rw [Lib.run_noEscape]
  simp only [Result.andThen]
  rw [Oper.upon_value]
  go_wp2
  rw [Lib.run_from_unsafe w ⟨b, 0, none⟩ Tryd.underlying86 Tryd.underlying45 hj hsh liesBuilder]
  simp only [Result.andThen]
  rw [Oper.upon_value]
  go_wp2
  go_end0
  exact ⟨rfl, rfl⟩

theorem copyCheck (B b : Nat) (bs : List Value) (w : World) (h : Lib.IsBuilder 48 5 B b bs w) :
    Calls Tryd.prog 46 #[.pointer (some ⟨b, 0, none⟩)] w fun e w' => e = .returned (.tuple #[]) ∧ Lib.BuilderAt 48 5 B b (.pointer (some ⟨b, 0, none⟩)) bs w' ∧ Below B w w' := by
  rcases h with h | h
  · refine (fresh b w h.cell0 h.shape h.frozen0).mono ?_
    rintro e w' ⟨rfl, rfl⟩
    exact ⟨rfl, h.used _, (Below.refl B w).setCell (p := ⟨b, 0, none⟩) h.1 _⟩
  · refine (used b w h.cell0).mono ?_
    rintro e w' ⟨rfl, rfl⟩
    exact ⟨rfl, h, Below.refl B _⟩

set_option maxRecDepth 100000 in
set_option maxHeartbeats 1000000 in
theorem writeString (B b : Nat) (bs : List Value) (s : ByteArray) (w : World) (h : Lib.IsBuilder 48 5 B b bs w) (hlen : bs.length + s.size ≤ 100000000) (hBw : B ≤ w.heap.size) :
    Calls Tryd.prog 27 #[.pointer (some ⟨b, 0, none⟩), .string s] w fun e w' =>
      e = .returned (.tuple #[.int .i64 s.size, .nilIface]) ∧ Lib.IsBuilder 48 5 B b (bs ++ Lib.strCells s) w' ∧ Below B w w' := by
  obtain ⟨i0, hi, hz0, hz1, hz2⟩ := info_parts infoByte
  go_enter Tryd.func27, Tryd.ntmps27
  go_wp2_with (go_at_call 46; refine (copyCheck B b bs _ h).mono ?_; refine Hid.out ?_)
  refine Lib.hid ?_
  rintro e w1 ⟨rfl, h1, hb1⟩
  obtain ⟨hB, v, hbk, hown, hne⟩ := h1
  have c0 : w1.cell? ⟨b, 0, none⟩ = some (.pointer (some ⟨b, 0, none⟩)) := by rw [Lib.cell_of_heap hbk]; rfl
  have c1 : w1.cell? ⟨b, 1, none⟩ = some v := by rw [Lib.cell_of_heap hbk]; rfl
  have hsz := hb1.size
  go_wp2_with (at_builtin; refine Lib.wpList_append_own_string _ rfl _ _ 46 9 rfl B 5 i0 Tryd.underlying46 Tryd.underlying9 hi hz0 hz1 hz2 _ _ _ rfl hown s rfl (by unfold maxLen; omega) (by omega) (by omega) ?_; refine Hid.out ?_)
  refine Lib.hid ?_
  intro v' w2 hown' hgrow _
  have hlt : b < w1.heap.size := by
    rcases Nat.lt_or_ge b w1.heap.size with h' | h'
    · exact h'
    · simp [Array.getElem?_eq_none h'] at hbk
  have hb2 : w2.heap[b]? = some (.cells #[.pointer (some ⟨b, 0, none⟩), v] 48 (0, 0)) := by
    rw [hgrow.block b hlt (fun e => hne e.symm)]
    exact hbk
  have d0 : w2.cell? ⟨b, 0, none⟩ = some (.pointer (some ⟨b, 0, none⟩)) := by rw [Lib.cell_of_heap hb2]; rfl
  have d1 : w2.cell? ⟨b, 1, none⟩ = some v := by rw [Lib.cell_of_heap hb2]; rfl
  have f1 : w2.frozen? ⟨b, 1, none⟩ = false := Lib.frozen_of_heap hb2 1
  obtain ⟨ao, n', cap, rfl⟩ : ∃ ao n' cap, v' = .slice ao n' cap := by
    rcases hown'.2 with ⟨hv, _⟩ | ⟨g, cap, cur, hv, _⟩
    · exact ⟨_, _, _, hv⟩
    · exact ⟨_, _, _, hv⟩
  have R : ∀ w3, w2.setCell ⟨b, 1, none⟩ (.slice ao n' cap) = w3 → Lib.IsBuilder 48 5 B b (bs ++ Lib.strCells s) w3 ∧ Below B w w3 := by
    rintro _ rfl
    exact ⟨.inr (Lib.BuilderAt.put (T := 48) (e := 5) hB hb2 (bs' := bs ++ Lib.strCells s) (by simpa [Lib.strCells_length] using hown') (by decide)),
      (hb1.grown hgrow (by omega) (fun k hk => (hown.lt k hk).1)).setCell (p := ⟨b, 1, none⟩) hB _⟩
  have HR := Lib.hid R
  clear R hown' hgrow hown hbk c0 c1 hne
  go_wp2
  go_ret2
  exact ⟨rfl, HR.out _ rfl⟩

end Go.Proofs.YtgjihejneadadaaDoor.Builder

namespace Go.Proofs.YtgjihejneadadaaDoor.Builder
open Go.RowKit

/-- A row of bytes of one's own lies in no block of another kind. -/
theorem offKind {w : World} {B K n : Nat} {v : Value} {xs : List Value} (h : w.ownsRow B 5 1 v n xs) (hT : ∀ arr fr, w.heap[K]? ≠ some (.cells arr 5 fr)) : v.ownBlock ≠ some K := fun e => by
  rcases h.2 with ⟨hv, _⟩ | ⟨g, c, cur, hv, _, hh, _⟩
  · rw [hv] at e; cases e
  · rw [hv] at e
    injection e with e
    subst e
    exact hT _ _ hh

theorem copyCheckF (B b : Nat) (bs : List Value) (w : World) (h : Lib.IsBuilder 48 5 B b bs w) :
    Calls Tryd.prog 46 #[.pointer (some ⟨b, 0, none⟩)] w fun e w' => e = .returned (.tuple #[]) ∧ Lib.BuilderAt 48 5 B b (.pointer (some ⟨b, 0, none⟩)) bs w' ∧ Below B w w' ∧ (∀ k, k ≠ b → w'.heap[k]? = w.heap[k]?) ∧ w'.heap.size = w.heap.size := by
  rcases h with h | h
  · refine (fresh b w h.cell0 h.shape h.frozen0).mono ?_
    rintro e w' ⟨rfl, rfl⟩
    exact ⟨rfl, h.used _, (Below.refl B w).setCell (p := ⟨b, 0, none⟩) h.1 _, fun k hk => Below.heap_setCell w ⟨b, 0, none⟩ _ k hk, by simp⟩
  · refine (used b w h.cell0).mono ?_
    rintro e w' ⟨rfl, rfl⟩
    exact ⟨rfl, h, Below.refl B _, fun _ _ => rfl, rfl⟩

set_option maxRecDepth 100000 in
set_option maxHeartbeats 1000000 in
theorem writeFar (B b K : Nat) (bs : List Value) (s : ByteArray) (w : World) (hK : K < w.heap.size) (hKb : K ≠ b) (hT : ∀ arr fr, w.heap[K]? ≠ some (.cells arr 5 fr)) (h : Lib.IsBuilder 48 5 B b bs w) (hlen : bs.length + s.size ≤ 100000000) (hBw : B ≤ w.heap.size) :
    Calls Tryd.prog 27 #[.pointer (some ⟨b, 0, none⟩), .string s] w fun e w' =>
      e = .returned (.tuple #[.int .i64 s.size, .nilIface]) ∧ Lib.IsBuilder 48 5 B b (bs ++ Lib.strCells s) w' ∧ Below B w w' ∧ w'.heap[K]? = w.heap[K]? := by
  obtain ⟨i0, hi, hz0, hz1, hz2⟩ := info_parts infoByte
  go_enter Tryd.func27, Tryd.ntmps27
  go_wp2_with (go_at_call 46; refine (copyCheckF B b bs _ h).mono ?_; refine Hid.out ?_)
  refine Lib.hid ?_
  rintro e w1 ⟨rfl, h1, hb1, hsame, hsize⟩
  have hK1 := hsame K hKb
  have hK2 : K < w1.heap.size := by rw [hsize]; exact hK
  obtain ⟨hB, v, hbk, hown, hne⟩ := h1
  have c0 : w1.cell? ⟨b, 0, none⟩ = some (.pointer (some ⟨b, 0, none⟩)) := by rw [Lib.cell_of_heap hbk]; rfl
  have c1 : w1.cell? ⟨b, 1, none⟩ = some v := by rw [Lib.cell_of_heap hbk]; rfl
  have hsz := hb1.size
  go_wp2_with (at_builtin; refine Lib.wpList_append_own_string _ rfl _ _ 46 9 rfl B 5 i0 Tryd.underlying46 Tryd.underlying9 hi hz0 hz1 hz2 _ _ _ rfl hown s rfl (by unfold maxLen; omega) (by omega) (by omega) ?_; refine Hid.out ?_)
  refine Lib.hid ?_
  intro v' w2 hown' hgrow _
  have hOv := offKind hown (K := K) (by rw [hK1]; exact hT)
  have hlt : b < w1.heap.size := by
    rcases Nat.lt_or_ge b w1.heap.size with h' | h'
    · exact h'
    · simp [Array.getElem?_eq_none h'] at hbk
  have hb2 : w2.heap[b]? = some (.cells #[.pointer (some ⟨b, 0, none⟩), v] 48 (0, 0)) := by
    rw [hgrow.block b hlt (fun e => hne e.symm)]
    exact hbk
  have d0 : w2.cell? ⟨b, 0, none⟩ = some (.pointer (some ⟨b, 0, none⟩)) := by rw [Lib.cell_of_heap hb2]; rfl
  have d1 : w2.cell? ⟨b, 1, none⟩ = some v := by rw [Lib.cell_of_heap hb2]; rfl
  have f1 : w2.frozen? ⟨b, 1, none⟩ = false := Lib.frozen_of_heap hb2 1
  obtain ⟨ao, n', cap, rfl⟩ : ∃ ao n' cap, v' = .slice ao n' cap := by
    rcases hown'.2 with ⟨hv, _⟩ | ⟨g, cap, cur, hv, _⟩
    · exact ⟨_, _, _, hv⟩
    · exact ⟨_, _, _, hv⟩
  have R : ∀ w3, w2.setCell ⟨b, 1, none⟩ (.slice ao n' cap) = w3 → Lib.IsBuilder 48 5 B b (bs ++ Lib.strCells s) w3 ∧ Below B w w3 ∧ w3.heap[K]? = w.heap[K]? := by
    rintro _ rfl
    have hg := hgrow.block K hK2 (fun e => hOv e.symm)
    exact ⟨.inr (Lib.BuilderAt.put (T := 48) (e := 5) hB hb2 (bs' := bs ++ Lib.strCells s) (by simpa [Lib.strCells_length] using hown') (by decide)),
      (hb1.grown hgrow (by omega) (fun k hk => (hown.lt k hk).1)).setCell (p := ⟨b, 1, none⟩) hB _, (Below.heap_setCell w2 ⟨b, 1, none⟩ _ K hKb).trans (hg.trans hK1)⟩
  have HR := Lib.hid R
  clear R hown' hgrow hown hbk c0 c1 hne hOv hK1 hsame
  go_wp2
  go_ret2
  exact ⟨rfl, HR.out _ rfl⟩

end Go.Proofs.YtgjihejneadadaaDoor.Builder

namespace Go.Proofs.YtgjihejneadadaaDoor.Fe
open Go.RowKit Go.Proofs.YtgjihejneadadaaDoor.Cond Go.Proofs.YtgjihejneadadaaDoor.Gx Go.Proofs.YtgjihejneadadaaDoor.Et Go.Proofs.YtgjihejneadadaaDoor.Cal Go.Proofs.YtgjihejneadadaaDoor.Cl
set_option linter.unusedVariables false
set_option linter.unusedSimpArgs false

/-- A builder of the call's own, with these bytes. -/
abbrev Bu (B b : Nat) (l : List UInt8) (w : World) : Prop := Lib.IsBuilder 48 5 B b (Lib.byteCells l) w
theorem ownOn {B : Nat} {e : TypeId} {k : Nat} {v : Value} {n : Nat} {xs : List Value} {w w' : World} (h : w.ownsRow B e k v n xs) (hb : Below w.heap.size w w') : w'.ownsRow B e k v n xs :=
  h.kept (row := none) ⟨hb.os, hb.tape, hb.output, hb.size, fun j hj _ => hb.block j hj⟩ (by cases hv : v.ownBlock <;> simp)
theorem atOn {B b : Nat} {p : Value} {l : List Value} {w w' : World} (h : Lib.BuilderAt 48 5 B b p l w) (hb : Below w.heap.size w w') : Lib.BuilderAt 48 5 B b p l w' := by
  have hlt := h.lt
  obtain ⟨h1, v, h2, h3, h4⟩ := h
  exact ⟨h1, v, (hb.block b hlt).trans h2, ownOn h3 hb, h4⟩
theorem Bu.on {B b : Nat} {l : List UInt8} {w w' : World} (h : Bu B b l w) (hb : Below w.heap.size w w') : Bu B b l w' := by
  rcases h with h | h
  · exact .inl (atOn h hb)
  · exact .inr (atOn h hb)
theorem Bu.drew {B b : Nat} {l : List UInt8} {w : World} (h : Bu B b l w) : Bu B b l w.drew := h.on ((Below.refl _ _).drew)
theorem Bu.lt {B b : Nat} {l : List UInt8} {w : World} (h : Bu B b l w) : B ≤ b ∧ b < w.heap.size := by
  rcases h with h | h
  · exact ⟨h.1, h.lt⟩
  · exact ⟨h.1, h.lt⟩
theorem more (l : List UInt8) (q : List UInt8) : Lib.byteCells l ++ Lib.strCells ⟨q.toArray⟩ = Lib.byteCells (l ++ q) := by
  simp [Lib.byteCells, Lib.strCells]
theorem write (B b : Nat) (l q : List UInt8) (w : World) (h : Bu B b l w) (hl : l.length + q.length ≤ 100000000) (hB : B ≤ w.heap.size) :
    Calls Tryd.prog 27 #[.pointer (some ⟨b, 0, none⟩), .string ⟨q.toArray⟩] w fun e w' => e = .returned (.tuple #[.int .i64 q.length, .nilIface]) ∧ Bu B b (l ++ q) w' ∧ Below B w w' := by
  have := Builder.writeString B b (Lib.byteCells l) ⟨q.toArray⟩ w h (by rw [Lib.byteCells_length]; simpa [ByteArray.size] using hl) hB
  rw [more] at this
  simpa [ByteArray.size] using this

set_option maxHeartbeats 8000000 in
theorem writePaying (B b : Nat) (l : List UInt8) (a : Int) (h0 : 0 ≤ a) (h1 : a ≤ 1000000) (w : World) (hP : FmtAmt.Pow w) (h : Bu B b l w) (hl : l.length ≤ 1000000) (hB : B ≤ w.heap.size) :
    Calls Tryd.prog 41 #[.pointer (some ⟨b, 0, none⟩), .int .i64 a] w fun e w' => e = .returned (.tuple #[]) ∧ Bu B b (l ++ payT a) w' ∧ Below B w w' := by
  obtain ⟨t, ht⟩ : ∃ q : List UInt8, q = FmtPlain.text a := ⟨_, rfl⟩
  have htl : t.length ≤ 13 := by
    have h9 := FmtPlain.dec_le (a.natAbs / 100) (by omega)
    rw [ht]
    unfold FmtPlain.text FmtPlain.body
    split <;> simp [FmtPlain.two] <;> omega
  have HAM : Hid (Calls Tryd.prog 58 #[.int .i64 a] w fun e w' => e = .returned (.tuple #[.string ⟨t.toArray⟩, .bool true]) ∧ Below w.heap.size w w') := Lib.hid (by
    have hA : Amount.Amt a := by unfold Amount.Amt; omega
    have := FmtAmt.impl a w hP
    unfold FmtAmt.fmtT FmtAmt.fmtB at this
    rw [if_pos hA, decide_eq_true hA, ← ht] at this
    exact this)
  by_cases g0 : 0 < a
  · have HT : Hid (payT a = paying ++ t) := Lib.hid (by unfold payT; rw [if_pos g0, ht])
    have a1 := addIs paying t (by simp [paying]; omega)
    have hel : (paying ++ t).length ≤ 100 := by simp [paying]; omega
    generalize paying ++ t = E1 at *
    unfold paying at a1
    have HW := Lib.hid h
    have HBS := Lib.hid hB
    clear ht htl h hP
    go_enter Tryd.func41, Tryd.ntmps41
    go_wp2_with (first
      | (go_at_call 58; refine HAM.out.mono ?_; rintro e w2 ⟨rfl, hb⟩; have HB2 := Lib.hid hb; clear hb)
      | (go_at_call 27; refine (write B b l E1 _ (HW.out.on HB2.out) (by omega) (Nat.le_trans HBS.out HB2.out.size)).mono ?_; rintro e w3 ⟨rfl, hw3, hb3⟩))
    go_end0
    exact ⟨rfl, by rw [HT.out]; exact hw3, (HB2.out.mono HBS.out).trans hb3⟩
  · have HT : Hid (payT a = []) := Lib.hid (by unfold payT; rw [if_neg g0])
    have HW := Lib.hid h
    clear ht htl h hP HAM
    go_enter Tryd.func41, Tryd.ntmps41
    go_wp2_with fail
    go_end0
    exact ⟨rfl, by rw [HT.out, List.append_nil]; exact HW.out, Below.refl _ _⟩

/-- Block K stands as in X, and all below B. -/
structure GG (X : World) (B K : Nat) (v : World) : Prop where
  same : v.heap[K]? = X.heap[K]?
  bel : Below B X v
theorem GG.drew {X v : World} {B K : Nat} (h : GG X B K v) : GG X B K v.drew := ⟨h.same, h.bel.drew⟩
theorem GG.on {X v v' : World} {B K : Nat} (h : GG X B K v) (hK : K < X.heap.size) (hB : B ≤ X.heap.size) (hb : Below v.heap.size v v') : GG X B K v' :=
  ⟨(hb.block K (Nat.lt_of_lt_of_le hK h.bel.size)).trans h.same, h.bel.trans (hb.mono (Nat.le_trans hB h.bel.size))⟩
theorem writeK (B b K : Nat) (l q : List UInt8) (w : World) (h : Bu B b l w) (hl : l.length + q.length ≤ 100000000) (hB : B ≤ w.heap.size) (hK : K < w.heap.size) (hKb : K ≠ b) (hT : ∀ arr fr, w.heap[K]? ≠ some (.cells arr 5 fr)) :
    Calls Tryd.prog 27 #[.pointer (some ⟨b, 0, none⟩), .string ⟨q.toArray⟩] w fun e w' => e = .returned (.tuple #[.int .i64 q.length, .nilIface]) ∧ Bu B b (l ++ q) w' ∧ Below B w w' ∧ w'.heap[K]? = w.heap[K]? := by
  have := Builder.writeFar B b K (Lib.byteCells l) ⟨q.toArray⟩ w hK hKb hT h (by rw [Lib.byteCells_length]; simpa [ByteArray.size] using hl) hB
  rw [more] at this
  simpa [ByteArray.size] using this

set_option maxRecDepth 100000 in
set_option maxHeartbeats 8000000 in
theorem writeEvent (B b : Nat) (l : List UInt8) (m : E) (A : Option Addr) (n cap : Nat) (ss : List ByteArray) (p : Nat) (ho : Ok m ss p) (w : World) (hTb : Tab.Tab w) (hPB : ∀ v, Below B w v → FmtAmt.Pow v) (hn : LiN w B A n cap ss) (hu : Bu B b l w) (hl : l.length ≤ 900000) (hB : B ≤ w.heap.size) :
    Calls Tryd.prog 22 #[.pointer (some ⟨b, 0, none⟩), m.val, .slice A n cap] w fun e w' => e = .returned (.tuple #[]) ∧ Bu B b (l ++ evP m ss) w' ∧ Below B w w' := by
  have hP : FmtDate.Pow w := hPB w (Below.refl _ _)
  obtain ⟨X, hX⟩ : ∃ X, X = w.alloc (.cells #[.int .i64 m.day, .int .i64 m.party, .string m.act, .int .i64 m.amt] 29) := ⟨_, rfl⟩
  have B0 : Below w.heap.size w X := by rw [hX]; exact below1 _ _
  have P0 : Hid (Bk w.heap.size X m.cells) := Lib.hid (by rw [hX]; exact Bk.new _ _ _)
  have hKX : X.heap[w.heap.size]? = some (.cells #[.int .i64 m.day, .int .i64 m.party, .string m.act, .int .i64 m.amt] 29 (0, 0)) := by rw [hX]; exact heap_alloc_new w _
  have hpn : p < n := by have := ho.lt; have := hn.len; omega
  obtain ⟨b2, oo, hp', eA, hcell⟩ : ∃ (b2 oo : Nat) (hk' : p < ss.length), A = some ⟨b2, oo, none⟩ ∧ ∀ v, Below B X v → v.cell? ⟨b2, oo + p, none⟩ = some (.string ss[p]) := by
    have hk' : p < ss.length := ho.lt
    obtain ⟨ad, e, hBB, hc⟩ := hn.is (by omega)
    have had := hn.sp ad e (by omega)
    obtain ⟨b2, oo, had2⟩ : ∃ b oo, ad = ⟨b, oo, none⟩ := ⟨_, _, had⟩
    refine ⟨b2, oo, hk', by rw [e, had2], fun v hv => ?_⟩
    have h1 := hc p hk'
    rw [had2, add_none] at h1
    rw [had2] at hBB
    rw [← h1]
    exact World.cell?_of_block (((B0.mono hB).trans hv).block b2 hBB)
  obtain ⟨q, hq⟩ : ∃ q : List UInt8, q = (ss[p]).data.toList := ⟨_, rfl⟩
  obtain ⟨ac, hac⟩ : ∃ q : List UInt8, q = m.act.data.toList := ⟨_, rfl⟩
  obtain ⟨t, ht⟩ : ∃ q : List UInt8, q = FmtDate.text (yr m.day) (mo m.day) (da m.day) := ⟨_, rfl⟩
  have hql : q.length ≤ 8 := by rw [hq]; have := ho.nm _ (List.getElem_mem hp'); simpa using this
  have hal : ac.length ≤ 8 := by rw [hac]; have := ho.act; simpa using this
  have htl : t.length ≤ 15 := by
    obtain ⟨⟨y1, y2⟩, ⟨m1, m2⟩, d1, d2⟩ := (date_is ho.day).1
    have h9 := FmtPlain.dec_le (yr m.day).toNat (by omega)
    have e9 : t.length = (Lib.decDigits (yr m.day).toNat).length + 6 := by rw [ht]; simp [FmtDate.text, FmtPlain.two]
    omega
  have hsq : ss[p] = ⟨q.toArray⟩ := by rw [hq]
  have hsa : m.act = ⟨ac.toArray⟩ := by rw [hac]
  have KX : Hid (∀ v, GG X B w.heap.size v → (v.cell? ⟨w.heap.size, 0, none⟩ = some (.int .i64 m.day) ∧ v.cell? ⟨w.heap.size, 1, none⟩ = some (.int .i64 (p : Int)) ∧ v.cell? ⟨w.heap.size, 2, none⟩ = some (.string ⟨ac.toArray⟩) ∧ v.cell? ⟨w.heap.size, 3, none⟩ = some (.int .i64 m.amt)) ∧ v.cell? ⟨b2, oo + p, none⟩ = some (.string ⟨q.toArray⟩)) := Lib.hid fun v hv => by
    obtain ⟨c0, c1, c2, c3⟩ := b4 (P0.out.alike hv.same)
    rw [ho.pt] at c1
    rw [hsa] at c2
    have := hcell v hv.bel
    rw [hsq] at this
    exact ⟨⟨c0, c1, c2, c3⟩, this⟩
  have hXs : w.heap.size < X.heap.size := P0.out.lt
  have HD : Hid (Calls Tryd.prog 40 #[.int .i64 m.day] X fun e w' => e = .returned (.tuple #[.string ⟨t.toArray⟩, .bool true]) ∧ Below X.heap.size X w') := Lib.hid (by rw [ht]; exact FmtDate.implYes m.day ho.day X (hTb.below B0) (hP.below B0))
  have HWP : Hid (∀ v l2, l2.length ≤ 999000 → GG X B w.heap.size v → Bu B b l2 v → Calls Tryd.prog 41 #[.pointer (some ⟨b, 0, none⟩), .int .i64 m.amt] v fun e w' => e = .returned (.tuple #[]) ∧ Bu B b (l2 ++ payT m.amt) w' ∧ Below B v w') := Lib.hid fun v l2 h2 hv hb => by
    refine writePaying B b l2 m.amt ho.a0 ho.a1 v (hPB v ((B0.mono hB).trans hv.bel)) hb (by omega) (Nat.le_trans (Nat.le_trans hB B0.size) hv.bel.size)
  have HEV : Hid (l ++ evP m ss = (l ++ (((((t ++ [32]) ++ q) ++ does) ++ ac))) ++ payT m.amt) := Lib.hid (by
    unfold evP evT
    rw [ho.pty, ← hq, ← hac, ← ht, List.append_assoc l])
  have a1 := addIs t [32] (by simp; omega)
  have a2 := addIs (t ++ [32]) q (by simp; omega)
  have a3 := addIs ((t ++ [32]) ++ q) does (by simp [does]; omega)
  have a4 := addIs (((t ++ [32]) ++ q) ++ does) ac (by simp [does]; omega)
  have hel : ((((t ++ [32]) ++ q) ++ does) ++ ac).length ≤ 100 := by simp [does]; omega
  generalize (((t ++ [32]) ++ q) ++ does) ++ ac = E4 at *
  generalize ((t ++ [32]) ++ q) ++ does = E3 at *
  generalize (t ++ [32]) ++ q = E2 at *
  generalize t ++ [32] = E1 at *
  unfold does at a3
  have HG0 : Hid (GG X B w.heap.size X) := Lib.hid ⟨rfl, Below.refl _ _⟩
  have HUX : Hid (Bu B b l X) := Lib.hid (hu.on B0)
  have hub := hu.lt
  have HWR : Hid (∀ v, GG X B w.heap.size v → Bu B b l v → Calls Tryd.prog 27 #[.pointer (some ⟨b, 0, none⟩), .string ⟨E4.toArray⟩] v fun e w' => e = .returned (.tuple #[.int .i64 E4.length, .nilIface]) ∧ Bu B b (l ++ E4) w' ∧ GG X B w.heap.size w') := Lib.hid fun v hv hb => by
    refine (writeK B b w.heap.size l E4 v hb (by omega) (Nat.le_trans (Nat.le_trans hB B0.size) hv.bel.size) (Nat.lt_of_lt_of_le hXs hv.bel.size) (by omega) (fun arr fr => ?_)).mono fun e w' ⟨he, h1, h2, h3⟩ => ⟨he, h1, ⟨h3.trans hv.same, hv.bel.trans h2⟩⟩
    rw [hv.same, hKX]
    intro e
    injection e with e
    injection e with _ e _
    exact absurd e (by decide)
  have HBB := Lib.hid (And.intro hB (And.intro hXs B0))
  have HX := Lib.hid hX
  have i0 : (0 : Int) ≤ (p : Int) := by omega
  have i1 : (p : Int) < (n : Int) := by omega
  have hcc := KX.out X HG0.out
  obtain ⟨⟨c0, c1, c2, c3⟩, d0⟩ := hcc
  clear ho hn hpn hcell hq hac ht hql hal htl hsq hsa P0 hp' hKX hTb hP hPB hu hub
  subst eA
  rw [hX] at c0 c1 c2 c3 d0
  clear hX
  go_enter Tryd.func22, Tryd.ntmps22
  go_wp2_with (go_at_call 40; (try rw [← HX.out]); refine HD.out.mono ?_; rintro e w2 ⟨rfl, hb⟩; refine Hid.out ?_)
  refine Lib.hid ?_
  have G2 := Lib.hid (HG0.out.on hXs (Nat.le_trans hB B0.size) hb)
  have U2 := Lib.hid (HUX.out.on hb)
  clear hb c0 c1 c2 c3 d0 HD HG0 HUX B0 hXs hB
  have hcc := KX.out w2 G2.out
  obtain ⟨⟨c0, c1, c2, c3⟩, d0⟩ := hcc
  go_wp2_with fail
  go_region_held3 (fun v => (v.cell? ⟨w.heap.size, 0, none⟩ = some (.int .i64 m.day) ∧ v.cell? ⟨w.heap.size, 1, none⟩ = some (.int .i64 (p : Int)) ∧ v.cell? ⟨w.heap.size, 2, none⟩ = some (.string ⟨ac.toArray⟩) ∧ v.cell? ⟨w.heap.size, 3, none⟩ = some (.int .i64 m.amt)) ∧ v.cell? ⟨b2, oo + p, none⟩ = some (.string ⟨q.toArray⟩)) (first | (refine KX.out _ ?_; (repeat (first | with_reducible exact G2.out | with_reducible exact g3 | apply GG.drew)); done))
    (first | (go_at_call 27; (with_reducible refine (HWR.out _ (by (repeat (first | with_reducible exact G2.out | apply GG.drew))) (by (repeat (first | with_reducible exact U2.out | apply Bu.drew)))).mono ?_); rintro e wa ⟨rfl, hu3, g3⟩))
  all_goals have G3 := Lib.hid g3
  all_goals have U3 := Lib.hid hu3
  all_goals clear c0 c1 c2 c3 d0 g3 hu3
  all_goals have hcc := KX.out wa G3.out
  all_goals obtain ⟨⟨c0, c1, c2, c3⟩, d0⟩ := hcc
  all_goals go_wp2_with (go_at_call 41; (with_reducible refine (HWP.out _ (l ++ E4) (by simp; omega) (by (repeat (first | with_reducible exact G3.out | apply GG.drew))) (by (repeat (first | with_reducible exact U3.out | apply Bu.drew)))).mono ?_); rintro e wb ⟨rfl, hu4, b4⟩)
  all_goals go_end0
  all_goals exact ⟨rfl, by rw [HEV.out]; exact hu4, ((HBB.out.2.2.mono HBB.out.1).trans G3.out.bel).trans (by first | exact b4 | exact ((Below.refl _ _).drew).trans b4)⟩

end Go.Proofs.YtgjihejneadadaaDoor.Fe

namespace Go.Proofs.YtgjihejneadadaaDoor.Fe
open Go.RowKit Go.Proofs.YtgjihejneadadaaDoor.Cond Go.Proofs.YtgjihejneadadaaDoor.Gx Go.Proofs.YtgjihejneadadaaDoor.Et Go.Proofs.YtgjihejneadadaaDoor.Cal Go.Proofs.YtgjihejneadadaaDoor.Cl
set_option linter.unusedVariables false
set_option linter.unusedSimpArgs false

set_option maxRecDepth 100000 in
set_option maxHeartbeats 8000000 in
theorem implFE (m : E) (hm : m.act.size ≤ maxLen) (A : Option Addr) (n cap : Nat) (ss : List ByteArray) (w : World) (hTb : Tab.Tab w) (hPw : FmtAmt.Pow w) (h : LiN w w.heap.size A n cap ss) :
    Calls Tryd.prog 10 #[m.val, .slice A n cap] w fun e w' => e = .returned (.tuple #[.string ⟨(feT m ss).toArray⟩, .bool (feOk m ss)]) ∧ Below w.heap.size w w' := by
  obtain ⟨X, hX⟩ : ∃ X, X = w.alloc (.cells #[.int .i64 m.day, .int .i64 m.party, .string m.act, .int .i64 m.amt] 29) := ⟨_, rfl⟩
  have B0 : Below w.heap.size w X := by rw [hX]; exact below1 _ _
  have P0 : Hid (Bk w.heap.size X m.cells) := Lib.hid (by rw [hX]; exact Bk.new _ _ _)
  obtain ⟨t1, ht1⟩ : ∃ t, t = (okN ss && (decide (2 ≤ ss.length) && decide (ss.length ≤ 4))) := ⟨_, rfl⟩
  obtain ⟨t2, ht2⟩ : ∃ t, t = okE m ((ss.length : Int) - 1) := ⟨_, rfl⟩
  have HT := Lib.hid (And.intro ht1 ht2)
  have HP := Lib.hid (isPartyList A n cap ss X (liN_on h B0) t1 ht1)
  have HE : Hid (t1 = true → ∀ v, Calls Tryd.prog 21 #[m.val, .int .i64 (n : Int)] v fun e w' => e = .returned (.bool t2) ∧ Below v.heap.size v w') := Lib.hid fun e1 v => by
    have hn4 : n ≤ 4 := by rw [ht1] at e1; simp at e1; have := h.len; omega
    have := isValidE m n hn4 hm v
    rw [ht2, ← h.len]; exact this
  have HF : Hid (feOk m ss = (t1 && t2)) := Lib.hid (by rw [ht1, ht2]; rfl)
  have HV : Hid (t1 = true → t2 = true → ∀ B v, w.heap.size ≤ B → Below w.heap.size w v → B ≤ v.heap.size → ∀ b, Bu B b [] v → (∀ u, Below B v u → FmtAmt.Pow u) → Calls Tryd.prog 22 #[.pointer (some ⟨b, 0, none⟩), m.val, .slice A n cap] v fun e w' => e = .returned (.tuple #[]) ∧ Bu B b (evP m ss) w' ∧ Below B v w') := Lib.hid fun e1 e2 B v h1 hv h2 b hb hq => by
    have h1' : okN ss = true := by rw [ht1, Bool.and_eq_true] at e1; exact e1.1
    obtain ⟨p, ho⟩ := ok_of (ht2 ▸ e2) h1'
    exact writeEvent B b [] m A n cap ss p ho v (hTb.below hv) hq ((h.below hv).more h1) hb (by simp) h2
  have HLX : Hid (w.heap.size < X.heap.size) := Lib.hid P0.out.lt
  have HPW : Hid (∀ v, Below w.heap.size w v → FmtAmt.Pow v) := Lib.hid fun v hv => hPw.below hv
  have HB := Lib.hid B0
  have HX := Lib.hid hX
  have KX : Hid (∀ v, Below X.heap.size X v → v.cell? ⟨w.heap.size, 0, none⟩ = some (.int .i64 m.day) ∧ v.cell? ⟨w.heap.size, 1, none⟩ = some (.int .i64 m.party) ∧ v.cell? ⟨w.heap.size, 2, none⟩ = some (.string m.act) ∧ v.cell? ⟨w.heap.size, 3, none⟩ = some (.int .i64 m.amt)) := Lib.hid fun v hv => b4 (P0.out.on hv)
  clear h B0 hX ht1 ht2 P0 hTb hPw
  unfold feT
  rw [HF.out]
  go_enter Tryd.func10, Tryd.ntmps10
  cases t1
  · go_wp2_with (go_at_call 20; (try rw [← HX.out]); refine HP.out.mono ?_; rintro e w2 ⟨rfl, rfl⟩)
    go_ret2
    exact ⟨rfl, HB.out⟩
  go_wp2_with (go_at_call 20; (try rw [← HX.out]); refine HP.out.mono ?_; rintro e w2 ⟨rfl, rfl⟩; refine Hid.out ?_)
  refine Lib.hid ?_
  have hcc := KX.out X (Below.refl _ _)
  obtain ⟨c0, c1, c2, c3⟩ := hcc
  clear HP
  have HE2 := Lib.hid (HE.out (by first | trivial | rfl))
  cases t2
  · go_wp2_with (go_at_call 21; refine (HE2.out _).mono ?_; rintro e w3 ⟨rfl, hb⟩)
    go_ret2
    exact ⟨rfl, HB.out.trans (hb.mono HB.out.size)⟩
  go_wp2_with (go_at_call 21; refine (HE2.out _).mono ?_; rintro e w3 ⟨rfl, hb⟩; refine Hid.out ?_)
  refine Lib.hid ?_
  have B3 := Lib.hid hb
  have HV3 := Lib.hid (HV.out (by first | trivial | rfl) (by first | trivial | rfl))
  clear c0 c1 c2 c3 hb HV HE HE2
  obtain ⟨Y, hY⟩ : ∃ Y, Y = w3.alloc (.cells #[.pointer none, .slice none 0 0] 48) := ⟨_, rfl⟩
  have BY : Below w3.heap.size w3 Y := by rw [hY]; exact below1 _ _
  have BXY := B3.out.trans (BY.mono B3.out.size)
  have HU : Hid (Bu w3.heap.size w3.heap.size [] Y) := Lib.hid (by rw [hY]; exact Lib.fresh_isBuilder _ _ w3)
  have HWY : Hid (Calls Tryd.prog 22 #[.pointer (some ⟨w3.heap.size, 0, none⟩), m.val, .slice A n cap] Y fun e w' => e = .returned (.tuple #[]) ∧ Bu w3.heap.size w3.heap.size (evP m ss) w' ∧ Below w3.heap.size Y w') := Lib.hid (HV3.out w3.heap.size Y (Nat.le_trans HB.out.size B3.out.size) (HB.out.trans (BXY.mono HB.out.size)) BY.size w3.heap.size HU.out (fun u hu => HPW.out u ((HB.out.trans (BXY.mono HB.out.size)).trans (hu.mono (Nat.le_trans HB.out.size B3.out.size)))))
  have hcc := KX.out w3 B3.out
  have lt0 : w.heap.size < w3.heap.size := Nat.lt_of_lt_of_le HLX.out B3.out.size
  obtain ⟨c0, c1, c2, c3⟩ := hcc
  have HBY := Lib.hid BXY
  have HSZ := Lib.hid (Nat.le_trans HB.out.size B3.out.size)
  have HYS := Lib.hid BY.size
  clear BY BXY
  go_wp2_with (first
    | (go_at_call 22; (try rw [← hY]); refine HWY.out.mono ?_; rintro e w4 ⟨rfl, hu, hb4⟩; have U4 := Lib.hid hu; have B4 := Lib.hid hb4; clear hu hb4)
    | (go_at_call 23; refine (Tryd.Builder_String_any w3.heap.size w3.heap.size _ _ U4.out (Nat.le_trans HYS.out B4.out.size)).mono ?_; rintro e w5 ⟨rfl, hb5⟩))
  go_ret2
  exact ⟨rfl, HB.out.trans ((HBY.out.mono HB.out.size).trans ((B4.out.mono HSZ.out).trans (hb5.mono HSZ.out)))⟩

end Go.Proofs.YtgjihejneadadaaDoor.Fe

namespace Go.Proofs.YtgjihejneadadaaDoor.Fe
open Go.RowKit Go.Proofs.YtgjihejneadadaaDoor.Cond Go.Proofs.YtgjihejneadadaaDoor.Gx Go.Proofs.YtgjihejneadadaaDoor.Et Go.Proofs.YtgjihejneadadaaDoor.Cal Go.Proofs.YtgjihejneadadaaDoor.Cl
set_option linter.unusedVariables false
set_option linter.unusedSimpArgs false

/-- The text of a list of events. -/
def evsT (ss : List ByteArray) : List E → List UInt8
  | [] => []
  | m :: ms => (evP m ss ++ [10]) ++ evsT ss ms
theorem evsT_app (ss : List ByteArray) (ms : List E) (m : E) : evsT ss (ms ++ [m]) = (evsT ss ms ++ evP m ss) ++ [10] := by
  induction ms with
  | nil => simp [evsT]
  | cons x xs ih => simp only [List.cons_append, evsT, ih, List.append_assoc]
theorem evP_le {m : E} {ss : List ByteArray} {p : Nat} (ho : Ok m ss p) : (evP m ss).length ≤ 90 := by
  have e : (evP m ss).length = ((((FmtDate.text (yr m.day) (mo m.day) (da m.day)).length + 1) + (pty ss m.party).length) + 6) + m.act.data.toList.length + (payT m.amt).length := by
    unfold evP evT
    simp [does]
    omega
  have hq : (pty ss m.party).length ≤ 8 := by
    rw [ho.pty]
    have := ho.nm _ (List.getElem_mem ho.lt)
    simpa using this
  have ha : m.act.data.toList.length ≤ 8 := by have := ho.act; simpa using this
  have ht : (FmtDate.text (yr m.day) (mo m.day) (da m.day)).length ≤ 15 := by
    obtain ⟨⟨y1, y2⟩, ⟨m1, m2⟩, d1, d2⟩ := (date_is ho.day).1
    have h9 := FmtPlain.dec_le (yr m.day).toNat (by omega)
    have e9 : (FmtDate.text (yr m.day) (mo m.day) (da m.day)).length = (Lib.decDigits (yr m.day).toNat).length + 6 := by simp [FmtDate.text, FmtPlain.two]
    omega
  have hp : (payT m.amt).length ≤ 30 := by
    unfold payT
    split
    · have h9 := FmtPlain.dec_le (m.amt.natAbs / 100) (by have := ho.a0; have := ho.a1; omega)
      unfold FmtPlain.text FmtPlain.body
      split <;> simp [FmtPlain.two, paying] <;> omega
    · simp
  omega
theorem evsT_le {ss : List ByteArray} : ∀ {ms : List E}, (∀ m ∈ ms, ∃ p, Ok m ss p) → (evsT ss ms).length ≤ 91 * ms.length
  | [], _ => by simp [evsT]
  | m :: ms, h => by
    have h1 := evsT_le (ss := ss) (ms := ms) fun x hx => h x (by simp [hx])
    obtain ⟨p, hp⟩ := h m (by simp)
    have h2 := evP_le hp
    simp only [evsT, List.length_cons, List.length_append, List.length_nil]
    omega
theorem addBig (a b : List UInt8) (h : a.length + b.length ≤ 100000) (w : World) :
    (Op.stringOp .add ⟨a.toArray⟩ ⟨b.toArray⟩).run Tryd.prog w = .ok (.string ⟨(a ++ b).toArray⟩) w := by
  rw [run_string_add_sum w _ _ (by rw [FmtPlain.size, FmtPlain.size]; omega), FmtPlain.cat]
theorem cat3 (a b c : List UInt8) : ByteArray.mk (a.toArray ++ b.toArray ++ c.toArray) = ByteArray.mk ((a ++ b ++ c).toArray) := by simp

set_option maxRecDepth 100000 in
set_option maxHeartbeats 8000000 in
theorem l7Events (A : Option Addr) (n cap : Nat) (ms : List E) (F : Option Addr) (fn fc : Nat) (ss : List ByteArray) (hk : ∀ m ∈ ms, ∃ p, Ok m ss p) (h40 : ms.length ≤ 40) (w : World) (h : LiE w w.heap.size A n cap ms) (hs : LiN w w.heap.size F fn fc ss) :
    Calls Tryd.prog 25 #[.slice A n cap, .slice F fn fc] w fun e w' => e = .returned (.string ⟨(evsT ss ms).toArray⟩) ∧ Below w.heap.size w w' := by
  have HL := Lib.hid h
  have HN := Lib.hid h.len
  have HK := Lib.hid hk
  have H40 := Lib.hid h40
  have hnl : n ≤ 40 := by have := h.len; omega
  have HV : Hid (∀ (m : E), m ∈ ms → ∀ v, Below w.heap.size w v → Calls Tryd.prog 19 #[m.val, .slice F fn fc] v fun e w' => e = .returned (.string ⟨(evP m ss).toArray⟩) ∧ Below v.heap.size v w') := Lib.hid fun m hm v hv => by
    obtain ⟨p, hp⟩ := hk m hm
    exact l7Event m F fn fc ss p hp v (liN_on hs hv)
  clear h hs hk h40
  go_enter Tryd.func25, Tryd.ntmps25
  go_wp2_with fail
  go_loopw [5, 6] (fun a i wr => ∃ k : Nat, k ≤ n ∧ i = .int .i64 k ∧ ∃ t : List UInt8, t.length ≤ 10000 ∧ a = .string ⟨t.toArray⟩ ∧ Hid (t = evsT ss (ms.take k)) ∧ Hid (Below w.heap.size w wr)) (fun _ i _ => n - (intOf i).toNat)
  case atStart => exact ⟨0, Nat.zero_le _, rfl, [], by simp, rfl, Lib.hid (by simp [evsT]), Lib.hid (Below.refl _ _)⟩
  case round =>
    obtain ⟨k, hk, rfl, t, htl, rfl, HT, HB⟩ := hrel
    by_cases hlt : k < n
    · obtain ⟨b, o, hk', rfl, hB, hc⟩ := HL.out.get hlt
      obtain ⟨m, hm⟩ : ∃ m, m = ms[k] := ⟨_, rfl⟩
      have hE := hc wr HB.out
      rw [← hm] at hE
      obtain ⟨c0, c1, c2, c3⟩ := e4 hE
      have i0 : (0 : Int) ≤ (k : Int) := by omega
      have i1 : (k : Int) < (n : Int) := by omega
      have hmm : m ∈ ms := by rw [hm]; exact List.getElem_mem hk'
      have HTK : Hid (ms.take (k + 1) = ms.take k ++ [m]) := Lib.hid (by rw [hm]; exact List.take_succ_eq_append_getElem hk')
      have ht5 : t.length ≤ 3640 := by
        rw [HT.out]
        have := evsT_le (ss := ss) (ms := ms.take k) fun x hx => HK.out x (List.mem_of_mem_take hx)
        rw [List.length_take] at this
        omega
      have HF := Lib.hid (HV.out m hmm)
      obtain ⟨ev, hev⟩ : ∃ ev, ev = evP m ss := ⟨_, rfl⟩
      have hel : ev.length ≤ 90 := by obtain ⟨p, hp⟩ := HK.out m hmm; rw [hev]; exact evP_le hp
      rw [← hev] at HF
      have HNX : Hid ((t ++ ev) ++ [10] = evsT ss (ms.take (k + 1))) := Lib.hid (by rw [HTK.out, evsT_app, ← HT.out, hev])
      have a1 := addBig t ev (by omega)
      have a2 := addBig (t ++ ev) [10] (by simp; omega)
      have hnx : ((t ++ ev) ++ [10]).length ≤ 10000 := by simp; omega
      generalize (t ++ ev) ++ [10] = t2 at *
      generalize t ++ ev = t1 at *
      clear hE hc hm hev ht5 hel htl HT HTK
      go_wp2_with (go_at_call 19; refine (HF.out _ HB.out).mono ?_; rintro e w2 ⟨rfl, hb⟩)
      go_roundw
      case rel => exact ⟨k + 1, by omega, by go_num, t2, hnx, rfl, HNX, Lib.hid (HB.out.trans (hb.mono HB.out.size))⟩
      case measure => simp [intOf]; omega
    · have HE : Hid (t = evsT ss ms) := Lib.hid (by rw [HT.out, List.take_of_length_le (by have := HN.out; omega)])
      go_wp2_with fail
      go_ret
      exact ⟨by rw [HE.out]; rfl, HB.out⟩

/-- The parties are good. -/
def ptOk (ss : List ByteArray) : Bool := okN ss && (decide (2 ≤ ss.length) && decide (ss.length ≤ 4))
theorem all_ok {ms : List E} {ss : List ByteArray} (h1 : ptOk ss = true) (h2 : goodE ms (ss.length : Int)) : (∀ m ∈ ms, ∃ p, Ok m ss p) ∧ ms.length ≤ 40 := by
  have h3 := h2.2
  simp only [valE, Bool.and_eq_true, decide_eq_true_eq, List.all_eq_true] at h3
  rw [ptOk, Bool.and_eq_true] at h1
  exact ⟨fun m hm => ok_of (h3.2.2 m hm) h1.1, h3.2.1⟩
def fesT (t1 t2 : Bool) (ms : List E) (ss : List ByteArray) : List UInt8 := if t1 && t2 then evsT ss ms else []

set_option maxRecDepth 100000 in
set_option maxHeartbeats 8000000 in
theorem specFES (A : Option Addr) (n cap : Nat) (ms : List E) (F : Option Addr) (fn fc : Nat) (ss : List ByteArray) (hfn : fn ≤ 1048576) (t1 t2 : Bool) (ht1 : t1 = ptOk ss) (ht2 : t2 = true ↔ goodE ms (ss.length : Int)) (w : World) (h : LiE w w.heap.size A n cap ms) (hs : LiN w w.heap.size F fn fc ss) :
    Calls Tryd.prog 13 #[.slice A n cap, .slice F fn fc] w fun e w' => e = .returned (.tuple #[.string ⟨(fesT t1 t2 ms ss).toArray⟩, .bool (t1 && t2)]) ∧ Below w.heap.size w w' := by
  have HP := Lib.hid (l7Parties F fn fc ss w hs hfn t1 ht1)
  have HL := Lib.hid (And.intro h hs)
  have HG : Hid (∀ v, Below w.heap.size w v → Calls Tryd.prog 24 #[.slice A n cap, .int .i64 (fn : Int)] v fun e w' => e = .returned (.bool t2) ∧ Below v.heap.size v w') := Lib.hid fun v hv =>
    l8Good A n cap ms (fn : Int) (by omega) (by omega) t2 (by rw [hs.len]; exact ht2) v (h.on hv)
  have HV : Hid (t1 = true → t2 = true → ∀ v, Below w.heap.size w v → Calls Tryd.prog 25 #[.slice A n cap, .slice F fn fc] v fun e w' => e = .returned (.string ⟨(evsT ss ms).toArray⟩) ∧ Below v.heap.size v w') := Lib.hid fun e1 e2 v hv => by
    obtain ⟨k1, k2⟩ := all_ok (ht1 ▸ e1) (ht2.1 e2)
    exact l7Events A n cap ms F fn fc ss k1 k2 v (h.on hv) (liN_on hs hv)
  clear h hs ht1 ht2
  unfold fesT
  go_enter Tryd.func13, Tryd.ntmps13
  cases t1
  · go_wp2_with (go_at_call 17; refine HP.out.mono ?_; rintro e w2 ⟨rfl, hb⟩)
    go_ret2
    exact ⟨rfl, hb⟩
  go_wp2_with (go_at_call 17; refine HP.out.mono ?_; rintro e w2 ⟨rfl, hb⟩; refine Hid.out ?_)
  refine Lib.hid ?_
  have B2 := Lib.hid hb
  have HG2 := Lib.hid (HG.out w2 hb)
  clear hb HP HG
  cases t2
  · go_wp2_with (go_at_call 24; refine HG2.out.mono ?_; rintro e w3 ⟨rfl, hb⟩)
    go_ret2
    exact ⟨rfl, B2.out.trans (hb.mono B2.out.size)⟩
  go_wp2_with (go_at_call 24; refine HG2.out.mono ?_; rintro e w3 ⟨rfl, hb⟩; refine Hid.out ?_)
  refine Lib.hid ?_
  have B3 := Lib.hid (B2.out.trans (hb.mono B2.out.size))
  have HV3 := Lib.hid (HV.out (by first | trivial | rfl) (by first | trivial | rfl) w3 B3.out)
  clear hb HV HG2
  go_wp2_with (go_at_call 25; refine HV3.out.mono ?_; rintro e w4 ⟨rfl, hb⟩)
  go_ret2
  exact ⟨rfl, B3.out.trans (hb.mono B3.out.size)⟩

end Go.Proofs.YtgjihejneadadaaDoor.Fe

namespace Go.Proofs.YtgjihejneadadaaDoor.Fe
open Go.RowKit Go.Proofs.YtgjihejneadadaaDoor.Cond Go.Proofs.YtgjihejneadadaaDoor.Gx Go.Proofs.YtgjihejneadadaaDoor.Et Go.Proofs.YtgjihejneadadaaDoor.Cal Go.Proofs.YtgjihejneadadaaDoor.Cl
set_option linter.unusedVariables false
set_option linter.unusedSimpArgs false

set_option maxRecDepth 100000 in
set_option maxHeartbeats 8000000 in
theorem implFES (A : Option Addr) (n cap : Nat) (ms : List E) (F : Option Addr) (fn fc : Nat) (ss : List ByteArray) (t1 t2 : Bool) (ht1 : t1 = ptOk ss) (ht2 : t2 = true ↔ goodE ms (ss.length : Int)) (w : World) (h : LiE w w.heap.size A n cap ms) (hs : LiN w w.heap.size F fn fc ss) (hTb : Tab.Tab w) (hPw : FmtAmt.Pow w) :
    Calls Tryd.prog 15 #[.slice A n cap, .slice F fn fc] w fun e w' => e = .returned (.tuple #[.string ⟨(fesT t1 t2 ms ss).toArray⟩, .bool (t1 && t2)]) ∧ Below w.heap.size w w' := by
  have HP := Lib.hid (isPartyList F fn fc ss w hs t1 ht1)
  have HL := Lib.hid h
  have HN := Lib.hid h.len
  have HG : Hid (∀ v, Below w.heap.size w v → Calls Tryd.prog 26 #[.slice A n cap, .int .i64 (fn : Int)] v fun e w' => e = .returned (.bool t2) ∧ Below v.heap.size v w') := Lib.hid fun v hv =>
    implValidEv A n cap ms (fn : Int) t2 (by rw [hs.len]; exact ht2) v (h.on hv)
  have HK : Hid (t1 = true → t2 = true → (∀ m ∈ ms, ∃ p, Ok m ss p) ∧ ms.length ≤ 40) := Lib.hid fun e1 e2 => all_ok (ht1 ▸ e1) (ht2.1 e2)
  have HPW : Hid (∀ v, Below w.heap.size w v → FmtAmt.Pow v) := Lib.hid fun v hv => hPw.below hv
  have HWE : Hid (∀ m p B b l v, Ok m ss p → w.heap.size ≤ B → Below w.heap.size w v → B ≤ v.heap.size → Bu B b l v → l.length ≤ 900000 → Calls Tryd.prog 22 #[.pointer (some ⟨b, 0, none⟩), m.val, .slice F fn fc] v fun e w' => e = .returned (.tuple #[]) ∧ Bu B b (l ++ evP m ss) w' ∧ Below B v w') := Lib.hid fun m p B b l v ho h1 hv h2 hb hl =>
    writeEvent B b l m F fn fc ss p ho v (hTb.below hv) (fun u hu => hPw.below (hv.trans (hu.mono h1))) ((hs.below hv).more h1) hb hl h2
  clear h hs ht1 ht2 hTb hPw
  unfold fesT
  go_enter Tryd.func15, Tryd.ntmps15
  cases t1
  · go_wp2_with (go_at_call 20; refine HP.out.mono ?_; rintro e w2 ⟨rfl, rfl⟩)
    go_ret2
    exact ⟨rfl, Below.refl _ _⟩
  cases t2
  · go_wp2_with (first
      | (go_at_call 20; refine HP.out.mono ?_; rintro e w2 ⟨rfl, rfl⟩)
      | (go_at_call 26; refine (HG.out _ (Below.refl _ _)).mono ?_; rintro e w3 ⟨rfl, hb⟩))
    go_ret2
    exact ⟨rfl, hb⟩
  go_wp2_with (first
      | (go_at_call 20; refine HP.out.mono ?_; rintro e w2 ⟨rfl, rfl⟩)
      | (go_at_call 26; refine (HG.out _ (Below.refl _ _)).mono ?_; rintro e w3 ⟨rfl, hb⟩; refine Hid.out ?_))
  refine Lib.hid ?_
  have B3 := Lib.hid hb
  have HKK := Lib.hid (HK.out (by first | trivial | rfl) (by first | trivial | rfl))
  clear hb HP HG HK
  have HU0 : Hid (Bu w3.heap.size w3.heap.size [] (w3.alloc (.cells #[.pointer none, .slice none 0 0] 48))) := Lib.hid (Lib.fresh_isBuilder _ _ w3)
  have B4 : Hid (Below w.heap.size w (w3.alloc (.cells #[.pointer none, .slice none 0 0] 48))) := Lib.hid (B3.out.trans ((below1 _ _).mono B3.out.size))
  have hS0 : Hid (w3.heap.size ≤ (w3.alloc (.cells #[.pointer none, .slice none 0 0] 48)).heap.size) := Lib.hid (by simp)
  have hnl : n ≤ 40 := by have := HKK.out.2; have := HN.out; omega
  have hnl2 : n ≤ 9223372036854775807 := by omega
  go_wp2_with fail
  go_loopw [21] (fun i wr => ∃ k : Nat, k ≤ n ∧ i = .int .i64 k ∧ Hid (Bu w3.heap.size w3.heap.size (evsT ss (ms.take k)) wr) ∧ Hid (Below w.heap.size w wr) ∧ Hid (w3.heap.size ≤ wr.heap.size)) (fun i _ => n - (intOf i).toNat)
  case atStart => exact ⟨0, Nat.zero_le _, rfl, HU0, B4, hS0⟩
  case round =>
    obtain ⟨k, hk, rfl, HU, HB, HS⟩ := hrel
    by_cases hlt : k < n
    · obtain ⟨b, o, hk', rfl, hBB, hc⟩ := HL.out.get hlt
      obtain ⟨m, hm⟩ : ∃ m, m = ms[k] := ⟨_, rfl⟩
      have hE := hc wr HB.out
      rw [← hm] at hE
      obtain ⟨c0, c1, c2, c3⟩ := e4 hE
      have i0 : (0 : Int) ≤ (k : Int) := by omega
      have i1 : (k : Int) < (n : Int) := by omega
      have hmm : m ∈ ms := by rw [hm]; exact List.getElem_mem hk'
      have HTK : Hid (ms.take (k + 1) = ms.take k ++ [m]) := Lib.hid (by rw [hm]; exact List.take_succ_eq_append_getElem hk')
      obtain ⟨t, ht⟩ : ∃ t, t = evsT ss (ms.take k) := ⟨_, rfl⟩
      rw [← ht] at HU
      have htl : t.length ≤ 3640 := by
        rw [ht]
        have := evsT_le (ss := ss) (ms := ms.take k) fun x hx => HKK.out.1 x (List.mem_of_mem_take hx)
        rw [List.length_take] at this
        omega
      obtain ⟨p, hp⟩ := HKK.out.1 m hmm
      have hel : (evP m ss).length ≤ 90 := evP_le hp
      have HNX : Hid ((t ++ evP m ss) ++ [10] = evsT ss (ms.take (k + 1))) := Lib.hid (by rw [HTK.out, evsT_app, ← ht])
      have HZ : Hid (∀ v, Below wr.heap.size wr v → Calls Tryd.prog 22 #[.pointer (some ⟨w3.heap.size, 0, none⟩), m.val, .slice F fn fc] v fun e w' => e = .returned (.tuple #[]) ∧ Bu w3.heap.size w3.heap.size (t ++ evP m ss) w' ∧ Below w3.heap.size v w') := Lib.hid fun v hv =>
        HWE.out m p w3.heap.size w3.heap.size t v hp B3.out.size (HB.out.trans (hv.mono HB.out.size)) (Nat.le_trans HS.out hv.size) (HU.out.on hv) (by omega)
      have HEL := Lib.hid (show (t ++ evP m ss).length + [(10 : UInt8)].length ≤ 100000000 by simp; omega)
      generalize evP m ss = ev at *
      clear hE hc hm ht hp htl hel
      go_wp2_with (first
        | (go_at_call 22; refine (HZ.out _ (by first | exact below1 _ _ | exact (below1 _ _).drew)).mono ?_; rintro e w4 ⟨rfl, hu, hb4⟩; have U4 := Lib.hid hu; have B5 : Hid (Below w3.heap.size wr w4) := Lib.hid (((below1 _ _).mono HS.out).trans hb4); clear hu hb4)
        | (go_at_call 27; refine (write w3.heap.size w3.heap.size _ [10] _ U4.out HEL.out (Nat.le_trans HS.out B5.out.size)).mono ?_; rintro e w5 ⟨rfl, hu5, hb5⟩))
      go_roundw
      case rel => exact ⟨k + 1, by omega, by go_num, Lib.hid (by rw [← HNX.out]; exact hu5), Lib.hid (HB.out.trans ((B5.out.trans hb5).mono B3.out.size)), Lib.hid (Nat.le_trans HS.out (Nat.le_trans B5.out.size hb5.size))⟩
      case measure => simp [intOf]; omega
    · have HE : Hid (evsT ss (ms.take k) = evsT ss ms) := Lib.hid (by rw [List.take_of_length_le (by have := HN.out; omega)])
      rw [HE.out] at HU
      go_wp2_with (go_at_call 23; refine (Tryd.Builder_String_any w3.heap.size w3.heap.size _ _ HU.out HS.out).mono ?_; rintro e w5 ⟨rfl, hb5⟩)
      go_ret2
      exact ⟨rfl, HB.out.trans (hb5.mono B3.out.size)⟩

end Go.Proofs.YtgjihejneadadaaDoor.Fe

namespace Go.Proofs.YtgjihejneadadaaDoor.Row
open Go.RowKit Go.Proofs.YtgjihejneadadaaDoor.Plain

def szAnsG (M : Nat) (ss : List ByteArray) (w : World) (e : Ending) (w' : World) : Prop :=
  w = w' ∧ ((sizes ss + ss.length ≤ M ∧ e = .returned (.int .i64 ((M : Int) - (sizes ss + ss.length : Nat)))) ∨ (M < sizes ss + ss.length ∧ e = .returned (.int .i64 (-1))))

set_option maxHeartbeats 1000000 in
theorem szG (M : Nat) (hM : M ≤ 1048576) (A : Option Addr) (n cap : Nat) (ss : List ByteArray) (w : World) (B : Nat) (hn : n = ss.length) (hm : n ≤ maxLen) (hA : Is w B A ss) (hs : ∀ p ∈ ss, p.size ≤ maxLen) :
    Calls Tryd.prog 6 #[.slice A n cap, .int .i64 (M : Int)] w (szAnsG M ss w) := by
  unfold maxLen at hm
  have HN := Lib.hid hn
  by_cases hbig : M < n
  · go_enter Tryd.func6, Tryd.ntmps6
    clear hn
    go_wp2
    go_ret
    exact ⟨rfl, .inr ⟨by have := HN.out; omega, rfl⟩⟩
  · clear hn
    go_enter Tryd.func6, Tryd.ntmps6
    go_wp2
    go_loop [1, 5] (fun l i => ∃ (k t : Nat), k ≤ n ∧ i = .int .i64 k ∧ l = .int .i64 (t : Int) ∧ Hid (t + n + sizes (ss.take k) = M)) (fun _ i => n - (intOf i).toNat)
    case atStart => exact ⟨0, M - n, Nat.zero_le _, rfl, by congr 1; omega, Lib.hid (by simp [sizes]; omega)⟩
    case round =>
      obtain ⟨k, t, hk, rfl, rfl, HT⟩ := hrel
      by_cases hlt : k < n
      · have hk' : k < ss.length := by have := HN.out; omega
        obtain ⟨ad, rfl, hB, hc⟩ := hA (by omega)
        obtain ⟨p, hp⟩ : ∃ p, p = ss[k] := ⟨_, rfl⟩
        have hcell : w.cell? (ad.add k) = some (.string p) := by rw [hp]; exact hc k hk'
        have hps : p.size ≤ 9223372036854775807 := by have := hs p (by rw [hp]; exact List.getElem_mem hk'); unfold maxLen at this; omega
        have HS : Hid (sizes (ss.take (k + 1)) = sizes (ss.take k) + p.size) := Lib.hid (by rw [hp]; exact sizes_step hk')
        have HLE := Lib.hid (sizes_take_le ss (k + 1))
        have htl : t ≤ M := by have := HT.out; omega
        clear hp hc
        by_cases hneg : t < p.size
        · go_wp2
          go_ret
          exact ⟨rfl, .inr ⟨by have := HT.out; have := HS.out; have := HLE.out; have := HN.out; omega, rfl⟩⟩
        · go_wp2
          go_round
          case rel => exact ⟨k + 1, t - p.size, by omega, by go_num, by congr 1; omega, Lib.hid (by have := HT.out; have := HS.out; omega)⟩
          case measure => simp [intOf]; omega
      · have HE : Hid (ss.take k = ss) := Lib.hid (List.take_of_length_le (by have := HN.out; omega))
        go_wp2
        go_ret
        refine ⟨rfl, .inl ⟨?_, ?_⟩⟩
        · have h1 := HT.out; rw [HE.out] at h1; have := HN.out; omega
        · have h1 := HT.out; rw [HE.out] at h1; have := HN.out
          show Ending.returned (.int .i64 (t : Int)) = _
          congr 2; omega


theorem szNo (M : Nat) (hM : M ≤ 1048576) (A : Option Addr) (n cap : Nat) (ss : List ByteArray) (h : M < sizes ss + ss.length) (w : World) (B : Nat) (hn : n = ss.length) (hm : n ≤ maxLen) (hA : Is w B A ss) (hs : ∀ p ∈ ss, p.size ≤ maxLen) :
    Calls Tryd.prog 6 #[.slice A n cap, .int .i64 (M : Int)] w fun e w' => e = .returned (.int .i64 (-1)) ∧ w = w' :=
  (szG M hM A n cap ss w B hn hm hA hs).mono fun e w' ⟨hw, hh⟩ => by
    rcases hh with ⟨h2, _⟩ | ⟨_, rfl⟩
    · omega
    · exact ⟨rfl, hw⟩

theorem szYes (M : Nat) (hM : M ≤ 1048576) (A : Option Addr) (n cap : Nat) (ss : List ByteArray) (h : sizes ss + ss.length ≤ M) (w : World) (B : Nat) (hn : n = ss.length) (hm : n ≤ maxLen) (hA : Is w B A ss) (hs : ∀ p ∈ ss, p.size ≤ maxLen) :
    Calls Tryd.prog 6 #[.slice A n cap, .int .i64 (M : Int)] w fun e w' => ∃ r : Nat, e = .returned (.int .i64 (r : Int)) ∧ w = w' :=
  (szG M hM A n cap ss w B hn hm hA hs).mono fun e w' ⟨hw, hh⟩ => by
    rcases hh with ⟨_, rfl⟩ | ⟨h2, _⟩
    · exact ⟨M - (sizes ss + ss.length), by congr 2; omega, hw⟩
    · omega

theorem size_le {ss : List ByteArray} {p : ByteArray} (hp : p ∈ ss) : p.size ≤ sizes ss := by
  induction ss with
  | nil => simp at hp
  | cons q r ih =>
    have h1 : sizes (q :: r) = q.size + sizes r := by simp [sizes]
    rcases List.mem_cons.1 hp with rfl | hp
    · omega
    · have := ih hp; omega

end Go.Proofs.YtgjihejneadadaaDoor.Row

namespace Go.Proofs.YtgjihejneadadaaDoor.Row
open Go.RowKit Go.Proofs.YtgjihejneadadaaDoor.Plain

theorem made (n : Nat) : (madeCells (Value.string ByteArray.empty).cells (n * 1)).toList = List.replicate n (.string ByteArray.empty) := by
  rw [show (Value.string ByteArray.empty).cells = #[.string ByteArray.empty] from rfl, Nat.mul_one, toList_madeCells_one]

set_option maxHeartbeats 1000000 in
theorem toS (A : Option Addr) (n cap : Nat) (ss : List ByteArray) (w : World) (hn : n = ss.length) (hm : n ≤ 1048576) (hA : Is w w.heap.size A ss) :
    Calls Tryd.prog 9 #[.slice A n cap] w fun e w' =>
      e = .returned (.slice (some ⟨w.heap.size, 0, none⟩) n n) ∧ w'.ownsRow w.heap.size 9 1 (.slice (some ⟨w.heap.size, 0, none⟩) n n) n (ss.map Value.string) ∧ Below w.heap.size w w' := by
  have HN := Lib.hid hn
  clear hn
  obtain ⟨i0, hi, hz0, hz1, hz2⟩ := info_parts infoStr
  have HZ := Lib.hid hz2
  clear hz2
  go_enter Tryd.func9, Tryd.ntmps9
  go_wp2_with (at_make; refine wpList_make_full _ rfl _ _ 24 rfl w.heap.size 9 i0 (.string ByteArray.empty) 1 Tryd.underlying24 hi hz0 hz1 .i64 .i64 _ _ n rfl rfl rfl rfl (by rw [HZ.out]; omega) (by unfold maxLen; omega) (Nat.le_refl _) ?_; intro w1 hown1 hgrow1; refine Hid.out ?_)
  refine Lib.hid ?_
  have hb1 : Below w.heap.size w w1 := (Below.refl _ _).grown hgrow1 (Nat.le_refl _) (fun k hk => by cases hk)
  have hown : w1.ownsRow w.heap.size 9 1 (.slice (some ⟨w.heap.size, 0, none⟩) n n) n (upTo ss n 0) := by
    rw [made] at hown1
    simpa [upTo] using hown1
  clear hown1 hgrow1
  go_wp2_with fail
  go_loopw [4] (fun i wr => ∃ k : Nat, k ≤ n ∧ i = .int .i64 k ∧ wr.ownsRow w.heap.size 9 1 (.slice (some ⟨w.heap.size, 0, none⟩) n n) n (upTo ss n k) ∧ Below w.heap.size w wr) (fun i _ => n - (intOf i).toNat)
  case atStart => exact ⟨0, Nat.zero_le _, rfl, hown, hb1⟩
  case round =>
    obtain ⟨k, hk, rfl, hown, hb⟩ := hrel
    by_cases hlt : k < n
    · have hk' : k < ss.length := by have := HN.out; omega
      obtain ⟨ad, rfl, hB, hc⟩ := hA (by omega)
      obtain ⟨p, hp⟩ : ∃ p, p = ss[k] := ⟨_, rfl⟩
      have hcell : wr.cell? (ad.add k) = some (.string p) := by rw [hp]; exact (hb.cell (by rw [block_add]; exact hB)).trans (hc k hk')
      have hfz : wr.frozen? ⟨w.heap.size, k, none⟩ = false := hown.frozenAt k
      obtain ⟨old, hold⟩ : ∃ old, wr.cell? ⟨w.heap.size, k, none⟩ = some old := by
        rw [hown.cellAt k (by omega)]
        exact ⟨_, List.getElem?_eq_getElem (by rw [hown.1]; omega)⟩
      have R : ∀ w3, wr.setCell ⟨w.heap.size, k, none⟩ (.string p) = w3 → w3.ownsRow w.heap.size 9 1 (.slice (some ⟨w.heap.size, 0, none⟩) n n) n (upTo ss n (k + 1)) ∧ Below w.heap.size w w3 := by
        rintro _ rfl
        refine ⟨?_, hb.setCell (Nat.le_refl _) _⟩
        have h1 := (hown.stored k (.string p)).1
        rw [hp, upTo_set HN.out hlt] at h1
        rw [hp]; exact h1
      have HR := Lib.hid R
      clear R hown hp hc
      go_wp2
      go_roundw
      case rel => exact ⟨k + 1, by omega, by go_num, HR.out _ rfl⟩
      case measure => simp [intOf]; omega
    · have HE : Hid (upTo ss n k = ss.map Value.string) := Lib.hid (by
        have h1 := HN.out
        unfold upTo
        rw [List.take_of_length_le (by omega), show n - k = 0 by omega]; simp)
      go_wp2
      go_ret
      exact ⟨rfl, by rw [← HE.out]; exact hown, hb⟩

end Go.Proofs.YtgjihejneadadaaDoor.Row

namespace Go.Proofs.YtgjihejneadadaaDoor.Row
open Go.RowKit Go.Proofs.YtgjihejneadadaaDoor.Plain

set_option maxHeartbeats 1000000 in
theorem eqS (A1 A2 : Option Addr) (n c1 c2 B : Nat) (ss : List ByteArray) (w : World) (hn : n = ss.length) (hm : n ≤ 3000000) (hA1 : Is w B A1 ss) (hA2 : Is w B A2 ss) :
    Calls Tryd.prog 11 #[.slice A1 n c1, .slice A2 n c2] w fun e w' => e = .returned (.bool true) ∧ ∃ m, w' = w.drewN m := by
  have HN := Lib.hid hn
  clear hn
  go_enter Tryd.func11, Tryd.ntmps11
  go_wp2_with fail
  go_loopw [5] (fun i wr => ∃ k m : Nat, k ≤ n ∧ i = .int .i64 k ∧ wr = w.drewN m) (fun i _ => n - (intOf i).toNat)
  case atStart => exact ⟨0, 0, Nat.zero_le _, rfl, rfl⟩
  case round =>
    obtain ⟨k, m, hk, rfl, rfl⟩ := hrel
    by_cases hlt : k < n
    · have hk' : k < ss.length := by have := HN.out; omega
      obtain ⟨ad, rfl, hB, hc⟩ := hA1 (by omega)
      obtain ⟨ae, rfl, hB2, hc2⟩ := hA2 (by omega)
      obtain ⟨p, hp⟩ : ∃ p, p = ss[k] := ⟨_, rfl⟩
      have hcell : w.cell? (ad.add k) = some (.string p) := by rw [hp]; exact hc k hk'
      have hcell2 : w.cell? (ae.add k) = some (.string p) := by rw [hp]; exact hc2 k hk'
      clear hp hc hc2
      have h0 : (0 : Int) ≤ (k : Int) := by omega
      have h1 : (k : Int) < (n : Int) := by omega
      go_wp2_with fail
      go_quiet (fail)
      go_wp2_with fail
      go_roundw
      case rel => exact ⟨k + 1, _, by omega, by go_num, rfl⟩
      case measure => simp [intOf]; omega
    · go_wp2_with fail
      go_ret
      exact ⟨rfl, _, rfl⟩

end Go.Proofs.YtgjihejneadadaaDoor.Row

namespace Go.Proofs.YtgjihejneadadaaDoor.Fe
open Go.RowKit Go.Proofs.YtgjihejneadadaaDoor.Cond Go.Proofs.YtgjihejneadadaaDoor.Gx Go.Proofs.YtgjihejneadadaaDoor.Et Go.Proofs.YtgjihejneadadaaDoor.Cal Go.Proofs.YtgjihejneadadaaDoor.Cl
set_option linter.unusedVariables false
set_option linter.unusedSimpArgs false

theorem liN_own {w : World} {S n cap : Nat} {A : Option Addr} {ss : List ByteArray} (h : w.ownsRow S 9 1 (.slice A n cap) n (ss.map Value.string)) (hn : n = ss.length) (hs : ∀ p ∈ ss, p.size ≤ maxLen) : LiN w w.heap.size A n cap ss := by
  refine ⟨Row.Is.of_own h hn, hn, ?_, ?_, hs, ?_⟩
  · rcases h.2 with ⟨hv, h0⟩ | ⟨g, c, cur, hv, _, _, hnc, _, _, _⟩
    · omega
    · injection hv with h1 h2 h3; omega
  · rcases h.2 with ⟨hv, h0⟩ | ⟨g, c, cur, hv, _, _, _, hcm, _, _⟩
    · injection hv with h1 h2 h3; rw [h3]; simp [maxLen]
    · injection hv with h1 h2 h3; rw [h3]; exact hcm
  · intro ad e h0
    rcases h.2 with ⟨hv, _⟩ | ⟨g, c, cur, hv, _⟩
    · cases hv; cases e
    · injection hv with h1 h2 h3
      rw [h1] at e
      injection e with e
      rw [← e]

set_option maxRecDepth 100000 in
set_option maxHeartbeats 8000000 in
theorem walkFE (m : E) (F : Option Addr) (n cf : Nat) (ss : List ByteArray) (w : World) (ha : m.act.size ≤ maxLen) (hn : n = ss.length) (hm : n ≤ maxLen) (hF : Row.Is w w.heap.size F ss) (hs : ∀ p ∈ ss, p.size ≤ maxLen) (hT : Tab.Tab w) (hP : FmtAmt.Pow w) :
    Calls Tryd.prog 3 #[m.val, .slice F n cf] w fun e w' => e = .returned (.bool true) ∧ Below w.heap.size w w' := by
  obtain ⟨X, hX⟩ : ∃ X, X = w.alloc (.cells #[.int .i64 m.day, .int .i64 m.party, .string m.act, .int .i64 m.amt] 23) := ⟨_, rfl⟩
  have B0 := Lib.hid (show Below w.heap.size w X by rw [hX]; exact below1 _ _)
  have P0 : Hid (Bk w.heap.size X m.cells) := Lib.hid (by rw [hX]; exact Bk.new _ _ _)
  have KX : Hid (∀ v, Below X.heap.size X v → v.cell? ⟨w.heap.size, 0, none⟩ = some (.int .i64 m.day) ∧ v.cell? ⟨w.heap.size, 1, none⟩ = some (.int .i64 m.party) ∧ v.cell? ⟨w.heap.size, 2, none⟩ = some (.string m.act) ∧ v.cell? ⟨w.heap.size, 3, none⟩ = some (.int .i64 m.amt)) := Lib.hid fun v hv => b4 (P0.out.on hv)
  have HX := Lib.hid hX
  have HA := Lib.hid ha
  have HN := Lib.hid hn
  have HM := Lib.hid hm
  have HS := Lib.hid hs
  have HF := Lib.hid hF
  have HTP := Lib.hid (And.intro hT hP)
  have HTO : Hid (∀ (m : E) v, Calls Tryd.prog 8 #[m.val] v fun e w' => e = .returned m.val ∧ Below v.heap.size v w') := Lib.hid toE
  obtain ⟨ok, hok⟩ : ∃ r, r = feOk m ss := ⟨_, rfl⟩
  obtain ⟨tx, htx⟩ : ∃ r, r = feT m ss := ⟨_, rfl⟩
  have HLO : Hid (∀ (v : World) (g : Nat), v.ownsRow g 9 1 (.slice (some ⟨g, 0, none⟩) n n) n (ss.map Value.string) → LiN v v.heap.size (some ⟨g, 0, none⟩) n n ss) := Lib.hid fun v g h => liN_own h hn hs
  obtain ⟨x0, x1, x2, x3⟩ := KX.out X (Below.refl _ _)
  clear P0 ha hn hm hs hF hT hP
  go_enter Tryd.func3, Tryd.ntmps3
  by_cases hz : 1048576 < m.act.size
  · have HZ := Lib.hid (show Calls Tryd.prog 5 #[m.val, .int .i64 (1048576 : Nat)] X fun e w' => e = .returned (.int .i64 (-1)) ∧ Below X.heap.size X w' by have h := szE m 1048576 X (Nat.le_refl _) HA.out; rw [szRes_no hz] at h; exact h)
    clear hz
    go_wp2_with (go_at_call 5; (try rw [← HX.out]); refine HZ.out.mono ?_; rintro e w1 ⟨rfl, hb⟩)
    go_ret
    exact ⟨rfl, B0.out.trans (hb.mono B0.out.size)⟩
  obtain ⟨t, ht⟩ : ∃ t, t = 1048576 - m.act.size := ⟨_, rfl⟩
  have HZ := Lib.hid (show Calls Tryd.prog 5 #[m.val, .int .i64 (1048576 : Nat)] X fun e w' => e = .returned (.int .i64 (t : Int)) ∧ Below X.heap.size X w' by have h := szE m 1048576 X (Nat.le_refl _) HA.out; rw [szRes_yes hz, ← ht] at h; exact h)
  have htl : t ≤ 1048576 := by omega
  have ht0 : (0 : Int) ≤ (t : Int) := by omega
  clear hz ht
  go_wp2_with (go_at_call 5; (try rw [← HX.out]); refine HZ.out.mono ?_; rintro e w1 ⟨rfl, hb⟩; refine Hid.out ?_)
  refine Lib.hid ?_
  have B1 := Lib.hid hb
  have BW1 := Lib.hid (B0.out.trans (hb.mono B0.out.size))
  clear hb HZ hX x0 x1 x2 x3
  by_cases hz : t < Row.sizes ss + ss.length
  · go_wp2_with (go_at_call 6; refine (Row.szNo t htl F n cf ss hz _ w.heap.size HN.out HM.out (HF.out.below BW1.out) HS.out).mono ?_; rintro e w' ⟨rfl, rfl⟩)
    go_ret
    exact ⟨rfl, BW1.out⟩
  have hn6 : n ≤ 1048576 := by have := HN.out; omega
  go_wp2_with (go_at_call 6; refine (Row.szYes t htl F n cf ss (by omega) _ w.heap.size HN.out HM.out (HF.out.below BW1.out) HS.out).mono ?_; rintro e w' ⟨u, rfl, rfl⟩; refine Hid.out ?_)
  refine Lib.hid ?_
  have hu0 : (0 : Int) ≤ (u : Int) := by omega
  have HTS : Hid (∀ v, Below w1.heap.size w1 v → Calls Tryd.prog 9 #[.slice F n cf] v fun e w' =>
      e = .returned (.slice (some ⟨v.heap.size, 0, none⟩) n n) ∧ w'.ownsRow v.heap.size 9 1 (.slice (some ⟨v.heap.size, 0, none⟩) n n) n (ss.map Value.string) ∧ Below v.heap.size v w') := Lib.hid fun v hv =>
    Row.toS F n cf ss v HN.out hn6 ((HF.out.below (BW1.out.trans (hv.mono BW1.out.size))).more (Nat.le_trans BW1.out.size hv.size))
  have HSP : Hid (∀ v A, LiN v v.heap.size A n n ss → Calls Tryd.prog 7 #[m.val, .slice A n n] v fun e w' => e = .returned (.tuple #[.string ⟨tx.toArray⟩, .bool ok]) ∧ Below v.heap.size v w') := Lib.hid fun v A h => by
    rw [htx, hok]; exact specFE m A n n ss v h hn6
  have HIM : Hid (∀ v A, Below w.heap.size w v → LiN v v.heap.size A n n ss → Calls Tryd.prog 10 #[m.val, .slice A n n] v fun e w' => e = .returned (.tuple #[.string ⟨tx.toArray⟩, .bool ok]) ∧ Below v.heap.size v w') := Lib.hid fun v A hb h => by
    rw [htx, hok]; exact implFE m HA.out A n n ss v (HTP.out.1.below hb) (HTP.out.2.below hb) h
  clear hok htx hz
  have K1 : Hid (∀ v, Below w1.heap.size w1 v → v.cell? ⟨w.heap.size, 0, none⟩ = some (.int .i64 m.day) ∧ v.cell? ⟨w.heap.size, 1, none⟩ = some (.int .i64 m.party) ∧ v.cell? ⟨w.heap.size, 2, none⟩ = some (.string m.act) ∧ v.cell? ⟨w.heap.size, 3, none⟩ = some (.int .i64 m.amt)) := Lib.hid fun v hv => KX.out v (B1.out.trans (hv.mono B1.out.size))
  obtain ⟨p0, p1, p2, p3⟩ := K1.out w1 (Below.refl _ _)
  go_wp2_with (first
      | (go_at_call 8; refine (HTO.out m _).mono ?_; rintro e wa ⟨rfl, hb⟩; have b1 : Below w1.heap.size w1 wa := Below.trans (by (repeat (first | exact Below.refl _ _ | apply Below.drew))) (hb.mono (by first | omega | (simp; done) | (simp; omega))); clear hb)
      | (go_at_call 9; refine (HTS.out _ (by (repeat (first | exact Below.refl _ _ | exact b1 | apply Below.drew)))).mono ?_; rintro e wb ⟨rfl, hq, hb⟩; have b2 : Below w1.heap.size w1 wb := Below.trans (by (repeat (first | exact Below.refl _ _ | exact b1 | apply Below.drew))) (hb.mono (by first | omega | (simp; done) | (simp; omega) | exact b1.size | (have := b1.size; simp; omega))); have NA := Lib.hid (HLO.out wb _ hq); clear hb hq)
      | (go_at_call 7; refine (HSP.out _ _ (by first | exact NA.out | (refine liN_on NA.out ?_; (repeat (first | exact Below.refl _ _ | apply Below.drew))))).mono ?_; rintro e wc ⟨rfl, hb⟩; refine Hid.out ?_))
  refine Lib.hid ?_
  have B3 := Lib.hid (b2.trans (hb.mono b2.size))
  clear hb p0 p1 p2 p3 b1 b2 NA
  have HT3 := Lib.hid (HTS.out wc B3.out)
  go_wp2_with (go_at_call 9; refine HT3.out.mono ?_; rintro e wd ⟨rfl, hq, hb⟩; refine Hid.out ?_)
  refine Lib.hid ?_
  have B4 := Lib.hid (B3.out.trans (hb.mono B3.out.size))
  have NX := Lib.hid (HLO.out wd _ hq)
  generalize wc.heap.size = g at *
  clear hb hq HT3
  obtain ⟨p0, p1, p2, p3⟩ := K1.out wd B4.out
  go_wp2_with (first
      | (go_at_call 8; refine (HTO.out m _).mono ?_; rintro e we ⟨rfl, hb⟩; have b1 : Below wd.heap.size wd we := Below.trans (by (repeat (first | exact Below.refl _ _ | apply Below.drew))) (hb.mono (by first | omega | (simp; done) | (simp; omega))); clear hb)
      | (go_at_call 10; refine (HIM.out _ _ (BW1.out.trans ((B4.out.trans (Below.mono (by first | exact b1 | exact b1.drew | exact b1.drew.drew | exact b1.drew.drew.drew) B4.out.size)).mono BW1.out.size)) (liN_on NX.out (by (repeat (first | exact Below.refl _ _ | exact b1 | apply Below.drew))))).mono ?_; rintro e wf ⟨rfl, hb⟩; have b2 : Below wd.heap.size wd wf := Below.trans (by (repeat (first | exact Below.refl _ _ | exact b1 | apply Below.drew))) (hb.mono (by first | omega | (simp; done) | (simp; omega) | exact b1.size | (have := b1.size; simp; omega))); refine Hid.out ?_))
  refine Lib.hid ?_
  have B5 := Lib.hid (B4.out.trans (b2.mono B4.out.size))
  have NY := Lib.hid (liN_on NX.out b2)
  have HT5 := Lib.hid (HTS.out wf B5.out)
  clear hb p0 p1 p2 p3 b1 b2
  go_wp2_with (go_at_call 9; refine HT5.out.mono ?_; rintro e wg ⟨rfl, hq, hb⟩; refine Hid.out ?_)
  refine Lib.hid ?_
  have B6 := Lib.hid (B5.out.trans (hb.mono B5.out.size))
  have NZ := Lib.hid (HLO.out wg _ hq)
  have NY2 := Lib.hid (liN_on NY.out hb)
  generalize wf.heap.size = g2 at *
  clear hb hq HT5
  go_wp2_with (go_at_call 11; refine (Row.eqS _ _ n n n wg.heap.size ss wg HN.out (by omega) NY2.out.is NZ.out.is).mono ?_; rintro e wu ⟨rfl, mq, rfl⟩)
  go_ret
  exact ⟨rfl, below_drewN (BW1.out.trans (B6.out.mono BW1.out.size)) mq⟩

end Go.Proofs.YtgjihejneadadaaDoor.Fe

namespace Go.Proofs.YtgjihejneadadaaDoor.Fe
open Go.RowKit Go.Proofs.YtgjihejneadadaaDoor.Cond Go.Proofs.YtgjihejneadadaaDoor.Gx Go.Proofs.YtgjihejneadadaaDoor.Et Go.Proofs.YtgjihejneadadaaDoor.Cal Go.Proofs.YtgjihejneadadaaDoor.Cl
set_option linter.unusedVariables false
set_option linter.unusedSimpArgs false

set_option maxRecDepth 100000 in
set_option maxHeartbeats 8000000 in
theorem walkFES (A : Option Addr) (n cap : Nat) (ms : List E) (F : Option Addr) (fn cf : Nat) (ss : List ByteArray) (w : World) (hx0 : LiE w w.heap.size A n cap ms) (hfn : fn = ss.length) (hm : fn ≤ maxLen) (hF : Row.Is w w.heap.size F ss) (hs : ∀ p ∈ ss, p.size ≤ maxLen) (hT : Tab.Tab w) (hP : FmtAmt.Pow w) :
    Calls Tryd.prog 4 #[.slice A n cap, .slice F fn cf] w fun e w' => e = .returned (.bool true) ∧ Below w.heap.size w w' := by
  have HI := Lib.hid hx0
  have HFN := Lib.hid hfn
  have HM := Lib.hid hm
  have HSS := Lib.hid hs
  have HF := Lib.hid hF
  have HTP := Lib.hid (And.intro hT hP)
  obtain ⟨t1, ht1⟩ : ∃ t, t = ptOk ss := ⟨_, rfl⟩
  obtain ⟨t2, ht2⟩ := t_iff (goodE ms (ss.length : Int))
  have HTT := Lib.hid (And.intro ht1 ht2)
  have HLO : Hid (∀ (v : World) (g : Nat), v.ownsRow g 9 1 (.slice (some ⟨g, 0, none⟩) fn fn) fn (ss.map Value.string) → LiN v v.heap.size (some ⟨g, 0, none⟩) fn fn ss) := Lib.hid fun v g h => liN_own h hfn hs
  obtain ⟨tx, htx⟩ : ∃ r, r = fesT t1 t2 ms ss := ⟨_, rfl⟩
  have HTX := Lib.hid htx
  clear hx0 hfn hm hs hF hT hP ht1 ht2 htx
  go_enter Tryd.func4, Tryd.ntmps4
  by_cases hz : 1048576 < n + wtE ms
  · have HZ := szES A n cap ms 1048576 (Nat.le_refl _) w HI.out
    rw [szRes_no hz] at HZ
    have HZH := Lib.hid HZ
    clear HZ hz
    go_wp2_with (go_at_call 12; refine HZH.out.mono ?_; rintro e wz ⟨rfl, hbz⟩)
    go_ret
    exact ⟨rfl, hbz⟩
  have HZ := szES A n cap ms 1048576 (Nat.le_refl _) w HI.out
  rw [szRes_yes hz] at HZ
  have hn : n ≤ 1048576 := by omega
  obtain ⟨m1, hm1⟩ : ∃ m, m = 1048576 - (n + wtE ms) := ⟨_, rfl⟩
  rw [← hm1] at HZ
  have HZH := Lib.hid HZ
  have hm0 : (0 : Int) ≤ (m1 : Int) := by omega
  have hmt : m1 ≤ 1048576 := by omega
  clear HZ hm1 hz
  go_wp2_with (go_at_call 12; refine HZH.out.mono ?_; rintro e w1 ⟨rfl, hb⟩; refine Hid.out ?_)
  refine Lib.hid ?_
  have B1 := Lib.hid hb
  clear hb HZH
  by_cases hz : m1 < Row.sizes ss + ss.length
  · go_wp2_with (go_at_call 6; refine (Row.szNo m1 hmt F fn cf ss hz _ w.heap.size HFN.out HM.out (HF.out.below B1.out) HSS.out).mono ?_; rintro e w' ⟨rfl, rfl⟩)
    go_ret
    exact ⟨rfl, B1.out⟩
  have hn6 : fn ≤ 1048576 := by have := HFN.out; omega
  go_wp2_with (go_at_call 6; refine (Row.szYes m1 hmt F fn cf ss (by omega) _ w.heap.size HFN.out HM.out (HF.out.below B1.out) HSS.out).mono ?_; rintro e w' ⟨u, rfl, rfl⟩; refine Hid.out ?_)
  refine Lib.hid ?_
  have hu0 : (0 : Int) ≤ (u : Int) := by omega
  clear hz
  have HTS : Hid (∀ v, Below w.heap.size w v → Calls Tryd.prog 9 #[.slice F fn cf] v fun e w' =>
      e = .returned (.slice (some ⟨v.heap.size, 0, none⟩) fn fn) ∧ w'.ownsRow v.heap.size 9 1 (.slice (some ⟨v.heap.size, 0, none⟩) fn fn) fn (ss.map Value.string) ∧ Below v.heap.size v w') := Lib.hid fun v hv =>
    Row.toS F fn cf ss v HFN.out hn6 ((HF.out.below hv).more hv.size)
  have HTE : Hid (∀ v, Below w.heap.size w v → Calls Tryd.prog 14 #[.slice A n cap] v fun e w' => e = .returned (.slice (some ⟨v.heap.size, 0, none⟩) n n) ∧ LiE w' w'.heap.size (some ⟨v.heap.size, 0, none⟩) n n ms ∧ Below v.heap.size v w') := Lib.hid fun v hv =>
    (toES A n cap ms v (HI.out.on hv) hn).mono fun e w' ⟨he, hq, hb⟩ => ⟨he, hq.lie HI.out.len.symm (by unfold maxLen; omega), hb⟩
  have HSP : Hid (∀ v Q R, LiE v v.heap.size Q n n ms → LiN v v.heap.size R fn fn ss → Calls Tryd.prog 13 #[.slice Q n n, .slice R fn fn] v fun e w' => e = .returned (.tuple #[.string ⟨tx.toArray⟩, .bool (t1 && t2)]) ∧ Below v.heap.size v w') := Lib.hid fun v Q R h1 h2 => by
    rw [HTX.out]; exact specFES Q n n ms R fn fn ss hn6 t1 t2 HTT.out.1 HTT.out.2 v h1 h2
  have HIM : Hid (∀ v Q R, Below w.heap.size w v → LiE v v.heap.size Q n n ms → LiN v v.heap.size R fn fn ss → Calls Tryd.prog 15 #[.slice Q n n, .slice R fn fn] v fun e w' => e = .returned (.tuple #[.string ⟨tx.toArray⟩, .bool (t1 && t2)]) ∧ Below v.heap.size v w') := Lib.hid fun v Q R hb h1 h2 => by
    rw [HTX.out]; exact implFES Q n n ms R fn fn ss t1 t2 HTT.out.1 HTT.out.2 v h1 h2 (HTP.out.1.below hb) (HTP.out.2.below hb)
  have HT2 := Lib.hid (HTE.out w1 B1.out)
  go_wp2_with (go_at_call 14; refine HT2.out.mono ?_; rintro e w2 ⟨rfl, hq, hb⟩; refine Hid.out ?_)
  refine Lib.hid ?_
  have B2 := Lib.hid (B1.out.trans (hb.mono B1.out.size))
  have L2 := Lib.hid hq
  generalize w1.heap.size = g1 at *
  have HT3 := Lib.hid (HTS.out w2 B2.out)
  clear hb hq HT2
  go_wp2_with (go_at_call 9; refine HT3.out.mono ?_; rintro e w3 ⟨rfl, hq, hb⟩; refine Hid.out ?_)
  refine Lib.hid ?_
  have B3 := Lib.hid (B2.out.trans (hb.mono B2.out.size))
  have HS3 := Lib.hid (HSP.out w3 _ _ (L2.out.on hb) (HLO.out w3 _ hq))
  generalize w2.heap.size = g2 at *
  clear hb hq HT3 L2
  go_wp2_with (go_at_call 13; refine HS3.out.mono ?_; rintro e w4 ⟨rfl, hb⟩; refine Hid.out ?_)
  refine Lib.hid ?_
  have B4 := Lib.hid (B3.out.trans (hb.mono B3.out.size))
  have HT4 := Lib.hid (HTE.out w4 B4.out)
  clear hb HS3
  go_wp2_with (go_at_call 14; refine HT4.out.mono ?_; rintro e w5 ⟨rfl, hq, hb⟩; refine Hid.out ?_)
  refine Lib.hid ?_
  have B5 := Lib.hid (B4.out.trans (hb.mono B4.out.size))
  have L5 := Lib.hid hq
  generalize w4.heap.size = g4 at *
  have HT5 := Lib.hid (HTS.out w5 B5.out)
  clear hb hq HT4
  go_wp2_with (go_at_call 9; refine HT5.out.mono ?_; rintro e w6 ⟨rfl, hq, hb⟩; refine Hid.out ?_)
  refine Lib.hid ?_
  have B6 := Lib.hid (B5.out.trans (hb.mono B5.out.size))
  have L6 := Lib.hid (L5.out.on hb)
  have N6 := Lib.hid (HLO.out w6 _ hq)
  generalize w5.heap.size = g5 at *
  have HM6 := Lib.hid (HIM.out w6 _ _ B6.out L6.out N6.out)
  clear hb hq HT5 L5
  go_wp2_with (go_at_call 15; refine HM6.out.mono ?_; rintro e w7 ⟨rfl, hb⟩; refine Hid.out ?_)
  refine Lib.hid ?_
  have B7 := Lib.hid (B6.out.trans (hb.mono B6.out.size))
  have L7 := Lib.hid (L6.out.on hb)
  have N7 := Lib.hid (liN_on N6.out hb)
  have HT7 := Lib.hid (HTE.out w7 B7.out)
  clear hb HM6 L6 N6
  go_wp2_with (go_at_call 14; refine HT7.out.mono ?_; rintro e w8 ⟨rfl, hq, hb⟩; refine Hid.out ?_)
  refine Lib.hid ?_
  have B8 := Lib.hid (B7.out.trans (hb.mono B7.out.size))
  have N8 := Lib.hid (liN_on N7.out hb)
  have HE8 := Lib.hid (eqES _ _ n n n ms w8 hn (L7.out.on hb) hq)
  generalize w7.heap.size = g7 at *
  clear hb hq HT7 L7 N7
  go_wp2_with (go_at_call 16; refine HE8.out.mono ?_; rintro e w9 ⟨rfl, hb⟩; refine Hid.out ?_)
  refine Lib.hid ?_
  have B9 := Lib.hid (B8.out.trans (hb.mono B8.out.size))
  have N9 := Lib.hid (liN_on N8.out hb)
  have HT9 := Lib.hid (HTS.out w9 B9.out)
  clear hb HE8 N8
  go_wp2_with (go_at_call 9; refine HT9.out.mono ?_; rintro e w10 ⟨rfl, hq, hb⟩; refine Hid.out ?_)
  refine Lib.hid ?_
  have B10 := Lib.hid (B9.out.trans (hb.mono B9.out.size))
  have NZ := Lib.hid (HLO.out w10 _ hq)
  have NY := Lib.hid (liN_on N9.out hb)
  generalize w9.heap.size = g9 at *
  clear hb hq HT9 N9
  go_wp2_with (go_at_call 11; refine (Row.eqS _ _ fn fn fn w10.heap.size ss w10 HFN.out (by omega) NY.out.is NZ.out.is).mono ?_; rintro e wu ⟨rfl, mq, rfl⟩)
  go_ret
  exact ⟨rfl, below_drewN B10.out mq⟩

end Go.Proofs.YtgjihejneadadaaDoor.Fe

namespace Go.Proofs.YtgjihejneadadaaDoor.fnExactFormatEvents
open Go.ChangeShapes Go.WideShapes Go.ChangeAt Go.RowKit Go.Joins
open Go.ChangeMaps (open_string shut_string)
set_option linter.unusedVariables false

theorem own : ownKnob Tryd.prog.godebug = none := by kernel_rfl
theorem laidOut : laidOutB Tryd.prog = true := by kernel_rfl

set_option maxRecDepth 100000 in
theorem contract (H : Type) (enc : TypeId × Value → H) (W : World) (base : Nat) (args : Array Value) (ds gs : List (DataW H)) (before : List MemPlace)
    (hval : ∀ (j : Nat) t v, Tryd.f4.params[j]? = some t → args[j]? = some v → Value.okWide Tryd.prog W .any base t v)
    (hW : DataW.Whole enc Tryd.prog Tryd.f4.params.toList Rows.fnExactFormatEventsSpec.vars false W args.toList ds gs before) (hL : laidMetH Tryd.prog Rows.fnExactFormatEventsRow.laid W) (hSh : W.ShapedOpen Tryd.prog) :
    Calls Tryd.prog 4 args W fun e W' => ∃ v, e = .returned v ∧ Rows.fnExactFormatEventsSpec.post enc Tryd.prog Tryd.f4 false true false false W args v W' := by
  have hW' := hW
  obtain ⟨p, q, hA0, hV, rfl, hfz, hnd⟩ := hW
  have hA : DataW.TrodAll enc Tryd.prog W 0 (fun _ => true) true Tryd.f4.params.toList args.toList ds p := hA0
  rw [Tryd.params4] at hA hval
  obtain ⟨v0, vs0, d0, ds0, p0, q0, hargs, rfl, rfl, h0, r0⟩ := trodAll_cons hA
  obtain ⟨v1, vs1, d1, ds1, p1, q1, rfl, rfl, rfl, h1, r1⟩ := trodAll_cons r0
  obtain ⟨rfl, rfl, rfl⟩ := trodAll_nil r1
  obtain rfl : args = #[v0, v1] := by cases args; simp_all
  rw [MakeChecks.laidMetH_plain _ _ _ (by kernel_rfl)] at hL
  have hT : Tab.Tab W := Tab.first hL.tail.tail.tail
  have hV1 : DataW.TrodVars enc Tryd.prog W (fun _ => true) ["loop.example/g00902/impl.daysBefore"] gs q := hV
  obtain ⟨rfl, rfl⟩ := hV1.unique (Tab.vars enc hT _)
  have kk0 := h0
  have lt0 : ∀ x ∈ p0, x.block < W.heap.size := by obtain ⟨m, hm⟩ := kk0; exact DataW.trod_lt m _ _ _ hm
  obtain ⟨a0, len0, cap0, xs0, rfl, hx0⟩ := Et.openEvs (hval 0 34 v0 rfl rfl) h0
  clear h0
  obtain ⟨a1, len1, cap1, rfl⟩ := okWide_slice Tryd.underlying24 (hval 1 24 v1 rfl rfl)
  have k1 := h1
  have lt1 : ∀ x ∈ p1, x.block < W.heap.size := by obtain ⟨m, hm⟩ := k1; exact DataW.trod_lt m _ _ _ hm
  obtain ⟨ss1, hn1, hm1, hI1, hs1⟩ : ∃ ss : List ByteArray, len1 = ss.length ∧ len1 ≤ maxLen ∧ Row.Is W W.heap.size a1 ss ∧ ∀ p ∈ ss, p.size ≤ maxLen := by
    obtain ⟨fuel, hf⟩ := h1
    rcases open_strings Tryd.underlying24 Tryd.underlying9 (by kernel_rfl) hf with ⟨hcs, _⟩ | ⟨x, l, c, ss, hcs, _, hl, hm, hz, _, hcell, hws⟩
    · simp [Value.cells] at hcs
      obtain ⟨rfl, rfl, rfl⟩ := hcs
      exact ⟨[], rfl, by unfold maxLen; omega, fun h => by simp at h, fun p hp => by simp at hp⟩
    · simp [Value.cells] at hcs
      obtain ⟨rfl, rfl, rfl⟩ := hcs
      have hz' : ss.length = cap1 := by simpa using hz
      refine ⟨ss.take len1, by simp; omega, by omega, fun hp => ?_, fun p hp => hws p (List.mem_of_mem_take hp)⟩
      have hl0 : 0 < ss.length := by simp at hp; omega
      refine ⟨x, rfl, ?_, fun j hj => ?_⟩
      · have h2 := World.block_lt_of_cell? W _ (hcell 0 hl0)
        rwa [Row.block_add] at h2
      · have hj' : j < ss.length := by simp at hj; omega
        rw [hcell j hj']
        simp [List.getD, hj']
  clear hA0
  refine (Fe.walkFES a0 len0 cap0 xs0 a1 len1 cap1 ss1 W hx0 hn1 hm1 hI1 hs1 hT (Laid.table hL)).mono fun e W' ⟨he, bel⟩ => ?_
  subst he
  exact ⟨_, rfl, _, _, _, [], _, MemPlace.row ⟨0, 0, none⟩ 13 ++ [], hW', trodAll_mk1 (shut_bool Tryd.underlying4 _), (trodAll_cons_mk (Below.trod laidOut (by kernel_rfl) (of_decide_eq_true (by kernel_rfl)) kk0 bel lt0) (trodAll_cons_mk (Below.trod laidOut (by kernel_rfl) (of_decide_eq_true (by kernel_rfl)) k1 bel lt1) trodAll_mk0)), Tab.vars enc (hT.below bel) _, bel.frame _, fun h => by cases h⟩

theorem laid_met (os : Os) : laidMetH Tryd.prog Rows.fnExactFormatEventsRow.laid ((World.doorLaid Tryd.prog 62 os).forCall (fun _ _ => 0) ⟨#[], #[.slice none 0 0, .slice none 0 0], []⟩).memory := 
  laidMetH_of_parts3 (fuel := 8) (laidMet_of_run' 8 (by kernel_rfl) (by kernel_rfl)) (by kernel_rfl) (by kernel_rfl)
theorem reads (os : Os) {H : Type} (enc : TypeId × Value → H) : ∃ places, DataW.whole enc Tryd.prog ((World.doorLaid Tryd.prog 62 os).forCall (fun _ _ => 0) ⟨#[], #[.slice none 0 0, .slice none 0 0], []⟩).memory Tryd.f4.params.toList Rows.fnExactFormatEventsSpec.vars false (#[.slice none 0 0, .slice none 0 0] : Array Value).toList 8 = some ([.nil, .nil], [Tab.datum], places) :=
  ⟨MemPlace.row ⟨0, 0, none⟩ 13, by kernel_rfl⟩

set_option maxRecDepth 100000 in
theorem lifted (os : Os) (started : os.Started) (H : Type) (enc : TypeId × Value → H) (F : Stop.Interp) :
    ReturnsInHanded {} Tryd.checked os 4 .any ((OpenSpec.ofChange Rows.fnExactFormatEventsSpec).preRow enc Tryd.prog Tryd.f4 Rows.fnExactFormatEventsRow.domain false Rows.fnExactFormatEventsRow.laid) (((OpenSpec.ofChange Rows.fnExactFormatEventsSpec).at F).post enc Tryd.prog Tryd.f4 false true false false) := by
  obtain ⟨places, hx⟩ := reads os enc
  refine returnsInHanded_of_row (C := Tryd.checked) (s := OpenSpec.ofChange Rows.fnExactFormatEventsSpec) own started (by kernel_rfl) Tryd.func4
    (witness_row_at (enc := enc) (C := Tryd.checked) false (World.doorLaid Tryd.prog 62 os) #[.slice none 0 0, .slice none 0 0] rfl (by kernel_rfl) (by kernel_rfl) (by kernel_rfl)
      (OpenSpec.preRow_of_cond 8 hx (by kernel_rfl) (fun k hk => by cases hk) (by kernel_rfl) (laid_met os))) ?_
  intro W base args ds gs before hval hW _ _ _ hL hSh _
  exact contract H enc W base args ds gs before hval hW hL hSh

theorem said : Rows.FnExactFormatEventsSaid :=
  OpenClaim.holds_of_cond 4 Tryd.f4 rfl rfl rfl rfl rfl rfl rfl ⟨rfl, rfl, rfl, rfl, rfl⟩ rfl rfl rfl rfl rfl (by kernel_rfl) Tryd.func4 (by kernel_rfl)
    (of_decide_eq_true (by kernel_rfl)) (by unfold Func.isWrapper; first | (rw [if_pos (by decide +kernel)]; kernel_rfl) | (rw [if_neg (by decide +kernel)]; exact ⟨rfl, rfl⟩))
    (fun os started H enc _ F => by rw [OpenClaim.pre_eq_preRow]; exact lifted os started H enc F)

theorem plain (f : FuncId) (fn : Func) (hf : Tryd.pinned.checked.prog.funcNamed "loop.example/g00902/laws.FnExactFormatEvents" = some f) (hfn : Tryd.pinned.checked.prog.funcs[f]? = some fn) :
    false = Tryd.pinned.checked.prog.looks [] ∧ ∀ (j : Nat) t, fn.params[j]? = some t → Tryd.pinned.checked.prog.wantsStandIn t = false := by
  obtain rfl : f = 4 := Option.some.inj ((show Tryd.prog.funcNamed "loop.example/g00902/laws.FnExactFormatEvents" = some 4 by kernel_rfl).symm.trans hf) |>.symm
  obtain rfl : fn = Tryd.f4 := (Option.some.inj (Tryd.func4.symm.trans hfn)).symm
  refine ⟨by kernel_rfl, fun j t ht => ?_⟩
  rw [Tryd.params4] at ht
  have hm : t = 34 ∨ t = 24 := by simpa using Array.mem_of_getElem? ht
  have w : Tryd.prog.wantsStandIn 34 = false ∧ Tryd.prog.wantsStandIn 24 = false := ⟨by kernel_rfl, by kernel_rfl⟩
  rcases hm with rfl | rfl
  · exact w.1
  · exact w.2

theorem card : Rows.FnExactFormatEventsCardSaid :=
  Claim7.holds_tied_plain_at .later [] _ _ _ _ said (fun _ h => by cases h) (by kernel_rfl) (fun _ h => by cases h) fnExactFormatEvents_row_tie rfl ⟨rfl, rfl⟩ (by kernel_rfl) rfl plain (by kernel_rfl)
end Go.Proofs.YtgjihejneadadaaDoor.fnExactFormatEvents
