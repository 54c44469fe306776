/-
  The cursor of the drawn inputs: what its methods return.
  The cursor of the drawn inputs: what its methods one, of and any1 return.
  What the cursor draws of days return, whatever the code.
  A condition that came in lies in memory as a tree.
  Drawn conditions and drawn rows of strings as they lie beside the cursor: words for them.
  The draws of valid conditions: what built and condition of the model's cursor return.
  The marks of a condition read back: heldCondition; markCondition of the whole condition.
  Both SimplifyCondition.
  The draw of a condition that may be invalid: what condition and anyCondition of the model's cursor return.
  The union of two lists of strings in plain facts: putting in order, and sorting with equal neighbours struck, give the same list.
  Slices of strings in memory, and what the laws' helpers szStringS, toStringS and eqStringS do with them.
  Fact lists: isFactList of the program, l5Facts and l5Has of the model.
  Rows of strings that a call owns: appending; l5Put of the model.
  The draws of fact lists, and DrawEvaluateCondition: what they return, whatever the code.
-/
import Derived.Test.YtlaogladhadliaaGreatDoorRows
import Derived.Test.YtlaogladhadliaaGreatDoorPlain
import Derived.WalkKit
import Derived.ProofKit
import Derived.Lib.Hide
import Derived.WalkSmall
import Derived.Deep.QuietTactic
import Derived.BigQuiet
import Derived.Test.YtlaogladhadliaaGreatDoorCal
import Derived.Test.YtlaogladhadliaaGreatDoorSz
import Derived.OpenShut
import Derived.ShutString
import Derived.ChangeSlices
import Derived.SliceStrings
import Derived.Carry
import Derived.Lib.SmallJoins
import Derived.Deep.Slices
import Derived.Test.YtlaogladhadliaaGreatDoorSmR
import Derived.Test.YtlaogladhadliaaGreatDoorCoMk
import Derived.Deep.RegionWith
import Derived.Test.YtlaogladhadliaaGreatDoorSmK
import Derived.Test.YtlaogladhadliaaGreatDoorGoodI
import Derived.Deep.RegionLaw
import Derived.Deep.LoopGhost
import Derived.Sort.EncStr
import Derived.Lib.SlicesCompact
import Derived.Test.YtlaogladhadliaaGreatDoorNmI
import Derived.Laws.Cover1
import Derived.Sort.Walk0
import Derived.Maps.AppendAt
import Derived.Laws.OwnMore
import Derived.Test.YtlaogladhadliaaGreatDoorNum
import Derived.Test.YtlaogladhadliaaGreatDoorIntText
namespace Go.Proofs.YtlaogladhadliaaGreatDoor.Cur
open Go.RowKit Go.Proofs.YtlaogladhadliaaGreatDoor.Plain

theorem block_add (a : Addr) (n : Nat) : (a.add n).block = a.block := by unfold Addr.add; split <;> rfl

/-- Block g is a cursor over the bytes at A. -/
def At (w : World) (g : Nat) (A : Option Addr) (n cap k : Nat) (sd : Int) : Prop :=
  w.heap[g]? = some (.cells #[.slice A n cap, .int .i64 k, .int .u64 sd] 42 (0, 0))

theorem At.lt {w : World} {g : Nat} {A : Option Addr} {n cap k : Nat} {sd : Int} (h : At w g A n cap k sd) : g < w.heap.size := (Array.getElem?_eq_some_iff.1 h).1
theorem At.c0 {w : World} {g : Nat} {A : Option Addr} {n cap k : Nat} {sd : Int} (h : At w g A n cap k sd) : w.cell? ⟨g, 0, none⟩ = some (.slice A n cap) := by
  rw [cell_of_row w g 0 _ _ (0, 0) h]; rfl
theorem At.c1 {w : World} {g : Nat} {A : Option Addr} {n cap k : Nat} {sd : Int} (h : At w g A n cap k sd) : w.cell? ⟨g, 1, none⟩ = some (.int .i64 k) := by
  rw [cell_of_row w g 1 _ _ (0, 0) h]; rfl
theorem At.c2 {w : World} {g : Nat} {A : Option Addr} {n cap k : Nat} {sd : Int} (h : At w g A n cap k sd) : w.cell? ⟨g, 2, none⟩ = some (.int .u64 sd) := by
  rw [cell_of_row w g 2 _ _ (0, 0) h]; rfl
theorem At.fz {w : World} {g : Nat} {A : Option Addr} {n cap k : Nat} {sd : Int} (h : At w g A n cap k sd) (i : Nat) : w.frozen? ⟨g, i, none⟩ = false := by
  unfold At at h
  simp [World.frozen?, h]
theorem At.set1 {w : World} {g : Nat} {A : Option Addr} {n cap k : Nat} {sd : Int} (h : At w g A n cap k sd) (k' : Nat) : At (w.setCell ⟨g, 1, none⟩ (.int .i64 k')) g A n cap k' sd := by
  unfold At at *
  simp [World.setCell, Array.getElem?_modify, h]
theorem At.set2 {w : World} {g : Nat} {A : Option Addr} {n cap k : Nat} {sd : Int} (h : At w g A n cap k sd) (sd' : Int) : At (w.setCell ⟨g, 2, none⟩ (.int .u64 sd')) g A n cap k sd' := by
  unfold At at *
  simp [World.setCell, Array.getElem?_modify, h]

/-- The bytes that a slice leads to, below block B. -/
def Bytes (w : World) (B : Nat) (A : Option Addr) (n : Nat) : Prop :=
  0 < n → ∃ ad, A = some ad ∧ ad.block < B ∧ ∀ j, j < n → ∃ z : Int, w.cell? (ad.add j) = some (.int .u8 z) ∧ 0 ≤ z ∧ z ≤ 255

theorem fin {w : World} {g : Nat} {A : Option Addr} {n cap k : Nat} {sd : Int} (h : At w g A n cap k sd) (a c : Nat) (S : Int) :
    At ((((w.drewN a).setCell ⟨g, 1, none⟩ (.int .i64 ((k : Int) + 1))).setCell ⟨g, 2, none⟩ (.int .u64 S)).drewN c) g A n cap (k + 1) S ∧
    w.grownBy ((((w.drewN a).setCell ⟨g, 1, none⟩ (.int .i64 ((k : Int) + 1))).setCell ⟨g, 2, none⟩ (.int .u64 S)).drewN c) (some g) := by
  have h1 : At (w.drewN a) g A n cap k sd := h
  have h2 := (h1.set1 (k + 1)).set2 S
  refine ⟨h2, ⟨rfl, rfl, rfl, ?_, fun j hj hne => ?_⟩⟩
  · show w.heap.size ≤ (((w.drewN a).setCell ⟨g, 1, none⟩ (.int .i64 ((k : Int) + 1))).setCell ⟨g, 2, none⟩ (.int .u64 S)).heap.size
    simp [World.setCell]
  · have hjg : j ≠ g := fun e => hne (by rw [e])
    show (((w.drewN a).setCell ⟨g, 1, none⟩ (.int .i64 ((k : Int) + 1))).setCell ⟨g, 2, none⟩ (.int .u64 S)).heap[j]? = w.heap[j]?
    rw [Below.heap_setCell _ _ _ _ hjg, Below.heap_setCell _ _ _ _ hjg]; rfl

theorem low8 (y : Int) : 0 ≤ wrap64 (bits BinOp.and IntKind.u64 (IntKind.u64.wrap y / 1099511627776) 255) ∧ wrap64 (bits BinOp.and IntKind.u64 (IntKind.u64.wrap y / 1099511627776) 255) ≤ 255 := by
  obtain ⟨a, ha, e⟩ : ∃ a : Nat, a < 18446744073709551616 ∧ IntKind.u64.wrap y = a := by
    refine ⟨(IntKind.u64.wrap y).toNat, ?_, ?_⟩ <;> rw [IntKind.wrap_u64] <;> omega
  rw [e, show ((a : Int) / 1099511627776) = ((a / 1099511627776 : Nat) : Int) by omega, show (255 : Int) = ((255 : Nat) : Int) from rfl, bits_and_u64_nat _ _ (by omega) (by omega)]
  have h := @Nat.and_le_right (a / 1099511627776) 255
  rw [IntWalk.wrap64_in _ (by omega)]
  omega

set_option maxHeartbeats 1000000 in
theorem next (g : Nat) (A : Option Addr) (n cap k B : Nat) (sd : Int) (w : World) (h : At w g A n cap k sd) (hk : k ≤ 1000000) (hn : n ≤ 1000000) (hA : Bytes w B A n) :
    Calls Tryz.prog 57 #[.pointer (some ⟨g, 0, none⟩)] w fun e w' =>
      ∃ (b sd' : Int), e = .returned (.int .i64 b) ∧ 0 ≤ b ∧ b ≤ 255 ∧ At w' g A n cap (k + 1) sd' ∧ w.grownBy w' (some g) := by
  have c0 := h.c0
  have c1 := h.c1
  have c2 := h.c2
  have f1 := h.fz 1
  have f2 := h.fz 2
  have HF := Lib.hid (fun a c S => fin h a c S)
  by_cases hlt : k < n
  · obtain ⟨ad, rfl, hb, hc⟩ := hA (by omega)
    obtain ⟨z, hz, hz0, hz1⟩ := hc k hlt
    clear hc hA h
    have i0 : (0 : Int) ≤ (k : Int) := by omega
    have i1 : (k : Int) < (n : Int) := by omega
    have i2 : (k : Int) + 1 ≤ (n : Int) := by omega
    go_enter Tryz.func57, Tryz.ntmps57
    go_wp2_with fail
    go_quiet (fail)
    go_wp2_with fail
    go_quiet (fail)
    go_wp2_with fail
    go_quiet (fail)
    go_wp2_with fail
    go_ret
    exact ⟨z, _, rfl, hz0, hz1, HF.out _ _ _⟩
  · have hA' := Lib.hid hA
    clear hA h
    have i0 : (0 : Int) ≤ (k : Int) := by omega
    have i1 : ¬ (k : Int) < (n : Int) := by omega
    have i2 : ¬ (k : Int) + 1 ≤ (n : Int) := by omega
    have j1 : decide ((k : Int) < (n : Int)) = false := by simpa using hlt
    have j2 : decide (k < n) = false := by simpa using hlt
    go_enter Tryz.func57, Tryz.ntmps57
    go_wp2_with fail
    go_quiet (fail)
    go_wp2_with fail
    go_quiet (fail)
    go_wp2_with fail
    go_ret
    exact ⟨_, _, rfl, (low8 _).1, (low8 _).2, HF.out _ _ _⟩

theorem grow2 {a b c : World} {r : Option Nat} (h : a.grownBy b r) (k : b.grownBy c r) : a.grownBy c r :=
  ⟨k.os.trans h.os, k.tape.trans h.tape, k.output.trans h.output, Nat.le_trans h.size k.size, fun j hj hne => (k.block j (Nat.lt_of_lt_of_le hj h.size) hne).trans (h.block j hj hne)⟩

theorem Bytes.grown {w w' : World} {g B n : Nat} {A : Option Addr} (h : Bytes w B A n) (hB : B ≤ g) (hg : w.grownBy w' (some g)) : Bytes w' B A n := fun hp => by
  obtain ⟨ad, e, hb, hc⟩ := h hp
  refine ⟨ad, e, hb, fun j hj => ?_⟩
  obtain ⟨z, hz, h0, h1⟩ := hc j hj
  exact ⟨z, hg.cell hz (by rw [block_add]; intro e2; injection e2 with e2; omega), h0, h1⟩

/-- A cursor over some bytes, in a block of its own. -/
structure Ok (w : World) (g : Nat) (A : Option Addr) (n cap k B : Nat) : Prop where
  at_ : ∃ sd, At w g A n cap k sd
  bytes : Bytes w B A n
  small : n ≤ 1000000
  old : B ≤ g

theorem Ok.step {w w' : World} {g : Nat} {A : Option Addr} {n cap k k' B : Nat} {sd : Int} (h : Ok w g A n cap k B) (h1 : At w' g A n cap k' sd) (hg : w.grownBy w' (some g)) : Ok w' g A n cap k' B := by
  exact ⟨⟨sd, h1⟩, h.bytes.grown h.old hg, h.small, h.old⟩

def nextAns (g : Nat) (A : Option Addr) (n cap k B : Nat) (w : World) (e : Ending) (w' : World) : Prop :=
  ∃ b : Int, e = .returned (.int .i64 b) ∧ 0 ≤ b ∧ b ≤ 255 ∧ Ok w' g A n cap (k + 1) B ∧ w.grownBy w' (some g)

theorem nextOk (g : Nat) (A : Option Addr) (n cap k B : Nat) (w : World) (h : Ok w g A n cap k B) (hk : k ≤ 1000000) :
    Calls Tryz.prog 57 #[.pointer (some ⟨g, 0, none⟩)] w (nextAns g A n cap k B w) := by
  obtain ⟨sd, h0⟩ := h.at_
  refine (next g A n cap k B sd w h0 hk h.small h.bytes).mono fun e w' hh => ?_
  obtain ⟨b, sd', he, hb0, hb1, hat, hg⟩ := hh
  exact ⟨b, he, hb0, hb1, h.step hat hg, hg⟩

def pickAns (m : Int) (g : Nat) (A : Option Addr) (n cap k B : Nat) (w : World) (e : Ending) (w' : World) : Prop :=
  ∃ (r : Nat) (k' : Nat), e = .returned (.int .i64 (r : Int)) ∧ (r : Int) < m ∧ k' ≤ k + 2 ∧ Ok w' g A n cap k' B ∧ w.grownBy w' (some g)

theorem rem_nat (x m : Int) (h1 : 1 ≤ m) : ∃ r : Nat, x % m = (r : Int) ∧ (r : Int) < m :=
  ⟨(x % m).toNat, by have := Int.emod_nonneg x (show m ≠ 0 by omega); omega, by have := Int.emod_lt_of_pos x (show 0 < m by omega); have := Int.emod_nonneg x (show m ≠ 0 by omega); omega⟩

set_option maxHeartbeats 1000000 in
theorem pick (m : Int) (h1 : 1 ≤ m) (h2 : m ≤ 100000) (g : Nat) (A : Option Addr) (n cap k B : Nat) (w : World) (h : Ok w g A n cap k B) (hk : k ≤ 999999) :
    Calls Tryz.prog 30 #[.pointer (some ⟨g, 0, none⟩), .int .i64 m] w (pickAns m g A n cap k B w) := by
  have HH := Lib.hid h
  clear h
  by_cases hm : m ≤ 1
  · go_enter Tryz.func30, Tryz.ntmps30
    go_wp2_with fail
    go_ret
    exact ⟨0, k, rfl, by omega, by omega, HH.out, ⟨rfl, rfl, rfl, Nat.le_refl _, fun _ _ _ => rfl⟩⟩
  · by_cases hm2 : m ≤ 200
    · go_enter Tryz.func30, Tryz.ntmps30
      go_wp2_with (go_at_call 57; refine (nextOk g A n cap k B _ HH.out (by omega)).mono ?_; rintro e w1 ⟨b, rfl, hb0, hb1, hok, hg⟩)
      go_ret
      obtain ⟨r, e, hr⟩ := rem_nat b m h1
      exact ⟨r, k + 1, by rw [← e]; rfl, hr, by omega, hok, hg⟩
    · go_enter Tryz.func30, Tryz.ntmps30
      go_wp2_with (go_at_call 57; refine (nextOk g A n cap k B w HH.out (by omega)).mono ?_; rintro e w1 ⟨b, rfl, hb0, hb1, hok, hg⟩; have H1 := Lib.hid hok; refine Hid.out ?_)
      refine Lib.hid ?_
      go_wp2_with (go_at_call 57; refine (nextOk g A n cap (k + 1) B w1 H1.out (by omega)).mono ?_; rintro e w2 ⟨b2, rfl, hb20, hb21, hok2, hg2⟩)
      go_ret
      obtain ⟨r, e, hr⟩ := rem_nat (b * 256 + b2) m h1
      exact ⟨r, k + 1 + 1, by rw [← e]; rfl, hr, by omega, hok2, grow2 hg hg2⟩

end Go.Proofs.YtlaogladhadliaaGreatDoor.Cur

namespace Go.Proofs.YtlaogladhadliaaGreatDoor.Cur
open Go.RowKit Go.Proofs.YtlaogladhadliaaGreatDoor.Plain

def oneAns (g : Nat) (A : Option Addr) (n cap k B : Nat) (w : World) (e : Ending) (w' : World) : Prop :=
  ∃ (f : Bool) (k' : Nat), e = .returned (.bool f) ∧ k' ≤ k + 2 ∧ Ok w' g A n cap k' B ∧ w.grownBy w' (some g)

theorem one (m : Int) (h1 : 1 ≤ m) (h2 : m ≤ 100000) (g : Nat) (A : Option Addr) (n cap k B : Nat) (w : World) (h : Ok w g A n cap k B) (hk : k ≤ 999999) :
    Calls Tryz.prog 58 #[.pointer (some ⟨g, 0, none⟩), .int .i64 m] w (oneAns g A n cap k B w) := by
  have HH := Lib.hid h
  clear h
  go_enter Tryz.func58, Tryz.ntmps58
  go_wp2_with (go_at_call 30; refine (pick m h1 h2 g A n cap k B _ HH.out hk).mono ?_; rintro e w1 ⟨r, k', rfl, hr, hk', hok, hg⟩)
  go_ret
  exact ⟨_, k', rfl, hk', hok, hg⟩

theorem Ok.alloc {w : World} {g : Nat} {A : Option Addr} {n cap k B : Nat} (h : Ok w g A n cap k B) (o : Obj) : Ok (w.alloc o) g A n cap k B := by
  obtain ⟨sd, hat⟩ := h.at_
  refine ⟨⟨sd, (Below.heap_alloc w o g hat.lt).trans hat⟩, fun hp => ?_, h.small, h.old⟩
  obtain ⟨ad, e, hb, hc⟩ := h.bytes hp
  refine ⟨ad, e, hb, fun j hj => ?_⟩
  obtain ⟨z, hz, h0, h1⟩ := hc j hj
  exact ⟨z, (World.grownBy_alloc w o none).cell hz (by simp), h0, h1⟩

theorem Ok.lt {w : World} {g : Nat} {A : Option Addr} {n cap k B : Nat} (h : Ok w g A n cap k B) : g < w.heap.size := by
  obtain ⟨sd, hat⟩ := h.at_
  exact hat.lt

/-- A new cursor. -/
theorem Ok.new (w : World) (A : Option Addr) (n cap : Nat) (hn : n ≤ 1000000) (hA : Bytes w w.heap.size A n) :
    Ok (w.alloc (.cells #[.slice A n cap, .int .i64 0, .int .u64 0] 42)) w.heap.size A n cap 0 w.heap.size := by
  refine ⟨⟨0, heap_alloc_new w _⟩, fun hp => ?_, hn, Nat.le_refl _⟩
  obtain ⟨ad, e, hb, hc⟩ := hA hp
  refine ⟨ad, e, hb, fun j hj => ?_⟩
  obtain ⟨z, hz, h0, h1⟩ := hc j hj
  exact ⟨z, (World.grownBy_alloc w _ none).cell hz (by simp), h0, h1⟩

/-- What a fresh cursor's world leaves untouched. -/
theorem below_cur {w w' : World} {o : Obj} (hg : (w.alloc o).grownBy w' (some w.heap.size)) : Below w.heap.size w w' :=
  ((Below.refl _ _).alloc (Nat.le_refl _) o).grown hg (by simp) (fun k hk => by injection hk with hk; omega)

/-- Every cell is an int of at most d. -/
def Ints (cs : Array Value) (d : Int) : Prop := ∀ v ∈ cs.toList, ∃ z : Int, v = .int .i64 z ∧ -d ≤ z ∧ z ≤ d

def intAns (d : Int) (g : Nat) (A : Option Addr) (n cap k B : Nat) (w : World) (e : Ending) (w' : World) : Prop :=
  ∃ (z : Int) (k' : Nat), e = .returned (.int .i64 z) ∧ -d ≤ z ∧ z ≤ d ∧ k' ≤ k + 2 ∧ Ok w' g A n cap k' B ∧ w.grownBy w' (some g)

set_option maxHeartbeats 1000000 in
theorem among (L : Nat) (cs : Array Value) (d : Int) (m : Nat) (hm : m = cs.size) (h1 : 1 ≤ m) (h2 : m ≤ 1000) (g : Nat) (A : Option Addr) (n cap k B : Nat) (w : World)
    (h : Ok w g A n cap k B) (hk : k ≤ 999999) (hL : w.heap[L]? = some (.cells cs 3 (0, 0))) (hne : L ≠ g) (hs : Ints cs d) :
    Calls Tryz.prog 15 #[.pointer (some ⟨g, 0, none⟩), .slice (some ⟨L, 0, none⟩) m m] w (intAns d g A n cap k B w) := by
  have HH := Lib.hid h
  have HM := Lib.hid hm
  have HS := Lib.hid hs
  have HL := Lib.hid hL
  clear h hm hs hL
  go_enter Tryz.func15, Tryz.ntmps15
  go_wp2_with (go_at_call 30; refine (pick (m : Int) (by omega) (by omega) g A n cap k B _ HH.out hk).mono ?_; rintro e w1 ⟨r, k', rfl, hr, hk', hok, hg⟩; refine Hid.out ?_)
  refine Lib.hid ?_
  have hr' : r < cs.size := by have := HM.out; omega
  obtain ⟨z, hs1, hs2, hs3⟩ := HS.out (cs[r]) (by simp)
  have hLl : L < w.heap.size := (Array.getElem?_eq_some_iff.1 HL.out).1
  have hL1 : w1.heap[L]? = some (.cells cs 3 (0, 0)) := (hg.block L hLl (fun e => by injection e with e; exact hne e)).trans HL.out
  have hcell : w1.cell? ⟨L, r, none⟩ = some (.int .i64 z) := by
    rw [cell_of_row w1 L r cs _ (0, 0) hL1, Array.getElem?_eq_getElem hr', hs1]
  have i0 : (0 : Int) ≤ (r : Int) := by omega
  have HG := Lib.hid (And.intro hok hg)
  clear hL1 hok hg
  go_wp2_with fail
  go_ret
  exact ⟨z, k', rfl, hs2, hs3, hk', HG.out.1, HG.out.2⟩

end Go.Proofs.YtlaogladhadliaaGreatDoor.Cur

namespace Go.Proofs.YtlaogladhadliaaGreatDoor.CurDay
open Go.RowKit Go.Proofs.YtlaogladhadliaaGreatDoor.Cur Go.Proofs.YtlaogladhadliaaGreatDoor.Cal
set_option linter.unusedVariables false

/-- An int with P is drawn, by at most c bytes of the code. -/
def pAns (P : Int → Prop) (c g : Nat) (A : Option Addr) (n cap k B : Nat) (w : World) (e : Ending) (w' : World) : Prop :=
  ∃ (z : Int) (k' : Nat), e = .returned (.int .i64 z) ∧ P z ∧ k' ≤ k + c ∧ Ok w' g A n cap k' B ∧ w.grownBy w' (some g)

set_option maxHeartbeats 1000000 in
theorem amongP (P : Int → Prop) (L : Nat) (cs : Array Value) (m : Nat) (hm : m = cs.size) (h1 : 1 ≤ m) (h2 : m ≤ 1000) (g : Nat) (A : Option Addr) (n cap k B : Nat) (w : World)
    (h : Ok w g A n cap k B) (hk : k ≤ 999999) (hL : w.heap[L]? = some (.cells cs 3 (0, 0))) (hne : L ≠ g) (hs : ∀ v ∈ cs.toList, ∃ z : Int, v = .int .i64 z ∧ P z) :
    Calls Tryz.prog 15 #[.pointer (some ⟨g, 0, none⟩), .slice (some ⟨L, 0, none⟩) m m] w (pAns P 2 g A n cap k B w) := by
  have HH := Lib.hid h
  have HM := Lib.hid hm
  have HS := Lib.hid hs
  have HL := Lib.hid hL
  clear h hm hs hL
  go_enter Tryz.func15, Tryz.ntmps15
  go_wp2_with (go_at_call 30; refine (pick (m : Int) (by omega) (by omega) g A n cap k B _ HH.out hk).mono ?_; rintro e w1 ⟨r, k', rfl, hr, hk', hok, hg⟩; refine Hid.out ?_)
  refine Lib.hid ?_
  have hr' : r < cs.size := by have := HM.out; omega
  obtain ⟨z, hs1, hs2⟩ := HS.out (cs[r]) (by simp)
  have HP := Lib.hid hs2
  have hLl : L < w.heap.size := (Array.getElem?_eq_some_iff.1 HL.out).1
  have hL1 : w1.heap[L]? = some (.cells cs 3 (0, 0)) := (hg.block L hLl (fun e => by injection e with e; exact hne e)).trans HL.out
  have hcell : w1.cell? ⟨L, r, none⟩ = some (.int .i64 z) := by
    rw [cell_of_row w1 L r cs _ (0, 0) hL1, Array.getElem?_eq_getElem hr', hs1]
  have i0 : (0 : Int) ≤ (r : Int) := by omega
  have HG := Lib.hid (And.intro hok hg)
  clear hL1 hok hg hs2
  go_wp2_with fail
  go_ret
  exact ⟨z, k', rfl, HP.out, hk', HG.out.1, HG.out.2⟩

set_option maxHeartbeats 2000000 in
theorem day (g : Nat) (A : Option Addr) (n cap k B : Nat) (w : World) (h : Ok w g A n cap k B) (hk : k ≤ 999990) :
    Calls Tryz.prog 59 #[.pointer (some ⟨g, 0, none⟩)] w (pAns Day 4 g A n cap k B w) := by
  have HH := Lib.hid h
  clear h
  go_enter Tryz.func59, Tryz.ntmps59
  go_wp2_with (go_at_call 30; refine (pick 6 (by omega) (by omega) g A n cap k B _ HH.out (by omega)).mono ?_; rintro e w1 ⟨r1, k1, rfl, hr1, hk1, hok1, hg1⟩; refine Hid.out ?_)
  refine Lib.hid ?_
  have H1 := Lib.hid (And.intro hok1 hg1)
  have N1 : Hid (w1.heap.size ≠ g) := Lib.hid (by have := hok1.lt; omega)
  clear hok1 hg1
  by_cases h0 : r1 = 0
  · have q0 : ((r1 : Int) == 0) = true := by simp <;> omega
    clear h0
    go_wp2_with (go_at_call 15; refine (amongP Day w1.heap.size _ 11 rfl (by omega) (by omega) g A n cap k1 B _ (H1.out.1.alloc _) (by omega) (heap_alloc_new w1 _) N1.out (by intro v hv; simp at hv; rcases hv with h | h | h | h | h | h | h | h | h | h | h <;> exact ⟨_, h, by decide⟩)).mono ?_; rintro e w2 ⟨z2, k2, rfl, hz2, hk2, hok2, hg2⟩)
    go_ret
    exact ⟨z2, k2, rfl, hz2, by omega, hok2, grow2 H1.out.2 (grow2 (World.grownBy_alloc w1 _ _) hg2)⟩
  · have q0 : ((r1 : Int) == 0) = false := by simp <;> omega
    by_cases h1 : r1 = 1
    · have q1 : ((r1 : Int) == 1) = true := by simp <;> omega
      clear h0 h1
      go_wp2_with (go_at_call 30; refine (pick 36525 (by omega) (by omega) g A n cap k1 B w1 H1.out.1 (by omega)).mono ?_; rintro e w2 ⟨r2, k2, rfl, hr2, hk2, hok2, hg2⟩)
      go_ret
      exact ⟨(r2 : Int), k2, rfl, ⟨by omega, by omega⟩, by omega, hok2, grow2 H1.out.2 hg2⟩
    · have q1 : ((r1 : Int) == 1) = false := by simp <;> omega
      clear h0 h1
      go_wp2_with (go_at_call 30; refine (pick 1500 (by omega) (by omega) g A n cap k1 B w1 H1.out.1 (by omega)).mono ?_; rintro e w2 ⟨r2, k2, rfl, hr2, hk2, hok2, hg2⟩)
      go_ret
      exact ⟨(r2 : Int), k2, rfl, ⟨by omega, by omega⟩, by omega, hok2, grow2 H1.out.2 hg2⟩

/-- What may be drawn for a day. -/
def AnyDay (z : Int) : Prop := -1 ≤ z ∧ z ≤ 1099511627776
instance (z : Int) : Decidable (AnyDay z) := inferInstanceAs (Decidable (_ ∧ _))

set_option maxHeartbeats 2000000 in
theorem anyDay (g : Nat) (A : Option Addr) (n cap k B : Nat) (w : World) (h : Ok w g A n cap k B) (hk : k ≤ 999980) :
    Calls Tryz.prog 32 #[.pointer (some ⟨g, 0, none⟩)] w (pAns AnyDay 6 g A n cap k B w) := by
  have HH := Lib.hid h
  clear h
  go_enter Tryz.func32, Tryz.ntmps32
  go_wp2_with (go_at_call 58; refine (one 16 (by omega) (by omega) g A n cap k B _ HH.out (by omega)).mono ?_; rintro e w1 ⟨f, k1, rfl, hk1, hok1, hg1⟩; refine Hid.out ?_)
  refine Lib.hid ?_
  have H1 := Lib.hid (And.intro hok1 hg1)
  have N1 : Hid (w1.heap.size ≠ g) := Lib.hid (by have := hok1.lt; omega)
  clear hok1 hg1
  cases f
  · go_wp2_with (go_at_call 59; refine (day g A n cap k1 B w1 H1.out.1 (by omega)).mono ?_; rintro e w2 ⟨z2, k2, rfl, hz2, hk2, hok2, hg2⟩)
    go_ret
    exact ⟨z2, k2, rfl, ⟨by have := hz2.1; omega, by have := hz2.2; omega⟩, by omega, hok2, grow2 H1.out.2 hg2⟩
  · go_wp2_with (go_at_call 15; refine (amongP AnyDay w1.heap.size _ 4 rfl (by omega) (by omega) g A n cap k1 B _ (H1.out.1.alloc _) (by omega) (heap_alloc_new w1 _) N1.out (by intro v hv; simp at hv; rcases hv with h | h | h | h <;> exact ⟨_, h, by decide⟩)).mono ?_; rintro e w2 ⟨z2, k2, rfl, hz2, hk2, hok2, hg2⟩)
    go_ret
    exact ⟨z2, k2, rfl, hz2, by omega, hok2, grow2 H1.out.2 (grow2 (World.grownBy_alloc w1 _ _) hg2)⟩

theorem vBigNo (A : Option Addr) (n cap : Nat) (w : World) (h : n ≤ 65536) :
    Calls Tryz.prog 4 #[.slice A n cap] w fun e w' => e = .returned (.bool false) ∧ w = w' := by
  go_enter Tryz.func4, Tryz.ntmps4
  go_wp2
  go_ret
  exact ⟨by simp; omega, rfl⟩

theorem vBigYes (A : Option Addr) (n cap : Nat) (w : World) (h : 65536 < n) (hm : n ≤ maxLen) :
    Calls Tryz.prog 4 #[.slice A n cap] w fun e w' => e = .returned (.bool true) ∧ w = w' := by
  unfold maxLen at hm
  go_enter Tryz.func4, Tryz.ntmps4
  go_wp2
  go_ret
  exact ⟨by simp; omega, rfl⟩

end Go.Proofs.YtlaogladhadliaaGreatDoor.CurDay

namespace Go.Proofs.YtlaogladhadliaaGreatDoor.Cond
open Go.RowKit Go.ChangeShapes Go.WideShapes Go.ChangeAt Go.Joins Go.Deep

instance : Inhabited K := ⟨.mk 0 .empty 0 none 0 []⟩

theorem add_none (b o n : Nat) : (⟨b, o, none⟩ : Addr).add n = ⟨b, o + n, none⟩ := by
  unfold Addr.add
  split
  · subst_vars; rfl
  · rfl
theorem four {w : World} {a : Addr} {cs : List Value} (h : w.cells? 0 a 4 = some cs) : ∃ x y z t, cs = [x, y, z, t] ∧ w.cell? (a.add 0) = some x ∧ w.cell? (a.add 1) = some y ∧ w.cell? (a.add 2) = some z ∧ w.cell? (a.add 3) = some t := by
  simp only [World.cells?, Nat.zero_le, if_true, show List.range 4 = [0, 1, 2, 3] from rfl] at h
  simp only [List.mapM_cons, List.mapM_nil, Option.bind_eq_bind, Option.bind_eq_some_iff, Option.pure_def, Option.some.injEq] at h
  obtain ⟨x, hx, _, ⟨y, hy, _, ⟨z, hz, _, ⟨t, ht, _, rfl, rfl⟩, rfl⟩, rfl⟩, rfl⟩ := h
  exact ⟨x, y, z, t, rfl, hx, hy, hz, ht⟩
theorem spot_none {w : World} {a : Addr} {v : Value} (h : w.cell? a = some v) : a = ⟨a.block, a.off, none⟩ := by
  cases a with
  | mk b o sp =>
    cases sp with
    | none => rfl
    | some s =>
      unfold World.cell? at h
      split at h <;> simp at h

end Go.Proofs.YtlaogladhadliaaGreatDoor.Cond

namespace Go.Proofs.YtlaogladhadliaaGreatDoor.DrD
open Go.RowKit Go.Proofs.YtlaogladhadliaaGreatDoor.Cond Go.Proofs.YtlaogladhadliaaGreatDoor.Cur Go.Proofs.YtlaogladhadliaaGreatDoor.CurDay
set_option linter.unusedVariables false
set_option linter.unusedSimpArgs false

theorem Ok.kept {w w' : World} {g : Nat} {A : Option Addr} {n cap k B : Nat} {row : Option Nat} (h : Ok w g A n cap k B) (hg : w.grownBy w' row) (hr : ∀ j, row = some j → g < j) : Ok w' g A n cap k B := by
  obtain ⟨sd, hat⟩ := h.at_
  refine ⟨⟨sd, (hg.block g hat.lt (fun e => by have := hr g e.symm; omega)).trans hat⟩, fun hp => ?_, h.small, h.old⟩
  obtain ⟨ad, e, hb, hc⟩ := h.bytes hp
  refine ⟨ad, e, hb, fun j hj => ?_⟩
  obtain ⟨z, hz, h0, h1⟩ := hc j hj
  exact ⟨z, hg.cell hz (by rw [Cur.block_add]; intro e2; have h3 := hr _ e2.symm; have := h.old; omega), h0, h1⟩
theorem grow_row {a b c : World} {g : Nat} {row : Option Nat} (h : a.grownBy b (some g)) (k : b.grownBy c row) (hr : ∀ j, row = some j → a.heap.size ≤ j) : a.grownBy c (some g) :=
  ⟨k.os.trans h.os, k.tape.trans h.tape, k.output.trans h.output, Nat.le_trans h.size k.size, fun j hj hne => (k.block j (Nat.lt_of_lt_of_le hj h.size) (fun e => by have := hr j e.symm; omega)).trans (h.block j hj hne)⟩
theorem set_grown (w : World) (p : Addr) (u : Value) : w.grownBy (w.setCell p u) (some p.block) :=
  ⟨rfl, rfl, rfl, by rw [World.size_setCell]; exact Nat.le_refl _, fun j _ hne => Below.heap_setCell w p u j (fun e => hne (by rw [e]))⟩
theorem put4_grown (w : World) (b o : Nat) (x y z t : Value) : w.grownBy (put4 w b o x y z t) (some b) :=
  ⟨rfl, rfl, rfl, by rw [put4_size]; exact Nat.le_refl _, fun j _ hne => put4_block (fun e => hne (by rw [e]))⟩
theorem below_grown {w w' : World} (h : Below w.heap.size w w') (row : Option Nat) : w.grownBy w' row := ⟨h.os, h.tape, h.output, h.size, fun j hj _ => h.block j hj⟩
theorem grow_refl (w : World) (row : Option Nat) : w.grownBy w row := ⟨rfl, rfl, rfl, Nat.le_refl _, fun _ _ _ => rfl⟩
theorem grow_drew {a b : World} {row : Option Nat} (h : a.grownBy b row) : a.grownBy b.drew row := ⟨h.os, h.tape, h.output, h.size, h.block⟩

theorem B4.kept {k : Nat} {w w' : World} {a b c d : Value} {row : Option Nat} (h : B4 k w a b c d) (hg : w.grownBy w' row) (hne : some k ≠ row) : B4 k w' a b c d :=
  have e := hg.block k h.lt hne
  ⟨Nat.lt_of_lt_of_le h.lt hg.size, (World.cell?_of_block e).trans h.c0, (World.cell?_of_block e).trans h.c1, (World.cell?_of_block e).trans h.c2, (World.cell?_of_block e).trans h.c3, fun o => (World.frozen?_of_block e).trans (h.fz o)⟩

/-- A drawn condition: it lies in blocks from S on, and its parts are a row of its own. -/
structure Dk (S : Nat) (w : World) (x : K) : Prop where
  has : x.In w
  lt : ∀ b ∈ x.blocks, b < w.heap.size
  ge : ∀ b ∈ x.blocks, S ≤ b
  own : OwnC w S (.slice x.A x.ps.length x.cap) x.ps
  ap : ∀ j, (Value.slice x.A x.ps.length x.cap).ownBlock = some j → j ∉ blocks x.ps
theorem Dk.lies {S : Nat} {w : World} {x : K} (h : Dk S w x) : Lies w w.heap.size x := ⟨h.has, h.lt⟩
theorem own_kept {S n : Nat} {w w' : World} {v : Value} {xs : List Value} {e : TypeId} {ez : Nat} {row : Option Nat} (h : w.ownsRow S e ez v n xs) (hg : w.grownBy w' row) (hr : ∀ j, row = some j → v.ownBlock ≠ some j) : w'.ownsRow S e ez v n xs :=
  h.kept hg (by
    cases e : v.ownBlock with
    | none => exact .inl rfl
    | some j => exact .inr fun e2 => hr j e2.symm e)
theorem own_ge {S n : Nat} {w : World} {v : Value} {xs : List Value} {e : TypeId} {ez : Nat} (h : w.ownsRow S e ez v n xs) {j : Nat} (hj : v.ownBlock = some j) : S ≤ j ∧ j < w.heap.size := by
  rcases h.2 with ⟨hv, _⟩ | ⟨g', c, cur, hv, hS, hh, _⟩
  · rw [hv] at hj; cases hj
  · rw [hv] at hj
    injection hj with hj
    subst hj
    exact ⟨hS, (Array.getElem?_eq_some_iff.1 hh).1⟩
theorem own_more {S S' n : Nat} {w : World} {v : Value} {xs : List Value} {e : TypeId} {ez : Nat} (h : w.ownsRow S e ez v n xs) (hS : S' ≤ S) : w.ownsRow S' e ez v n xs := by
  refine ⟨h.1, ?_⟩
  rcases h.2 with h0 | ⟨g', c, cur, hv, hS2, hr⟩
  · exact .inl h0
  · exact .inr ⟨g', c, cur, hv, Nat.le_trans hS hS2, hr⟩
theorem Dk.kept {S : Nat} {w w' : World} {x : K} {row : Option Nat} (h : Dk S w x) (hg : w.grownBy w' row) (hr : ∀ j, row = some j → j < S) : Dk S w' x := by
  refine ⟨h.has.alike fun b hb => hg.block b (h.lt b hb) (fun e => ?_), fun b hb => Nat.lt_of_lt_of_le (h.lt b hb) hg.size, h.ge, own_kept h.own hg (fun j hj e => ?_), h.ap⟩
  · have := hr b e.symm; have := h.ge b hb; omega
  · have := hr j hj; have := (own_ge h.own e).1; omega
theorem Dk.more {S S' : Nat} {w : World} {x : K} (h : Dk S w x) (hS : S' ≤ S) : Dk S' w x := ⟨h.has, h.lt, fun b hb => Nat.le_trans hS (h.ge b hb), own_more h.own hS, h.ap⟩
theorem Dk.alloc {S : Nat} {w : World} {x : K} (h : Dk S w x) (o : Obj) : Dk S (w.alloc o) x := h.kept (World.grownBy_alloc w o none) (fun j e => by cases e)
/-- Any other head. -/
theorem Dk.head {S : Nat} {w : World} {op op' : Int} {nm nm' : ByteArray} {day day' : Int} {A : Option Addr} {cap : Nat} {ps : List K} (h : Dk S w (.mk op nm day A cap ps)) (hn : nm'.size ≤ maxLen) : Dk S w (.mk op' nm' day' A cap ps) := by
  obtain ⟨⟨h1, h2, h3⟩, hl, hg, ho, ha⟩ := h
  have hb : (K.mk op' nm' day' A cap ps).blocks = (K.mk op nm day A cap ps).blocks := rfl
  exact ⟨⟨h1, ⟨hn, h2.2⟩, h3⟩, fun b hb' => hl b hb', fun b hb' => hg b hb', ho, ha⟩
theorem Dk.leaf {S : Nat} {w : World} (op : Int) (nm : ByteArray) (day : Int) (hn : nm.size ≤ maxLen) : Dk S w (.mk op nm day none 0 []) :=
  ⟨⟨fun h => by simp at h, ⟨hn, by simp, by simp [maxLen]⟩, trivial⟩, fun b hb => by simp [K.blocks, blocks] at hb, fun b hb => by simp [K.blocks, blocks] at hb, World.ownsRow_nil w _ _ _, fun j hj => by simp [Value.ownBlock, K.A] at hj⟩
theorem Dk.one {S : Nat} {u : World} {p : K} (op : Int) (hp : p.In u) (hl : ∀ b ∈ p.blocks, b < u.heap.size) (hge : ∀ b ∈ p.blocks, S ≤ b) (hS : S ≤ u.heap.size) :
    Dk S (u.alloc (.cells #[.int .i64 p.op, .string p.nm, .int .i64 p.day, .slice p.A p.ps.length p.cap] 26)) (.mk op .empty 0 (some ⟨u.heap.size, 0, none⟩) 1 [p]) := by
  have hb := below1 u (.cells #[.int .i64 p.op, .string p.nm, .int .i64 p.day, .slice p.A p.ps.length p.cap] 26)
  have hbl : (K.mk op .empty 0 (some ⟨u.heap.size, 0, none⟩) 1 [p]).blocks = u.heap.size :: p.blocks := by simp [K.blocks, blocks]
  have hown := World.ownsRow_lit (base := S) (e := 26) (size := 4) u #[.int .i64 p.op, .string p.nm, .int .i64 p.day, .slice p.A p.ps.length p.cap] 1 hS (by decide) (by simp)
  refine ⟨⟨fun _ => ⟨u.heap.size, 0, rfl, fun i hi => ?_⟩, ⟨by simp [maxLen], by simp, by simp [maxLen]⟩, ins_mem.2 fun q hq => ?_⟩, fun x hx => ?_, fun x hx => ?_, hown, fun j hj hj2 => ?_⟩
  · have : i = 0 := by simpa using hi
    subst this
    exact ⟨by simp [go_sem], by simp [go_sem], by simp [go_sem], by simp [go_sem]⟩
  · have : q = p := by simpa using hq
    subst this
    exact hp.alike fun b hb' => hb.block b (hl b hb')
  · rw [hbl, List.mem_cons] at hx
    rcases hx with rfl | hx
    · simp
    · have := hl x hx; have := hb.size; omega
  · rw [hbl, List.mem_cons] at hx
    rcases hx with rfl | hx
    · exact hS
    · exact hge x hx
  · simp only [Value.ownBlock, K.A, K.ps, Option.some.injEq] at hj
    simp only [K.ps, blocks, List.append_nil] at hj2
    have := hl j hj2
    omega
theorem Dk.two {S : Nat} {u : World} {p q : K} (op : Int) (hp : p.In u) (hq : q.In u) (hl : ∀ b ∈ p.blocks, b < u.heap.size) (hl2 : ∀ b ∈ q.blocks, b < u.heap.size) (hge : ∀ b ∈ p.blocks, S ≤ b) (hge2 : ∀ b ∈ q.blocks, S ≤ b) (hS : S ≤ u.heap.size) :
    Dk S (u.alloc (.cells #[.int .i64 p.op, .string p.nm, .int .i64 p.day, .slice p.A p.ps.length p.cap, .int .i64 q.op, .string q.nm, .int .i64 q.day, .slice q.A q.ps.length q.cap] 26)) (.mk op .empty 0 (some ⟨u.heap.size, 0, none⟩) 2 [p, q]) := by
  have hb := below1 u (.cells #[.int .i64 p.op, .string p.nm, .int .i64 p.day, .slice p.A p.ps.length p.cap, .int .i64 q.op, .string q.nm, .int .i64 q.day, .slice q.A q.ps.length q.cap] 26)
  have hbl : (K.mk op .empty 0 (some ⟨u.heap.size, 0, none⟩) 2 [p, q]).blocks = u.heap.size :: (p.blocks ++ q.blocks) := by simp [K.blocks, blocks]
  have hown := World.ownsRow_lit (base := S) (e := 26) (size := 4) u #[.int .i64 p.op, .string p.nm, .int .i64 p.day, .slice p.A p.ps.length p.cap, .int .i64 q.op, .string q.nm, .int .i64 q.day, .slice q.A q.ps.length q.cap] 2 hS (by decide) (by simp)
  refine ⟨⟨fun _ => ⟨u.heap.size, 0, rfl, fun i hi => ?_⟩, ⟨by simp [maxLen], by simp, by simp [maxLen]⟩, ins_mem.2 fun r hr => ?_⟩, fun x hx => ?_, fun x hx => ?_, hown, fun j hj hj2 => ?_⟩
  · match i, hi with
    | 0, _ => exact ⟨by simp [go_sem], by simp [go_sem], by simp [go_sem], by simp [go_sem]⟩
    | 1, _ => exact ⟨by simp [go_sem], by simp [go_sem], by simp [go_sem], by simp [go_sem]⟩
  · rcases List.mem_cons.1 hr with rfl | hr
    · exact hp.alike fun b hb' => hb.block b (hl b hb')
    · have : r = q := by simpa using hr
      subst this
      exact hq.alike fun b hb' => hb.block b (hl2 b hb')
  · rw [hbl, List.mem_cons, List.mem_append] at hx
    rcases hx with rfl | hx | hx
    · simp
    · have := hl x hx; have := hb.size; omega
    · have := hl2 x hx; have := hb.size; omega
  · rw [hbl, List.mem_cons, List.mem_append] at hx
    rcases hx with rfl | hx | hx
    · exact hS
    · exact hge x hx
    · exact hge2 x hx
  · simp only [Value.ownBlock, K.A, K.ps, Option.some.injEq] at hj
    simp only [K.ps, blocks, List.append_nil, List.mem_append] at hj2
    rcases hj2 with h | h
    · have := hl j h; omega
    · have := hl2 j h; omega
/-- A drawn condition behind the parts of another. -/
theorem Dk.app {S : Nat} {u w1 : World} {op : Int} {nm : ByteArray} {day : Int} {A : Option Addr} {cap : Nat} {ps : List K} {r : K} {a3 : Option Addr} {c3 : Nat} (h : Dk S u (.mk op nm day A cap ps)) (hr : r.In u) (hrl : ∀ b ∈ r.blocks, b < u.heap.size) (hrg : ∀ b ∈ r.blocks, S ≤ b) (hap : ∀ j, (Value.slice A ps.length cap).ownBlock = some j → j ∉ r.blocks)
    (ho : OwnC w1 S (.slice a3 (ps.length + 1) c3) (ps ++ [r])) (hg : u.grownBy w1 (Value.slice A ps.length cap).ownBlock) (hat : (Value.slice a3 (ps.length + 1) c3).ownBlock = (Value.slice A ps.length cap).ownBlock ∨ (Value.slice a3 (ps.length + 1) c3).ownBlock = some u.heap.size) :
    Dk S w1 (.mk op nm day a3 c3 (ps ++ [r])) := by
  obtain ⟨⟨h1, h2, h3⟩, hl, hge, hown, ha⟩ := h
  have hlp : ∀ b ∈ blocks ps, b < u.heap.size := fun b hb => hl b (by simp only [K.blocks, List.mem_append]; exact .inr hb)
  have hgp : ∀ b ∈ blocks ps, S ≤ b := fun b hb => hge b (by simp only [K.blocks, List.mem_append]; exact .inr hb)
  have hkeep : ∀ q, q ∈ ps → q.In w1 := fun q hq => (ins_mem.1 h3 q hq).alike fun b hb => hg.block b (hlp b (blocks_mem.2 ⟨q, hq, hb⟩)) (fun e => ha b e.symm (blocks_mem.2 ⟨q, hq, hb⟩))
  have hkr : r.In w1 := hr.alike fun b hb => hg.block b (hrl b hb) (fun e => hap b e.symm hb)
  have hfront : ∀ x, x ∈ frontL a3 (ps ++ [r]) → (Value.slice a3 (ps.length + 1) c3).ownBlock = some x := fun x hx => by
    cases a3 with
    | none => cases ps <;> simp [frontL] at hx
    | some a => cases ps <;> (simp [frontL] at hx; rw [hx]; rfl)
  have hblk : ∀ b ∈ (K.mk op nm day a3 c3 (ps ++ [r])).blocks, (Value.slice a3 (ps.length + 1) c3).ownBlock = some b ∨ b ∈ blocks ps ∨ b ∈ r.blocks := fun b hb => by
    rw [blocks_front, List.mem_append, blocks_app, List.mem_append] at hb
    rcases hb with hb | hb | hb
    · exact .inl (hfront b hb)
    · exact .inr (.inl hb)
    · exact .inr (.inr hb)
  have hlen : (ps ++ [r]).length = ps.length + 1 := by simp
  have hcap : ps.length + 1 ≤ c3 ∧ c3 ≤ maxLen := by
    rcases ho.2 with ⟨hv, h0⟩ | ⟨g, c, cur, hv, _, _, hnc, hcm, _, _⟩
    · rw [hlen] at h0; omega
    · injection hv with e1 e2 e3
      subst e3
      exact ⟨by omega, hcm⟩
  refine ⟨⟨fun hp => ?_, ⟨h2.1, by rw [hlen]; exact hcap.1, hcap.2⟩, ins_mem.2 fun q hq => ?_⟩, fun b hb => ?_, fun b hb => ?_, by simp only [K.A, K.ps, K.cap, hlen]; exact ho, fun j hj hj2 => ?_⟩
  · obtain ⟨g, rfl, _, _, _⟩ := ownC_el (rs := ps ++ [r]) ho hp
    refine ⟨g, 0, rfl, fun i hi => ?_⟩
    obtain ⟨g', e, _, _, he⟩ := ownC_el (rs := ps ++ [r]) ho hi
    cases e
    simpa using he
  · rcases List.mem_append.1 hq with hq | hq
    · exact hkeep q hq
    · have : q = r := by simpa using hq
      subst this; exact hkr
  · rcases hblk b hb with h | h | h
    · exact (own_ge ho h).2
    · exact Nat.lt_of_lt_of_le (hlp b h) hg.size
    · exact Nat.lt_of_lt_of_le (hrl b h) hg.size
  · rcases hblk b hb with h | h | h
    · exact (own_ge ho h).1
    · exact hgp b h
    · exact hrg b h
  · simp only [K.A, K.ps, K.cap, hlen] at hj
    simp only [K.ps, blocks_app, List.mem_append] at hj2
    rcases hat with e | e
    · have e2 := e.symm.trans hj
      rcases hj2 with h | h
      · exact ha j e2 h
      · exact hap j e2 h
    · rw [e] at hj
      injection hj with hj
      rcases hj2 with h | h
      · have := hlp j h; omega
      · have := hrl j h; omega

/-- A condition with P is drawn, by at most c bytes of the code. -/
def cdAns (P : K → Prop) (c g : Nat) (A : Option Addr) (n cap k B : Nat) (w : World) (e : Ending) (w' : World) : Prop :=
  ∃ (x : K) (k' : Nat), e = .returned x.val ∧ P x ∧ k' ≤ k + c ∧ Ok w' g A n cap k' B ∧ Dk (w.heap.size + 1) w' x ∧ w.grownBy w' (some g)
/-- A string with P is drawn. -/
def sAns (P : ByteArray → Prop) (c g : Nat) (A : Option Addr) (n cap k B : Nat) (w : World) (e : Ending) (w' : World) : Prop :=
  ∃ (s : ByteArray) (k' : Nat), e = .returned (.string s) ∧ P s ∧ k' ≤ k + c ∧ Ok w' g A n cap k' B ∧ w.grownBy w' (some g)

/-- The answer's block is stored, then perhaps a literal is made: the cursor's world. -/
structure Fin (w v : World) (g : Nat) (A : Option Addr) (n cap k B : Nat) : Prop where
  ok : Ok v g A n cap k B
  gr : w.grownBy v (some g)
  lt : g < w.heap.size
  z : w.heap.size < v.heap.size
theorem Fin.put {w v : World} {g : Nat} {A : Option Addr} {n cap k B : Nat} (h : Fin w v g A n cap k B) (x y z t : Value) : Fin w (put4 v w.heap.size 0 x y z t) g A n cap k B := by
  have h1 := put4_grown v w.heap.size 0 x y z t
  have h2 := h.lt
  exact ⟨DrD.Ok.kept h.ok h1 (fun j e => by injection e with e; omega), grow_row h.gr h1 (fun j e => by injection e with e; omega), h.lt, by rw [put4_size]; exact h.z⟩
theorem Fin.alloc {w v : World} {g : Nat} {A : Option Addr} {n cap k B : Nat} (h : Fin w v g A n cap k B) (o : Obj) : Fin w (v.alloc o) g A n cap k B :=
  ⟨h.ok.alloc o, grow_row h.gr (World.grownBy_alloc v o none) (fun j e => by cases e), h.lt, by have := h.z; simp; omega⟩
theorem Fin.step {w v v' : World} {g : Nat} {A : Option Addr} {n cap k k' B : Nat} (h : Fin w v g A n cap k B) (hok : Ok v' g A n cap k' B) (hg : v.grownBy v' (some g)) : Fin w v' g A n cap k' B :=
  ⟨hok, grow2 h.gr hg, h.lt, Nat.lt_of_lt_of_le h.z hg.size⟩

set_option maxHeartbeats 1000000 in
theorem ofP (P : ByteArray → Prop) (L : Nat) (cs : Array Value) (m : Nat) (hm : m = cs.size) (h1 : 1 ≤ m) (h2 : m ≤ 1000) (g : Nat) (A : Option Addr) (n cap k B : Nat) (w : World)
    (h : Ok w g A n cap k B) (hk : k ≤ 999999) (hL : w.heap[L]? = some (.cells cs 9 (0, 0))) (hne : L ≠ g) (hs : ∀ v ∈ cs.toList, ∃ s : ByteArray, v = .string s ∧ P s) :
    Calls Tryz.prog 31 #[.pointer (some ⟨g, 0, none⟩), .slice (some ⟨L, 0, none⟩) m m] w (sAns P 2 g A n cap k B w) := by
  have HH := Lib.hid h
  have HM := Lib.hid hm
  have HS := Lib.hid hs
  have HL := Lib.hid hL
  clear h hm hs hL
  go_enter Tryz.func31, Tryz.ntmps31
  go_wp2_with (go_at_call 30; refine (pick (m : Int) (by omega) (by omega) g A n cap k B _ HH.out hk).mono ?_; rintro e w1 ⟨r, k', rfl, hr, hk', hok, hg⟩; refine Hid.out ?_)
  refine Lib.hid ?_
  have hr' : r < cs.size := by have := HM.out; omega
  obtain ⟨s, hs1, hs2⟩ := HS.out (cs[r]) (by simp)
  have HP := Lib.hid hs2
  have hLl : L < w.heap.size := (Array.getElem?_eq_some_iff.1 HL.out).1
  have hL1 : w1.heap[L]? = some (.cells cs 9 (0, 0)) := (hg.block L hLl (fun e => by injection e with e; exact hne e)).trans HL.out
  have hcell : w1.cell? ⟨L, r, none⟩ = some (.string s) := by
    rw [cell_of_row w1 L r cs _ (0, 0) hL1, Array.getElem?_eq_getElem hr', hs1]
  have i0 : (0 : Int) ≤ (r : Int) := by omega
  have HG := Lib.hid (And.intro hok hg)
  clear hL1 hok hg hs2
  go_wp2_with fail
  go_ret
  exact ⟨s, k', rfl, HP.out, hk', HG.out.1, HG.out.2⟩

end Go.Proofs.YtlaogladhadliaaGreatDoor.DrD

namespace Go.Proofs.YtlaogladhadliaaGreatDoor.DrD
open Go.RowKit Go.Proofs.YtlaogladhadliaaGreatDoor.Cond Go.Proofs.YtlaogladhadliaaGreatDoor.Cur Go.Proofs.YtlaogladhadliaaGreatDoor.CurDay
set_option linter.unusedVariables false
set_option linter.unusedSimpArgs false

abbrev comm : Array Value := #[.string ⟨#[112, 97, 105, 100]⟩, .string ⟨#[115, 101, 110, 116]⟩, .string ⟨#[108, 97, 116, 101]⟩, .string ⟨#[97]⟩, .string ⟨#[98]⟩]
theorem l5Common (w : World) : Calls Tryz.prog 60 #[] w fun e w' => e = .returned (.slice (some ⟨w.heap.size, 0, none⟩) 5 5) ∧ w' = w.alloc (.cells comm 9) := by
  go_enter Tryz.func60, Tryz.ntmps60
  go_wp2
  go_ret
  exact ⟨rfl, rfl⟩
theorem commNm : ∀ v ∈ comm.toList, ∃ s : ByteArray, v = .string s ∧ isNm s = true := by
  intro v hv
  simp at hv
  rcases hv with h | h | h | h | h <;> exact ⟨_, h, by decide +kernel⟩

/-- A valid condition of a depth. -/
def Bq (d : Nat) (x : K) : Prop := ∃ q : Q, x.cond = q.c ∧ q.ok ∧ q.size + 1 ≤ 2 ^ d

theorem cd_leaf {P : K → Prop} {w v : World} {g c : Nat} {A : Option Addr} {n cap k k' B : Nat} (op : Int) (nm : ByteArray) (day : Int) (h : Fin w v g A n cap k' B) (hk : k' ≤ k + c) (hn : nm.size ≤ maxLen) (hP : P (.mk op nm day none 0 [])) :
    cdAns P c g A n cap k B w (.returned (.agg #[.int .i64 op, .string nm, .int .i64 day, .slice none 0 0])) (put4 v w.heap.size 0 (.int .i64 op) (.string nm) (.int .i64 day) (.slice none 0 0)) :=
  ⟨.mk op nm day none 0 [], k', rfl, hP, hk, (h.put _ _ _ _).ok, Dk.leaf _ _ _ hn, (h.put _ _ _ _).gr⟩
theorem put_in {w : World} {r : K} {kb : Nat} {a b c d : Value} (h : r.In w) (hk : kb ∉ r.blocks) : r.In (put4 w kb 0 a b c d) := h.alike fun x hx => put4_block (fun e => hk (e ▸ hx))
theorem cd_one {P : K → Prop} {w v : World} {g c : Nat} {A : Option Addr} {n cap k k' B S : Nat} {p : K} (op : Int) (h : Fin w v g A n cap k' B) (hk : k' ≤ k + c) (hp : Dk S v p) (hS : w.heap.size + 1 ≤ S) (hP : ∀ g, P (.mk op .empty 0 (some ⟨g, 0, none⟩) 1 [p])) :
    cdAns P c g A n cap k B w (.returned (.agg #[.int .i64 op, .string ⟨#[]⟩, .int .i64 0, .slice (some ⟨v.heap.size, 0, none⟩) 1 1])) ((put4 v w.heap.size 0 (.int .i64 op) (.string ⟨#[]⟩) (.int .i64 0) (.slice (some ⟨v.heap.size, 0, none⟩) 1 1)).alloc (.cells #[.int .i64 p.op, .string p.nm, .int .i64 p.day, .slice p.A p.ps.length p.cap] 26)) := by
  have hF := (h.put (.int .i64 op) (.string ⟨#[]⟩) (.int .i64 0) (.slice (some ⟨v.heap.size, 0, none⟩) 1 1)).alloc (.cells #[.int .i64 p.op, .string p.nm, .int .i64 p.day, .slice p.A p.ps.length p.cap] 26)
  have hz := h.z
  have hd := Dk.one (S := w.heap.size + 1) (u := put4 v w.heap.size 0 (.int .i64 op) (.string ⟨#[]⟩) (.int .i64 0) (.slice (some ⟨v.heap.size, 0, none⟩) 1 1)) (p := p) op (put_in hp.has (fun e => by have := hp.ge _ e; omega)) (fun b hb => by rw [put4_size]; exact hp.lt b hb) (fun b hb => by have := hp.ge b hb; omega) (by rw [put4_size]; omega)
  rw [put4_size] at hd
  exact ⟨_, k', rfl, hP _, hk, hF.ok, hd, hF.gr⟩
theorem cd_two {P : K → Prop} {w v : World} {g c : Nat} {A : Option Addr} {n cap k k' B S S2 : Nat} {p q : K} (op : Int) (h : Fin w v g A n cap k' B) (hk : k' ≤ k + c) (hp : Dk S v p) (hq : Dk S2 v q) (hS : w.heap.size + 1 ≤ S) (hS2 : w.heap.size + 1 ≤ S2) (hP : ∀ g, P (.mk op .empty 0 (some ⟨g, 0, none⟩) 2 [p, q])) :
    cdAns P c g A n cap k B w (.returned (.agg #[.int .i64 op, .string ⟨#[]⟩, .int .i64 0, .slice (some ⟨v.heap.size, 0, none⟩) 2 2])) ((put4 v w.heap.size 0 (.int .i64 op) (.string ⟨#[]⟩) (.int .i64 0) (.slice (some ⟨v.heap.size, 0, none⟩) 2 2)).alloc (.cells #[.int .i64 p.op, .string p.nm, .int .i64 p.day, .slice p.A p.ps.length p.cap, .int .i64 q.op, .string q.nm, .int .i64 q.day, .slice q.A q.ps.length q.cap] 26)) := by
  have hF := (h.put (.int .i64 op) (.string ⟨#[]⟩) (.int .i64 0) (.slice (some ⟨v.heap.size, 0, none⟩) 2 2)).alloc (.cells #[.int .i64 p.op, .string p.nm, .int .i64 p.day, .slice p.A p.ps.length p.cap, .int .i64 q.op, .string q.nm, .int .i64 q.day, .slice q.A q.ps.length q.cap] 26)
  have hz := h.z
  have hd := Dk.two (S := w.heap.size + 1) (u := put4 v w.heap.size 0 (.int .i64 op) (.string ⟨#[]⟩) (.int .i64 0) (.slice (some ⟨v.heap.size, 0, none⟩) 2 2)) (p := p) (q := q) op (put_in hp.has (fun e => by have := hp.ge _ e; omega)) (put_in hq.has (fun e => by have := hq.ge _ e; omega)) (fun b hb => by rw [put4_size]; exact hp.lt b hb) (fun b hb => by rw [put4_size]; exact hq.lt b hb) (fun b hb => by have := hp.ge b hb; omega) (fun b hb => by have := hq.ge b hb; omega) (by rw [put4_size]; omega)
  rw [put4_size] at hd
  exact ⟨_, k', rfl, hP _, hk, hF.ok, hd, hF.gr⟩

theorem isNm_sz {s : ByteArray} (h : isNm s = true) : s.size ≤ 8 := by
  simp only [isNm, Bool.and_eq_true, decide_eq_true_eq] at h
  exact h.1.1.1.1.2

set_option maxHeartbeats 8000000 in
theorem built (g : Nat) (A : Option Addr) (n cap B : Nat) : ∀ (d D k : Nat) (w : World), D = d + 1 → d ≤ 2 → Ok w g A n cap k B → k + 20 * 10 ^ D ≤ 990000 →
    Calls Tryz.prog 56 #[.pointer (some ⟨g, 0, none⟩), .int .i64 (D : Int)] w (cdAns (Bq D) (10 ^ D) g A n cap k B w) := by
  intro d
  induction d with
  | zero =>
    intro D k w hD hd h hk
    have i1 : (D : Int) ≤ 1 := by omega
    have H2 : Hid (2 ≤ 2 ^ D) := Lib.hid (by rw [hD]; decide)
    have HC : Hid (10 ≤ 10 ^ D ∧ k + 20 * 10 ^ D ≤ 990000) := Lib.hid ⟨by rw [hD]; decide, hk⟩
    obtain ⟨X, hX⟩ : ∃ X, X = w.alloc (.cells #[.int .i64 0, .string ⟨#[]⟩, .int .i64 0, .slice none 0 0] 26) := ⟨_, rfl⟩
    have F0 : Hid (Fin w X g A n cap k B) := Lib.hid (by rw [hX]; exact ⟨h.alloc _, World.grownBy_alloc w _ _, h.lt, by simp⟩)
    have P0 : Hid (B4 w.heap.size X (.int .i64 0) (.string ⟨#[]⟩) (.int .i64 0) (.slice none 0 0)) := Lib.hid (by rw [hX]; exact B4.new _ _ _ _ _ _)
    have HX := Lib.hid hX
    clear hX h hD hd hk
    go_enter Tryz.func56, Tryz.ntmps56
    go_wp2_with (go_at_call 30; (try rw [← HX.out]); refine (pick 6 (by omega) (by omega) g A n cap k B X F0.out.ok (by have := HC.out; omega)).mono ?_; rintro e w5 ⟨r, k5, rfl, hr5, hk5, hok5, hg5⟩; refine Hid.out ?_)
    refine Lib.hid ?_
    have F5 := Lib.hid (F0.out.step hok5 hg5)
    have P5 := Lib.hid (DrD.B4.kept P0.out hg5 (fun e => by injection e with e; have := F0.out.lt; omega))
    clear hok5 hg5
    have N5 : Hid (w5.heap.size ≠ g) := Lib.hid (by have := F5.out.ok.lt; omega)
    by_cases h0 : r = 0
    · have q0 : ((r : Int) == 0) = true := by simp <;> omega
      clear h0
      obtain ⟨_, p0, p1, p2, p3, pf⟩ := P5.out
      have pf0 := pf 0
      have pf1 := pf 1
      have pf2 := pf 2
      have pf3 := pf 3
      clear pf
      have hz5 := F5.out.z
      go_wp2_with fail
      obtain ⟨_, t0, t1, t2, t3, _⟩ := P5.out.put (.int .i64 1) (.string ⟨#[]⟩) (.int .i64 0) (.slice none 0 0)
      have hf := cd_leaf (P := Bq D) (c := 10 ^ D) (k := k) 1 ⟨#[]⟩ 0 F5.out (by have := HC.out; omega) (by decide) (⟨.tru, rfl, trivial, by have := H2.out; simp only [Q.size]; omega⟩)
      simp only [put4] at t0 t1 t2 t3 hf
      exact bodyPost_ret (v := .agg #[.int .i64 1, .string ⟨#[]⟩, .int .i64 0, .slice none 0 0]) (by simp [results, Tryz.results56, go_sem, t0, t1, t2, t3]) rfl hf
    have q0 : ((r : Int) == 0) = false := by simp <;> omega
    by_cases h12 : r = 1 ∨ r = 2
    · rcases h12 with h1 | h1
      · skip
        have q1 : ((r : Int) == 1) = true := by simp <;> omega
        clear h0 h1
        obtain ⟨_, p0, p1, p2, p3, pf⟩ := P5.out
        have pf0 := pf 0
        have pf1 := pf 1
        have pf2 := pf 2
        have pf3 := pf 3
        clear pf
        have hz5 := F5.out.z
        go_wp2_with (go_at_call 15; refine (amongP (fun z => isDy z = true) w5.heap.size _ 5 rfl (by omega) (by omega) g A n cap k5 B _ (F5.out.ok.alloc _) (by have := HC.out; omega) (heap_alloc_new w5 _) N5.out (by intro v hv; simp at hv; rcases hv with h | h | h | h | h <;> exact ⟨_, h, by decide⟩)).mono ?_; rintro e w6 ⟨z, k6, rfl, hzz, hk6, hok6, hg6⟩; refine Hid.out ?_)
        refine Lib.hid ?_
        have F6 := Lib.hid ((F5.out.alloc _).step hok6 hg6)
        have P6 := Lib.hid (DrD.B4.kept (P5.out.alloc _) hg6 (fun e => by injection e with e; have := F5.out.lt; omega))
        have HZZ := Lib.hid hzz
        clear hok6 hg6 hzz p0 p1 p2 p3 pf0 pf1 pf2 pf3
        obtain ⟨_, p0, p1, p2, p3, pf⟩ := P6.out
        have pf0 := pf 0
        have pf1 := pf 1
        have pf2 := pf 2
        have pf3 := pf 3
        clear pf
        have hz6 := F6.out.z
        go_wp2_with fail
        obtain ⟨_, t0, t1, t2, t3, _⟩ := P6.out.put (.int .i64 3) (.string ⟨#[]⟩) (.int .i64 z) (.slice none 0 0)
        have hf := cd_leaf (P := Bq D) (c := 10 ^ D) (k := k) 3 ⟨#[]⟩ z F6.out (by have := HC.out; omega) (by decide) (⟨.frm z, rfl, HZZ.out, by have := H2.out; simp only [Q.size]; omega⟩)
        simp only [put4] at t0 t1 t2 t3 hf
        exact bodyPost_ret (v := .agg #[.int .i64 3, .string ⟨#[]⟩, .int .i64 z, .slice none 0 0]) (by simp [results, Tryz.results56, go_sem, t0, t1, t2, t3]) rfl hf
      · skip
        have q1 : ((r : Int) == 1) = false := by simp <;> omega
        have q2 : ((r : Int) == 2) = true := by simp <;> omega
        clear h0 h1
        obtain ⟨_, p0, p1, p2, p3, pf⟩ := P5.out
        have pf0 := pf 0
        have pf1 := pf 1
        have pf2 := pf 2
        have pf3 := pf 3
        clear pf
        have hz5 := F5.out.z
        go_wp2_with (go_at_call 15; refine (amongP (fun z => isDy z = true) w5.heap.size _ 5 rfl (by omega) (by omega) g A n cap k5 B _ (F5.out.ok.alloc _) (by have := HC.out; omega) (heap_alloc_new w5 _) N5.out (by intro v hv; simp at hv; rcases hv with h | h | h | h | h <;> exact ⟨_, h, by decide⟩)).mono ?_; rintro e w6 ⟨z, k6, rfl, hzz, hk6, hok6, hg6⟩; refine Hid.out ?_)
        refine Lib.hid ?_
        have F6 := Lib.hid ((F5.out.alloc _).step hok6 hg6)
        have P6 := Lib.hid (DrD.B4.kept (P5.out.alloc _) hg6 (fun e => by injection e with e; have := F5.out.lt; omega))
        have HZZ := Lib.hid hzz
        clear hok6 hg6 hzz p0 p1 p2 p3 pf0 pf1 pf2 pf3
        obtain ⟨_, p0, p1, p2, p3, pf⟩ := P6.out
        have pf0 := pf 0
        have pf1 := pf 1
        have pf2 := pf 2
        have pf3 := pf 3
        clear pf
        have hz6 := F6.out.z
        go_wp2_with fail
        obtain ⟨_, t0, t1, t2, t3, _⟩ := P6.out.put (.int .i64 3) (.string ⟨#[]⟩) (.int .i64 z) (.slice none 0 0)
        have hf := cd_leaf (P := Bq D) (c := 10 ^ D) (k := k) 3 ⟨#[]⟩ z F6.out (by have := HC.out; omega) (by decide) (⟨.frm z, rfl, HZZ.out, by have := H2.out; simp only [Q.size]; omega⟩)
        simp only [put4] at t0 t1 t2 t3 hf
        exact bodyPost_ret (v := .agg #[.int .i64 3, .string ⟨#[]⟩, .int .i64 z, .slice none 0 0]) (by simp [results, Tryz.results56, go_sem, t0, t1, t2, t3]) rfl hf
    have q1 : ((r : Int) == 1) = false := by simp <;> omega
    have q2 : ((r : Int) == 2) = false := by simp <;> omega
    clear h0 h12
    obtain ⟨_, p0, p1, p2, p3, pf⟩ := P5.out
    have pf0 := pf 0
    have pf1 := pf 1
    have pf2 := pf 2
    have pf3 := pf 3
    clear pf
    have hz5 := F5.out.z
    go_wp2_with (first
      | (go_at_call 60; refine (l5Common w5).mono ?_; rintro e w6 ⟨rfl, rfl⟩)
      | (go_at_call 31; refine (ofP (fun s => isNm s = true) w5.heap.size comm 5 rfl (by omega) (by omega) g A n cap k5 B _ (F5.out.ok.alloc _) (by have := HC.out; omega) (heap_alloc_new w5 _) N5.out commNm).mono ?_; rintro e w6 ⟨s, k6, rfl, hss, hk6, hok6, hg6⟩; refine Hid.out ?_))
    refine Lib.hid ?_
    have F6 := Lib.hid ((F5.out.alloc _).step hok6 hg6)
    have P6 := Lib.hid (DrD.B4.kept (P5.out.alloc _) hg6 (fun e => by injection e with e; have := F5.out.lt; omega))
    have HSS := Lib.hid hss
    clear hok6 hg6 hss p0 p1 p2 p3 pf0 pf1 pf2 pf3
    obtain ⟨_, p0, p1, p2, p3, pf⟩ := P6.out
    have pf0 := pf 0
    have pf1 := pf 1
    have pf2 := pf 2
    have pf3 := pf 3
    clear pf
    have hz6 := F6.out.z
    have hsz : s.size ≤ maxLen := by have := isNm_sz HSS.out; unfold maxLen; omega
    go_wp2_with fail
    obtain ⟨_, t0, t1, t2, t3, _⟩ := P6.out.put (.int .i64 2) (.string s) (.int .i64 0) (.slice none 0 0)
    have hf := cd_leaf (P := Bq D) (c := 10 ^ D) (k := k) 2 s 0 F6.out (by have := HC.out; omega) (by exact hsz) (⟨.fact s, rfl, HSS.out, by have := H2.out; simp only [Q.size]; omega⟩)
    simp only [put4] at t0 t1 t2 t3 hf
    exact bodyPost_ret (v := .agg #[.int .i64 2, .string s, .int .i64 0, .slice none 0 0]) (by simp [results, Tryz.results56, go_sem, t0, t1, t2, t3]) rfl hf
  | succ d ih =>
    intro D k w hD hd h hk
    have i1 : ¬ (D : Int) ≤ 1 := by omega
    have i2 : (D : Int) ≤ 10 := by omega
    have H2 : Hid (2 ≤ 2 ^ D) := Lib.hid (by rw [hD, Nat.pow_succ]; have := Nat.one_le_two_pow (n := d + 1); omega)
    have HC : Hid (10 ≤ 10 ^ D ∧ k + 20 * 10 ^ D ≤ 990000) := Lib.hid ⟨by rw [hD, Nat.pow_succ]; have := Nat.pow_pos (a := 10) (n := d + 1) (by decide); omega, hk⟩
    have HPW : Hid (10 ^ D = 10 * 10 ^ (D - 1) ∧ 2 ^ D = 2 * 2 ^ (D - 1) ∧ 10 ^ (D - 1) ≤ 1000 ∧ 10 ≤ 10 ^ (D - 1)) := Lib.hid (by
      have e : D - 1 = d + 1 := by omega
      rw [e, hD]
      refine ⟨by rw [Nat.pow_succ]; omega, by rw [Nat.pow_succ]; omega, ?_, ?_⟩
      · match d, hd with
        | 0, _ => decide
        | 1, _ => decide
      · match d, hd with
        | 0, _ => decide
        | 1, _ => decide)
    have IH : Hid (∀ (k : Nat) (w : World), Ok w g A n cap k B → k + 20 * 10 ^ (D - 1) ≤ 990000 → Calls Tryz.prog 56 #[.pointer (some ⟨g, 0, none⟩), .int .i64 ((D : Int) - 1)] w (cdAns (Bq (D - 1)) (10 ^ (D - 1)) g A n cap k B w)) := Lib.hid (by
      intro k w h hk
      have := ih (D - 1) k w (by omega) (by omega) h hk
      rwa [show ((D - 1 : Nat) : Int) = (D : Int) - 1 by omega] at this)
    obtain ⟨X, hX⟩ : ∃ X, X = w.alloc (.cells #[.int .i64 0, .string ⟨#[]⟩, .int .i64 0, .slice none 0 0] 26) := ⟨_, rfl⟩
    have F0 : Hid (Fin w X g A n cap k B) := Lib.hid (by rw [hX]; exact ⟨h.alloc _, World.grownBy_alloc w _ _, h.lt, by simp⟩)
    have P0 : Hid (B4 w.heap.size X (.int .i64 0) (.string ⟨#[]⟩) (.int .i64 0) (.slice none 0 0)) := Lib.hid (by rw [hX]; exact B4.new _ _ _ _ _ _)
    have HX := Lib.hid hX
    have hk1 : k ≤ 989800 := by have := HC.out; omega
    clear hX h hD hd hk ih
    go_enter Tryz.func56, Tryz.ntmps56
    go_wp2_with (go_at_call 58; (try rw [← HX.out]); refine (one 3 (by omega) (by omega) g A n cap k B X F0.out.ok (by omega)).mono ?_; rintro e w1 ⟨f, k1, rfl, hk1, hok1, hg1⟩; refine Hid.out ?_)
    refine Lib.hid ?_
    have F1 := Lib.hid (F0.out.step hok1 hg1)
    have P1 := Lib.hid (DrD.B4.kept P0.out hg1 (fun e => by injection e with e; have := F0.out.lt; omega))
    clear hok1 hg1
    cases f
    · skip
      go_wp2_with (go_at_call 58; refine (one 3 (by omega) (by omega) g A n cap k1 B w1 F1.out.ok (by have := HC.out; omega)).mono ?_; rintro e w2 ⟨f, k2, rfl, hk2, hok2, hg2⟩; refine Hid.out ?_)
      refine Lib.hid ?_
      have F2 := Lib.hid (F1.out.step hok2 hg2)
      have P2 := Lib.hid (DrD.B4.kept P1.out hg2 (fun e => by injection e with e; have := F1.out.lt; omega))
      clear hok2 hg2
      cases f
      · skip
        go_wp2_with (go_at_call 30; refine (pick 2 (by omega) (by omega) g A n cap k2 B w2 F2.out.ok (by have := HC.out; omega)).mono ?_; rintro e w3 ⟨r, k3, rfl, hr3, hk3, hok3, hg3⟩; refine Hid.out ?_)
        refine Lib.hid ?_
        have F3 := Lib.hid (F2.out.step hok3 hg3)
        have P3 := Lib.hid (DrD.B4.kept P2.out hg3 (fun e => by injection e with e; have := F2.out.lt; omega))
        clear hok3 hg3
        go_wp2_with (go_at_call 56; refine (IH.out k3 w3 F3.out.ok (by have := HC.out; have := HPW.out; omega)).mono ?_; rintro e w4 ⟨x, k4, rfl, hx, hk4, hok4, hd4, hg4⟩; refine Hid.out ?_)
        refine Lib.hid ?_
        have D4 := Lib.hid (hd4.more (S' := w.heap.size + 1) (by have := F3.out.z; omega))
        have HX4 := Lib.hid hx
        have HK4 := Lib.hid hk4
        clear hd4 hx hk4
        have F4 := Lib.hid (F3.out.step hok4 hg4)
        have P4 := Lib.hid (DrD.B4.kept P3.out hg4 (fun e => by injection e with e; have := F3.out.lt; omega))
        clear hok4 hg4
        go_wp2_with (go_at_call 56; refine (IH.out k4 w4 F4.out.ok (by have := HC.out; have := HK4.out; have := HPW.out; omega)).mono ?_; rintro e w5 ⟨y, k5, rfl, hy, hk5, hok5, hd5, hg5⟩; refine Hid.out ?_)
        refine Lib.hid ?_
        have D5 := Lib.hid (hd5.more (S' := w.heap.size + 1) (by have := F4.out.z; omega))
        have D45 := Lib.hid (D4.out.kept hg5 (fun j e => by injection e with e; have := F4.out.lt; omega))
        have HY5 := Lib.hid hy
        have HK5 := Lib.hid hk5
        clear hd5 hy hk5
        have F5 := Lib.hid (F4.out.step hok5 hg5)
        have P5 := Lib.hid (DrD.B4.kept P4.out hg5 (fun e => by injection e with e; have := F4.out.lt; omega))
        clear hok5 hg5
        obtain ⟨_, p0, p1, p2, p3, pf⟩ := P5.out
        have pf0 := pf 0
        have pf1 := pf 1
        have pf2 := pf 2
        have pf3 := pf 3
        clear pf
        have hz5 := F5.out.z
        go_wp2_with fail
        obtain ⟨_, t0, t1, t2, t3, _⟩ := (P5.out.put (.int .i64 (5 + (r : Int))) (.string ⟨#[]⟩) (.int .i64 0) (.slice (some ⟨w5.heap.size, 0, none⟩) 2 2)).alloc (.cells #[.int .i64 x.op, .string x.nm, .int .i64 x.day, .slice x.A x.ps.length x.cap, .int .i64 y.op, .string y.nm, .int .i64 y.day, .slice y.A y.ps.length y.cap] 26)
        have hf := cd_two (P := Bq D) (c := 10 ^ D) (k := k) (5 + (r : Int)) F5.out (by have := HC.out; have := HK4.out; have := HK5.out; have := HPW.out; omega) D45.out D5.out (Nat.le_refl _) (Nat.le_refl _) (fun gg => by
          obtain ⟨a, ha, hao, has⟩ := HX4.out
          obtain ⟨b, hb, hbo, hbs⟩ := HY5.out
          have hpw := HPW.out
          by_cases e : r = 0
          · subst e
            exact ⟨.and a b, by simp [K.cond, conds, Q.c, ha, hb], ⟨hao, hbo⟩, by simp only [Q.size]; omega⟩
          · have e : r = 1 := by omega
            subst e
            exact ⟨.or a b, by simp [K.cond, conds, Q.c, ha, hb], ⟨hao, hbo⟩, by simp only [Q.size]; omega⟩)
        simp only [put4] at t0 t1 t2 t3 hf
        exact bodyPost_ret (v := .agg #[.int .i64 (5 + (r : Int)), .string ⟨#[]⟩, .int .i64 0, .slice (some ⟨w5.heap.size, 0, none⟩) 2 2]) (by simp [results, Tryz.results56, go_sem, t0, t1, t2, t3]) rfl hf
      · skip
        go_wp2_with (go_at_call 56; refine (IH.out k2 w2 F2.out.ok (by have := HC.out; have := HPW.out; omega)).mono ?_; rintro e w4 ⟨x, k4, rfl, hx, hk4, hok4, hd4, hg4⟩; refine Hid.out ?_)
        refine Lib.hid ?_
        have D4 := Lib.hid (hd4.more (S' := w.heap.size + 1) (by have := F2.out.z; omega))
        have HX4 := Lib.hid hx
        have HK4 := Lib.hid hk4
        clear hd4 hx hk4
        have F4 := Lib.hid (F2.out.step hok4 hg4)
        have P4 := Lib.hid (DrD.B4.kept P2.out hg4 (fun e => by injection e with e; have := F2.out.lt; omega))
        clear hok4 hg4
        obtain ⟨_, p0, p1, p2, p3, pf⟩ := P4.out
        have pf0 := pf 0
        have pf1 := pf 1
        have pf2 := pf 2
        have pf3 := pf 3
        clear pf
        have hz4 := F4.out.z
        go_wp2_with fail
        obtain ⟨_, t0, t1, t2, t3, _⟩ := (P4.out.put (.int .i64 4) (.string ⟨#[]⟩) (.int .i64 0) (.slice (some ⟨w4.heap.size, 0, none⟩) 1 1)).alloc (.cells #[.int .i64 x.op, .string x.nm, .int .i64 x.day, .slice x.A x.ps.length x.cap] 26)
        have hf := cd_one (P := Bq D) (c := 10 ^ D) (k := k) 4 F4.out (by have := HC.out; have := HK4.out; have := HPW.out; omega) D4.out (Nat.le_refl _) (fun gg => by
          obtain ⟨a, ha, hao, has⟩ := HX4.out
          have hpw := HPW.out
          exact ⟨.neg a, by simp [K.cond, conds, Q.c, ha], hao, by simp only [Q.size]; omega⟩)
        simp only [put4] at t0 t1 t2 t3 hf
        exact bodyPost_ret (v := .agg #[.int .i64 4, .string ⟨#[]⟩, .int .i64 0, .slice (some ⟨w4.heap.size, 0, none⟩) 1 1]) (by simp [results, Tryz.results56, go_sem, t0, t1, t2, t3]) rfl hf
    · skip
      go_wp2_with (go_at_call 30; (try rw [← HX.out]); refine (pick 6 (by omega) (by omega) g A n cap k1 B w1 F1.out.ok (by have := HC.out; omega)).mono ?_; rintro e w5 ⟨r, k5, rfl, hr5, hk5, hok5, hg5⟩; refine Hid.out ?_)
      refine Lib.hid ?_
      have F5 := Lib.hid (F1.out.step hok5 hg5)
      have P5 := Lib.hid (DrD.B4.kept P1.out hg5 (fun e => by injection e with e; have := F1.out.lt; omega))
      clear hok5 hg5
      have N5 : Hid (w5.heap.size ≠ g) := Lib.hid (by have := F5.out.ok.lt; omega)
      by_cases h0 : r = 0
      · have q0 : ((r : Int) == 0) = true := by simp <;> omega
        clear h0
        obtain ⟨_, p0, p1, p2, p3, pf⟩ := P5.out
        have pf0 := pf 0
        have pf1 := pf 1
        have pf2 := pf 2
        have pf3 := pf 3
        clear pf
        have hz5 := F5.out.z
        go_wp2_with fail
        obtain ⟨_, t0, t1, t2, t3, _⟩ := P5.out.put (.int .i64 1) (.string ⟨#[]⟩) (.int .i64 0) (.slice none 0 0)
        have hf := cd_leaf (P := Bq D) (c := 10 ^ D) (k := k) 1 ⟨#[]⟩ 0 F5.out (by have := HC.out; omega) (by decide) (⟨.tru, rfl, trivial, by have := H2.out; simp only [Q.size]; omega⟩)
        simp only [put4] at t0 t1 t2 t3 hf
        exact bodyPost_ret (v := .agg #[.int .i64 1, .string ⟨#[]⟩, .int .i64 0, .slice none 0 0]) (by simp [results, Tryz.results56, go_sem, t0, t1, t2, t3]) rfl hf
      have q0 : ((r : Int) == 0) = false := by simp <;> omega
      by_cases h12 : r = 1 ∨ r = 2
      · rcases h12 with h1 | h1
        · skip
          have q1 : ((r : Int) == 1) = true := by simp <;> omega
          clear h0 h1
          obtain ⟨_, p0, p1, p2, p3, pf⟩ := P5.out
          have pf0 := pf 0
          have pf1 := pf 1
          have pf2 := pf 2
          have pf3 := pf 3
          clear pf
          have hz5 := F5.out.z
          go_wp2_with (go_at_call 15; refine (amongP (fun z => isDy z = true) w5.heap.size _ 5 rfl (by omega) (by omega) g A n cap k5 B _ (F5.out.ok.alloc _) (by have := HC.out; omega) (heap_alloc_new w5 _) N5.out (by intro v hv; simp at hv; rcases hv with h | h | h | h | h <;> exact ⟨_, h, by decide⟩)).mono ?_; rintro e w6 ⟨z, k6, rfl, hzz, hk6, hok6, hg6⟩; refine Hid.out ?_)
          refine Lib.hid ?_
          have F6 := Lib.hid ((F5.out.alloc _).step hok6 hg6)
          have P6 := Lib.hid (DrD.B4.kept (P5.out.alloc _) hg6 (fun e => by injection e with e; have := F5.out.lt; omega))
          have HZZ := Lib.hid hzz
          clear hok6 hg6 hzz p0 p1 p2 p3 pf0 pf1 pf2 pf3
          obtain ⟨_, p0, p1, p2, p3, pf⟩ := P6.out
          have pf0 := pf 0
          have pf1 := pf 1
          have pf2 := pf 2
          have pf3 := pf 3
          clear pf
          have hz6 := F6.out.z
          go_wp2_with fail
          obtain ⟨_, t0, t1, t2, t3, _⟩ := P6.out.put (.int .i64 3) (.string ⟨#[]⟩) (.int .i64 z) (.slice none 0 0)
          have hf := cd_leaf (P := Bq D) (c := 10 ^ D) (k := k) 3 ⟨#[]⟩ z F6.out (by have := HC.out; omega) (by decide) (⟨.frm z, rfl, HZZ.out, by have := H2.out; simp only [Q.size]; omega⟩)
          simp only [put4] at t0 t1 t2 t3 hf
          exact bodyPost_ret (v := .agg #[.int .i64 3, .string ⟨#[]⟩, .int .i64 z, .slice none 0 0]) (by simp [results, Tryz.results56, go_sem, t0, t1, t2, t3]) rfl hf
        · skip
          have q1 : ((r : Int) == 1) = false := by simp <;> omega
          have q2 : ((r : Int) == 2) = true := by simp <;> omega
          clear h0 h1
          obtain ⟨_, p0, p1, p2, p3, pf⟩ := P5.out
          have pf0 := pf 0
          have pf1 := pf 1
          have pf2 := pf 2
          have pf3 := pf 3
          clear pf
          have hz5 := F5.out.z
          go_wp2_with (go_at_call 15; refine (amongP (fun z => isDy z = true) w5.heap.size _ 5 rfl (by omega) (by omega) g A n cap k5 B _ (F5.out.ok.alloc _) (by have := HC.out; omega) (heap_alloc_new w5 _) N5.out (by intro v hv; simp at hv; rcases hv with h | h | h | h | h <;> exact ⟨_, h, by decide⟩)).mono ?_; rintro e w6 ⟨z, k6, rfl, hzz, hk6, hok6, hg6⟩; refine Hid.out ?_)
          refine Lib.hid ?_
          have F6 := Lib.hid ((F5.out.alloc _).step hok6 hg6)
          have P6 := Lib.hid (DrD.B4.kept (P5.out.alloc _) hg6 (fun e => by injection e with e; have := F5.out.lt; omega))
          have HZZ := Lib.hid hzz
          clear hok6 hg6 hzz p0 p1 p2 p3 pf0 pf1 pf2 pf3
          obtain ⟨_, p0, p1, p2, p3, pf⟩ := P6.out
          have pf0 := pf 0
          have pf1 := pf 1
          have pf2 := pf 2
          have pf3 := pf 3
          clear pf
          have hz6 := F6.out.z
          go_wp2_with fail
          obtain ⟨_, t0, t1, t2, t3, _⟩ := P6.out.put (.int .i64 3) (.string ⟨#[]⟩) (.int .i64 z) (.slice none 0 0)
          have hf := cd_leaf (P := Bq D) (c := 10 ^ D) (k := k) 3 ⟨#[]⟩ z F6.out (by have := HC.out; omega) (by decide) (⟨.frm z, rfl, HZZ.out, by have := H2.out; simp only [Q.size]; omega⟩)
          simp only [put4] at t0 t1 t2 t3 hf
          exact bodyPost_ret (v := .agg #[.int .i64 3, .string ⟨#[]⟩, .int .i64 z, .slice none 0 0]) (by simp [results, Tryz.results56, go_sem, t0, t1, t2, t3]) rfl hf
      have q1 : ((r : Int) == 1) = false := by simp <;> omega
      have q2 : ((r : Int) == 2) = false := by simp <;> omega
      clear h0 h12
      obtain ⟨_, p0, p1, p2, p3, pf⟩ := P5.out
      have pf0 := pf 0
      have pf1 := pf 1
      have pf2 := pf 2
      have pf3 := pf 3
      clear pf
      have hz5 := F5.out.z
      go_wp2_with (first
        | (go_at_call 60; refine (l5Common w5).mono ?_; rintro e w6 ⟨rfl, rfl⟩)
        | (go_at_call 31; refine (ofP (fun s => isNm s = true) w5.heap.size comm 5 rfl (by omega) (by omega) g A n cap k5 B _ (F5.out.ok.alloc _) (by have := HC.out; omega) (heap_alloc_new w5 _) N5.out commNm).mono ?_; rintro e w6 ⟨s, k6, rfl, hss, hk6, hok6, hg6⟩; refine Hid.out ?_))
      refine Lib.hid ?_
      have F6 := Lib.hid ((F5.out.alloc _).step hok6 hg6)
      have P6 := Lib.hid (DrD.B4.kept (P5.out.alloc _) hg6 (fun e => by injection e with e; have := F5.out.lt; omega))
      have HSS := Lib.hid hss
      clear hok6 hg6 hss p0 p1 p2 p3 pf0 pf1 pf2 pf3
      obtain ⟨_, p0, p1, p2, p3, pf⟩ := P6.out
      have pf0 := pf 0
      have pf1 := pf 1
      have pf2 := pf 2
      have pf3 := pf 3
      clear pf
      have hz6 := F6.out.z
      have hsz : s.size ≤ maxLen := by have := isNm_sz HSS.out; unfold maxLen; omega
      go_wp2_with fail
      obtain ⟨_, t0, t1, t2, t3, _⟩ := P6.out.put (.int .i64 2) (.string s) (.int .i64 0) (.slice none 0 0)
      have hf := cd_leaf (P := Bq D) (c := 10 ^ D) (k := k) 2 s 0 F6.out (by have := HC.out; omega) (by exact hsz) (⟨.fact s, rfl, HSS.out, by have := H2.out; simp only [Q.size]; omega⟩)
      simp only [put4] at t0 t1 t2 t3 hf
      exact bodyPost_ret (v := .agg #[.int .i64 2, .string s, .int .i64 0, .slice none 0 0]) (by simp [results, Tryz.results56, go_sem, t0, t1, t2, t3]) rfl hf

end Go.Proofs.YtlaogladhadliaaGreatDoor.DrD

namespace Go.Proofs.YtlaogladhadliaaGreatDoor.Cond
open Go.RowKit Go.Proofs.YtlaogladhadliaaGreatDoor.Mark
set_option linter.unusedVariables false

/-- The parts at A bear their marks from m on. -/
def Held (w : World) (A : Option Addr) (cap : Nat) (ps : List K) (m : Nat) : Prop := Lies w w.heap.size (.mk 0 .empty 0 A cap (mkL ps m))
theorem lies_head {w : World} {B : Nat} {op op' : Int} {nm nm' : ByteArray} {day day' : Int} {A : Option Addr} {cap : Nat} {ps : List K} (h : Lies w B (.mk op nm day A cap ps)) (hn : nm'.size ≤ maxLen) : Lies w B (.mk op' nm' day' A cap ps) := by
  obtain ⟨⟨h1, ⟨_, h3, h4⟩, h5⟩, lt⟩ := h
  exact ⟨⟨h1, ⟨hn, h3, h4⟩, h5⟩, lt⟩
theorem Held.on {w w' : World} {A : Option Addr} {cap : Nat} {ps : List K} {m : Nat} (h : Held w A cap ps m) (hb : Below w.heap.size w w') : Held w' A cap ps m := Lies.on h hb

end Go.Proofs.YtlaogladhadliaaGreatDoor.Cond

namespace Go.Proofs.YtlaogladhadliaaGreatDoor.Cond
open Go.RowKit
set_option linter.unusedVariables false
set_option linter.unusedSimpArgs false

theorem Wr.lies {w : World} {k : K} (h : Wr w k) : Lies w w.heap.size k := ⟨h.has, h.lt⟩

/-- What SimplifyCondition answers. -/
structure SfIs (c d : C) (y : Bool) : Prop where
  no : c.good = false → d = .mk 0 .empty 0 [] ∧ y = false
  yes : ∀ q : Q, c.good = true → c = q.c → q.size ≤ 15 → d = (smp q).c ∧ y = true
theorem q_inj : ∀ {a b : Q}, a.c = b.c → a = b := by
  intro a
  induction a with
  | tru => intro b h; cases b <;> simp_all [Q.c]
  | fact s => intro b h; cases b <;> simp_all [Q.c]
  | frm d => intro b h; cases b <;> simp_all [Q.c]
  | neg a ih => intro b h; cases b <;> simp [Q.c] at h; rw [ih h]
  | and a c iha ihc => intro b h; cases b <;> simp [Q.c] at h; rw [iha h.1, ihc h.2]
  | or a c iha ihc => intro b h; cases b <;> simp [Q.c] at h; rw [iha h.1, ihc h.2]
theorem sf_is (c : C) : ∃ d y, SfIs c d y := by
  cases h : c.good with
  | false => exact ⟨.mk 0 .empty 0 [], false, ⟨fun _ => ⟨rfl, rfl⟩, fun _ h2 => (by rw [h] at h2; cases h2)⟩⟩
  | true =>
    obtain ⟨q, hq, _, _⟩ := good_q h
    exact ⟨(smp q).c, true, ⟨fun h2 => (by rw [h] at h2; cases h2), fun q' _ e _ => ⟨by rw [q_inj (hq.symm.trans e)], rfl⟩⟩⟩

def Q.wt : Q → Nat
  | .tru => 0
  | .fact s => s.size
  | .frm _ => 0
  | .neg a => 1 + a.wt
  | .and a b => 2 + a.wt + b.wt
  | .or a b => 2 + a.wt + b.wt
theorem Q.wt_c (q : Q) : q.c.wt = q.wt := by
  induction q with
  | tru => rfl
  | fact s => simp [Q.c, C.wt, wts, Q.wt]
  | frm d => rfl
  | neg a ih => simp [Q.c, C.wt, wts, Q.wt, ih]
  | and a b iha ihb => simp [Q.c, C.wt, wts, Q.wt, iha, ihb]; omega
  | or a b iha ihb => simp [Q.c, C.wt, wts, Q.wt, iha, ihb]; omega
theorem neg_wt (q : Q) : (negQ q).wt ≤ 1 + q.wt := by
  cases q <;> simp [negQ, Q.wt] <;> omega
theorem pair_wt (x : Bool) (a b : Q) : (pairQ x a b).wt ≤ 2 + a.wt + b.wt := by
  unfold pairQ
  repeat' split
  all_goals first | omega | (simp only [Q.wt]; omega)
theorem smp_wt (q : Q) : (smp q).wt ≤ q.wt := by
  induction q with
  | tru => exact Nat.le_refl _
  | fact s => exact Nat.le_refl _
  | frm d => simp only [smp]; split <;> simp [Q.wt]
  | neg a ih => have := neg_wt (smp a); simp only [smp, Q.wt]; omega
  | and a b iha ihb => have := pair_wt true (smp a) (smp b); simp only [smp, Q.wt]; omega
  | or a b iha ihb => have := pair_wt false (smp a) (smp b); simp only [smp, Q.wt]; omega
theorem SfIs.wt {c d : C} {y : Bool} (h : SfIs c d y) : d.wt ≤ c.wt := by
  cases hg : c.good with
  | false => rw [(h.no hg).1]; simp [C.wt, wts]
  | true =>
    obtain ⟨q, hq, _, hs⟩ := good_q hg
    rw [(h.yes q hg hq hs).1, hq, Q.wt_c, Q.wt_c]
    exact smp_wt q

/-- An answer: a condition in memory of its own, and a bool. -/
def CbAns (d : C) (y : Bool) (w : World) (e : Ending) (w' : World) : Prop :=
  ∃ r : K, e = .returned (.tuple #[r.val, .bool y]) ∧ r.cond = d ∧ Wr w' r ∧ (∀ x ∈ r.blocks, w.heap.size ≤ x) ∧ Below w.heap.size w w'
theorem cb_zero {w v : World} {kb : Nat} {x0 x1 x2 x3 : Value} (hb : Below w.heap.size w v) (hk : w.heap.size ≤ kb) : CbAns (.mk 0 .empty 0 []) false w (.returned (.tuple #[.agg #[.int .i64 0, .string ⟨#[]⟩, .int .i64 0, .slice none 0 0], .bool false])) (put4 v kb 0 x0 x1 x2 x3) :=
  ⟨.mk 0 .empty 0 none 0 [], rfl, rfl, wr_none 0 .empty 0 (by simp [maxLen]), by simp [K.blocks, blocks], put4_below hb hk⟩
theorem cb_res {w v : World} {kb S : Nat} {d : C} {r : K} {x0 x1 x2 x3 : Value} (hb : Below w.heap.size w v) (hr : r.cond = d) (hw : Wr v r) (hs : ∀ x ∈ r.blocks, S ≤ x) (hS : w.heap.size ≤ S) (hk : kb < S) (hkb : w.heap.size ≤ kb) : CbAns d true w (.returned (.tuple #[r.val, .bool true])) (put4 v kb 0 x0 x1 x2 x3) :=
  ⟨r, rfl, hr, put_wr hw (fun h => by have := hs _ h; omega), fun x hx => by have := hs x hx; omega, put4_below hb hkb⟩

set_option maxHeartbeats 4000000 in
theorem implSf (k : K) (w : World) (hin : Lies w w.heap.size k) (hw : k.cond.wt ≤ 1048576) (d : C) (y : Bool) (hx : SfIs k.cond d y) :
    Calls Tryz.prog 7 #[k.val] w (CbAns d y w) := by
  obtain ⟨X, hX⟩ : ∃ X, X = (w.alloc (.cells #[.int .i64 k.op, .string k.nm, .int .i64 k.day, .slice k.A k.ps.length k.cap] 26)).alloc (.cells #[.int .i64 0, .string ⟨#[]⟩, .int .i64 0, .slice none 0 0] 26) := ⟨_, rfl⟩
  have B0 : Hid (Below w.heap.size w X) := Lib.hid (by rw [hX]; exact (below1 _ _).alloc (by simp) _)
  have HZ : Hid (X.heap.size = w.heap.size + 1 + 1) := Lib.hid (by rw [hX]; simp)
  have X0 : Hid (B4 w.heap.size X (.int .i64 k.op) (.string k.nm) (.int .i64 k.day) (.slice k.A k.ps.length k.cap)) := Lib.hid (by rw [hX]; exact (B4.new _ _ _ _ _ _).alloc _)
  have Y0 : Hid (B4 (w.heap.size + 1) X (.int .i64 0) (.string ⟨#[]⟩) (.int .i64 0) (.slice none 0 0)) := Lib.hid (by rw [hX]; have := B4.new (w.alloc (.cells #[.int .i64 k.op, .string k.nm, .int .i64 k.day, .slice k.A k.ps.length k.cap] 26)) (.int .i64 0) (.string ⟨#[]⟩) (.int .i64 0) (.slice none 0 0) 26; simpa using this)
  have HG := implGood k X (hin.on B0.out) hw
  have HXX := Lib.hid hX
  have HX := Lib.hid hx
  have HIN := Lib.hid hin
  clear hin hw hx hX
  obtain ⟨g, hg⟩ : ∃ g, g = k.cond.good := ⟨_, rfl⟩
  rw [← hg] at HG
  have HGG := Lib.hid hg
  have HGH := Lib.hid HG
  clear hg HG
  cases g
  · have HE := Lib.hid (HX.out.no HGG.out.symm)
    go_enter Tryz.func7, Tryz.ntmps7
    go_wp2_with (go_at_call 16; (try rw [← HXX.out]); refine HGH.out.mono ?_; rintro e w2 ⟨rfl, hb2⟩; refine Hid.out ?_)
    refine Lib.hid ?_
    have B2 := Lib.hid (B0.out.trans (hb2.mono B0.out.size))
    have Y2 := Lib.hid (Y0.out.on hb2)
    obtain ⟨_, y0, y1, y2, y3, yf⟩ := Y2.out
    have yf0 := yf 0
    have yf1 := yf 1
    have yf2 := yf 2
    have yf3 := yf 3
    clear yf hb2
    go_wp2_with fail
    obtain ⟨_, t0, t1, t2, t3, _⟩ := Y2.out.put (.int .i64 0) (.string ⟨#[]⟩) (.int .i64 0) (.slice none 0 0)
    have hf := cb_zero (kb := w.heap.size + 1) (x0 := .int .i64 0) (x1 := .string ⟨#[]⟩) (x2 := .int .i64 0) (x3 := .slice none 0 0) B2.out (by omega)
    simp only [put4] at t0 t1 t2 t3 hf
    exact bodyPost_ret (v := .tuple #[.agg #[.int .i64 0, .string ⟨#[]⟩, .int .i64 0, .slice none 0 0], .bool false]) (by simp [results, Tryz.results7, go_sem, t0, t1, t2, t3]) rfl (by rw [HE.out.1, HE.out.2]; exact hf)
  · obtain ⟨q, hq, _, hs15⟩ := good_q HGG.out.symm
    have HE := Lib.hid (HX.out.yes q HGG.out.symm hq hs15)
    have HS : Hid (∀ v, Below w.heap.size w v → Calls Tryz.prog 22 #[k.val] v (Res v.heap.size (smp q) v)) := Lib.hid fun v hv => simplify q k v hq (HIN.out.on hv)
    clear hq hs15
    go_enter Tryz.func7, Tryz.ntmps7
    go_wp2_with (go_at_call 16; (try rw [← HXX.out]); refine HGH.out.mono ?_; rintro e w2 ⟨rfl, hb2⟩; refine Hid.out ?_)
    refine Lib.hid ?_
    have B2 := Lib.hid (B0.out.trans (hb2.mono B0.out.size))
    have Y2 := Lib.hid (Y0.out.on hb2)
    obtain ⟨_, x0, x1, x2, x3, _⟩ := X0.out.on hb2
    have HS2 := Lib.hid (HS.out w2 B2.out)
    have hsz2 : w.heap.size + 1 < w2.heap.size := Y2.out.lt
    clear hb2
    go_wp2_with (go_at_call 22; refine HS2.out.mono ?_; rintro e w3 ⟨r, rfl, hr, hwr, hge, hb3⟩; refine Hid.out ?_)
    refine Lib.hid ?_
    have Y3 := Lib.hid (Y2.out.on hb3)
    have HF : Hid (CbAns (smp q).c true w (.returned (.tuple #[r.val, .bool true])) (put4 w3 (w.heap.size + 1) 0 (.int .i64 r.op) (.string r.nm) (.int .i64 r.day) (.slice r.A r.ps.length r.cap))) := Lib.hid (cb_res (B2.out.trans (hb3.mono B2.out.size)) hr hwr hge B2.out.size hsz2 (by omega))
    obtain ⟨_, y0, y1, y2, y3, yf⟩ := Y3.out
    have yf0 := yf 0
    have yf1 := yf 1
    have yf2 := yf 2
    have yf3 := yf 3
    clear yf hr hwr hge hb3 x0 x1 x2 x3
    go_wp2_with fail
    obtain ⟨_, t0, t1, t2, t3, _⟩ := Y3.out.put (.int .i64 r.op) (.string r.nm) (.int .i64 r.day) (.slice r.A r.ps.length r.cap)
    have hf := HF.out
    simp only [put4] at t0 t1 t2 t3 hf
    exact bodyPost_ret (v := .tuple #[r.val, .bool true]) (by simp [results, Tryz.results7, go_sem, t0, t1, t2, t3]) rfl (by rw [HE.out.1, HE.out.2]; exact hf)

end Go.Proofs.YtlaogladhadliaaGreatDoor.Cond

namespace Go.Proofs.YtlaogladhadliaaGreatDoor.DrD
open Go.RowKit Go.Proofs.YtlaogladhadliaaGreatDoor.Cond Go.Proofs.YtlaogladhadliaaGreatDoor.Cur Go.Proofs.YtlaogladhadliaaGreatDoor.CurDay
set_option linter.unusedVariables false
set_option linter.unusedSimpArgs false

theorem ok_wt {q : Q} (h : q.ok) : q.wt ≤ 10 * q.size := by
  induction q with
  | tru => simp [Q.wt]
  | fact s => have := isNm_sz h; simp only [Q.wt, Q.size]; omega
  | frm d => simp [Q.wt]
  | neg a ih => have := ih h; simp only [Q.wt, Q.size]; omega
  | and a b iha ihb => have := iha h.1; have := ihb h.2; simp only [Q.wt, Q.size]; omega
  | or a b iha ihb => have := iha h.1; have := ihb h.2; simp only [Q.wt, Q.size]; omega
/-- Not more than that lies in a drawn condition. -/
def Wq (m : Nat) (x : K) : Prop := x.cond.wt ≤ m
theorem Bq.wq {x : K} (h : Bq 3 x) : Wq 70 x := by
  obtain ⟨q, hq, hok, hs⟩ := h
  have := ok_wt hok
  unfold Wq
  rw [hq, Q.wt_c]
  have : (2 : Nat) ^ 3 = 8 := rfl
  omega
theorem Bq.more {d : Nat} {x : K} (h : Bq d x) (hd : d ≤ 3) : Bq 3 x := by
  obtain ⟨q, hq, hok, hs⟩ := h
  have := Nat.pow_le_pow_right (n := 2) (by decide) hd
  exact ⟨q, hq, hok, by omega⟩

theorem cd_pass {P : K → Prop} {w v : World} {g c : Nat} {A : Option Addr} {n cap k k' B S : Nat} {x : K} (h : Fin w v g A n cap k' B) (hk : k' ≤ k + c) (hd : Dk S v x) (hS : w.heap.size + 1 ≤ S) (hP : P x) :
    cdAns P c g A n cap k B w (.returned x.val) (put4 v w.heap.size 0 (.int .i64 x.op) (.string x.nm) (.int .i64 x.day) (.slice x.A x.ps.length x.cap)) :=
  ⟨x, k', rfl, hP, hk, (h.put _ _ _ _).ok, (hd.more hS).kept (put4_grown _ _ _ _ _ _ _) (fun j e => by injection e with e; omega), (h.put _ _ _ _).gr⟩

set_option maxHeartbeats 4000000 in
theorem condition (g : Nat) (A : Option Addr) (n cap k B : Nat) (w : World) (h : Ok w g A n cap k B) (hk : k ≤ 960000) :
    Calls Tryz.prog 29 #[.pointer (some ⟨g, 0, none⟩)] w (cdAns (Bq 3) 2000 g A n cap k B w) := by
  obtain ⟨X, hX⟩ : ∃ X, X = w.alloc (.cells #[.int .i64 0, .string ⟨#[]⟩, .int .i64 0, .slice none 0 0] 26) := ⟨_, rfl⟩
  have F0 : Hid (Fin w X g A n cap k B) := Lib.hid (by rw [hX]; exact ⟨h.alloc _, World.grownBy_alloc w _ _, h.lt, by simp⟩)
  have P0 : Hid (B4 w.heap.size X (.int .i64 0) (.string ⟨#[]⟩) (.int .i64 0) (.slice none 0 0)) := Lib.hid (by rw [hX]; exact B4.new _ _ _ _ _ _)
  have HX := Lib.hid hX
  clear hX h
  go_enter Tryz.func29, Tryz.ntmps29
  go_wp2_with (go_at_call 30; (try rw [← HX.out]); refine (pick 3 (by omega) (by omega) g A n cap k B X F0.out.ok (by omega)).mono ?_; rintro e w1 ⟨r, k1, rfl, hr1, hk1, hok1, hg1⟩; refine Hid.out ?_)
  refine Lib.hid ?_
  have F1 := Lib.hid (F0.out.step hok1 hg1)
  have P1 := Lib.hid (DrD.B4.kept P0.out hg1 (fun e => by injection e with e; have := F0.out.lt; omega))
  clear hok1 hg1
  have HPW : Hid (10 ^ (r + 1) ≤ 1000) := Lib.hid (by
    have hr : r ≤ 2 := by omega
    match r, hr with
    | 0, _ => decide
    | 1, _ => decide
    | 2, _ => decide)
  have HB := Lib.hid (built g A n cap B r (r + 1) k1 w1 rfl (by omega) F1.out.ok (by have := HPW.out; omega))
  have e1 : ((r + 1 : Nat) : Int) = 1 + (r : Int) := by omega
  rw [e1] at HB
  clear e1
  go_wp2_with (go_at_call 56; refine HB.out.mono ?_; rintro e w2 ⟨x, k2, rfl, hx, hk2, hok2, hd2, hg2⟩; refine Hid.out ?_)
  refine Lib.hid ?_
  have HBQ : Hid (Bq 3 x) := Lib.hid (Bq.more hx (by omega))
  have D2 := Lib.hid (hd2.more (S' := w.heap.size + 1) (by have := F1.out.z; omega))
  have F2 := Lib.hid (F1.out.step hok2 hg2)
  have P2 := Lib.hid (DrD.B4.kept P1.out hg2 (fun e => by injection e with e; have := F0.out.lt; omega))
  have HK2 := Lib.hid hk2
  clear hok2 hg2 hx hd2 HB hk2
  obtain ⟨_, p0, p1, p2, p3, pf⟩ := P2.out
  have pf0 := pf 0
  have pf1 := pf 1
  have pf2 := pf 2
  have pf3 := pf 3
  clear pf
  have hz2 := F2.out.z
  go_wp2_with fail
  obtain ⟨_, t0, t1, t2, t3, _⟩ := P2.out.put (.int .i64 x.op) (.string x.nm) (.int .i64 x.day) (.slice x.A x.ps.length x.cap)
  have hf := cd_pass (P := Bq 3) (c := 2000) (k := k) F2.out (by have := HPW.out; have := HK2.out; omega) D2.out (Nat.le_refl _) HBQ.out
  simp only [put4] at t0 t1 t2 t3 hf
  exact bodyPost_ret (v := x.val) (by simp [results, Tryz.results29, go_sem, t0, t1, t2, t3]) rfl hf

/-- What anyCondition holds: the answer's block, the box of the condition so far. -/
structure St (w v : World) (kb g : Nat) (A : Option Addr) (n cap k B : Nat) (x : K) : Prop where
  fin : Fin w v g A n cap k B
  res : B4 w.heap.size v (.int .i64 0) (.string ⟨#[]⟩) (.int .i64 0) (.slice none 0 0)
  box : B4 kb v (.int .i64 x.op) (.string x.nm) (.int .i64 x.day) (.slice x.A x.ps.length x.cap)
  dk : Dk (w.heap.size + 1) v x
  kb1 : w.heap.size < kb
  ap : kb ∉ x.blocks
  ap2 : (Value.slice x.A x.ps.length x.cap).ownBlock ≠ some kb
theorem St.step {w v v' : World} {kb g : Nat} {A : Option Addr} {n cap k k' B : Nat} {x : K} (h : St w v kb g A n cap k B x) (hok : Ok v' g A n cap k' B) (hg : v.grownBy v' (some g)) : St w v' kb g A n cap k' B x :=
  have hl := h.fin.lt
  have hk := h.kb1
  ⟨h.fin.step hok hg, DrD.B4.kept h.res hg (fun e => by injection e with e; omega), DrD.B4.kept h.box hg (fun e => by injection e with e; omega), h.dk.kept hg (fun j e => by injection e with e; omega), h.kb1, h.ap, h.ap2⟩
theorem St.alloc {w v : World} {kb g : Nat} {A : Option Addr} {n cap k B : Nat} {x : K} (h : St w v kb g A n cap k B x) (o : Obj) : St w (v.alloc o) kb g A n cap k B x := h.step (h.fin.ok.alloc o) (World.grownBy_alloc v o _)
theorem St.drew {w v : World} {kb g : Nat} {A : Option Addr} {n cap k B : Nat} {x : K} (h : St w v kb g A n cap k B x) : St w v.drew kb g A n cap k B x :=
  h.step ⟨h.fin.ok.at_, h.fin.ok.bytes, h.fin.ok.small, h.fin.ok.old⟩ (grow_drew (grow_refl v _))
theorem keep_other {S : Nat} {w w' : World} {x : K} {row : Option Nat} (h : Dk S w x) (hg : w.grownBy w' row) (hr : ∀ j, row = some j → j ∉ x.blocks ∧ (Value.slice x.A x.ps.length x.cap).ownBlock ≠ some j) : Dk S w' x :=
  ⟨h.has.alike fun b hb => hg.block b (h.lt b hb) (fun e => (hr b e.symm).1 hb), fun b hb => Nat.lt_of_lt_of_le (h.lt b hb) hg.size, h.ge, own_kept h.own hg (fun j hj e => (hr j hj).2 e), h.ap⟩
/-- The box takes other cells; x's memory is what it was. -/
theorem St.turn {w v v' : World} {kb g : Nat} {A : Option Addr} {n cap k B : Nat} {x : K} (h : St w v kb g A n cap k B x) (hg : v.grownBy v' (some kb)) : Fin w v' g A n cap k B ∧ B4 w.heap.size v' (.int .i64 0) (.string ⟨#[]⟩) (.int .i64 0) (.slice none 0 0) ∧ Dk (w.heap.size + 1) v' x := by
  have hl := h.fin.lt
  have hk := h.kb1
  exact ⟨⟨DrD.Ok.kept h.fin.ok hg (fun j e => by injection e with e; omega), grow_row h.fin.gr hg (fun j e => by injection e with e; omega), hl, Nat.lt_of_lt_of_le h.fin.z hg.size⟩,
    DrD.B4.kept h.res hg (fun e => by injection e with e; omega), keep_other h.dk hg (fun j e => by injection e with e; subst e; exact ⟨h.ap, h.ap2⟩)⟩
theorem B4.set0 {k : Nat} {w : World} {a b c d : Value} (h : B4 k w a b c d) (x : Value) : B4 k (w.setCell ⟨k, 0, none⟩ x) x b c d :=
  ⟨by rw [World.size_setCell]; exact h.lt, World.cell?_setCell_same w _ _ h.c0, (World.cell?_setCell_other w _ _ _ (by simp)).trans h.c1, (World.cell?_setCell_other w _ _ _ (by simp)).trans h.c2, (World.cell?_setCell_other w _ _ _ (by simp)).trans h.c3, fun o => by simp [h.fz]⟩
theorem B4.set1 {k : Nat} {w : World} {a b c d : Value} (h : B4 k w a b c d) (x : Value) : B4 k (w.setCell ⟨k, 1, none⟩ x) a x c d :=
  ⟨by rw [World.size_setCell]; exact h.lt, (World.cell?_setCell_other w _ _ _ (by simp)).trans h.c0, World.cell?_setCell_same w _ _ h.c1, (World.cell?_setCell_other w _ _ _ (by simp)).trans h.c2, (World.cell?_setCell_other w _ _ _ (by simp)).trans h.c3, fun o => by simp [h.fz]⟩
theorem B4.set2 {k : Nat} {w : World} {a b c d : Value} (h : B4 k w a b c d) (x : Value) : B4 k (w.setCell ⟨k, 2, none⟩ x) a b x d :=
  ⟨by rw [World.size_setCell]; exact h.lt, (World.cell?_setCell_other w _ _ _ (by simp)).trans h.c0, (World.cell?_setCell_other w _ _ _ (by simp)).trans h.c1, World.cell?_setCell_same w _ _ h.c2, (World.cell?_setCell_other w _ _ _ (by simp)).trans h.c3, fun o => by simp [h.fz]⟩
theorem St.set0 {w v : World} {kb g : Nat} {A : Option Addr} {n cap k B : Nat} {op : Int} {nm : ByteArray} {day : Int} {Ax : Option Addr} {cx : Nat} {ps : List K} (h : St w v kb g A n cap k B (.mk op nm day Ax cx ps)) (z : Int) : St w (v.setCell ⟨kb, 0, none⟩ (.int .i64 z)) kb g A n cap k B (.mk z nm day Ax cx ps) := by
  obtain ⟨h1, h2, h3⟩ := h.turn (set_grown v ⟨kb, 0, none⟩ (.int .i64 z))
  exact ⟨h1, h2, DrD.B4.set0 h.box _, h3.head h.dk.has.2.1.1, h.kb1, h.ap, h.ap2⟩
theorem St.set1 {w v : World} {kb g : Nat} {A : Option Addr} {n cap k B : Nat} {op : Int} {nm : ByteArray} {day : Int} {Ax : Option Addr} {cx : Nat} {ps : List K} (h : St w v kb g A n cap k B (.mk op nm day Ax cx ps)) (s : ByteArray) (hs : s.size ≤ maxLen) : St w (v.setCell ⟨kb, 1, none⟩ (.string s)) kb g A n cap k B (.mk op s day Ax cx ps) := by
  obtain ⟨h1, h2, h3⟩ := h.turn (set_grown v ⟨kb, 1, none⟩ (.string s))
  exact ⟨h1, h2, DrD.B4.set1 h.box _, h3.head hs, h.kb1, h.ap, h.ap2⟩
theorem St.set2 {w v : World} {kb g : Nat} {A : Option Addr} {n cap k B : Nat} {op : Int} {nm : ByteArray} {day : Int} {Ax : Option Addr} {cx : Nat} {ps : List K} (h : St w v kb g A n cap k B (.mk op nm day Ax cx ps)) (z : Int) : St w (v.setCell ⟨kb, 2, none⟩ (.int .i64 z)) kb g A n cap k B (.mk op nm z Ax cx ps) := by
  obtain ⟨h1, h2, h3⟩ := h.turn (set_grown v ⟨kb, 2, none⟩ (.int .i64 z))
  exact ⟨h1, h2, DrD.B4.set2 h.box _, h3.head h.dk.has.2.1.1, h.kb1, h.ap, h.ap2⟩
theorem St.put0 {w v : World} {kb g : Nat} {A : Option Addr} {n cap k B : Nat} {x : K} (h : St w v kb g A n cap k B x) (z : Int) : St w (v.setCell ⟨kb, 0, none⟩ (.int .i64 z)) kb g A n cap k B (.mk z x.nm x.day x.A x.cap x.ps) := by cases x; exact h.set0 z
theorem St.put1 {w v : World} {kb g : Nat} {A : Option Addr} {n cap k B : Nat} {x : K} (h : St w v kb g A n cap k B x) (s : ByteArray) (hs : s.size ≤ maxLen) : St w (v.setCell ⟨kb, 1, none⟩ (.string s)) kb g A n cap k B (.mk x.op s x.day x.A x.cap x.ps) := by cases x; exact h.set1 s hs
theorem St.put2 {w v : World} {kb g : Nat} {A : Option Addr} {n cap k B : Nat} {x : K} (h : St w v kb g A n cap k B x) (z : Int) : St w (v.setCell ⟨kb, 2, none⟩ (.int .i64 z)) kb g A n cap k B (.mk x.op x.nm z x.A x.cap x.ps) := by cases x; exact h.set2 z
/-- The condition is put under a CondNot. -/
theorem St.wrap {w v : World} {kb g : Nat} {A : Option Addr} {n cap k B : Nat} {x : K} (h : St w v kb g A n cap k B x) :
    St w ((put4 v kb 0 (.int .i64 4) (.string ⟨#[]⟩) (.int .i64 0) (.slice (some ⟨v.heap.size, 0, none⟩) 1 1)).alloc (.cells #[.int .i64 x.op, .string x.nm, .int .i64 x.day, .slice x.A x.ps.length x.cap] 26)) kb g A n cap k B (.mk 4 .empty 0 (some ⟨v.heap.size, 0, none⟩) 1 [x]) := by
  have hb := h.box.lt
  have hk := h.kb1
  obtain ⟨h1, h2, h3⟩ := h.turn (put4_grown v kb 0 (.int .i64 4) (.string ⟨#[]⟩) (.int .i64 0) (.slice (some ⟨v.heap.size, 0, none⟩) 1 1))
  have hd := Dk.one (S := w.heap.size + 1) (u := put4 v kb 0 (.int .i64 4) (.string ⟨#[]⟩) (.int .i64 0) (.slice (some ⟨v.heap.size, 0, none⟩) 1 1)) (p := x) 4 h3.has h3.lt h3.ge (by rw [put4_size]; omega)
  rw [put4_size] at hd
  refine ⟨h1.alloc _, h2.alloc _, (h.box.put _ _ _ _).alloc _, hd, hk, fun e => ?_, fun e => ?_⟩
  · simp only [K.blocks, blocks, List.append_nil, List.mem_cons, List.mem_append, List.not_mem_nil, or_false] at e
    rcases e with e | e
    · omega
    · exact h.ap e
  · simp only [Value.ownBlock, K.A, K.ps, Option.some.injEq] at e
    omega
/-- Another condition is put behind the parts. -/
theorem step_appC {w u : World} {kb g : Nat} {A : Option Addr} {n cap k B : Nat} {op : Int} {nm : ByteArray} {day : Int} {Ax : Option Addr} {cx : Nat} {ps : List K} {r : K} {ops : Array Oper} {o : Oper} {a : Act} {KK : Act → World → Prop} {Q : Exit → Act → World → Prop} {E : Prop} (hgd : o.guard = none) (s y : Operand)
    (ho : o.op = .call { callee := .builtin .append, args := #[s, y], argTypes := #[24, 24] }) (h : St w u kb g A n cap k B (.mk op nm day Ax cx ps)) (hl : ps.length ≤ 200) (hs : a.eval s = .slice Ax ps.length cx) (L c : Nat) (hy : a.eval y = .slice (some ⟨L, 0, none⟩) 1 c) (he : El u L 0 r)
    (hr : Dk (w.heap.size + 1) u r) (hrk : kb ∉ r.blocks) (hap : ∀ j, (Value.slice Ax ps.length cx).ownBlock = some j → j ∉ r.blocks)
    (hK : ∀ a3 c3 w1, St w (w1.setCell ⟨kb, 3, none⟩ (.slice a3 (ps.length + 1) c3)) kb g A n cap k B (.mk op nm day a3 c3 (ps ++ [r])) → B4 kb w1 (.int .i64 op) (.string nm) (.int .i64 day) (.slice Ax ps.length cx) → KK (a.put o.dst (.slice a3 (ps.length + 1) c3)) w1) :
    if Region.wanted o (yielded ops a.tmps) = true then Oper.wp Tryz.prog o a u KK Q else E := by
  obtain ⟨i0, hi, hz0, hz1, hz2⟩ := info_parts infoCond
  have hw : Region.wanted o (yielded ops a.tmps) = true := by simp [Region.wanted, hgd]
  rw [if_pos hw]
  have hbx := h.box
  have hown : OwnC u (w.heap.size + 1) (.slice Ax ps.length cx) ps := h.dk.own
  obtain ⟨v', w', hrun, h2, h3, _, h5⟩ := run_append_own_at (P := Tryz.prog) u (w.heap.size + 1) 24 o.type 26 i0 _ 4 56 Tryz.underlying24 hi hz0 hz1 hz2 rfl (by decide) (.slice Ax ps.length cx) ps.length (cellsL ps) hown ⟨L, 0, none⟩ 1 c r.cells (by simp [K.cells])
    (fun j u' hu => by
      have hj : j < 4 := by
        rcases Nat.lt_or_ge j 4 with h | h
        · exact h
        · rw [List.getElem?_eq_none (by simpa [K.cells] using h)] at hu; cases hu
      match j, hj with
      | 0, _ => simp [K.cells] at hu; subst hu; exact he.c0
      | 1, _ => simp [K.cells] at hu; subst hu; exact he.c1
      | 2, _ => simp [K.cells] at hu; subst hu; exact he.c2
      | 3, _ => simp [K.cells] at hu; subst hu; exact he.c3) (one_cells r) (by unfold maxLen; omega) (by omega) (by have := h.box.lt; have := h.kb1; omega)
  obtain ⟨a3, c3, rfl⟩ := ownC_form h2
  unfold Oper.wp execOp
  simp only [ho, resolve, invoke, builtin, Sem.run_bind, Sem.run_pure, Result.andThen_ok, List.map_toArray, List.map_cons, List.map_nil, hs, hy, hrun]
  have ho3 : OwnC w' (w.heap.size + 1) (.slice a3 (ps.length + 1) c3) (ps ++ [r]) := by unfold OwnC; rw [cellsL_app, List.length_append]; exact h2
  have hd := Dk.app h.dk hr.has hr.lt hr.ge hap ho3 h3 h5
  have hkb1 := h.kb1
  have hl0 := h.fin.lt
  have ho0 : ∀ j, (Value.slice Ax ps.length cx).ownBlock = some j → w.heap.size + 1 ≤ j ∧ j ≠ kb := fun j hj => ⟨(own_ge hown hj).1, fun e => h.ap2 (e ▸ hj)⟩
  have hbx1 : B4 kb w' (.int .i64 op) (.string nm) (.int .i64 day) (.slice Ax ps.length cx) := DrD.B4.kept hbx h3 (fun e => (ho0 kb e.symm).2 rfl)
  have hres1 : B4 w.heap.size w' (.int .i64 0) (.string ⟨#[]⟩) (.int .i64 0) (.slice none 0 0) := DrD.B4.kept h.res h3 (fun e => by have := (ho0 _ e.symm).1; omega)
  have hfin1 : Fin w w' g A n cap k B := ⟨DrD.Ok.kept h.fin.ok h3 (fun j e => by have := (ho0 j e).1; omega), grow_row h.fin.gr h3 (fun j e => by have := (ho0 j e).1; omega), hl0, Nat.lt_of_lt_of_le h.fin.z h3.size⟩
  have hapk : kb ∉ (K.mk op nm day a3 c3 (ps ++ [r])).blocks ∧ (Value.slice a3 (ps.length + 1) c3).ownBlock ≠ some kb := by
    have h9 : (Value.slice a3 (ps.length + 1) c3).ownBlock ≠ some kb := fun e => by
      rcases h5 with e2 | e2
      · exact h.ap2 (e2.symm.trans e)
      · rw [e2] at e; injection e with e; have := hbx.lt; omega
    refine ⟨fun e => ?_, h9⟩
    rw [blocks_front, List.mem_append, blocks_app, List.mem_append] at e
    rcases e with e | e | e
    · apply h9
      cases a3 with
      | none => cases ps <;> simp [frontL] at e
      | some a => cases ps <;> (simp [frontL] at e; rw [e]; rfl)
    · exact h.ap (by simp only [K.blocks, List.mem_append]; exact .inr e)
    · exact hrk e
  refine hK a3 c3 w' ?_ hbx1
  have hst : St w w' kb g A n cap k B (.mk op nm day Ax cx ps) ∨ True := .inr trivial
  have hgs := set_grown w' ⟨kb, 3, none⟩ (.slice a3 (ps.length + 1) c3)
  have hps : (ps ++ [r]).length = ps.length + 1 := by simp
  refine ⟨⟨DrD.Ok.kept hfin1.ok hgs (fun j e => by injection e with e; simp only at e; omega), grow_row hfin1.gr hgs (fun j e => by injection e with e; simp only at e; omega), hl0, by rw [World.size_setCell]; exact hfin1.z⟩, hres1.far (by simp; omega) _, ?_, ?_, hkb1, hapk.1, ?_⟩
  · simp only [K.op, K.nm, K.day, K.A, K.ps, K.cap, hps]
    exact hbx1.set3 _
  · exact keep_other hd hgs (fun j e => by
      injection e with e
      simp only at e
      subst e
      refine ⟨hapk.1, ?_⟩
      simp only [K.A, K.ps, K.cap, hps]
      exact hapk.2)
  · simp only [K.A, K.ps, K.cap, hps]
    exact hapk.2

theorem step_appX {w u : World} {kb g : Nat} {A : Option Addr} {n cap k B : Nat} {x r : K} {ops : Array Oper} {o : Oper} {a : Act} {KK : Act → World → Prop} {Q : Exit → Act → World → Prop} {E : Prop} (hgd : o.guard = none) (s y : Operand)
    (ho : o.op = .call { callee := .builtin .append, args := #[s, y], argTypes := #[24, 24] }) (h : St w u kb g A n cap k B x) (hl : x.ps.length ≤ 200) (hs : a.eval s = .slice x.A x.ps.length x.cap) (L c : Nat) (hy : a.eval y = .slice (some ⟨L, 0, none⟩) 1 c) (he : El u L 0 r)
    (hr : Dk (w.heap.size + 1) u r) (hrk : kb ∉ r.blocks) (hap : ∀ j, (Value.slice x.A x.ps.length x.cap).ownBlock = some j → j ∉ r.blocks)
    (hK : ∀ a3 c3 w1, St w (w1.setCell ⟨kb, 3, none⟩ (.slice a3 (x.ps.length + 1) c3)) kb g A n cap k B (.mk x.op x.nm x.day a3 c3 (x.ps ++ [r])) → B4 kb w1 (.int .i64 x.op) (.string x.nm) (.int .i64 x.day) (.slice x.A x.ps.length x.cap) → KK (a.put o.dst (.slice a3 (x.ps.length + 1) c3)) w1) :
    if Region.wanted o (yielded ops a.tmps) = true then Oper.wp Tryz.prog o a u KK Q else E := by
  cases x
  exact step_appC hgd s y ho h hl hs L c hy he hr hrk hap hK

theorem Dk.drew {S : Nat} {w : World} {x : K} (h : Dk S w x) : Dk S w.drew x := h.kept (row := none) (grow_drew (grow_refl w none)) (fun j e => by cases e)
theorem elLit (u : World) (r : K) (T : TypeId) : El (u.alloc (.cells #[.int .i64 r.op, .string r.nm, .int .i64 r.day, .slice r.A r.ps.length r.cap] T)) u.heap.size 0 r := ⟨by simp [go_sem], by simp [go_sem], by simp [go_sem], by simp [go_sem]⟩
/-- Another condition is drawn. -/
theorem condSt {w v : World} {kb g : Nat} {A : Option Addr} {n cap k B : Nat} {x : K} (h : St w v kb g A n cap k B x) (hk : k ≤ 960000) :
    Calls Tryz.prog 29 #[.pointer (some ⟨g, 0, none⟩)] v fun e w' => ∃ (r : K) (k' : Nat), e = .returned r.val ∧ Bq 3 r ∧ k' ≤ k + 2000 ∧ St w w' kb g A n cap k' B x ∧ Dk (w.heap.size + 1) w' r ∧ kb ∉ r.blocks ∧ (∀ j, (Value.slice x.A x.ps.length x.cap).ownBlock = some j → j ∉ r.blocks) :=
  (condition g A n cap k B v h.fin.ok hk).mono fun e w' ⟨r, k', he, hr, hk', hok, hd, hg⟩ =>
    have hb := h.box.lt
    have hz := h.fin.z
    ⟨r, k', he, hr, hk', h.step hok hg, hd.more (by omega), fun e => by have := hd.ge _ e; omega, fun j hj e => by have := (own_ge h.dk.own hj).2; have := hd.ge j e; omega⟩

theorem St.done {w v : World} {kb g m : Nat} {A : Option Addr} {n cap k k' B : Nat} {x : K} (h : St w v kb g A n cap k' B x) (hk : k' ≤ k + 9000) (hw : Wq m x) :
    cdAns (Wq m) 9000 g A n cap k B w (.returned x.val) (put4 v w.heap.size 0 (.int .i64 x.op) (.string x.nm) (.int .i64 x.day) (.slice x.A x.ps.length x.cap)) ∧ B4 w.heap.size (put4 v w.heap.size 0 (.int .i64 x.op) (.string x.nm) (.int .i64 x.day) (.slice x.A x.ps.length x.cap)) (.int .i64 x.op) (.string x.nm) (.int .i64 x.day) (.slice x.A x.ps.length x.cap) :=
  ⟨cd_pass h.fin hk h.dk (Nat.le_refl _) hw, h.res.put _ _ _ _⟩
theorem wts_head {op op' : Int} {nm nm' : ByteArray} {day day' : Int} {A A' : Option Addr} {c c' : Nat} {ps : List K} {m : Nat} (h : Wq 70 (.mk op nm day A c ps)) (hn : nm'.size ≤ 70) (hm : 140 ≤ m) : Wq m (.mk op' nm' day' A' c' ps) := by
  unfold Wq at h ⊢
  simp only [K.cond, C.wt] at h ⊢
  omega
theorem wts_snoc (ps : List C) (r : C) : wts (ps ++ [r]) = wts ps + 1 + r.wt := by
  induction ps with
  | nil => simp [wts]
  | cons p ps ih => simp only [List.cons_append, wts, ih]; omega
theorem wts_app {op op' : Int} {nm : ByteArray} {day day' : Int} {A A' : Option Addr} {c c' : Nat} {ps : List K} {r : K} {m : Nat} (h : Wq 70 (.mk op nm day A c ps)) (hr : Wq 70 r) (hm : 150 ≤ m) : Wq m (.mk op' nm day' A' c' (ps ++ [r])) := by
  unfold Wq at h hr ⊢
  simp only [K.cond, C.wt, conds_map, List.map_append, List.map_cons, List.map_nil, wts_snoc] at h ⊢
  omega
theorem wq_head {x : K} {op' : Int} {nm' : ByteArray} {day' : Int} {A' : Option Addr} {c' m : Nat} (h : Wq 70 x) (hn : nm'.size ≤ 70) (hm : 140 ≤ m) : Wq m (.mk op' nm' day' A' c' x.ps) := by cases x; exact wts_head h hn hm
theorem wq_keep {x : K} {op' : Int} {day' : Int} {A' : Option Addr} {c' m : Nat} (h : Wq 70 x) (hm : 70 ≤ m) : Wq m (.mk op' x.nm day' A' c' x.ps) := by
  cases x
  unfold Wq at h ⊢
  simp only [K.cond, C.wt, K.nm, K.ps] at h ⊢
  omega
theorem wq_app {x r : K} {op' : Int} {day' : Int} {A' : Option Addr} {c' m : Nat} (h : Wq 70 x) (hr : Wq 70 r) (hm : 150 ≤ m) : Wq m (.mk op' x.nm day' A' c' (x.ps ++ [r])) := by cases x; exact wts_app h hr hm
theorem wq_wrap {x : K} {A' : Option Addr} {c' m : Nat} (h : Wq m x) : Wq (m + 1) (.mk 4 .empty 0 A' c' [x]) := by
  unfold Wq at h ⊢
  simp only [K.cond, C.wt, conds, wts]
  simp; omega
theorem size_wrap {x : K} {A' : Option Addr} {c' : Nat} : (K.mk 4 .empty 0 A' c' [x]).cond.size = x.cond.size + 1 := by
  simp only [K.cond, C.size, conds, sizes]; omega
theorem ps_len {x : K} (h : Wq 70 x) : x.ps.length ≤ 200 := by
  cases x with
  | mk op nm day A c ps =>
    unfold Wq at h
    simp only [K.cond, C.wt, K.ps] at h ⊢
    have := wts_len (conds ps) 0 (Nat.zero_le _)
    rw [conds_len] at this
    omega
theorem Wq.more {m m' : Nat} {x : K} (h : Wq m x) (hm : m ≤ m') : Wq m' x := Nat.le_trans h hm
theorem wq_size {m : Nat} {x : K} (h : Wq m x) : x.cond.size ≤ m + 1 := by have := C.size_le x.cond; unfold Wq at h; omega

set_option maxRecDepth 100000 in
set_option maxHeartbeats 16000000 in
theorem anyCondition (g : Nat) (A : Option Addr) (n cap k B : Nat) (w : World) (h : Ok w g A n cap k B) (hk : k ≤ 900000) :
    Calls Tryz.prog 13 #[.pointer (some ⟨g, 0, none⟩)] w (cdAns (Wq 200) 9000 g A n cap k B w) := by
  obtain ⟨X, hX⟩ : ∃ X, X = w.alloc (.cells #[.int .i64 0, .string ⟨#[]⟩, .int .i64 0, .slice none 0 0] 26) := ⟨_, rfl⟩
  have F0 : Hid (Fin w X g A n cap k B) := Lib.hid (by rw [hX]; exact ⟨h.alloc _, World.grownBy_alloc w _ _, h.lt, by simp⟩)
  have P0 : Hid (B4 w.heap.size X (.int .i64 0) (.string ⟨#[]⟩) (.int .i64 0) (.slice none 0 0)) := Lib.hid (by rw [hX]; exact B4.new _ _ _ _ _ _)
  have HX := Lib.hid hX
  clear hX h
  go_enter Tryz.func13, Tryz.ntmps13
  go_wp2_with (go_at_call 29; (try rw [← HX.out]); refine (condition g A n cap k B X F0.out.ok (by omega)).mono ?_; rintro e w1 ⟨x, k1, rfl, hx, hk1, hok1, hd1, hg1⟩; refine Hid.out ?_)
  refine Lib.hid ?_
  have HW := Lib.hid (Bq.wq hx)
  obtain ⟨W, hW⟩ : ∃ W, W = w1.alloc (.cells #[.int .i64 x.op, .string x.nm, .int .i64 x.day, .slice x.A x.ps.length x.cap] 26) := ⟨_, rfl⟩
  obtain ⟨kb, hkb⟩ : ∃ kb, kb = w1.heap.size := ⟨_, rfl⟩
  have S1 : Hid (St w W kb g A n cap k1 B x) := Lib.hid (by
    have hF := F0.out.step hok1 hg1
    have hD := hd1.more (S' := w.heap.size + 1) (by have := F0.out.z; omega)
    rw [hW, hkb]
    exact ⟨hF.alloc _, (DrD.B4.kept P0.out hg1 (fun e => by injection e with e; have := F0.out.lt; omega)).alloc _, B4.new _ _ _ _ _ _, hD.alloc _, hF.z, fun e => by have := hD.lt _ e; omega, fun e => by have := (own_ge hD.own e).2; omega⟩)
  have HWW := Lib.hid hW
  have HKB := Lib.hid hkb
  clear hx hok1 hd1 hg1 hW hkb P0 F0 HX
  go_wp2_with (go_at_call 30; (try rw [← HWW.out]); refine (pick 20 (by omega) (by omega) g A n cap k1 B W S1.out.fin.ok (by omega)).mono ?_; rintro e w2 ⟨r, k2, rfl, hr2, hk2, hok2, hg2⟩; refine Hid.out ?_)
  refine Lib.hid ?_
  rw [← HKB.out]
  have S2 := Lib.hid (S1.out.step hok2 hg2)
  clear hok2 hg2 S1 HWW HKB

  by_cases h0 : r = 0
  · skip
    have q0 : ((r : Int) == 0) = true := by simp <;> omega
    clear h0
    go_wp2_with (go_at_call 30; refine (pick 8 (by omega) (by omega) g A n cap k2 B w2 S2.out.fin.ok (by omega)).mono ?_; rintro e w3 ⟨z, k3, rfl, hz3, hk3, hok3, hg3⟩; refine Hid.out ?_)
    refine Lib.hid ?_
    have S3 := Lib.hid (S2.out.step hok3 hg3)
    have S4 := Lib.hid (S3.out.put0 (z : Int))
    clear hok3 hg3
    obtain ⟨_, b0, b1, b2, b3, bf⟩ := S3.out.box
    have bf0 := bf 0
    have bf1 := bf 1
    have bf2 := bf 2
    have bf3 := bf 3
    clear bf
    have hkb := S3.out.box.lt
    have hkr := S3.out.kb1
    have hkz := S3.out.fin.z
    try simp only [mk_op, mk_nm, mk_day, mk_A, mk_ps, mk_cap] at b0 b1 b2 b3
    obtain ⟨_, c0, c1, c2, c3, _⟩ := S4.out.box
    try simp only [mk_op, mk_nm, mk_day, mk_A, mk_ps, mk_cap] at c0 c1 c2 c3
    obtain ⟨_, p0, p1, p2, p3, pf⟩ := S4.out.res
    have pf0 := pf 0
    have pf1 := pf 1
    have pf2 := pf 2
    have pf3 := pf 3
    clear pf
    obtain ⟨hf, _, t0, t1, t2, t3, _⟩ := S4.out.done (k := k) (m := 200) (by omega) (wq_keep HW.out (by omega))
    have HF := Lib.hid hf
    clear hf
    simp only [put4, mk_op, mk_nm, mk_day, mk_A, mk_ps, mk_cap, mk_val, List.length_append, List.length_cons, List.length_nil, Nat.zero_add] at t0 t1 t2 t3
    go_wp2_with fail
    have hf := HF.out
    simp only [put4, mk_op, mk_nm, mk_day, mk_A, mk_ps, mk_cap, mk_val, List.length_append, List.length_cons, List.length_nil, Nat.zero_add] at hf
    exact bodyPost_ret (v := .agg #[.int .i64 (z : Int), .string x.nm, .int .i64 x.day, .slice x.A x.ps.length x.cap]) (by simp [results, Tryz.results13, go_sem, t0, t1, t2, t3]) rfl hf
  have q0 : ((r : Int) == 0) = false := by simp <;> omega
  by_cases h1 : r = 1
  · skip
    have q1 : ((r : Int) == 1) = true := by simp <;> omega
    clear h0 h1
    have N2 : Hid (w2.heap.size ≠ g) := Lib.hid (by have := S2.out.fin.ok.lt; omega)
    go_wp2_with (go_at_call 31; refine (ofP (fun s => s.size ≤ 70) w2.heap.size _ 6 rfl (by omega) (by omega) g A n cap k2 B _ (S2.out.fin.ok.alloc _) (by omega) (heap_alloc_new w2 _) N2.out (by intro v hv; simp at hv; rcases hv with h | h | h | h | h | h <;> exact ⟨_, h, by decide⟩)).mono ?_; rintro e w3 ⟨s, k3, rfl, hss, hk3, hok3, hg3⟩; refine Hid.out ?_)
    refine Lib.hid ?_
    have S3 := Lib.hid ((S2.out.alloc _).step hok3 hg3)
    have HS := Lib.hid hss
    have S4 := Lib.hid (S3.out.put1 s (by have := HS.out; unfold maxLen; omega))
    clear hok3 hg3 hss N2
    obtain ⟨_, b0, b1, b2, b3, bf⟩ := S3.out.box
    have bf0 := bf 0
    have bf1 := bf 1
    have bf2 := bf 2
    have bf3 := bf 3
    clear bf
    have hkb := S3.out.box.lt
    have hkr := S3.out.kb1
    have hkz := S3.out.fin.z
    try simp only [mk_op, mk_nm, mk_day, mk_A, mk_ps, mk_cap] at b0 b1 b2 b3
    obtain ⟨_, c0, c1, c2, c3, _⟩ := S4.out.box
    try simp only [mk_op, mk_nm, mk_day, mk_A, mk_ps, mk_cap] at c0 c1 c2 c3
    obtain ⟨_, p0, p1, p2, p3, pf⟩ := S4.out.res
    have pf0 := pf 0
    have pf1 := pf 1
    have pf2 := pf 2
    have pf3 := pf 3
    clear pf
    obtain ⟨hf, _, t0, t1, t2, t3, _⟩ := S4.out.done (k := k) (m := 200) (by omega) (wq_head HW.out HS.out (by omega))
    have HF := Lib.hid hf
    clear hf
    simp only [put4, mk_op, mk_nm, mk_day, mk_A, mk_ps, mk_cap, mk_val, List.length_append, List.length_cons, List.length_nil, Nat.zero_add] at t0 t1 t2 t3
    go_wp2_with fail
    have hf := HF.out
    simp only [put4, mk_op, mk_nm, mk_day, mk_A, mk_ps, mk_cap, mk_val, List.length_append, List.length_cons, List.length_nil, Nat.zero_add] at hf
    exact bodyPost_ret (v := .agg #[.int .i64 x.op, .string s, .int .i64 x.day, .slice x.A x.ps.length x.cap]) (by simp [results, Tryz.results13, go_sem, t0, t1, t2, t3]) rfl hf
  have q1 : ((r : Int) == 1) = false := by simp <;> omega
  by_cases h2 : r = 2
  · skip
    have q2 : ((r : Int) == 2) = true := by simp <;> omega
    clear h0 h1 h2
    go_wp2_with (go_at_call 32; refine (anyDay g A n cap k2 B w2 S2.out.fin.ok (by omega)).mono ?_; rintro e w3 ⟨z, k3, rfl, hz3, hk3, hok3, hg3⟩; refine Hid.out ?_)
    refine Lib.hid ?_
    have S3 := Lib.hid (S2.out.step hok3 hg3)
    have S4 := Lib.hid (S3.out.put2 z)
    clear hok3 hg3 hz3
    obtain ⟨_, b0, b1, b2, b3, bf⟩ := S3.out.box
    have bf0 := bf 0
    have bf1 := bf 1
    have bf2 := bf 2
    have bf3 := bf 3
    clear bf
    have hkb := S3.out.box.lt
    have hkr := S3.out.kb1
    have hkz := S3.out.fin.z
    try simp only [mk_op, mk_nm, mk_day, mk_A, mk_ps, mk_cap] at b0 b1 b2 b3
    obtain ⟨_, c0, c1, c2, c3, _⟩ := S4.out.box
    try simp only [mk_op, mk_nm, mk_day, mk_A, mk_ps, mk_cap] at c0 c1 c2 c3
    obtain ⟨_, p0, p1, p2, p3, pf⟩ := S4.out.res
    have pf0 := pf 0
    have pf1 := pf 1
    have pf2 := pf 2
    have pf3 := pf 3
    clear pf
    obtain ⟨hf, _, t0, t1, t2, t3, _⟩ := S4.out.done (k := k) (m := 200) (by omega) (wq_keep HW.out (by omega))
    have HF := Lib.hid hf
    clear hf
    simp only [put4, mk_op, mk_nm, mk_day, mk_A, mk_ps, mk_cap, mk_val, List.length_append, List.length_cons, List.length_nil, Nat.zero_add] at t0 t1 t2 t3
    go_wp2_with fail
    have hf := HF.out
    simp only [put4, mk_op, mk_nm, mk_day, mk_A, mk_ps, mk_cap, mk_val, List.length_append, List.length_cons, List.length_nil, Nat.zero_add] at hf
    exact bodyPost_ret (v := .agg #[.int .i64 x.op, .string x.nm, .int .i64 z, .slice x.A x.ps.length x.cap]) (by simp [results, Tryz.results13, go_sem, t0, t1, t2, t3]) rfl hf
  have q2 : ((r : Int) == 2) = false := by simp <;> omega
  by_cases h3 : r = 3
  · skip
    have q3 : ((r : Int) == 3) = true := by simp <;> omega
    clear h0 h1 h2 h3
    obtain ⟨_, b0, b1, b2, b3, bf⟩ := S2.out.box
    have bf0 := bf 0
    have bf1 := bf 1
    have bf2 := bf 2
    have bf3 := bf 3
    clear bf
    have hkb := S2.out.box.lt
    have hkr := S2.out.kb1
    have hkz := S2.out.fin.z
    try simp only [mk_op, mk_nm, mk_day, mk_A, mk_ps, mk_cap] at b0 b1 b2 b3
    have HLEN := Lib.hid (ps_len HW.out)
    go_wp2_with fail
    go_region_law (first
      | (refine step_appX rfl _ _ rfl (k := k3) (r := r3) (by (repeat (first | exact S3.out | with_reducible apply St.drew | with_reducible apply St.alloc))) HLEN.out rfl _ _ rfl (by first | exact elLit _ _ _ | (refine ⟨?_, ?_, ?_, ?_⟩ <;> (simp [go_sem]; done))) (by (repeat (first | exact R3.out | with_reducible apply Dk.drew | with_reducible apply Dk.alloc))) N3.out.1 N3.out.2 ?_; intro a3 c3 w5 P5 hb5; obtain ⟨_, y0, y1, y2, y3, yf⟩ := hb5; have yf3 := yf 3; clear yf; have S5 := Lib.hid P5; clear P5)
      | (go_simp; go_at_call 29; refine (condSt (w := w) (k := k2) (x := x) (by (repeat (first | exact S2.out | with_reducible apply St.drew | with_reducible apply St.alloc))) (by omega)).mono ?_; rintro e w3 ⟨r3, k3, rfl, hr3, hk3, P3, hd3, hn3, hn4⟩; have S3 := Lib.hid P3; have R3 := Lib.hid hd3; have N3 := Lib.hid (And.intro hn3 hn4); have Q3 := Lib.hid hr3; clear hr3 P3 hd3 hn3 hn4; obtain ⟨_, x0, x1, x2, x3, xf⟩ := S3.out.box; have xf3 := xf 3; clear xf; have hkb3 := S3.out.box.lt))
    all_goals
      obtain ⟨_, b0, b1, b2, b3, bf⟩ := S5.out.box
      have bf0 := bf 0
      have bf1 := bf 1
      have bf2 := bf 2
      have bf3 := bf 3
      clear bf
      have hkb := S5.out.box.lt
      have hkr := S5.out.kb1
      have hkz := S5.out.fin.z
      try simp only [mk_op, mk_nm, mk_day, mk_A, mk_ps, mk_cap] at b0 b1 b2 b3
      try simp only [List.length_append, List.length_cons, List.length_nil, Nat.zero_add] at b3
      obtain ⟨_, p0, p1, p2, p3, pf⟩ := S5.out.res
      have pf0 := pf 0
      have pf1 := pf 1
      have pf2 := pf 2
      have pf3 := pf 3
      clear pf
      obtain ⟨hf, _, t0, t1, t2, t3, _⟩ := S5.out.done (k := k) (m := 200) (by omega) (wq_app HW.out Q3.out.wq (by omega))
      have HF := Lib.hid hf
      clear hf
      simp only [put4, mk_op, mk_nm, mk_day, mk_A, mk_ps, mk_cap, mk_val, List.length_append, List.length_cons, List.length_nil, Nat.zero_add] at t0 t1 t2 t3
      go_wp2_with fail
      have hf := HF.out
      simp only [put4, mk_op, mk_nm, mk_day, mk_A, mk_ps, mk_cap, mk_val, List.length_append, List.length_cons, List.length_nil, Nat.zero_add] at hf
      exact bodyPost_ret (v := .agg #[.int .i64 x.op, .string x.nm, .int .i64 x.day, .slice a3 (x.ps.length + 1) c3]) (by simp [results, Tryz.results13, go_sem, t0, t1, t2, t3]) rfl hf
  have q3 : ((r : Int) == 3) = false := by simp <;> omega
  by_cases h4 : r = 4
  · skip
    have q4 : ((r : Int) == 4) = true := by simp <;> omega
    clear h0 h1 h2 h3 h4
    go_wp2_with (go_at_call 30; refine (pick 3 (by omega) (by omega) g A n cap k2 B w2 S2.out.fin.ok (by omega)).mono ?_; rintro e w3 ⟨z, k3, rfl, hz3, hk3, hok3, hg3⟩; refine Hid.out ?_)
    refine Lib.hid ?_
    have S3 := Lib.hid (S2.out.step hok3 hg3)
    clear hok3 hg3 S2
    go_wp2_with fail
    go_loopg [] 200 (fun gk wr => ∃ (y : K) (t : Nat), 200 ≤ gk + t ∧ t ≤ 71 ∧ Hid (y.cond.size = t) ∧ Hid (Wq (70 + t) y) ∧ Hid (St w wr kb g A n cap k3 B y))
    case atStart => exact ⟨x, x.cond.size, by omega, wq_size HW.out, Lib.hid rfl, Lib.hid (HW.out.more (by omega)), S3⟩
    case round =>
      clear S3
      obtain ⟨y, t, hg, ht, HT, HY, SY⟩ := hrel
      have HS := l5Size y wr SY.out.dk.lies (by rw [HT.out]; omega)
      rw [HT.out] at HS
      have HSH := Lib.hid HS
      clear HS
      obtain ⟨_, b0, b1, b2, b3, bf⟩ := SY.out.box
      have bf0 := bf 0
      have bf1 := bf 1
      have bf2 := bf 2
      have bf3 := bf 3
      clear bf
      have hkb := SY.out.box.lt
      have hkr := SY.out.kb1
      have hkz := SY.out.fin.z
      try simp only [mk_op, mk_nm, mk_day, mk_A, mk_ps, mk_cap] at b0 b1 b2 b3
      by_cases hlt : t < 14 + z
      · skip
        have hlt2 : (t : Int) < 14 + (z : Int) := by omega
        go_wp2_with (go_at_call 33; refine HSH.out.mono ?_; rintro e w4 ⟨rfl, hb4⟩; refine Hid.out ?_)
        refine Lib.hid ?_
        have S4 := Lib.hid (SY.out.step (DrD.Ok.kept SY.out.fin.ok (below_grown hb4 none) (fun j e => by cases e)) (below_grown hb4 _))
        have S5 := Lib.hid S4.out.wrap
        clear hb4 b0 b1 b2 b3 bf0 bf1 bf2 bf3 hkb
        obtain ⟨_, b0, b1, b2, b3, bf⟩ := S4.out.box
        have bf0 := bf 0
        have bf1 := bf 1
        have bf2 := bf 2
        have bf3 := bf 3
        clear bf
        have hkb := S4.out.box.lt
        have hkr := S4.out.kb1
        have hkz := S4.out.fin.z
        try simp only [mk_op, mk_nm, mk_day, mk_A, mk_ps, mk_cap] at b0 b1 b2 b3
        go_wp2_with fail
        go_roundg (gk - 1)
        case measure => omega
        case rel =>
          have h5 := S5.out
          simp only [put4] at h5
          exact ⟨_, t + 1, by omega, by omega, Lib.hid (by rw [size_wrap, HT.out]), Lib.hid (wq_wrap HY.out), Lib.hid h5⟩
      · skip
        have hlt2 : ¬ (t : Int) < 14 + (z : Int) := by omega
        go_wp2_with (go_at_call 33; refine HSH.out.mono ?_; rintro e w4 ⟨rfl, hb4⟩; refine Hid.out ?_)
        refine Lib.hid ?_
        have S4 := Lib.hid (SY.out.step (DrD.Ok.kept SY.out.fin.ok (below_grown hb4 none) (fun j e => by cases e)) (below_grown hb4 _))
        clear hb4 b0 b1 b2 b3 bf0 bf1 bf2 bf3 hkb
        obtain ⟨_, b0, b1, b2, b3, bf⟩ := S4.out.box
        have bf0 := bf 0
        have bf1 := bf 1
        have bf2 := bf 2
        have bf3 := bf 3
        clear bf
        have hkb := S4.out.box.lt
        have hkr := S4.out.kb1
        have hkz := S4.out.fin.z
        try simp only [mk_op, mk_nm, mk_day, mk_A, mk_ps, mk_cap] at b0 b1 b2 b3
        obtain ⟨_, p0, p1, p2, p3, pf⟩ := S4.out.res
        have pf0 := pf 0
        have pf1 := pf 1
        have pf2 := pf 2
        have pf3 := pf 3
        clear pf
        obtain ⟨hf, _, t0, t1, t2, t3, _⟩ := S4.out.done (k := k) (m := 200) (by omega) (HY.out.more (by omega))
        have HF := Lib.hid hf
        clear hf
        simp only [put4, mk_op, mk_nm, mk_day, mk_A, mk_ps, mk_cap, mk_val, List.length_append, List.length_cons, List.length_nil, Nat.zero_add] at t0 t1 t2 t3
        go_wp2_with fail
        have hf := HF.out
        simp only [put4, mk_op, mk_nm, mk_day, mk_A, mk_ps, mk_cap, mk_val, List.length_append, List.length_cons, List.length_nil, Nat.zero_add] at hf
        exact bodyPost_ret (v := y.val) (by simp [results, Tryz.results13, go_sem, t0, t1, t2, t3]) rfl hf
  have q4 : ((r : Int) == 4) = false := by simp <;> omega
  clear h0 h1 h2 h3 h4
  obtain ⟨_, b0, b1, b2, b3, bf⟩ := S2.out.box
  have bf0 := bf 0
  have bf1 := bf 1
  have bf2 := bf 2
  have bf3 := bf 3
  clear bf
  have hkb := S2.out.box.lt
  have hkr := S2.out.kb1
  have hkz := S2.out.fin.z
  try simp only [mk_op, mk_nm, mk_day, mk_A, mk_ps, mk_cap] at b0 b1 b2 b3
  obtain ⟨_, p0, p1, p2, p3, pf⟩ := S2.out.res
  have pf0 := pf 0
  have pf1 := pf 1
  have pf2 := pf 2
  have pf3 := pf 3
  clear pf
  obtain ⟨hf, _, t0, t1, t2, t3, _⟩ := S2.out.done (k := k) (m := 200) (by omega) (HW.out.more (by omega))
  have HF := Lib.hid hf
  clear hf
  simp only [put4, mk_op, mk_nm, mk_day, mk_A, mk_ps, mk_cap, mk_val, List.length_append, List.length_cons, List.length_nil, Nat.zero_add] at t0 t1 t2 t3
  go_wp2_with fail
  have hf := HF.out
  simp only [put4, mk_op, mk_nm, mk_day, mk_A, mk_ps, mk_cap, mk_val, List.length_append, List.length_cons, List.length_nil, Nat.zero_add] at hf
  exact bodyPost_ret (v := x.val) (by simp [results, Tryz.results13, go_sem, t0, t1, t2, t3]) rfl hf

end Go.Proofs.YtlaogladhadliaaGreatDoor.DrD

namespace Go.Proofs.YtlaogladhadliaaGreatDoor.UniTM
open Go Go.Lib

theorem irr (a : List UInt8) : ¬ a < a := List.lt_irrefl a
theorem ltt {a b c : List UInt8} (h : a < b) (k : b < c) : a < c := List.lt_trans h k
theorem tri {a b : List UInt8} (h : ¬ a < b) (e : a ≠ b) : b < a := Classical.byContradiction fun k => e (List.le_antisymm (List.not_lt.1 k) (List.not_lt.1 h))
theorem le_cases {a b : List UInt8} (h : a ≤ b) : a < b ∨ a = b := Classical.byContradiction fun k => by
  have h1 : ¬ a < b := fun x => k (.inl x)
  exact k (.inr (List.le_antisymm h (List.not_lt.1 h1)))
theorem lt_le {a b : List UInt8} (h : a < b) : a ≤ b := List.not_lt.1 fun k => irr a (ltt h k)
theorem le_tr {a b c : List UInt8} (h : a ≤ b) (k : b ≤ c) : a ≤ c := by
  rcases le_cases h with h | rfl
  · rcases le_cases k with k | rfl
    · exact lt_le (ltt h k)
    · exact lt_le h
  · exact k

/-- n put into its place, if it is not there. -/
def putL : List (List UInt8) → List UInt8 → List (List UInt8)
  | [], n => [n]
  | x :: l, n => if x < n then x :: putL l n else if x = n then x :: l else n :: x :: l

def uni (a b : List (List UInt8)) : List (List UInt8) := b.foldl putL a

theorem mem_putL (l : List (List UInt8)) (n m : List UInt8) : m ∈ putL l n ↔ m = n ∨ m ∈ l := by
  induction l with
  | nil => simp [putL]
  | cons x l ih =>
    unfold putL
    by_cases h : x < n
    · simp only [h, if_true, List.mem_cons, ih]; constructor
      · rintro (h | h | h) <;> simp [h]
      · rintro (h | h | h) <;> simp [h]
    · by_cases e : x = n
      · rw [if_neg h, if_pos e, List.mem_cons]; constructor
        · rintro (h | h) <;> simp [h]
        · rintro (h | h | h)
          · exact Or.inl (h.trans e.symm)
          · exact Or.inl h
          · exact Or.inr h
      · simp only [h, e, if_false, List.mem_cons]

theorem pair_putL {l : List (List UInt8)} (h : l.Pairwise (· < ·)) (n : List UInt8) : (putL l n).Pairwise (· < ·) := by
  induction l with
  | nil => simp [putL]
  | cons x l ih =>
    have h1 := List.pairwise_cons.1 h
    unfold putL
    by_cases hx : x < n
    · simp only [hx, if_true]
      refine List.pairwise_cons.2 ⟨fun m hm => ?_, ih h1.2⟩
      rcases (mem_putL l n m).1 hm with e | e
      · subst e; exact hx
      · exact h1.1 m e
    · by_cases e : x = n
      · rw [if_neg hx, if_pos e]; exact h
      · simp only [hx, e, if_false]
        refine List.pairwise_cons.2 ⟨fun m hm => ?_, h⟩
        rcases List.mem_cons.1 hm with e' | e'
        · subst e'; exact tri hx e
        · exact ltt (tri hx e) (h1.1 m e')

theorem mem_uni (b : List (List UInt8)) : ∀ (a : List (List UInt8)) (m : List UInt8), m ∈ uni a b ↔ m ∈ a ∨ m ∈ b := by
  induction b with
  | nil => intro a m; simp [uni]
  | cons x b ih =>
    intro a m
    have := ih (putL a x) m
    unfold uni at this ⊢
    rw [List.foldl_cons, this, mem_putL, List.mem_cons]
    constructor
    · rintro ((h | h) | h) <;> simp [h]
    · rintro (h | h | h) <;> simp [h]

theorem pair_uni (b : List (List UInt8)) : ∀ {a : List (List UInt8)}, a.Pairwise (· < ·) → (uni a b).Pairwise (· < ·) := by
  induction b with
  | nil => intro a h; exact h
  | cons x b ih => intro a h; exact ih (pair_putL h x)

theorem length_putL (l : List (List UInt8)) (n : List UInt8) : (putL l n).length ≤ l.length + 1 := by
  induction l with
  | nil => simp [putL]
  | cons x l ih =>
    unfold putL
    by_cases h : x < n
    · simp only [h, if_true, List.length_cons]; omega
    · by_cases e : x = n <;> simp [h, e, irr]

theorem length_uni (b : List (List UInt8)) : ∀ (a : List (List UInt8)), (uni a b).length ≤ a.length + b.length := by
  induction b with
  | nil => intro a; simp [uni]
  | cons x b ih =>
    intro a
    have h1 := ih (putL a x)
    have h2 := length_putL a x
    have e : uni a (x :: b) = uni (putL a x) b := rfl
    rw [e, List.length_cons]; omega

theorem uni_snoc (a b : List (List UInt8)) (x : List UInt8) : uni a (b ++ [x]) = putL (uni a b) x := by simp [uni]

/-- Two lists that rise strictly and have the same members are one. -/
theorem eq_of_mem : ∀ {a b : List (List UInt8)}, a.Pairwise (· < ·) → b.Pairwise (· < ·) → (∀ m, m ∈ a ↔ m ∈ b) → a = b := by
  intro a
  induction a with
  | nil =>
    intro b _ _ h
    cases b with
    | nil => rfl
    | cons y b => exact absurd ((h y).2 (by simp)) (by simp)
  | cons x a ih =>
    intro b ha hb h
    cases b with
    | nil => exact absurd ((h x).1 (by simp)) (by simp)
    | cons y b =>
      have h1 := List.pairwise_cons.1 ha
      have h2 := List.pairwise_cons.1 hb
      have e : x = y := by
        rcases List.mem_cons.1 ((h x).1 (by simp)) with e | e
        · exact e
        · rcases List.mem_cons.1 ((h y).2 (by simp)) with e' | e'
          · exact e'.symm
          · exact absurd (ltt (h2.1 x e) (h1.1 y e')) (irr _)
      subst e
      congr 1
      refine ih h1.2 h2.2 (fun m => ?_)
      constructor
      · intro hm
        rcases List.mem_cons.1 ((h m).1 (by simp [hm])) with e | e
        · rw [e] at hm; exact absurd (h1.1 _ hm) (irr _)
        · exact e
      · intro hm
        rcases List.mem_cons.1 ((h m).2 (by simp [hm])) with e | e
        · rw [e] at hm; exact absurd (h2.1 _ hm) (irr _)
        · exact e

/-- n's place in l. -/
theorem putL_at : ∀ (l : List (List UInt8)) (n : List UInt8) (k : Nat), k ≤ l.length → (∀ j, j < k → l.getD j [] < n) → (k < l.length → n ≤ l.getD k []) →
    putL l n = if k < l.length ∧ l.getD k [] = n then l else (l.take k ++ [n]) ++ l.drop k := by
  intro l
  induction l with
  | nil =>
    intro n k hk _ _
    have : k = 0 := by simpa using hk
    subst this
    simp [putL]
  | cons x l ih =>
    intro n k hk hlo hhi
    cases k with
    | zero =>
      have h1 : n ≤ x := by simpa using hhi (by simp)
      unfold putL
      by_cases e : x = n
      · simp [e, irr]
      · have : ¬ x < n := fun k => by
          rcases le_cases h1 with h1 | h1
          · exact irr _ (ltt k h1)
          · exact e h1.symm
        simp [e, this]
    | succ k =>
      have h1 : x < n := by simpa using hlo 0 (by omega)
      have := ih n k (by simpa using hk) (fun j hj => by simpa using hlo (j + 1) (by omega)) (fun hj => by simpa using hhi (by simpa using hj))
      unfold putL
      rw [if_pos h1, this]
      by_cases c : k < l.length ∧ l.getD k [] = n
      · have c' : k + 1 < (x :: l).length ∧ (x :: l).getD (k + 1) [] = n := by simpa using c
        rw [if_pos c, if_pos c']
      · have c' : ¬ (k + 1 < (x :: l).length ∧ (x :: l).getD (k + 1) [] = n) := by simpa using c
        rw [if_neg c, if_neg c']; simp

theorem get_bang (zs : List (List UInt8)) {i : Nat} (h : i < zs.length) : zs.toArray[i]! = zs[i] := by simp [h]

theorem compactUp (zs : List (List UInt8)) (h : zs.Pairwise (· ≤ ·)) : ∀ m, m ≤ zs.length →
    (compactUpTo zs.toArray m).Pairwise (· < ·) ∧ (∀ x, x ∈ compactUpTo zs.toArray m ↔ x ∈ zs.take m) := by
  intro m
  induction m with
  | zero => intro _; simp [compactUpTo]
  | succ m ih =>
    intro hm
    obtain ⟨h1, h2⟩ := ih (by omega)
    rw [compactUpTo_succ]
    have ht : zs.take (m + 1) = zs.take m ++ [zs[m]'(by omega)] := List.take_succ_eq_append_getElem (by omega)
    have hle : ∀ x ∈ zs.take m, x ≤ zs[m]'(by omega) := fun x hx => by
      obtain ⟨i, hi, e⟩ := List.mem_iff_getElem.1 hx
      have hi' : i < m := by simp at hi; omega
      rw [List.getElem_take] at e
      subst e
      exact List.pairwise_iff_getElem.1 h i m (by omega) (by omega) hi'
    rw [ht, get_bang zs (by omega)]
    by_cases c : keeps zs.toArray m = true
    · rw [if_pos c]
      have hlt : ∀ x ∈ zs.take m, x < zs[m]'(by omega) := fun x hx => by
        obtain ⟨i, hi, e⟩ := List.mem_iff_getElem.1 hx
        have hi' : i < m := by simp at hi; omega
        rw [List.getElem_take] at e
        subst e
        have c1 : zs[m]'(by omega) ≠ zs[m - 1]'(by omega) := by
          have c0 := of_decide_eq_true c
          rw [get_bang zs (show m < zs.length by omega), get_bang zs (show m - 1 < zs.length by omega)] at c0
          rcases c0 with c0 | c0
          · omega
          · exact c0
        have c2 := List.pairwise_iff_getElem.1 h (m - 1) m (by omega) (by omega) (by omega)
        have c4 : zs[m - 1]'(by omega) < zs[m]'(by omega) := by
          rcases le_cases c2 with c2 | c2
          · exact c2
          · exact absurd c2.symm c1
        by_cases e : i = m - 1
        · subst e; exact c4
        · have c3 := List.pairwise_iff_getElem.1 h i (m - 1) (by omega) (by omega) (by omega)
          rcases le_cases c3 with c3 | c3
          · exact ltt c3 c4
          · rw [c3]; exact c4
      refine ⟨?_, fun x => by rw [List.mem_append, List.mem_append, h2 x]⟩
      rw [List.pairwise_append]
      exact ⟨h1, by simp, fun x hx y hy => by
        have : y = zs[m]'(by omega) := by simpa using hy
        subst this; exact hlt x ((h2 x).1 hx)⟩
    · have hm0 : m ≠ 0 := fun e => c (by subst e; exact keeps_lt_one _ 0 (by omega))
      have e1 : zs[m]'(by omega) = zs[m - 1]'(by omega) := Classical.byContradiction fun e => c (keeps_pos (by
        rw [get_bang zs (show m < zs.length by omega), get_bang zs (show m - 1 < zs.length by omega)]; exact e))
      rw [if_neg c, List.append_nil]
      refine ⟨h1, fun x => ?_⟩
      rw [h2 x, List.mem_append]
      constructor
      · exact Or.inl
      · rintro (hx | hx)
        · exact hx
        · have : x = zs[m]'(by omega) := by simpa using hx
          rw [this, e1]
          exact List.mem_iff_getElem.2 ⟨m - 1, by simp; omega, by rw [List.getElem_take]⟩

/-- Sorting and striking equal neighbours gives the union. -/
theorem compact_sort (a b : List (List UInt8)) (ha : a.Pairwise (· < ·)) : compact ((a ++ b).mergeSort fun x y => decide (x ≤ y)) = uni a b := by
  have hs : ((a ++ b).mergeSort fun x y => decide (x ≤ y)).Pairwise (· ≤ ·) := by
    have := List.pairwise_mergeSort (le := fun x y : List UInt8 => decide (x ≤ y)) (fun a b c h1 h2 => by simp only [decide_eq_true_eq] at *; exact le_tr h1 h2) (fun a b => by simp only [Bool.or_eq_true, decide_eq_true_eq]; exact List.le_total a b) (a ++ b)
    exact this.imp (fun h => by simpa using h)
  obtain ⟨h1, h2⟩ := compactUp _ hs _ (Nat.le_refl _)
  refine eq_of_mem h1 (pair_uni b ha) (fun m => ?_)
  unfold compact
  rw [h2 m, List.take_length, List.mem_mergeSort, List.mem_append, mem_uni]

end Go.Proofs.YtlaogladhadliaaGreatDoor.UniTM

namespace Go.Proofs.YtlaogladhadliaaGreatDoor.Row
open Go.RowKit Go.Proofs.YtlaogladhadliaaGreatDoor.Plain

theorem block_add (a : Addr) (n : Nat) : (a.add n).block = a.block := by unfold Addr.add; split <;> rfl

/-- The slice that begins at A holds the strings ss, below block B. -/
def Is (w : World) (B : Nat) (A : Option Addr) (ss : List ByteArray) : Prop :=
  0 < ss.length → ∃ ad, A = some ad ∧ ad.block < B ∧ ∀ j, ∀ h : j < ss.length, w.cell? (ad.add j) = some (.string ss[j])

theorem Is.below {w w' : World} {B : Nat} {A : Option Addr} {ss : List ByteArray} (h : Is w B A ss) (hb : Below B w w') : Is w' B A ss := fun hp => by
  obtain ⟨ad, e, hB, hc⟩ := h hp
  exact ⟨ad, e, hB, fun j hj => (hb.cell (by rw [block_add]; exact hB)).trans (hc j hj)⟩

theorem Is.more {w : World} {B B' : Nat} {A : Option Addr} {ss : List ByteArray} (h : Is w B A ss) (hB : B ≤ B') : Is w B' A ss := fun hp => by
  obtain ⟨ad, e, hB', hc⟩ := h hp
  exact ⟨ad, e, by omega, hc⟩

theorem Is.of_own {w : World} {base n cap : Nat} {A : Option Addr} {ss : List ByteArray} (h : w.ownsRow base 9 1 (.slice A n cap) n (ss.map Value.string)) (hn : n = ss.length) : Is w w.heap.size A ss := fun hp => by
  subst hn
  rcases h.2 with ⟨hv, h0⟩ | ⟨g, c, cur, hv, _, hh, _⟩
  · omega
  · injection hv with h1 h2 h3
    subst h1; subst h3
    refine ⟨_, rfl, (Array.getElem?_eq_some_iff.1 hh).1, fun j hj => ?_⟩
    have := h.cells (g := g) rfl j (.string ss[j]) (by simp [hj])
    exact this

/-- The letters and elements of some strings. -/
def sizes (ss : List ByteArray) : Nat := (ss.map (·.size)).sum

theorem sizes_step {ss : List ByteArray} {k : Nat} (hk : k < ss.length) : sizes (ss.take (k + 1)) = sizes (ss.take k) + ss[k].size := by
  unfold sizes
  rw [List.take_succ_eq_append_getElem hk]
  simp only [List.map_append, List.sum_append, List.map_cons, List.map_nil, List.sum_cons, List.sum_nil, Nat.add_zero]

theorem sizes_take_le (ss : List ByteArray) (k : Nat) : sizes (ss.take k) ≤ sizes ss := by
  have e : ss = ss.take k ++ ss.drop k := (List.take_append_drop k ss).symm
  have h : sizes ss = sizes (ss.take k) + sizes (ss.drop k) := by
    conv => lhs; rw [e]
    unfold sizes; simp only [List.map_append, List.sum_append]
  omega

def szAns (ss : List ByteArray) (w : World) (e : Ending) (w' : World) : Prop :=
  w = w' ∧ ((sizes ss + ss.length ≤ 1048576 ∧ e = .returned (.int .i64 (1048576 - (sizes ss + ss.length : Nat)))) ∨ (1048576 < sizes ss + ss.length ∧ e = .returned (.int .i64 (-1))))

theorem infoStr : (Tryz.prog.info? 9).map (fun i => (i.zero, i.size, i.bytes)) = some (some (.string ByteArray.empty), 1, 16) := by kernel_rfl

/-- A row of n strings: the first k are told, the others are empty. -/
def upTo (ss : List ByteArray) (n k : Nat) : List Value := (ss.take k).map Value.string ++ List.replicate (n - k) (.string ByteArray.empty)

theorem upTo_set {ss : List ByteArray} {n k : Nat} (hn : n = ss.length) (hk : k < n) : (upTo ss n k).set k (.string (ss[k]'(by omega))) = upTo ss n (k + 1) := by
  subst hn
  unfold upTo
  have hl : ((ss.take k).map Value.string).length = k := by simp; omega
  rw [List.set_append_right _ _ (by omega), hl, Nat.sub_self, List.take_succ_eq_append_getElem hk, List.map_append,
    show ss.length - k = (ss.length - (k + 1)) + 1 by omega, List.replicate_succ, List.set_cons_zero]
  simp

end Go.Proofs.YtlaogladhadliaaGreatDoor.Row

namespace Go.Proofs.YtlaogladhadliaaGreatDoor.Cond
open Go.RowKit

/-- Strings by their bytes: less. -/
def sl (a b : ByteArray) : Bool := Op.bytesLess a.toList b.toList
/-- Element j of a fact list is a name, greater than the one before. -/
def fAt (ss : List ByteArray) (j : Nat) : Prop := ∀ h : j < ss.length, isNm ss[j] = true ∧ (0 < j → sl (ss[j - 1]'(by omega)) ss[j] = true)
/-- A fact list. -/
def FOk (ss : List ByteArray) : Prop := ss.length ≤ 16 ∧ ∀ j, j < ss.length → fAt ss j

theorem fAt_of {ss : List ByteArray} {k : Nat} (hk : k < ss.length) {p : ByteArray} (hp : p = ss[k]) (h1 : isNm p = true) (h2 : ∀ h : 0 < k, sl (ss[k - 1]'(by omega)) p = true) : fAt ss k := fun h => by
  subst hp
  exact ⟨h1, h2⟩

set_option maxHeartbeats 1000000 in
theorem isFactList (A : Option Addr) (n cap : Nat) (ss : List ByteArray) (B : Nat) (w : World) (hn : n = ss.length) (hm : n ≤ 1048576) (hA : Row.Is w B A ss) (hs : ∀ p ∈ ss, p.size ≤ maxLen) (f : Bool) (hf : f = true ↔ FOk ss) :
    Calls Tryz.prog 17 #[.slice A n cap] w fun e w' => e = .returned (.bool f) ∧ w = w' := by
  have HN := Lib.hid hn
  have HF := Lib.hid hf
  clear hn hf
  have HFN : Hid (∀ j, ∀ h : j < ss.length, ¬ (isNm ss[j] = true ∧ (0 < j → sl (ss[j - 1]'(by omega)) ss[j] = true)) → f = false) := Lib.hid fun j h hno => by
    cases hv : f with
    | false => rfl
    | true => exact absurd ((HF.out.1 hv).2 j h h) hno
  by_cases hbig : n ≤ 16
  · have hb2 : ¬ (16 : Int) < (n : Int) := by omega
    go_enter Tryz.func17, Tryz.ntmps17
    go_wp2_with fail
    go_loopw [10] (fun i wr => ∃ k : Nat, k ≤ n ∧ i = .int .i64 k ∧ Hid (∀ j, j < k → fAt ss j) ∧ w = wr) (fun i _ => n - (intOf i).toNat)
    case atStart => exact ⟨0, Nat.zero_le _, rfl, Lib.hid fun j hj => by omega, rfl⟩
    case round =>
      obtain ⟨k, hk, rfl, HK, rfl⟩ := hrel
      by_cases hlt : k < n
      · have hk' : k < ss.length := by have := HN.out; omega
        obtain ⟨ad, rfl, hB, hc⟩ := hA (by omega)
        obtain ⟨p, hp⟩ : ∃ p, p = ss[k] := ⟨_, rfl⟩
        have hcell : w.cell? (ad.add k) = some (.string p) := by rw [hp]; exact hc k hk'
        have HV := isValidName p (by rw [hp]; exact hs _ (List.getElem_mem hk')) w
        have HP := Lib.hid hp
        obtain ⟨v, hv⟩ : ∃ v, v = isNm p := ⟨_, rfl⟩
        rw [← hv] at HV
        have HVH := Lib.hid HV
        have HVV := Lib.hid hv
        clear hv HV
        cases v
        · have HE : Hid (f = false) := Lib.hid (HFN.out k hk' (fun h => by rw [← HP.out, ← HVV.out] at h; exact absurd h.1 (by simp)))
          clear hp hc
          go_wp2_with (go_at_call 40; refine HVH.out.mono ?_; rintro e w' ⟨rfl, rfl⟩)
          go_ret
          exact ⟨by rw [HE.out]; rfl, rfl⟩
        · by_cases h0 : 0 < k
          · obtain ⟨q, hq⟩ : ∃ q, q = ss[k - 1]'(by omega) := ⟨_, rfl⟩
            have hcell2 : w.cell? (ad.add (k - 1)) = some (.string q) := by rw [hq]; exact hc (k - 1) (by omega)
            have HQ := Lib.hid hq
            obtain ⟨u, hu⟩ : ∃ u, u = Op.bytesLess q.toList p.toList := ⟨_, rfl⟩
            have HU := Lib.hid hu
            have hu' := hu.symm
            have h0' : (0 : Int) < (k : Int) := by omega
            clear hp hq hc hu
            cases u
            · have HE : Hid (f = false) := Lib.hid (HFN.out k hk' (fun h => by
                have := h.2 h0
                unfold sl at this
                rw [← HP.out, ← HQ.out, ← HU.out] at this
                cases this))
              go_wp2_with (go_at_call 40; refine HVH.out.mono ?_; rintro e w' ⟨rfl, rfl⟩)
              go_ret
              exact ⟨by rw [HE.out]; rfl, rfl⟩
            · go_wp2_with (go_at_call 40; refine HVH.out.mono ?_; rintro e w' ⟨rfl, rfl⟩)
              go_roundw
              case rel => exact ⟨k + 1, by omega, by go_num, Lib.hid fun j hj => by
                by_cases e : j = k
                · subst e
                  exact fAt_of hk' HP.out HVV.out.symm (fun _ => by unfold sl; rw [← HQ.out]; exact HU.out.symm)
                · exact HK.out j (by omega), trivial⟩
              case measure => simp [intOf]; omega
          · have h0' : ¬ (0 : Int) < (k : Int) := by omega
            clear hp hc
            go_wp2_with (go_at_call 40; refine HVH.out.mono ?_; rintro e w' ⟨rfl, rfl⟩)
            go_roundw
            case rel => exact ⟨k + 1, by omega, by go_num, Lib.hid fun j hj => by
              by_cases e : j = k
              · subst e
                exact fAt_of hk' HP.out HVV.out.symm (fun h => absurd h h0)
              · exact HK.out j (by omega), trivial⟩
            case measure => simp [intOf]; omega
      · have HE : Hid (f = true) := Lib.hid (HF.out.2 ⟨by have := HN.out; omega, fun j hj => HK.out j (by have := HN.out; omega)⟩)
        go_wp2_with fail
        go_ret
        exact ⟨by rw [HE.out]; rfl, rfl⟩
  · have hb2 : (16 : Int) < (n : Int) := by omega
    have HE : Hid (f = false) := Lib.hid (by
      cases hv : f with
      | false => rfl
      | true => exact absurd (HF.out.1 hv).1 (by have := HN.out; omega))
    rw [HE.out]
    go_enter Tryz.func17, Tryz.ntmps17
    go_wp2_with fail
    go_ret
    exact ⟨rfl, rfl⟩

set_option maxHeartbeats 2000000 in
theorem l5Facts (A : Option Addr) (n cap : Nat) (ss : List ByteArray) (B : Nat) (w : World) (hn : n = ss.length) (hm : n ≤ 1048576) (hA : Row.Is w B A ss) (f : Bool) (hf : f = true ↔ FOk ss) :
    Calls Tryz.prog 24 #[.slice A n cap] w fun e w' => e = .returned (.bool f) ∧ ∃ m, w' = w.drewN m := by
  have HN := Lib.hid hn
  have HF := Lib.hid hf
  clear hn hf
  have HFN : Hid (∀ j, ∀ h : j < ss.length, ¬ (isNm ss[j] = true ∧ (0 < j → sl (ss[j - 1]'(by omega)) ss[j] = true)) → f = false) := Lib.hid fun j h hno => by
    cases hv : f with
    | false => rfl
    | true => exact absurd ((HF.out.1 hv).2 j h h) hno
  go_enter Tryz.func24, Tryz.ntmps24
  go_wp2_with fail
  go_loopw [3] (fun i wr => ∃ k : Nat, k ≤ n ∧ i = .int .i64 k ∧ Hid (∀ j, j < k → fAt ss j) ∧ Hid (∃ m, wr = w.drewN m)) (fun i _ => n - (intOf i).toNat)
  case atStart => exact ⟨0, Nat.zero_le _, rfl, Lib.hid fun j hj => by omega, Lib.hid ⟨0, rfl⟩⟩
  case round =>
    obtain ⟨k, hk, rfl, HK, HW⟩ := hrel
    have HCL : Hid (∀ a, wr.cell? a = w.cell? a) := Lib.hid fun a => by obtain ⟨m, rfl⟩ := HW.out; rfl
    have HDR : Hid (∀ q, ∃ m, wr.drewN q = w.drewN m) := Lib.hid fun q => by obtain ⟨m, hm⟩ := HW.out; exact ⟨m + q, by rw [hm, World.drewN_drewN]⟩
    by_cases hlt : k < n
    · have i0 : (0 : Int) ≤ (k : Int) := by omega
      have i1 : (k : Int) < (n : Int) := by omega
      by_cases h16 : k ≤ 16
      · have h16' : (k : Int) ≤ 16 := by omega
        have hk' : k < ss.length := by have := HN.out; omega
        obtain ⟨ad, rfl, hB, hc⟩ := hA (by omega)
        obtain ⟨p, hp⟩ : ∃ p, p = ss[k] := ⟨_, rfl⟩
        have hcell : wr.cell? (ad.add k) = some (.string p) := by rw [HCL.out, hp]; exact hc k hk'
        have HV : ∀ v, Calls Tryz.prog 46 #[.string p] v fun e w' => e = .returned (.bool (isNm p)) ∧ ∃ m, w' = v.drewN m := fun v => (l5Name p v).mono fun e w' ⟨he, hw⟩ => ⟨he, 0, hw.symm⟩
        have HP := Lib.hid hp
        obtain ⟨v, hv⟩ : ∃ v, v = isNm p := ⟨_, rfl⟩
        rw [← hv] at HV
        have HVH := Lib.hid HV
        have HVV := Lib.hid hv
        clear hv HV
        cases v
        · have HE : Hid (f = false) := Lib.hid (HFN.out k hk' (fun h => by rw [← HP.out, ← HVV.out] at h; exact absurd h.1 (by simp)))
          clear hp hc
          go_wp2_with fail
          go_quiet ((go_at_call 46; with_reducible exact Calls.quiet_of (HVH.out _)))
          go_wp2_with fail
          go_ret
          exact ⟨by rw [HE.out]; rfl, HDR.out _⟩
        · by_cases h0 : 0 < k
          · obtain ⟨q, hq⟩ : ∃ q, q = ss[k - 1]'(by omega) := ⟨_, rfl⟩
            have hcell2 : wr.cell? (ad.add (k - 1)) = some (.string q) := by rw [HCL.out, hq]; exact hc (k - 1) (by omega)
            have HQ := Lib.hid hq
            obtain ⟨u, hu⟩ : ∃ u, u = Op.bytesLess q.toList p.toList := ⟨_, rfl⟩
            have HU := Lib.hid hu
            have hu' := hu.symm
            have h0' : (0 : Int) < (k : Int) := by omega
            have h1' : IntKind.i64.wrap ((k : Int) - 1) = ((k - 1 : Nat) : Int) := by rw [IntKind.wrap_i64]; omega
            have j0 : (0 : Int) ≤ ((k - 1 : Nat) : Int) := by omega
            have j1 : ((k - 1 : Nat) : Int) < (n : Int) := by omega
            clear hp hq hc hu
            cases u
            · have HE : Hid (f = false) := Lib.hid (HFN.out k hk' (fun h => by
                have := h.2 h0
                unfold sl at this
                rw [← HP.out, ← HQ.out, ← HU.out] at this
                cases this))
              go_wp2_with fail
              go_quiet ((go_at_call 46; with_reducible exact Calls.quiet_of (HVH.out _)))
              go_wp2_with fail
              go_ret
              exact ⟨by rw [HE.out]; rfl, HDR.out _⟩
            · go_wp2_with fail
              go_quiet ((go_at_call 46; with_reducible exact Calls.quiet_of (HVH.out _)))
              go_wp2_with fail
              go_roundw
              case rel => exact ⟨k + 1, by omega, by go_num, Lib.hid fun j hj => by
                by_cases e : j = k
                · subst e
                  exact fAt_of hk' HP.out HVV.out.symm (fun _ => by unfold sl; rw [← HQ.out]; exact HU.out.symm)
                · exact HK.out j (by omega), Lib.hid (HDR.out _)⟩
              case measure => simp [intOf]; omega
          · have h0' : ¬ (0 : Int) < (k : Int) := by omega
            clear hp hc
            go_wp2_with fail
            go_quiet ((go_at_call 46; with_reducible exact Calls.quiet_of (HVH.out _)))
            go_wp2_with fail
            go_roundw
            case rel => exact ⟨k + 1, by omega, by go_num, Lib.hid fun j hj => by
              by_cases e : j = k
              · subst e
                exact fAt_of hk' HP.out HVV.out.symm (fun h => absurd h h0)
              · exact HK.out j (by omega), Lib.hid (HDR.out _)⟩
            case measure => simp [intOf]; omega
      · have h16' : ¬ (k : Int) ≤ 16 := by omega
        have HE : Hid (f = false) := Lib.hid (by
          cases hv : f with
          | false => rfl
          | true => exact absurd (HF.out.1 hv).1 (by have := HN.out; omega))
        have hb2 : ¬ (n : Int) ≤ 16 := by omega
        go_wp2_with fail
        go_ret
        exact ⟨by rw [HE.out]; simp, HW.out⟩
    · have HE : Hid (f = decide (n ≤ 16)) := Lib.hid (by
        by_cases h : n ≤ 16
        · rw [decide_eq_true h]
          exact HF.out.2 ⟨by have := HN.out; omega, fun j hj => HK.out j (by have := HN.out; omega)⟩
        · rw [decide_eq_false h]
          cases hv : f with
          | false => rfl
          | true => exact absurd (HF.out.1 hv).1 (by have := HN.out; omega))
      have i1 : ¬ (k : Int) < (n : Int) := by omega
      have e : decide ((n : Int) ≤ 16) = decide (n ≤ 16) := decide_eq_decide.2 (by omega)
      go_wp2_with fail
      go_ret
      exact ⟨by rw [HE.out, ← e]; rfl, HW.out⟩

end Go.Proofs.YtlaogladhadliaaGreatDoor.Cond

namespace Go.Proofs.YtlaogladhadliaaGreatDoor.UniT
open Go.RowKit Go.Sort Go.Proofs.YtlaogladhadliaaGreatDoor.UniTM
set_option linter.unusedVariables false
set_option linter.unusedSimpArgs false

/-- The slice that begins at A holds the strings, below block B. -/
def Is (w : World) (B : Nat) (A : Option Addr) (zs : List (List UInt8)) : Prop :=
  0 < zs.length → ∃ ad, A = some ad ∧ ad.block < B ∧ ∀ j, ∀ h : j < zs.length, w.cell? (ad.add j) = some (encStr zs[j])
theorem Is.below {w w' : World} {B : Nat} {A : Option Addr} {ss : List (List UInt8)} (h : Is w B A ss) (hb : Below B w w') : Is w' B A ss := fun hp => by
  obtain ⟨ad, e, hB, hc⟩ := h hp
  exact ⟨ad, e, hB, fun j hj => (hb.cell (by rw [Row.block_add]; exact hB)).trans (hc j hj)⟩
theorem Is.more {w : World} {B B' : Nat} {A : Option Addr} {ss : List (List UInt8)} (h : Is w B A ss) (hB : B ≤ B') : Is w B' A ss := fun hp => by
  obtain ⟨ad, e, hB', hc⟩ := h hp
  exact ⟨ad, e, by omega, hc⟩
theorem Is.of_own {w : World} {base n cap : Nat} {A : Option Addr} {ss : List (List UInt8)} (h : w.ownsRow base 9 1 (.slice A n cap) n (ss.map encStr)) (hn : n = ss.length) : Is w w.heap.size A ss := fun hp => by
  subst hn
  rcases h.2 with ⟨hv, h0⟩ | ⟨g, c, cur, hv, _, hh, _⟩
  · omega
  · injection hv with h1 h2 h3
    subst h1; subst h3
    refine ⟨_, rfl, (Array.getElem?_eq_some_iff.1 hh).1, fun j hj => ?_⟩
    have := h.cells (g := g) rfl j (encStr ss[j]) (by simp [hj])
    exact this
/-- The strings of a row. -/
abbrev strs (D : List (List UInt8)) : List ByteArray := D.map fun l => ⟨l.toArray⟩
theorem map_strs (D : List (List UInt8)) : D.map encStr = (strs D).map Value.string := by simp [strs, encStr]
theorem getD_get (zs : List (List UInt8)) {k : Nat} (h : k < zs.length) : zs.getD k [] = zs[k] := by simp [List.getD, h]

abbrev Own (w : World) (S : Nat) (v : Value) (D : List (List UInt8)) : Prop := w.ownsRow S 9 1 v D.length (D.map encStr)

theorem one_ints (zs : List (List UInt8)) : ∀ u ∈ zs.map encStr, u.oneCell' = true := fun u hu => by
  obtain ⟨q, _, rfl⟩ := List.mem_map.1 hu
  rfl

theorem own_form {S : Nat} {w : World} {v : Value} {n : Nat} {xs : List Value} (h : w.ownsRow S 9 1 v n xs) : ∃ a c, v = .slice a n c := by
  rcases h.2 with ⟨hv, h0⟩ | ⟨g', c, cur, hv, _⟩
  · exact ⟨none, 0, by rw [hv, h0]⟩
  · exact ⟨_, c, hv⟩

/-- A row of ints that the call owns, and a slice of ints behind it. -/
theorem app_run (u : World) (S : Nat) (ty : TypeId) (v : Value) (D : List (List UInt8)) (h : Own u S v D) (A : Option Addr) (m c B : Nat) (zs : List (List UInt8)) (hm : m = zs.length) (hI : Is u B A zs) (hc : A = none → c = 0) (hl : D.length + m ≤ 1000000) (hS : S ≤ u.heap.size) :
    ∃ a3 c3 w1, (Builtin.append_ #[27, 27] ty #[v, .slice A m c]).run Tryz.prog u = .ok (.slice a3 (D.length + m) c3) w1 ∧ Own w1 S (.slice a3 (D.length + m) c3) (D ++ zs) ∧ u.grownBy w1 v.ownBlock ∧
      ((Value.slice a3 (D.length + m) c3).ownBlock = v.ownBlock ∨ (Value.slice a3 (D.length + m) c3).ownBlock = some u.heap.size) := by
  subst hm
  obtain ⟨i0, hi, hz0, hz1, hz2⟩ := info_parts Row.infoStr
  cases A with
  | none =>
    have hz : zs = [] := Classical.byContradiction fun e => by
      obtain ⟨ad, e', _⟩ := hI (List.length_pos_iff.2 e)
      cases e'
    subst hz
    rw [hc rfl]
    obtain ⟨a3, c3, e⟩ := own_form h
    refine ⟨a3, c3, u, ?_, ?_, ⟨rfl, rfl, rfl, Nat.le_refl _, fun _ _ _ => rfl⟩, Or.inl ?_⟩
    · have := run_append_owned_none (P := Tryz.prog) (w := u) S 27 ty 9 i0 1 Tryz.underlying27 hi v _ _ h
      rw [List.length_nil, this, e, Nat.add_zero]
    · rw [e] at h; unfold Own; simpa using h
    · rw [e]; simp
  | some ad =>
    obtain ⟨v', w', hr, h2, h3, _, h5⟩ := run_append_own_at (P := Tryz.prog) u S 27 ty 9 i0 (.string ByteArray.empty) 1 16 Tryz.underlying27 hi hz0 hz1 hz2 rfl (by decide) v D.length (D.map encStr) h ad zs.length c (zs.map encStr) (by simp)
      (fun j u' hu => by
        have hj : j < zs.length := by
          rcases Nat.lt_or_ge j zs.length with h | h
          · exact h
          · rw [List.getElem?_eq_none (by simpa using h)] at hu; cases hu
        obtain ⟨ad', e', _, hcell⟩ := hI (by omega)
        cases e'
        rw [hcell j hj]
        simpa [hj] using hu) (one_ints zs) (by unfold maxLen; omega) (by omega) hS
    obtain ⟨a3, c3, rfl⟩ := own_form h2
    exact ⟨a3, c3, w', hr, by unfold Own; simpa using h2, h3, h5⟩

theorem step_app {u : World} {ops : Array Oper} {o : Oper} {a : Act} {K : Act → World → Prop} {Q : Exit → Act → World → Prop} {E : Prop} (hgd : o.guard = none) (s x : Operand)
    (ho : o.op = .call { callee := .builtin .append, args := #[s, x], argTypes := #[27, 27] }) (S : Nat) (v : Value) (D : List (List UInt8)) (hs : a.eval s = v) (h : Own u S v D) (A : Option Addr) (m c B : Nat) (zs : List (List UInt8)) (hx : a.eval x = .slice A m c) (hm : m = zs.length) (hI : Is u B A zs) (hc : A = none → c = 0) (hl : D.length + m ≤ 1000000) (hS : S ≤ u.heap.size)
    (hK : ∀ a3 c3 w1, Own w1 S (.slice a3 (D.length + m) c3) (D ++ zs) → u.grownBy w1 v.ownBlock → ((Value.slice a3 (D.length + m) c3).ownBlock = v.ownBlock ∨ (Value.slice a3 (D.length + m) c3).ownBlock = some u.heap.size) → K (a.put o.dst (.slice a3 (D.length + m) c3)) w1) :
    if Region.wanted o (yielded ops a.tmps) = true then Oper.wp Tryz.prog o a u K Q else E := by
  have hw : Region.wanted o (yielded ops a.tmps) = true := by simp [Region.wanted, hgd]
  rw [if_pos hw]
  obtain ⟨a3, c3, w1, hr, h2, h3, h5⟩ := app_run u S o.type v D h A m c B zs hm hI hc hl hS
  unfold Oper.wp execOp
  simp only [ho, resolve, invoke, builtin, Sem.run_bind, Sem.run_pure, Result.andThen_ok, List.map_toArray, List.map_cons, List.map_nil, hs, hx, hr]
  exact hK a3 c3 w1 h2 h3 h5

theorem wp_app {u : World} {ops : Array Oper} {rest : List Oper} {o : Oper} {a : Act} {Q : Exit → Act → World → Prop} (hgd : o.guard = none) (s x : Operand)
    (ho : o.op = .call { callee := .builtin .append, args := #[s, x], argTypes := #[27, 27] }) (S : Nat) (v : Value) (D : List (List UInt8)) (hs : a.eval s = v) (h : Own u S v D) (A : Option Addr) (m c B : Nat) (zs : List (List UInt8)) (hx : a.eval x = .slice A m c) (hm : m = zs.length) (hI : Is u B A zs) (hc : A = none → c = 0) (hl : D.length + m ≤ 1000000) (hS : S ≤ u.heap.size)
    (hK : ∀ a3 c3 w1, Own w1 S (.slice a3 (D.length + m) c3) (D ++ zs) → u.grownBy w1 v.ownBlock → ((Value.slice a3 (D.length + m) c3).ownBlock = v.ownBlock ∨ (Value.slice a3 (D.length + m) c3).ownBlock = some u.heap.size) → wpList Tryz.prog ops Q rest (a.put o.dst (.slice a3 (D.length + m) c3)) w1) :
    wpList Tryz.prog ops Q (o :: rest) a u := by
  refine wpList_plain hgd fun K hK' => ?_
  obtain ⟨a3, c3, w1, hr, h2, h3, h5⟩ := app_run u S o.type v D h A m c B zs hm hI hc hl hS
  unfold Oper.wp execOp
  simp only [ho, resolve, invoke, builtin, Sem.run_bind, Sem.run_pure, Result.andThen_ok, List.map_toArray, List.map_cons, List.map_nil, hs, hx, hr]
  exact hK' _ _ (hK a3 c3 w1 h2 h3 h5)

theorem own_new (w : World) : Own (w.alloc (.cells #[] 9)) w.heap.size (.slice (some ⟨w.heap.size, 0, none⟩) 0 0) [] := by
  have := World.ownsRow_lit (base := w.heap.size) (e := 9) (size := 1) w #[] 0 (Nat.le_refl _) (by decide) (by simp)
  simpa [Own] using this

def PutAns (S : Nat) (zs : List (List UInt8)) (w : World) (e : Ending) (w' : World) : Prop :=
  ∃ g3 n3 c3, n3 = zs.length ∧ e = .returned (.slice (some ⟨g3, 0, none⟩) n3 c3) ∧ Own w' S (.slice (some ⟨g3, 0, none⟩) n3 c3) zs ∧ Below w.heap.size w w'

/-- The first place whose number is not less. -/
def lo (zs : List (List UInt8)) (n : List UInt8) (k : Nat) : Prop := ∀ j, j < k → zs.getD j [] < n

theorem is_take {w : World} {B : Nat} {ad : Addr} {zs : List (List UInt8)} (h : Is w B (some ad) zs) (k : Nat) : Is w B (some ad) (zs.take k) := fun hp => by
  have h1 : 0 < zs.length := by
    have := List.length_take (i := k) (l := zs); omega
  obtain ⟨ad', e, hB, hc⟩ := h h1
  cases e
  refine ⟨ad, rfl, hB, fun j hj => ?_⟩
  have : j < zs.length := by have := List.length_take (i := k) (l := zs); omega
  rw [List.getElem_take]; exact hc j this

theorem is_drop {w : World} {B g : Nat} {zs : List (List UInt8)} (h : Is w B (some ⟨g, 0, none⟩) zs) (k : Nat) : Is w B (some ⟨g, k, none⟩) (zs.drop k) := fun hp => by
  have h1 : k < zs.length := by
    have := List.length_drop (i := k) (l := zs); omega
  obtain ⟨ad', e, hB, hc⟩ := h (by omega)
  cases e
  refine ⟨_, rfl, hB, fun j hj => ?_⟩
  have : k + j < zs.length := by have := List.length_drop (i := k) (l := zs); omega
  rw [List.getElem_drop]
  have := hc (k + j) this
  unfold Addr.add at this ⊢
  by_cases hk : k = 0 <;> by_cases hj0 : j = 0 <;> simp_all

/-- A row of the call's own, in a world that has grown. -/
structure Pt (w : World) (u : World) (v : Value) (D : List (List UInt8)) : Prop where
  own : Own u w.heap.size v D
  bel : Below w.heap.size w u

theorem Pt.new {w u : World} (h : Below w.heap.size w u) : Pt w (u.alloc (.cells #[] 9)) (.slice (some ⟨u.heap.size, 0, none⟩) 0 0) [] := by
  have := World.ownsRow_lit (base := w.heap.size) (e := 9) (size := 1) u #[] 0 h.size (by decide) (by simp)
  exact ⟨by simpa [Own] using this, h.alloc h.size _⟩
theorem Pt.drew {w u : World} {v : Value} {D : List (List UInt8)} (h : Pt w u v D) : Pt w u.drew v D := ⟨h.own, h.bel.drew⟩
theorem Pt.alloc {w u : World} {v : Value} {D : List (List UInt8)} (h : Pt w u v D) (o : Obj) : Pt w (u.alloc o) v D := ⟨h.own.alloc _, h.bel.alloc h.bel.size _⟩

theorem own_block {S : Nat} {w : World} {v : Value} {n : Nat} {xs : List Value} (h : w.ownsRow S 9 1 v n xs) : ∀ k, v.ownBlock = some k → S ≤ k := fun k hk => by
  rcases h.2 with ⟨hv, h0⟩ | ⟨g', c, cur, hv, hS, _⟩
  · subst hv; cases hk
  · subst hv; cases hk; exact hS

theorem Pt.app {w u w1 : World} {v v' : Value} {D D' : List (List UInt8)} (h : Pt w u v D) (hown : Own w1 w.heap.size v' D') (hg : u.grownBy w1 v.ownBlock) : Pt w w1 v' D' :=
  ⟨hown, h.bel.grown hg h.bel.size (own_block h.own)⟩

/-- One int in a block of its own. -/
def Lq (u : World) (b : Nat) (q : List UInt8) : Prop := u.cell? ⟨b, 0, none⟩ = some (encStr q) ∧ b < u.heap.size
theorem Lq.new (u : World) (q : List UInt8) : Lq (u.alloc (.cells #[encStr q] 9)) u.heap.size q := ⟨by simp [go_sem], by simp [go_sem]⟩
theorem Lq.drew {u : World} {b : Nat} {q : List UInt8} (h : Lq u b q) : Lq u.drew b q := h
theorem Lq.alloc {u : World} {b : Nat} {q : List UInt8} (h : Lq u b q) (o : Obj) : Lq (u.alloc o) b q :=
  ⟨(((Below.refl u.heap.size u).alloc (Nat.le_refl _) o).cell (p := ⟨b, 0, none⟩) h.2).trans h.1, by simp [go_sem]; have := h.2; omega⟩
theorem Lq.grown {u w1 : World} {b : Nat} {q : List UInt8} (h : Lq u b q) {row : Option Nat} (hg : u.grownBy w1 row) (hne : some b ≠ row) : Lq w1 b q :=
  ⟨(World.cell?_of_block (w := u) (hg.block b h.2 hne)).trans h.1, Nat.lt_of_lt_of_le h.2 hg.size⟩
theorem Lq.is {u : World} {b : Nat} {q : List UInt8} (h : Lq u b q) : Is u u.heap.size (some ⟨b, 0, none⟩) [q] := fun _ => ⟨_, rfl, h.2, fun j hj => by
  have : j = 0 := by simpa using hj
  subst this
  exact h.1⟩

theorem size_alloc (w : World) (o : Obj) : (w.alloc o).heap.size = w.heap.size + 1 := by simp [go_sem]
theorem ptBA (w : World) (o : Obj) : Pt w ((w.alloc o).alloc (.cells #[] 9)).drew (.slice (some ⟨w.heap.size + 1, 0, none⟩) 0 0) [] := by
  rw [← size_alloc w o]; exact (Pt.new ((Below.refl _ _).alloc (Nat.le_refl _) _)).drew
theorem lqAB (w : World) (o : Obj) (q : List UInt8) : Lq ((w.alloc o).alloc (.cells #[encStr q] 9)).drew (w.heap.size + 1) q := by
  rw [← size_alloc w o]; exact (Lq.new _ _).drew
theorem lqBA (w : World) (o : Obj) (q : List UInt8) : Lq ((w.alloc (.cells #[encStr q] 9)).alloc o).drew w.heap.size q := ((Lq.new w q).alloc o).drew

theorem step_old {w u : World} {ops : Array Oper} {o : Oper} {a : Act} {K : Act → World → Prop} {Q : Exit → Act → World → Prop} {E : Prop} (hgd : o.guard = none) (s x : Operand)
    (ho : o.op = .call { callee := .builtin .append, args := #[s, x], argTypes := #[27, 27] }) (v : Value) (D : List (List UInt8)) (hs : a.eval s = v) (h : Pt w u v D) (A : Option Addr) (m c : Nat) (zs : List (List UInt8)) (hx : a.eval x = .slice A m c) (hm : m = zs.length) (hI : Is w w.heap.size A zs) (hc : A = none → c = 0) (hl : D.length + m ≤ 1000000)
    (N : Nat) (DD : List (List UInt8)) (hN : N = D.length + m) (hD : DD = D ++ zs)
    (hK : ∀ a3 c3 w1, Pt w w1 (.slice a3 N c3) DD → u.grownBy w1 v.ownBlock → ((Value.slice a3 N c3).ownBlock = v.ownBlock ∨ (Value.slice a3 N c3).ownBlock = some u.heap.size) → K (a.put o.dst (.slice a3 N c3)) w1) :
    if Region.wanted o (yielded ops a.tmps) = true then Oper.wp Tryz.prog o a u K Q else E := by
  subst hN hD
  exact step_app hgd s x ho w.heap.size v D hs h.own A m c w.heap.size zs hx hm (hI.below h.bel) hc hl h.bel.size (fun a3 c3 w1 h1 h2 h3 => hK a3 c3 w1 (h.app h1 h2) h2 h3)

theorem step_one {w u : World} {ops : Array Oper} {o : Oper} {a : Act} {K : Act → World → Prop} {Q : Exit → Act → World → Prop} {E : Prop} (hgd : o.guard = none) (s x : Operand)
    (ho : o.op = .call { callee := .builtin .append, args := #[s, x], argTypes := #[27, 27] }) (v : Value) (D : List (List UInt8)) (hs : a.eval s = v) (h : Pt w u v D) (b c : Nat) (q : List UInt8) (hx : a.eval x = .slice (some ⟨b, 0, none⟩) 1 c) (hI : Lq u b q) (hl : D.length + 1 ≤ 1000000)
    (N : Nat) (DD : List (List UInt8)) (hN : N = D.length + 1) (hD : DD = D ++ [q])
    (hK : ∀ a3 c3 w1, Pt w w1 (.slice a3 N c3) DD → u.grownBy w1 v.ownBlock → ((Value.slice a3 N c3).ownBlock = v.ownBlock ∨ (Value.slice a3 N c3).ownBlock = some u.heap.size) → K (a.put o.dst (.slice a3 N c3)) w1) :
    if Region.wanted o (yielded ops a.tmps) = true then Oper.wp Tryz.prog o a u K Q else E := by
  subst hN hD
  exact step_app hgd s x ho w.heap.size v D hs h.own (some ⟨b, 0, none⟩) 1 c u.heap.size [q] hx rfl hI.is (fun e => by cases e) hl h.bel.size (fun a3 c3 w1 h1 h2 h3 => hK a3 c3 w1 (h.app h1 h2) h2 h3)

theorem pt_end {w u : World} {a3 : Option Addr} {N c3 : Nat} {zs : List (List UInt8)} {q : List UInt8} {k S : Nat} (h : Pt w u (.slice a3 N c3) ((zs.take k ++ [q]) ++ zs.drop k)) (hS : S ≤ w.heap.size) (hN : N = ((zs.take k ++ [q]) ++ zs.drop k).length) (e : putL zs q = (zs.take k ++ [q]) ++ zs.drop k) :
    PutAns S (putL zs q) w (.returned (.slice a3 N c3)) u := by
  rw [e]
  have h1 := h.own
  rcases h1.2 with ⟨_, h0⟩ | ⟨g', c, cur, hv, hle, r⟩
  · simp at h0
  · injection hv with e1 e2 e3
    subst e1; subst e3
    exact ⟨g', N, c3, hN, rfl, ⟨h1.1, .inr ⟨g', c3, cur, by rw [hN], by omega, r⟩⟩, h.bel⟩

set_option maxRecDepth 100000 in
set_option maxHeartbeats 4000000 in
theorem l5Put (g n c : Nat) (zs : List (List UInt8)) (q : List UInt8) (w : World) (S : Nat) (hn : n = zs.length) (hm : n ≤ 100000) (hS : S ≤ w.heap.size) (h : Own w S (.slice (some ⟨g, 0, none⟩) n c) zs) :
    Calls Tryz.prog 35 #[.slice (some ⟨g, 0, none⟩) n c, .string ⟨q.toArray⟩] w (PutAns S (putL zs q) w) := by
  have HI := Lib.hid (Is.of_own (by unfold Own at h; rw [← hn] at h; exact h) hn)
  have HN := Lib.hid hn
  have HO := Lib.hid h
  have hnc : n ≤ c := by
    rcases h.2 with ⟨hv, _⟩ | ⟨g', c', cur, hv, _, _, hle, _⟩
    · cases hv
    · cases hv; rw [← hn] at hle; exact hle
  have hcm : c ≤ maxLen := by
    rcases h.2 with ⟨hv, _⟩ | ⟨g', c', cur, hv, _, _, _, hle, _⟩
    · cases hv
    · cases hv; exact hle
  unfold maxLen at hcm
  clear h hn
  go_enter Tryz.func35, Tryz.ntmps35
  go_wp2
  go_loop [5] (fun i => ∃ k : Nat, k ≤ n ∧ i = .int .i64 k ∧ Hid (lo zs q k)) (fun i => n - (intOf i).toNat)
  case atStart => exact ⟨0, Nat.zero_le _, rfl, Lib.hid (fun j hj => absurd hj (by omega))⟩
  case round =>
    obtain ⟨k, hk, rfl, HK⟩ := hrel
    have h0 : (0 : Int) ≤ (k : Int) := by omega
    have hkc : k ≤ c := by omega
    by_cases hlt : k < n
    · have hk' : k < zs.length := by have := HN.out; omega
      obtain ⟨p, hp⟩ : ∃ p, p = zs.getD k [] := ⟨_, rfl⟩
      have hcell : w.cell? ⟨g, k, none⟩ = some (encStr p) := by
        have h := HO.out
        unfold Own at h
        rw [← HN.out] at h
        rw [h.cellAt k (by omega), hp, getD_get zs hk']; simp [hk']
      have HP := Lib.hid hp
      clear hp
      have h1 : (k : Int) < (n : Int) := by omega
      have hbl : Op.bytesLess p q = decide (p < q) := bytesLess_eq p q
      by_cases hpq : p < q
      · rw [decide_eq_true hpq] at hbl
        go_wp2
        go_round
        case rel => exact ⟨k + 1, by omega, by go_num, Lib.hid (fun j hj => by
          by_cases e : j = k
          · subst e; rw [← HP.out]; exact hpq
          · exact HK.out j (by omega))⟩
        case measure => simp [intOf]; omega
      · rw [decide_eq_false hpq] at hbl
        have hle : q ≤ p := List.not_lt.1 hpq
        have heq : (p == q) = decide (p = q) := by rw [Bool.eq_iff_iff]; simp
        by_cases he : p = q
        · have HR : Hid (putL zs q = zs) := Lib.hid (by
            rw [putL_at zs q k (by omega) HK.out (fun _ => by rw [← HP.out]; exact hle), if_pos ⟨hk', by rw [← HP.out]; exact he⟩])
          rw [decide_eq_true he] at heq
          clear he
          go_wp2
          go_ret
          rw [HR.out]
          exact ⟨g, n, c, HN.out, rfl, HO.out, Below.refl _ _⟩
        · have HR : Hid (putL zs q = (zs.take k ++ [q]) ++ zs.drop k) := Lib.hid (by
            rw [putL_at zs q k (by omega) HK.out (fun _ => by rw [← HP.out]; exact hle), if_neg (fun ⟨_, e⟩ => he (by rw [HP.out]; exact e))])
          rw [decide_eq_false he] at heq
          have hck : ¬ c = k := by omega
          have HD : Hid (Is w w.heap.size (some ⟨g, k, none⟩) (zs.drop k)) := Lib.hid (is_drop HI.out k)
          have HT : Hid (Is w w.heap.size (some ⟨g, 0, none⟩) (zs.take k)) := Lib.hid (is_take HI.out k)
          have HLT : Hid (k = (zs.take k).length) := Lib.hid (by have := HN.out; simp; omega)
          have HLD : Hid (n - k = (zs.drop k).length) := Lib.hid (by have := HN.out; simp; omega)
          have HN1 : Hid (n + 1 = (zs.take k ++ [q]).length + (n - k)) := Lib.hid (by have := HLT.out; rw [List.length_append, ← this]; simp; omega)
          have HNF : Hid (n + 1 = ((zs.take k ++ [q]) ++ zs.drop k).length) := Lib.hid (by rw [List.length_append, ← HLD.out]; exact HN1.out)
          have HK1 : Hid (k + 1 = (zs.take k).length + 1) := Lib.hid (by rw [← HLT.out])
          go_wp2_with fail
          go_region_law (first
            | (refine step_old rfl _ _ rfl (w := w) _ (zs.take k ++ [q]) rfl ?_ _ _ _ (zs.drop k) rfl HLD.out HD.out (fun e => by cases e) (by simp; omega) (n + 1) ((zs.take k ++ [q]) ++ zs.drop k) HN1.out rfl ?_
               · exact P2
               intro a5 c5 w5 P5 hg5 hat5)
            | (refine step_one rfl _ _ rfl (w := w) _ (zs.take k) rfl ?_ _ _ q rfl ?_ (by simp; omega) (k + 1) (zs.take k ++ [q]) HK1.out rfl ?_
               · first | exact P1 | exact P1.alloc _ | exact (P1.alloc _).drew
               · first | exact Lq.new _ _ | exact Lq.grown (lqAB w _ q) hg1 (show some (w.heap.size + 1) ≠ some w.heap.size by simp) | exact Lq.grown (lqBA w _ q) hg1 (show some w.heap.size ≠ some (w.heap.size + 1) by simp)
               intro a4 c4 w4 P2 hg2 hat2)
            | (refine step_old rfl _ _ rfl (w := w) _ [] rfl ?_ _ _ _ (zs.take k) rfl HLT.out HT.out (fun e => by cases e) (by simp; omega) k (zs.take k) (by simp) rfl ?_
               · first | exact (Pt.new (Below.refl _ _)).drew | exact ((Pt.new (Below.refl _ _)).alloc _).drew | exact ptBA w _
               intro a3 c3 w1 P1 hg1 hat1)
            | fail)
          all_goals
            have HF := Lib.hid (pt_end P5 hS HNF.out HR.out)
            clear P5 P2 P1 hg5 hg2 hg1 hat5 hat2 hat1
            go_wp2_with fail
            all_goals (go_ret; exact HF.out)
    · have HR : Hid (putL zs q = (zs.take k ++ [q]) ++ zs.drop k) := Lib.hid (by
        have := HN.out
        rw [putL_at zs q k (by omega) HK.out (fun _ => absurd ‹k < zs.length› (by omega)), if_neg (fun ⟨e, _⟩ => by omega)])
      have HD : ∀ X, Hid (Is w w.heap.size X (zs.drop k)) := fun X => Lib.hid (fun hp => by have := HN.out; simp at hp; omega)
      have HC : ∀ p : Prop, ∀ [Decidable p], ((if p then some (⟨g, 0, none⟩ : Addr) else some ⟨g, k, none⟩) = none → c - k = 0) := fun p _ e => by split at e <;> cases e
      have HT : Hid (Is w w.heap.size (some ⟨g, 0, none⟩) (zs.take k)) := Lib.hid (is_take HI.out k)
      have HLT : Hid (k = (zs.take k).length) := Lib.hid (by have := HN.out; simp; omega)
      have HLD : Hid (n - k = (zs.drop k).length) := Lib.hid (by have := HN.out; simp; omega)
      have HN1 : Hid (n + 1 = (zs.take k ++ [q]).length + (n - k)) := Lib.hid (by have := HLT.out; rw [List.length_append, ← this]; simp; omega)
      have HNF : Hid (n + 1 = ((zs.take k ++ [q]) ++ zs.drop k).length) := Lib.hid (by rw [List.length_append, ← HLD.out]; exact HN1.out)
      have HK1 : Hid (k + 1 = (zs.take k).length + 1) := Lib.hid (by rw [← HLT.out])
      go_wp2_with fail
      go_region_law (first
        | (refine step_old rfl _ _ rfl (w := w) _ (zs.take k ++ [q]) rfl ?_ _ _ _ (zs.drop k) rfl HLD.out (HD _).out (HC _) (by simp; omega) (n + 1) ((zs.take k ++ [q]) ++ zs.drop k) HN1.out rfl ?_
           · exact P2
           intro a5 c5 w5 P5 hg5 hat5)
        | (refine step_one rfl _ _ rfl (w := w) _ (zs.take k) rfl ?_ _ _ q rfl ?_ (by simp; omega) (k + 1) (zs.take k ++ [q]) HK1.out rfl ?_
           · first | exact P1 | exact P1.alloc _ | exact (P1.alloc _).drew
           · first | exact Lq.new _ _ | exact Lq.grown (lqAB w _ q) hg1 (show some (w.heap.size + 1) ≠ some w.heap.size by simp) | exact Lq.grown (lqBA w _ q) hg1 (show some w.heap.size ≠ some (w.heap.size + 1) by simp)
           intro a4 c4 w4 P2 hg2 hat2)
        | (refine step_old rfl _ _ rfl (w := w) _ [] rfl ?_ _ _ _ (zs.take k) rfl HLT.out HT.out (fun e => by cases e) (by simp; omega) k (zs.take k) (by simp) rfl ?_
           · first | exact (Pt.new (Below.refl _ _)).drew | exact ((Pt.new (Below.refl _ _)).alloc _).drew | exact ptBA w _
           intro a3 c3 w1 P1 hg1 hat1)
        | fail)
      all_goals
        have HF := Lib.hid (pt_end P5 hS HNF.out HR.out)
        clear P5 P2 P1 hg5 hg2 hg1 hat5 hat2 hat1
        go_wp2_with fail
        all_goals (go_ret; exact HF.out)

end Go.Proofs.YtlaogladhadliaaGreatDoor.UniT

namespace Go.Proofs.YtlaogladhadliaaGreatDoor.DrD
open Go.RowKit Go.Proofs.YtlaogladhadliaaGreatDoor.Cond Go.Proofs.YtlaogladhadliaaGreatDoor.Cur Go.Proofs.YtlaogladhadliaaGreatDoor.CurDay Go.Proofs.YtlaogladhadliaaGreatDoor.UniTM
set_option linter.unusedVariables false
set_option linter.unusedSimpArgs false

def commL : List (List UInt8) := [[112, 97, 105, 100], [115, 101, 110, 116], [108, 97, 116, 101], [97], [98]]
/-- The names that anyFacts adds. -/
def xnum (t : Nat) : List UInt8 := 120 :: Lib.decDigits t
theorem xnum_inj {a b : Nat} (ha : a ≤ 100) (hb : b ≤ 100) (h : xnum a = xnum b) : a = b := by
  have h2 : Lib.decDigits a = Lib.decDigits b := by injection h
  have e1 := IntText.atoiAll_itoa (a : Int) (by omega) (by omega)
  have e2 := IntText.atoiAll_itoa (b : Int) (by omega) (by omega)
  rw [show Lib.itoa (a : Int) = Lib.decDigits a by unfold Lib.itoa; rw [if_neg (by omega)]; rfl] at e1
  rw [show Lib.itoa (b : Int) = Lib.decDigits b by unfold Lib.itoa; rw [if_neg (by omega)]; rfl] at e2
  rw [h2, e2] at e1
  injection e1 with e1
  omega
theorem xnum_comm (t : Nat) : xnum t ∉ commL := by simp [xnum, commL]
theorem xnum_len {t : Nat} (h : t ≤ 100) : (xnum t).length ≤ 10 := by
  have := Num.decDigits_le t (by omega)
  simp only [xnum, List.length_cons]; omega
theorem comm_len : ∀ m ∈ commL, m.length ≤ 10 := by decide
theorem putL_new {l : List (List UInt8)} {n : List UInt8} (h : n ∉ l) : (putL l n).length = l.length + 1 := by
  induction l with
  | nil => rfl
  | cons x l ih =>
    unfold putL
    have h1 : ¬ x = n := fun e => h (by simp [e])
    have h2 : n ∉ l := fun e => h (by simp [e])
    split
    · simp [ih h2]
    · simp [h1]
theorem commS : ∀ v ∈ comm.toList, ∃ s : ByteArray, v = .string s ∧ ∃ m ∈ commL, s = ⟨m.toArray⟩ := by
  intro v hv
  simp at hv
  rcases hv with h | h | h | h | h
  · exact ⟨_, h, [112, 97, 105, 100], by simp [commL], rfl⟩
  · exact ⟨_, h, [115, 101, 110, 116], by simp [commL], rfl⟩
  · exact ⟨_, h, [108, 97, 116, 101], by simp [commL], rfl⟩
  · exact ⟨_, h, [97], by simp [commL], rfl⟩
  · exact ⟨_, h, [98], by simp [commL], rfl⟩

/-- The cursor and a row of strings of one's own. -/
structure Sf (w v : World) (g : Nat) (A : Option Addr) (n cap k B : Nat) (s : Value) (D : List (List UInt8)) : Prop where
  ok : Ok v g A n cap k B
  own : UniT.Own v w.heap.size s D
  gr : w.grownBy v (some g)
  lt : g < w.heap.size
theorem Sf.step {w v v' : World} {g : Nat} {A : Option Addr} {n cap k k' B : Nat} {s : Value} {D : List (List UInt8)} (h : Sf w v g A n cap k B s D) (hok : Ok v' g A n cap k' B) (hg : v.grownBy v' (some g)) : Sf w v' g A n cap k' B s D :=
  ⟨hok, own_kept h.own hg (fun j e e2 => by injection e with e; have := (own_ge h.own e2).1; have := h.lt; omega), grow2 h.gr hg, h.lt⟩
theorem Sf.alloc {w v : World} {g : Nat} {A : Option Addr} {n cap k B : Nat} {s : Value} {D : List (List UInt8)} (h : Sf w v g A n cap k B s D) (o : Obj) : Sf w (v.alloc o) g A n cap k B s D := h.step (h.ok.alloc o) (World.grownBy_alloc v o _)
theorem Sf.quiet {w v v' : World} {g : Nat} {A : Option Addr} {n cap k B : Nat} {s : Value} {D : List (List UInt8)} (h : Sf w v g A n cap k B s D) (hb : Below v.heap.size v v') : Sf w v' g A n cap k B s D :=
  h.step (DrD.Ok.kept h.ok (below_grown hb none) (fun j e => by cases e)) (below_grown hb _)
theorem Sf.put {w v v' : World} {g : Nat} {A : Option Addr} {n cap k B : Nat} {s s' : Value} {D D' : List (List UInt8)} (h : Sf w v g A n cap k B s D) (ho : UniT.Own v' w.heap.size s' D') (hb : Below v.heap.size v v') : Sf w v' g A n cap k B s' D' :=
  have h1 := h.quiet hb
  ⟨h1.ok, ho, h1.gr, h1.lt⟩

def fsAns (P : List (List UInt8) → Prop) (c g : Nat) (A : Option Addr) (n cap k B : Nat) (w : World) (e : Ending) (w' : World) : Prop :=
  ∃ (F : Option Addr) (m cf : Nat) (D : List (List UInt8)) (k' : Nat), e = .returned (.slice F m cf) ∧ m = D.length ∧ P D ∧ k' ≤ k + c ∧ Sf w w' g A n cap k' B (.slice F m cf) D
/-- A row at the start of a block. -/
def fbAns (P : List (List UInt8) → Prop) (c g : Nat) (A : Option Addr) (n cap k B : Nat) (w : World) (e : Ending) (w' : World) : Prop :=
  ∃ (gb m cf : Nat) (D : List (List UInt8)) (k' : Nat), e = .returned (.slice (some ⟨gb, 0, none⟩) m cf) ∧ m = D.length ∧ P D ∧ k' ≤ k + c ∧ Sf w w' g A n cap k' B (.slice (some ⟨gb, 0, none⟩) m cf) D

set_option maxHeartbeats 4000000 in
theorem facts (g : Nat) (A : Option Addr) (n cap k B : Nat) (w : World) (h : Ok w g A n cap k B) (hk : k ≤ 960000) :
    Calls Tryz.prog 34 #[.pointer (some ⟨g, 0, none⟩)] w (fbAns (fun D => D.length ≤ 3 ∧ ∀ m ∈ D, m ∈ commL) 20 g A n cap k B w) := by
  obtain ⟨X, hX⟩ : ∃ X, X = w.alloc (.cells #[] 9) := ⟨_, rfl⟩
  have S0 : Hid (Sf w X g A n cap k B (.slice (some ⟨w.heap.size, 0, none⟩) 0 0) []) := Lib.hid (by rw [hX]; exact ⟨h.alloc _, UniT.own_new w, World.grownBy_alloc w _ _, h.lt⟩)
  have HX := Lib.hid hX
  clear hX h
  go_enter Tryz.func34, Tryz.ntmps34
  go_wp2_with (go_at_call 30; (try rw [← HX.out]); refine (pick 4 (by omega) (by omega) g A n cap k B X S0.out.ok (by omega)).mono ?_; rintro e w1 ⟨r, k1, rfl, hr1, hk1, hok1, hg1⟩; refine Hid.out ?_)
  refine Lib.hid ?_
  have S1 := Lib.hid (S0.out.step hok1 hg1)
  clear hok1 hg1 S0 HX
  go_wp2_with fail
  go_loopw [3, 4] (fun l i wr => ∃ (j gb m cf q : Nat) (D : List (List UInt8)), j ≤ r ∧ i = .int .i64 j ∧ l = .slice (some ⟨gb, 0, none⟩) m cf ∧ m + j ≤ 3 ∧ q + 4 * j ≤ k + 14 ∧ Hid (m = D.length ∧ (∀ x ∈ D, x ∈ commL) ∧ Sf w wr g A n cap q B (.slice (some ⟨gb, 0, none⟩) m cf) D)) (fun _ i _ => (intOf i).toNat)
  case atStart => exact ⟨r, _, 0, 0, k1, [], Nat.le_refl _, rfl, rfl, by omega, by omega, Lib.hid ⟨rfl, by simp, S1.out⟩⟩
  case round =>
    clear S1
    obtain ⟨j, gb, m, cf, q, D, hj, rfl, rfl, hm, hq, HS⟩ := hrel
    by_cases hlt : 0 < j
    · have i1 : (0 : Int) < (j : Int) := by omega
      have NG : Hid (wr.heap.size ≠ g) := Lib.hid (by have := HS.out.2.2.ok.lt; omega)
      go_wp2_with (first
        | (go_at_call 60; refine (l5Common wr).mono ?_; rintro e w6 ⟨rfl, rfl⟩)
        | (go_at_call 31; refine (ofP (fun s => ∃ m ∈ commL, s = ⟨m.toArray⟩) wr.heap.size comm 5 rfl (by omega) (by omega) g A n cap q B _ (HS.out.2.2.ok.alloc _) (by omega) (heap_alloc_new wr _) NG.out commS).mono ?_; rintro e w6 ⟨s, k6, rfl, hss, hk6, hok6, hg6⟩; refine Hid.out ?_))
      refine Lib.hid ?_
      obtain ⟨x, hx, rfl⟩ := hss
      have S6 := Lib.hid ((HS.out.2.2.alloc _).step hok6 hg6)
      have HXC := Lib.hid hx
      have HPT := Lib.hid (UniT.l5Put gb m cf D x w6 w.heap.size HS.out.1 (by omega) (by have := S6.out.gr.size; omega) S6.out.own)
      clear hok6 hg6 hx
      go_wp2_with (go_at_call 35; refine HPT.out.mono ?_; rintro e w7 ⟨g3, n3, c3, hn3, rfl, hown, hb7⟩; have HN3 := Lib.hid hn3; clear hn3; refine Hid.out ?_)
      refine Lib.hid ?_
      have S7 := Lib.hid (S6.out.put hown hb7)
      have hle : n3 ≤ m + 1 := by have := length_putL D x; have := HS.out.1; have := HN3.out; omega
      have HALL : Hid (∀ y ∈ putL D x, y ∈ commL) := Lib.hid fun y hy => by
        rcases (mem_putL D x y).1 hy with rfl | hy
        · exact HXC.out
        · exact HS.out.2.1 y hy
      clear hown hb7
      go_wp2_with fail
      go_roundw
      case rel => exact ⟨j - 1, g3, n3, c3, k6, putL D x, by omega, by go_num, rfl, by omega, by omega, Lib.hid ⟨HN3.out, HALL.out, S7.out⟩⟩
      case measure => simp [intOf]; omega
    · have i1 : ¬ (0 : Int) < (j : Int) := by omega
      go_wp2_with fail
      go_ret
      exact ⟨gb, m, cf, D, q, rfl, HS.out.1, ⟨by have := HS.out.1; omega, HS.out.2.1⟩, by omega, HS.out.2.2⟩

/-- What anyFacts holds in its loop. -/
def Xs (i : Nat) (D : List (List UInt8)) : Prop := i ≤ D.length ∧ ∀ m ∈ D, m ∈ commL ∨ ∃ t, t < i ∧ m = xnum t
theorem Xs.new {i : Nat} {D : List (List UInt8)} (h : Xs i D) (hi : i ≤ 100) : xnum i ∉ D := fun e => by
  rcases h.2 _ e with h | ⟨t, ht, e⟩
  · exact xnum_comm i h
  · have := xnum_inj hi (by omega) e; omega
theorem Xs.succ {i : Nat} {D : List (List UInt8)} (h : Xs i D) (hi : i ≤ 100) : Xs (i + 1) (putL D (xnum i)) := by
  refine ⟨by rw [putL_new (h.new hi)]; have := h.1; omega, fun m hm => ?_⟩
  rcases (mem_putL _ _ _).1 hm with rfl | hm
  · exact .inr ⟨i, by omega, rfl⟩
  · rcases h.2 m hm with h | ⟨t, ht, e⟩
    · exact .inl h
    · exact .inr ⟨t, by omega, e⟩
theorem Xs.len {i : Nat} {D : List (List UInt8)} (h : Xs i D) (hi : i ≤ 100) : ∀ m ∈ D, m.length ≤ 10 := fun m hm => by
  rcases h.2 m hm with h | ⟨t, ht, rfl⟩
  · exact comm_len m h
  · exact xnum_len (by omega)
def Fl (D : List (List UInt8)) : Prop := D.length ≤ 20 ∧ ∀ m ∈ D, m.length ≤ 10
def odd4 : List (List UInt8) := [[97], [122, 122], [], [111, 114]]

set_option maxRecDepth 100000 in
set_option maxHeartbeats 8000000 in
theorem anyFacts (g : Nat) (A : Option Addr) (n cap k B : Nat) (w : World) (h : Ok w g A n cap k B) (hk : k ≤ 950000) :
    Calls Tryz.prog 14 #[.pointer (some ⟨g, 0, none⟩)] w (fsAns Fl 200 g A n cap k B w) := by
  have HF := Lib.hid (facts g A n cap k B w h (by omega))
  clear h
  go_enter Tryz.func14, Tryz.ntmps14
  go_wp2_with (go_at_call 34; refine HF.out.mono ?_; rintro e w1 ⟨gb, m, cf, D, k1, rfl, hm, hD, hk1, hS1⟩; have HM := Lib.hid hm; clear hm; refine Hid.out ?_)
  refine Lib.hid ?_
  have hm3 : m ≤ 3 := by have := hD.1; have := HM.out; omega
  have HD := Lib.hid hD.2
  have S1 := Lib.hid hS1
  clear hD hS1 HF
  go_wp2_with (go_at_call 30; refine (pick 20 (by omega) (by omega) g A n cap k1 B w1 S1.out.ok (by omega)).mono ?_; rintro e w2 ⟨r, k2, rfl, hr2, hk2, hok2, hg2⟩; refine Hid.out ?_)
  refine Lib.hid ?_
  have S2 := Lib.hid (S1.out.step hok2 hg2)
  clear hok2 hg2 S1
  by_cases h0 : r = 0
  · have q0 : ((r : Int) == 0) = true := by simp <;> omega
    have NG : Hid (w2.heap.size ≠ g) := Lib.hid (by have := S2.out.ok.lt; omega)
    clear h0
    go_wp2_with (go_at_call 31; refine (ofP (fun s => ∃ m ∈ odd4, s = ⟨m.toArray⟩) w2.heap.size _ 4 rfl (by omega) (by omega) g A n cap k2 B _ (S2.out.ok.alloc _) (by omega) (heap_alloc_new w2 _) NG.out (by
      intro v hv
      simp at hv
      rcases hv with h | h | h | h
      · exact ⟨_, h, [97], by simp [odd4], rfl⟩
      · exact ⟨_, h, [122, 122], by simp [odd4], rfl⟩
      · exact ⟨_, h, [], by simp [odd4], rfl⟩
      · exact ⟨_, h, [111, 114], by simp [odd4], rfl⟩)).mono ?_; rintro e w6 ⟨s, k6, rfl, hss, hk6, hok6, hg6⟩; refine Hid.out ?_)
    refine Lib.hid ?_
    obtain ⟨x, hx, rfl⟩ := hss
    have HXC := Lib.hid hx
    have S6 := Lib.hid (((S2.out.alloc _).step hok6 hg6).alloc (.cells #[.string ⟨x.toArray⟩] 9))
    have HLI : Hid (UniT.Is (w6.alloc (.cells #[.string ⟨x.toArray⟩] 9)) (w6.heap.size + 1) (some ⟨w6.heap.size, 0, none⟩) [x]) := Lib.hid (by have := (UniT.Lq.new w6 x).is; rw [UniT.size_alloc] at this; exact this)
    have HSZ : Hid (w.heap.size ≤ (w6.alloc (.cells #[.string ⟨x.toArray⟩] 9)).heap.size) := Lib.hid S6.out.gr.size
    have HOW : Hid (UniT.Own (w6.alloc (.cells #[.string ⟨x.toArray⟩] 9)) w.heap.size (.slice (some ⟨gb, 0, none⟩) m cf) D) := Lib.hid S6.out.own
    clear hok6 hg6 hx NG
    go_wp2_with (at_builtin; refine UniT.wp_app rfl _ _ rfl w.heap.size (.slice (some ⟨gb, 0, none⟩) m cf) D rfl HOW.out (some ⟨w6.heap.size, 0, none⟩) 1 1 (w6.heap.size + 1) [x] rfl rfl HLI.out (fun e => by cases e) (by have := HM.out; omega) HSZ.out ?_; intro a3 c3 w7 hown hg hat; refine Hid.out ?_)
    refine Lib.hid ?_
    have S7 : Hid (Sf w w7 g A n cap k6 B (.slice a3 (D.length + 1) c3) (D ++ [x])) := Lib.hid (by
      have hge := fun j e => (own_ge (v := .slice (some ⟨gb, 0, none⟩) m cf) S6.out.own (j := j) e).1
      have hl := S6.out.lt
      exact ⟨DrD.Ok.kept S6.out.ok hg (fun j e => by have := hge j e; omega), hown, grow_row S6.out.gr hg (fun j e => hge j e), hl⟩)
    have HFL : Hid (Fl (D ++ [x])) := Lib.hid ⟨by rw [List.length_append, ← HM.out]; simp; omega, fun y hy => by
      rcases List.mem_append.1 hy with hy | hy
      · exact comm_len y (HD.out y hy)
      · have : y = x := by simpa using hy
        subst this
        have : ∀ m ∈ odd4, m.length ≤ 10 := by decide
        exact this y HXC.out⟩
    clear hown hg hat
    go_wp2_with fail
    go_ret
    exact ⟨a3, _, c3, D ++ [x], k6, rfl, by simp, HFL.out, by omega, S7.out⟩
  · have q0 : ((r : Int) == 0) = false := by simp <;> omega
    by_cases h1 : r = 1
    · have q1 : ((r : Int) == 1) = true := by simp <;> omega
      clear h0 h1
      go_wp2_with fail
      go_loopw [3, 4] (fun l i wr => ∃ (j gb m cf q : Nat) (D : List (List UInt8)), j ≤ 17 ∧ i = .int .i64 j ∧ l = .slice (some ⟨gb, 0, none⟩) m cf ∧ m ≤ 17 ∧ j ≤ m ∧ q ≤ k + 40 + 2 * j ∧ Hid (m = D.length ∧ Xs j D ∧ Sf w wr g A n cap q B (.slice (some ⟨gb, 0, none⟩) m cf) D)) (fun _ i _ => 20 - (intOf i).toNat)
      case atStart => exact ⟨0, _, m, cf, k2, D, by omega, rfl, rfl, by omega, by omega, by omega, Lib.hid ⟨HM.out, ⟨Nat.zero_le _, fun y hy => .inl (HD.out y hy)⟩, S2.out⟩⟩
      case round =>
        clear S2 HM HD hm3
        obtain ⟨j, gb, m, cf, q, D, hj, rfl, rfl, hm, hjm, hq, HS⟩ := hrel
        go_wp2_with (go_at_call 30; refine (pick 2 (by omega) (by omega) g A n cap q B wr HS.out.2.2.ok (by omega)).mono ?_; rintro e w3 ⟨z, k3, rfl, hz3, hk3, hok3, hg3⟩; refine Hid.out ?_)
        refine Lib.hid ?_
        have S3 := Lib.hid (HS.out.2.2.step hok3 hg3)
        clear hok3 hg3
        by_cases hlt : m < 16 + z
        · have i1 : (m : Int) < 16 + (z : Int) := by omega
          have HN := Lib.hid (Num.l1NumPos j (j : Int) w3 (by omega) (by omega) (by omega))
          have ha : ∀ w, (Op.stringOp .add ⟨#[120]⟩ ⟨(Lib.decDigits j).toArray⟩).run Tryz.prog w = .ok (.string ⟨(xnum j).toArray⟩) w := by
            intro w
            have h9 := Num.decDigits_le j (by omega)
            rw [run_string_add_sum w _ _ (by simp [ByteArray.size]; omega)]
            congr 2
          rw [show ((j : Int).toNat) = j by omega] at HN
          go_wp2_with (go_at_call 36; refine HN.out.mono ?_; rintro e w4 ⟨rfl, hdr⟩; refine Hid.out ?_)
          refine Lib.hid ?_
          have S4 : Hid (Sf w w4 g A n cap k3 B (.slice (some ⟨gb, 0, none⟩) m cf) D) := Lib.hid (by
            obtain ⟨t, rfl⟩ := hdr
            exact S3.out.quiet (below_drewN (Below.refl _ _) t))
          have HPT := Lib.hid (UniT.l5Put gb m cf D (xnum j) w4 w.heap.size HS.out.1 (by omega) (by have := S4.out.gr.size; omega) S4.out.own)
          clear hdr HN
          go_wp2_with (go_at_call 35; refine HPT.out.mono ?_; rintro e w7 ⟨g3, n3, c3, hn3, rfl, hown, hb7⟩; have HN3 := Lib.hid hn3; clear hn3; refine Hid.out ?_)
          refine Lib.hid ?_
          have S7 := Lib.hid (S4.out.put hown hb7)
          have HX7 := Lib.hid (HS.out.2.1.succ (by omega))
          have hle : n3 ≤ m + 1 := by have := length_putL D (xnum j); have := HS.out.1; have := HN3.out; omega
          have hge : j + 1 ≤ n3 := by have := HX7.out.1; have := HN3.out; omega
          clear hown hb7 ha
          go_wp2_with fail
          go_roundw
          case rel => exact ⟨j + 1, g3, n3, c3, k3, putL D (xnum j), by omega, by go_num, rfl, by omega, by omega, by omega, Lib.hid ⟨HN3.out, HX7.out, S7.out⟩⟩
          case measure => simp [intOf]; omega
        · have i1 : ¬ (m : Int) < 16 + (z : Int) := by omega
          go_wp2_with fail
          go_ret
          exact ⟨_, m, cf, D, k3, rfl, HS.out.1, ⟨by have := HS.out.1; omega, HS.out.2.1.len (by omega)⟩, by omega, S3.out⟩
    · have q1 : ((r : Int) == 1) = false := by simp <;> omega
      clear h0 h1
      go_wp2_with fail
      go_ret
      exact ⟨_, m, cf, D, k2, rfl, HM.out, ⟨by have := HM.out; omega, fun y hy => comm_len y (HD.out y hy)⟩, by omega, S2.out⟩

/-- What DrawEvaluateCondition draws. -/
def EdAns (w : World) (e : Ending) (w' : World) : Prop :=
  ∃ (x : K) (F : Option Addr) (m cf : Nat) (D : List (List UInt8)) (z : Int), e = .returned (.tuple #[x.val, .slice F m cf, .int .i64 z]) ∧ Wq 200 x ∧ Lies w' w'.heap.size x ∧ m = D.length ∧ Fl D ∧ UniT.Own w' w.heap.size (.slice F m cf) D ∧ (-100000 ≤ z ∧ z ≤ 100000) ∧ Below w.heap.size w w'

set_option maxRecDepth 100000 in
set_option maxHeartbeats 8000000 in
theorem drawEv (A : Option Addr) (n cap : Nat) (w : World) (hn : n ≤ 1000000) (hA : Bytes w w.heap.size A n) :
    Calls Tryz.prog 5 #[.slice A n cap] w (EdAns w) := by
  obtain ⟨X, hX⟩ : ∃ X, X = (w.alloc (.cells #[.int .i64 0, .string ⟨#[]⟩, .int .i64 0, .slice none 0 0] 26)).alloc (.cells #[.slice A n cap, .int .i64 0, .int .u64 0] 42) := ⟨_, rfl⟩
  have B0 : Hid (Below w.heap.size w X) := Lib.hid (by rw [hX]; exact (below1 _ _).alloc (by simp) _)
  have SZ : Hid (X.heap.size = w.heap.size + 2) := Lib.hid (by rw [hX]; simp)
  have P0 : Hid (B4 w.heap.size X (.int .i64 0) (.string ⟨#[]⟩) (.int .i64 0) (.slice none 0 0)) := Lib.hid (by rw [hX]; exact (B4.new _ _ _ _ _ _).alloc _)
  have HO : Hid (Ok X (w.heap.size + 1) A n cap 0 (w.heap.size + 1)) := Lib.hid (by
    have := Ok.new (w.alloc (.cells #[.int .i64 0, .string ⟨#[]⟩, .int .i64 0, .slice none 0 0] 26)) A n cap hn (fun hp => by
      obtain ⟨ad, e, hb, hc⟩ := hA hp
      refine ⟨ad, e, by simp; omega, fun j hj => ?_⟩
      obtain ⟨z, hz, h0, h1⟩ := hc j hj
      exact ⟨z, (World.grownBy_alloc w _ none).cell hz (by simp), h0, h1⟩)
    rw [hX]
    rwa [UniT.size_alloc] at this)
  have HX := Lib.hid hX
  clear hX hA
  go_enter Tryz.func5, Tryz.ntmps5
  go_wp2_with (go_at_call 13; (try rw [← HX.out]); refine (anyCondition (w.heap.size + 1) A n cap 0 (w.heap.size + 1) X HO.out (by omega)).mono ?_; rintro e w1 ⟨x, k1, rfl, hx, hk1, hok1, hd1, hg1⟩; refine Hid.out ?_)
  refine Lib.hid ?_
  have H1 := Lib.hid (And.intro hok1 hg1)
  have D1 := Lib.hid hd1
  have HW := Lib.hid hx
  clear hok1 hg1 hd1 hx
  go_wp2_with (go_at_call 14; refine (anyFacts (w.heap.size + 1) A n cap k1 (w.heap.size + 1) w1 H1.out.1 (by omega)).mono ?_; rintro e w2 ⟨F, m, cf, D, k2, rfl, hm, hD, hk2, hS2⟩; have HM := Lib.hid hm; clear hm; refine Hid.out ?_)
  refine Lib.hid ?_
  have S2 := Lib.hid hS2
  have HD := Lib.hid hD
  have D2 := Lib.hid (D1.out.kept S2.out.gr (fun j e => by injection e with e; have := SZ.out; omega))
  have G2 := Lib.hid (grow2 H1.out.2 S2.out.gr)
  have NG : Hid (w2.heap.size ≠ w.heap.size + 1) := Lib.hid (by have := S2.out.ok.lt; omega)
  clear hS2 hD
  go_wp2_with (go_at_call 15; refine (amongP (fun z => -100000 ≤ z ∧ z ≤ 100000) w2.heap.size _ 11 rfl (by omega) (by omega) (w.heap.size + 1) A n cap k2 (w.heap.size + 1) _ (S2.out.ok.alloc _) (by omega) (heap_alloc_new w2 _) NG.out (by intro v hv; simp at hv; rcases hv with h | h | h | h | h | h | h | h | h | h | h <;> exact ⟨_, h, by decide⟩)).mono ?_; rintro e w3 ⟨z, k3, rfl, hz3, hk3, hok3, hg3⟩; refine Hid.out ?_)
  refine Lib.hid ?_
  have S3 := Lib.hid ((S2.out.alloc _).step hok3 hg3)
  have D3 := Lib.hid ((D2.out.alloc _).kept hg3 (fun j e => by injection e with e; have := SZ.out; omega))
  have G3 := Lib.hid (grow2 (grow2 G2.out (World.grownBy_alloc _ _ _)) hg3)
  have P3 := Lib.hid (DrD.B4.kept P0.out G3.out (fun e => by injection e with e; omega))
  have HZ := Lib.hid hz3
  clear hok3 hg3 S2 D2 hz3
  obtain ⟨_, p0, p1, p2, p3, pf⟩ := P3.out
  have pf0 := pf 0
  have pf1 := pf 1
  have pf2 := pf 2
  have pf3 := pf 3
  clear pf
  have hz : w.heap.size < w3.heap.size := P3.out.lt
  go_wp2_with fail
  obtain ⟨_, t0, t1, t2, t3, _⟩ := P3.out.put (.int .i64 x.op) (.string x.nm) (.int .i64 x.day) (.slice x.A x.ps.length x.cap)
  have hd := D3.out.kept (put4_grown w3 w.heap.size 0 (.int .i64 x.op) (.string x.nm) (.int .i64 x.day) (.slice x.A x.ps.length x.cap)) (fun j e => by injection e with e; have := SZ.out; omega)
  have ho : UniT.Own (put4 w3 w.heap.size 0 (.int .i64 x.op) (.string x.nm) (.int .i64 x.day) (.slice x.A x.ps.length x.cap)) w.heap.size (.slice F m cf) D :=
    own_more (own_kept S3.out.own (put4_grown _ _ _ _ _ _ _) (fun j e e2 => by injection e with e; have := (own_ge S3.out.own e2).1; have := H1.out.2.size; have := SZ.out; omega)) (by have := H1.out.2.size; have := SZ.out; omega)
  have hb : Below w.heap.size w (put4 w3 w.heap.size 0 (.int .i64 x.op) (.string x.nm) (.int .i64 x.day) (.slice x.A x.ps.length x.cap)) :=
    put4_below (B0.out.grown G3.out (by have := SZ.out; omega) (fun k hk => by injection hk with hk; omega)) (Nat.le_refl _)
  simp only [put4] at t0 t1 t2 t3 hd ho hb
  exact bodyPost_ret (v := .tuple #[x.val, .slice F m cf, .int .i64 z]) (by simp [results, Tryz.results5, go_sem, t0, t1, t2, t3]) rfl ⟨x, F, m, cf, D, z, rfl, HW.out, hd.lies, HM.out, HD.out, ho, HZ.out, hb⟩

end Go.Proofs.YtlaogladhadliaaGreatDoor.DrD
