/-
  The cursor of the drawn inputs: what its methods return.
-/
import Derived.Test.YtmgjeplbhnfakaaGreatDoorRows
import Derived.Test.YtmgjeplbhnfakaaGreatDoorPlain
import Derived.WalkKit
import Derived.ProofKit
import Derived.Lib.Hide
import Derived.WalkSmall
import Derived.Deep.QuietTactic
import Derived.BigQuiet
namespace Go.Proofs.YtmgjeplbhnfakaaGreatDoor.Cur
open Go.RowKit Go.Proofs.YtmgjeplbhnfakaaGreatDoor.Plain

theorem block_add (a : Addr) (n : Nat) : (a.add n).block = a.block := by unfold Addr.add; split <;> rfl

/-- Block g is a cursor over the bytes at A. -/
def At (w : World) (g : Nat) (A : Option Addr) (n cap k : Nat) (sd : Int) : Prop :=
  w.heap[g]? = some (.cells #[.slice A n cap, .int .i64 k, .int .u64 sd] 42 (0, 0))

theorem At.lt {w : World} {g : Nat} {A : Option Addr} {n cap k : Nat} {sd : Int} (h : At w g A n cap k sd) : g < w.heap.size := (Array.getElem?_eq_some_iff.1 h).1
theorem At.c0 {w : World} {g : Nat} {A : Option Addr} {n cap k : Nat} {sd : Int} (h : At w g A n cap k sd) : w.cell? ⟨g, 0, none⟩ = some (.slice A n cap) := by
  rw [cell_of_row w g 0 _ _ (0, 0) h]; rfl
theorem At.c1 {w : World} {g : Nat} {A : Option Addr} {n cap k : Nat} {sd : Int} (h : At w g A n cap k sd) : w.cell? ⟨g, 1, none⟩ = some (.int .i64 k) := by
  rw [cell_of_row w g 1 _ _ (0, 0) h]; rfl
theorem At.c2 {w : World} {g : Nat} {A : Option Addr} {n cap k : Nat} {sd : Int} (h : At w g A n cap k sd) : w.cell? ⟨g, 2, none⟩ = some (.int .u64 sd) := by
  rw [cell_of_row w g 2 _ _ (0, 0) h]; rfl
theorem At.fz {w : World} {g : Nat} {A : Option Addr} {n cap k : Nat} {sd : Int} (h : At w g A n cap k sd) (i : Nat) : w.frozen? ⟨g, i, none⟩ = false := by
  unfold At at h
  simp [World.frozen?, h]
theorem At.set1 {w : World} {g : Nat} {A : Option Addr} {n cap k : Nat} {sd : Int} (h : At w g A n cap k sd) (k' : Nat) : At (w.setCell ⟨g, 1, none⟩ (.int .i64 k')) g A n cap k' sd := by
  unfold At at *
  simp [World.setCell, Array.getElem?_modify, h]
theorem At.set2 {w : World} {g : Nat} {A : Option Addr} {n cap k : Nat} {sd : Int} (h : At w g A n cap k sd) (sd' : Int) : At (w.setCell ⟨g, 2, none⟩ (.int .u64 sd')) g A n cap k sd' := by
  unfold At at *
  simp [World.setCell, Array.getElem?_modify, h]

/-- The bytes that a slice leads to, below block B. -/
def Bytes (w : World) (B : Nat) (A : Option Addr) (n : Nat) : Prop :=
  0 < n → ∃ ad, A = some ad ∧ ad.block < B ∧ ∀ j, j < n → ∃ z : Int, w.cell? (ad.add j) = some (.int .u8 z) ∧ 0 ≤ z ∧ z ≤ 255

theorem fin {w : World} {g : Nat} {A : Option Addr} {n cap k : Nat} {sd : Int} (h : At w g A n cap k sd) (a c : Nat) (S : Int) :
    At ((((w.drewN a).setCell ⟨g, 1, none⟩ (.int .i64 ((k : Int) + 1))).setCell ⟨g, 2, none⟩ (.int .u64 S)).drewN c) g A n cap (k + 1) S ∧
    w.grownBy ((((w.drewN a).setCell ⟨g, 1, none⟩ (.int .i64 ((k : Int) + 1))).setCell ⟨g, 2, none⟩ (.int .u64 S)).drewN c) (some g) := by
  have h1 : At (w.drewN a) g A n cap k sd := h
  have h2 := (h1.set1 (k + 1)).set2 S
  refine ⟨h2, ⟨rfl, rfl, rfl, ?_, fun j hj hne => ?_⟩⟩
  · show w.heap.size ≤ (((w.drewN a).setCell ⟨g, 1, none⟩ (.int .i64 ((k : Int) + 1))).setCell ⟨g, 2, none⟩ (.int .u64 S)).heap.size
    simp [World.setCell]
  · have hjg : j ≠ g := fun e => hne (by rw [e])
    show (((w.drewN a).setCell ⟨g, 1, none⟩ (.int .i64 ((k : Int) + 1))).setCell ⟨g, 2, none⟩ (.int .u64 S)).heap[j]? = w.heap[j]?
    rw [Below.heap_setCell _ _ _ _ hjg, Below.heap_setCell _ _ _ _ hjg]; rfl

theorem low8 (y : Int) : 0 ≤ wrap64 (bits BinOp.and IntKind.u64 (IntKind.u64.wrap y / 1099511627776) 255) ∧ wrap64 (bits BinOp.and IntKind.u64 (IntKind.u64.wrap y / 1099511627776) 255) ≤ 255 := by
  obtain ⟨a, ha, e⟩ : ∃ a : Nat, a < 18446744073709551616 ∧ IntKind.u64.wrap y = a := by
    refine ⟨(IntKind.u64.wrap y).toNat, ?_, ?_⟩ <;> rw [IntKind.wrap_u64] <;> omega
  rw [e, show ((a : Int) / 1099511627776) = ((a / 1099511627776 : Nat) : Int) by omega, show (255 : Int) = ((255 : Nat) : Int) from rfl, bits_and_u64_nat _ _ (by omega) (by omega)]
  have h := @Nat.and_le_right (a / 1099511627776) 255
  rw [IntWalk.wrap64_in _ (by omega)]
  omega

set_option maxHeartbeats 1000000 in
theorem next (g : Nat) (A : Option Addr) (n cap k B : Nat) (sd : Int) (w : World) (h : At w g A n cap k sd) (hk : k ≤ 1000000) (hn : n ≤ 1000000) (hA : Bytes w B A n) :
    Calls Tryz.prog 57 #[.pointer (some ⟨g, 0, none⟩)] w fun e w' =>
      ∃ (b sd' : Int), e = .returned (.int .i64 b) ∧ 0 ≤ b ∧ b ≤ 255 ∧ At w' g A n cap (k + 1) sd' ∧ w.grownBy w' (some g) := by
  have c0 := h.c0
  have c1 := h.c1
  have c2 := h.c2
  have f1 := h.fz 1
  have f2 := h.fz 2
  have HF := Lib.hid (fun a c S => fin h a c S)
  by_cases hlt : k < n
  · obtain ⟨ad, rfl, hb, hc⟩ := hA (by omega)
    obtain ⟨z, hz, hz0, hz1⟩ := hc k hlt
    clear hc hA h
    have i0 : (0 : Int) ≤ (k : Int) := by omega
    have i1 : (k : Int) < (n : Int) := by omega
    have i2 : (k : Int) + 1 ≤ (n : Int) := by omega
    go_enter Tryz.func57, Tryz.ntmps57
    go_wp2_with fail
    go_quiet (fail)
    go_wp2_with fail
    go_quiet (fail)
    go_wp2_with fail
    go_quiet (fail)
    go_wp2_with fail
    go_ret
    exact ⟨z, _, rfl, hz0, hz1, HF.out _ _ _⟩
  · have hA' := Lib.hid hA
    clear hA h
    have i0 : (0 : Int) ≤ (k : Int) := by omega
    have i1 : ¬ (k : Int) < (n : Int) := by omega
    have i2 : ¬ (k : Int) + 1 ≤ (n : Int) := by omega
    have j1 : decide ((k : Int) < (n : Int)) = false := by simpa using hlt
    have j2 : decide (k < n) = false := by simpa using hlt
    go_enter Tryz.func57, Tryz.ntmps57
    go_wp2_with fail
    go_quiet (fail)
    go_wp2_with fail
    go_quiet (fail)
    go_wp2_with fail
    go_ret
    exact ⟨_, _, rfl, (low8 _).1, (low8 _).2, HF.out _ _ _⟩

theorem grow2 {a b c : World} {r : Option Nat} (h : a.grownBy b r) (k : b.grownBy c r) : a.grownBy c r :=
  ⟨k.os.trans h.os, k.tape.trans h.tape, k.output.trans h.output, Nat.le_trans h.size k.size, fun j hj hne => (k.block j (Nat.lt_of_lt_of_le hj h.size) hne).trans (h.block j hj hne)⟩

theorem Bytes.grown {w w' : World} {g B n : Nat} {A : Option Addr} (h : Bytes w B A n) (hB : B ≤ g) (hg : w.grownBy w' (some g)) : Bytes w' B A n := fun hp => by
  obtain ⟨ad, e, hb, hc⟩ := h hp
  refine ⟨ad, e, hb, fun j hj => ?_⟩
  obtain ⟨z, hz, h0, h1⟩ := hc j hj
  exact ⟨z, hg.cell hz (by rw [block_add]; intro e2; injection e2 with e2; omega), h0, h1⟩

/-- A cursor over some bytes, in a block of its own. -/
structure Ok (w : World) (g : Nat) (A : Option Addr) (n cap k B : Nat) : Prop where
  at_ : ∃ sd, At w g A n cap k sd
  bytes : Bytes w B A n
  small : n ≤ 1000000
  old : B ≤ g

theorem Ok.step {w w' : World} {g : Nat} {A : Option Addr} {n cap k k' B : Nat} {sd : Int} (h : Ok w g A n cap k B) (h1 : At w' g A n cap k' sd) (hg : w.grownBy w' (some g)) : Ok w' g A n cap k' B := by
  exact ⟨⟨sd, h1⟩, h.bytes.grown h.old hg, h.small, h.old⟩

def nextAns (g : Nat) (A : Option Addr) (n cap k B : Nat) (w : World) (e : Ending) (w' : World) : Prop :=
  ∃ b : Int, e = .returned (.int .i64 b) ∧ 0 ≤ b ∧ b ≤ 255 ∧ Ok w' g A n cap (k + 1) B ∧ w.grownBy w' (some g)

theorem nextOk (g : Nat) (A : Option Addr) (n cap k B : Nat) (w : World) (h : Ok w g A n cap k B) (hk : k ≤ 1000000) :
    Calls Tryz.prog 57 #[.pointer (some ⟨g, 0, none⟩)] w (nextAns g A n cap k B w) := by
  obtain ⟨sd, h0⟩ := h.at_
  refine (next g A n cap k B sd w h0 hk h.small h.bytes).mono fun e w' hh => ?_
  obtain ⟨b, sd', he, hb0, hb1, hat, hg⟩ := hh
  exact ⟨b, he, hb0, hb1, h.step hat hg, hg⟩

def pickAns (m : Int) (g : Nat) (A : Option Addr) (n cap k B : Nat) (w : World) (e : Ending) (w' : World) : Prop :=
  ∃ (r : Nat) (k' : Nat), e = .returned (.int .i64 (r : Int)) ∧ (r : Int) < m ∧ k' ≤ k + 2 ∧ Ok w' g A n cap k' B ∧ w.grownBy w' (some g)

theorem rem_nat (x m : Int) (h1 : 1 ≤ m) : ∃ r : Nat, x % m = (r : Int) ∧ (r : Int) < m :=
  ⟨(x % m).toNat, by have := Int.emod_nonneg x (show m ≠ 0 by omega); omega, by have := Int.emod_lt_of_pos x (show 0 < m by omega); have := Int.emod_nonneg x (show m ≠ 0 by omega); omega⟩

set_option maxHeartbeats 1000000 in
theorem pick (m : Int) (h1 : 1 ≤ m) (h2 : m ≤ 100000) (g : Nat) (A : Option Addr) (n cap k B : Nat) (w : World) (h : Ok w g A n cap k B) (hk : k ≤ 999999) :
    Calls Tryz.prog 30 #[.pointer (some ⟨g, 0, none⟩), .int .i64 m] w (pickAns m g A n cap k B w) := by
  have HH := Lib.hid h
  clear h
  by_cases hm : m ≤ 1
  · go_enter Tryz.func30, Tryz.ntmps30
    go_wp2_with fail
    go_ret
    exact ⟨0, k, rfl, by omega, by omega, HH.out, ⟨rfl, rfl, rfl, Nat.le_refl _, fun _ _ _ => rfl⟩⟩
  · by_cases hm2 : m ≤ 200
    · go_enter Tryz.func30, Tryz.ntmps30
      go_wp2_with (go_at_call 57; refine (nextOk g A n cap k B _ HH.out (by omega)).mono ?_; rintro e w1 ⟨b, rfl, hb0, hb1, hok, hg⟩)
      go_ret
      obtain ⟨r, e, hr⟩ := rem_nat b m h1
      exact ⟨r, k + 1, by rw [← e]; rfl, hr, by omega, hok, hg⟩
    · go_enter Tryz.func30, Tryz.ntmps30
      go_wp2_with (go_at_call 57; refine (nextOk g A n cap k B w HH.out (by omega)).mono ?_; rintro e w1 ⟨b, rfl, hb0, hb1, hok, hg⟩; have H1 := Lib.hid hok; refine Hid.out ?_)
      refine Lib.hid ?_
      go_wp2_with (go_at_call 57; refine (nextOk g A n cap (k + 1) B w1 H1.out (by omega)).mono ?_; rintro e w2 ⟨b2, rfl, hb20, hb21, hok2, hg2⟩)
      go_ret
      obtain ⟨r, e, hr⟩ := rem_nat (b * 256 + b2) m h1
      exact ⟨r, k + 1 + 1, by rw [← e]; rfl, hr, by omega, hok2, grow2 hg hg2⟩

end Go.Proofs.YtmgjeplbhnfakaaGreatDoor.Cur
