/-
  The cursor of the drawn inputs: what its methods one, of and any1 return.
-/
import Derived.Test.YtmgjeplbhnfakaaGreatDoorCur
namespace Go.Proofs.YtmgjeplbhnfakaaGreatDoor.Cur
open Go.RowKit Go.Proofs.YtmgjeplbhnfakaaGreatDoor.Plain

def oneAns (g : Nat) (A : Option Addr) (n cap k B : Nat) (w : World) (e : Ending) (w' : World) : Prop :=
  ∃ (f : Bool) (k' : Nat), e = .returned (.bool f) ∧ k' ≤ k + 2 ∧ Ok w' g A n cap k' B ∧ w.grownBy w' (some g)

theorem one (m : Int) (h1 : 1 ≤ m) (h2 : m ≤ 100000) (g : Nat) (A : Option Addr) (n cap k B : Nat) (w : World) (h : Ok w g A n cap k B) (hk : k ≤ 999999) :
    Calls Tryz.prog 58 #[.pointer (some ⟨g, 0, none⟩), .int .i64 m] w (oneAns g A n cap k B w) := by
  have HH := Lib.hid h
  clear h
  go_enter Tryz.func58, Tryz.ntmps58
  go_wp2_with (go_at_call 30; refine (pick m h1 h2 g A n cap k B _ HH.out hk).mono ?_; rintro e w1 ⟨r, k', rfl, hr, hk', hok, hg⟩)
  go_ret
  exact ⟨_, k', rfl, hk', hok, hg⟩

theorem Ok.alloc {w : World} {g : Nat} {A : Option Addr} {n cap k B : Nat} (h : Ok w g A n cap k B) (o : Obj) : Ok (w.alloc o) g A n cap k B := by
  obtain ⟨sd, hat⟩ := h.at_
  refine ⟨⟨sd, (Below.heap_alloc w o g hat.lt).trans hat⟩, fun hp => ?_, h.small, h.old⟩
  obtain ⟨ad, e, hb, hc⟩ := h.bytes hp
  refine ⟨ad, e, hb, fun j hj => ?_⟩
  obtain ⟨z, hz, h0, h1⟩ := hc j hj
  exact ⟨z, (World.grownBy_alloc w o none).cell hz (by simp), h0, h1⟩

theorem Ok.lt {w : World} {g : Nat} {A : Option Addr} {n cap k B : Nat} (h : Ok w g A n cap k B) : g < w.heap.size := by
  obtain ⟨sd, hat⟩ := h.at_
  exact hat.lt

/-- A new cursor. -/
theorem Ok.new (w : World) (A : Option Addr) (n cap : Nat) (hn : n ≤ 1000000) (hA : Bytes w w.heap.size A n) :
    Ok (w.alloc (.cells #[.slice A n cap, .int .i64 0, .int .u64 0] 42)) w.heap.size A n cap 0 w.heap.size := by
  refine ⟨⟨0, heap_alloc_new w _⟩, fun hp => ?_, hn, Nat.le_refl _⟩
  obtain ⟨ad, e, hb, hc⟩ := hA hp
  refine ⟨ad, e, hb, fun j hj => ?_⟩
  obtain ⟨z, hz, h0, h1⟩ := hc j hj
  exact ⟨z, (World.grownBy_alloc w _ none).cell hz (by simp), h0, h1⟩

/-- What a fresh cursor's world leaves untouched. -/
theorem below_cur {w w' : World} {o : Obj} (hg : (w.alloc o).grownBy w' (some w.heap.size)) : Below w.heap.size w w' :=
  ((Below.refl _ _).alloc (Nat.le_refl _) o).grown hg (by simp) (fun k hk => by injection hk with hk; omega)

/-- Every cell is an int of at most d. -/
def Ints (cs : Array Value) (d : Int) : Prop := ∀ v ∈ cs.toList, ∃ z : Int, v = .int .i64 z ∧ -d ≤ z ∧ z ≤ d

def intAns (d : Int) (g : Nat) (A : Option Addr) (n cap k B : Nat) (w : World) (e : Ending) (w' : World) : Prop :=
  ∃ (z : Int) (k' : Nat), e = .returned (.int .i64 z) ∧ -d ≤ z ∧ z ≤ d ∧ k' ≤ k + 2 ∧ Ok w' g A n cap k' B ∧ w.grownBy w' (some g)

set_option maxHeartbeats 1000000 in
theorem among (L : Nat) (cs : Array Value) (d : Int) (m : Nat) (hm : m = cs.size) (h1 : 1 ≤ m) (h2 : m ≤ 1000) (g : Nat) (A : Option Addr) (n cap k B : Nat) (w : World)
    (h : Ok w g A n cap k B) (hk : k ≤ 999999) (hL : w.heap[L]? = some (.cells cs 3 (0, 0))) (hne : L ≠ g) (hs : Ints cs d) :
    Calls Tryz.prog 15 #[.pointer (some ⟨g, 0, none⟩), .slice (some ⟨L, 0, none⟩) m m] w (intAns d g A n cap k B w) := by
  have HH := Lib.hid h
  have HM := Lib.hid hm
  have HS := Lib.hid hs
  have HL := Lib.hid hL
  clear h hm hs hL
  go_enter Tryz.func15, Tryz.ntmps15
  go_wp2_with (go_at_call 30; refine (pick (m : Int) (by omega) (by omega) g A n cap k B _ HH.out hk).mono ?_; rintro e w1 ⟨r, k', rfl, hr, hk', hok, hg⟩; refine Hid.out ?_)
  refine Lib.hid ?_
  have hr' : r < cs.size := by have := HM.out; omega
  obtain ⟨z, hs1, hs2, hs3⟩ := HS.out (cs[r]) (by simp)
  have hLl : L < w.heap.size := (Array.getElem?_eq_some_iff.1 HL.out).1
  have hL1 : w1.heap[L]? = some (.cells cs 3 (0, 0)) := (hg.block L hLl (fun e => by injection e with e; exact hne e)).trans HL.out
  have hcell : w1.cell? ⟨L, r, none⟩ = some (.int .i64 z) := by
    rw [cell_of_row w1 L r cs _ (0, 0) hL1, Array.getElem?_eq_getElem hr', hs1]
  have i0 : (0 : Int) ≤ (r : Int) := by omega
  have HG := Lib.hid (And.intro hok hg)
  clear hL1 hok hg
  go_wp2_with fail
  go_ret
  exact ⟨z, k', rfl, hs2, hs3, hk', HG.out.1, HG.out.2⟩

end Go.Proofs.YtmgjeplbhnfakaaGreatDoor.Cur
