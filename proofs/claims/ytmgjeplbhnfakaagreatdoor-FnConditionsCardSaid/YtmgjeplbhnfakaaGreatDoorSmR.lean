/-
  Rows of conditions that a call makes by append; a condition over such a row.
-/
import Derived.Test.YtmgjeplbhnfakaaGreatDoorSmP
import Derived.Test.YtmgjeplbhnfakaaGreatDoorCRow
namespace Go.Proofs.YtmgjeplbhnfakaaGreatDoor.Cond
open Go.RowKit
set_option linter.unusedVariables false

/-- The parts that a call has made so far, from world X on. -/
structure Pts (X u : World) (v : Value) (rs : List K) : Prop where
  own : OwnC u X.heap.size v rs
  nil : rs = [] → v = .slice none 0 0
  wr : ∀ r ∈ rs, Wr u r
  ge : ∀ x ∈ blocks rs, X.heap.size ≤ x
  nd : (blocks rs).Nodup
  ap : ∀ g, v.ownBlock = some g → g ∉ blocks rs
  bel : Below X.heap.size X u
theorem Pts.start (X : World) : Pts X X (.slice none 0 0) [] :=
  ⟨World.ownsRow_nil X _ _ _, fun _ => rfl, by simp, by simp [blocks], by simp [blocks], by simp [blocks], Below.refl _ _⟩
theorem Pts.lt {X u : World} {v : Value} {rs : List K} (h : Pts X u v rs) : ∀ x ∈ blocks rs, x < u.heap.size := fun x hx => by
  obtain ⟨r, hr, hx'⟩ := blocks_mem.1 hx
  exact (h.wr r hr).lt x hx'
theorem blocks_app (rs : List K) (r : K) : blocks (rs ++ [r]) = blocks rs ++ r.blocks := by
  induction rs with
  | nil => simp [blocks]
  | cons p rs ih => simp [blocks, ih]
theorem Pts.app {X u u1 w1 : World} {v v' : Value} {rs : List K} {r : K} (h : Pts X u v rs) (hb : Below u.heap.size u u1) (hr : Wr u1 r) (hge : ∀ x ∈ r.blocks, u.heap.size ≤ x)
    (ho : OwnC w1 X.heap.size v' (rs ++ [r])) (hg : u1.grownBy w1 v.ownBlock) (hat : v'.ownBlock = v.ownBlock ∨ v'.ownBlock = some u1.heap.size) : Pts X w1 v' (rs ++ [r]) := by
  have hXu := h.bel.size
  have hold : ∀ g, v.ownBlock = some g → g < u.heap.size := fun g e => (ownC_lt h.own e).2.1
  refine ⟨ho, fun e => by simp at e, fun p hp => ?_, fun x hx => ?_, ?_, fun g e => ?_, ?_⟩
  · rcases List.mem_append.1 hp with hp | hp
    · have h1 : Wr u1 p := (h.wr p hp).on hb
      exact h1.same (fun b hb' => hg.block b (h1.lt b hb') (fun e => h.ap b e.symm (blocks_mem.2 ⟨p, hp, hb'⟩))) hg.size
    · have : p = r := by simpa using hp
      subst this
      exact hr.same (fun b hb' => hg.block b (hr.lt b hb') (fun e => by have := hold b e.symm; have := hge b hb'; omega)) hg.size
  · rw [blocks_app, List.mem_append] at hx
    rcases hx with hx | hx
    · exact h.ge x hx
    · have := hge x hx; omega
  · rw [blocks_app]
    exact List.nodup_append.2 ⟨h.nd, hr.nd, fun x hx y hy e => by have := h.lt x hx; have := hge y hy; omega⟩
  · rw [blocks_app, List.mem_append]
    rintro (hx | hx)
    · rcases hat with e' | e'
      · exact h.ap g (e'.symm.trans e) hx
      · rw [e'] at e; injection e with e; have := h.lt g hx; have := hb.size; omega
    · rcases hat with e' | e'
      · have := hold g (e'.symm.trans e); have := hge g hx; omega
      · rw [e'] at e; injection e with e; have := hr.lt g hx; omega
  · refine (h.bel.trans (hb.mono hXu)).grown hg (by have := hb.size; omega) fun k e => (ownC_lt h.own e).1
def frontL (A : Option Addr) (rs : List K) : List Nat := match A, rs with | some a, _ :: _ => [a.block] | _, _ => []
theorem blocks_front (op : Int) (nm : ByteArray) (day : Int) (A : Option Addr) (cap : Nat) (rs : List K) : (K.mk op nm day A cap rs).blocks = frontL A rs ++ blocks rs := by
  cases A <;> cases rs <;> rfl
theorem Pts.whole {X u : World} {A : Option Addr} {n cap : Nat} {rs : List K} (h : Pts X u (.slice A n cap) rs) (hn : n = rs.length) (op : Int) (nm : ByteArray) (day : Int) (hs : nm.size ≤ maxLen) :
    Wr u (.mk op nm day A cap rs) ∧ ∀ x ∈ (K.mk op nm day A cap rs).blocks, X.heap.size ≤ x := by
  have hfront : ∀ x, x ∈ frontL A rs → (Value.slice A n cap).ownBlock = some x := fun x hx => by
    cases A with
    | none => cases rs <;> simp [frontL] at hx
    | some a =>
      cases rs with
      | nil => simp [frontL] at hx
      | cons r rs => simp [frontL] at hx; rw [hx]; rfl
  have hin : (K.mk op nm day A cap rs).In u := by
    refine ⟨fun hp => ?_, ⟨hs, ?_, ?_⟩, ins_mem.2 fun p hp => (h.wr p hp).has⟩
    · obtain ⟨g, rfl, _, _, _⟩ := ownC_el h.own hp
      refine ⟨g, 0, rfl, fun i hi => ?_⟩
      obtain ⟨g', e, _, _, he⟩ := ownC_el h.own hi
      cases e
      simpa using he
    · rcases h.own.2 with ⟨hv, h0⟩ | ⟨g, c, cur, hv, _, _, hnc, _, _, _⟩
      · omega
      · injection hv with h1 h2 h3; omega
    · rcases h.own.2 with ⟨hv, h0⟩ | ⟨g, c, cur, hv, _, _, _, hcm, _, _⟩
      · injection hv with h1 h2 h3; rw [h3]; simp [maxLen]
      · injection hv with h1 h2 h3; rw [h3]; exact hcm
  have hge : ∀ x ∈ (K.mk op nm day A cap rs).blocks, X.heap.size ≤ x := fun x hx => by
    rw [blocks_front, List.mem_append] at hx
    rcases hx with hx | hx
    · exact (ownC_lt h.own (hfront x hx)).1
    · exact h.ge x hx
  refine ⟨⟨hin, fun x hx => ?_, ?_, fun x hx => ?_⟩, hge⟩
  · rw [blocks_front, List.mem_append] at hx
    rcases hx with hx | hx
    · exact (ownC_lt h.own (hfront x hx)).2.1
    · exact h.lt x hx
  · rw [blocks_front]
    refine List.nodup_append.2 ⟨?_, h.nd, fun x hx y hy e => h.ap x (hfront x hx) (e ▸ hy)⟩
    cases A with
    | none => cases rs <;> simp [frontL]
    | some a => cases rs <;> simp [frontL]
  · rw [blocks_front, List.mem_append] at hx
    rcases hx with hx | hx
    · exact (ownC_lt h.own (hfront x hx)).2.2
    · obtain ⟨r, hr, hx'⟩ := blocks_mem.1 hx
      exact (h.wr r hr).fz x hx'

end Go.Proofs.YtmgjeplbhnfakaaGreatDoor.Cond
