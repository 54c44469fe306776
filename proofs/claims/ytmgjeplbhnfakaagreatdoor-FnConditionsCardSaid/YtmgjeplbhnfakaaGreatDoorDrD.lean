/-
  Drawn conditions and drawn rows of strings as they lie beside the cursor: words for them.
-/
import Derived.Test.YtmgjeplbhnfakaaGreatDoorCurDay
import Derived.Test.YtmgjeplbhnfakaaGreatDoorSmR
import Derived.Test.YtmgjeplbhnfakaaGreatDoorOpC
namespace Go.Proofs.YtmgjeplbhnfakaaGreatDoor.DrD
open Go.RowKit Go.Proofs.YtmgjeplbhnfakaaGreatDoor.Cond Go.Proofs.YtmgjeplbhnfakaaGreatDoor.Cur Go.Proofs.YtmgjeplbhnfakaaGreatDoor.CurDay
set_option linter.unusedVariables false
set_option linter.unusedSimpArgs false

theorem Ok.kept {w w' : World} {g : Nat} {A : Option Addr} {n cap k B : Nat} {row : Option Nat} (h : Ok w g A n cap k B) (hg : w.grownBy w' row) (hr : ∀ j, row = some j → g < j) : Ok w' g A n cap k B := by
  obtain ⟨sd, hat⟩ := h.at_
  refine ⟨⟨sd, (hg.block g hat.lt (fun e => by have := hr g e.symm; omega)).trans hat⟩, fun hp => ?_, h.small, h.old⟩
  obtain ⟨ad, e, hb, hc⟩ := h.bytes hp
  refine ⟨ad, e, hb, fun j hj => ?_⟩
  obtain ⟨z, hz, h0, h1⟩ := hc j hj
  exact ⟨z, hg.cell hz (by rw [Cur.block_add]; intro e2; have h3 := hr _ e2.symm; have := h.old; omega), h0, h1⟩
theorem grow_row {a b c : World} {g : Nat} {row : Option Nat} (h : a.grownBy b (some g)) (k : b.grownBy c row) (hr : ∀ j, row = some j → a.heap.size ≤ j) : a.grownBy c (some g) :=
  ⟨k.os.trans h.os, k.tape.trans h.tape, k.output.trans h.output, Nat.le_trans h.size k.size, fun j hj hne => (k.block j (Nat.lt_of_lt_of_le hj h.size) (fun e => by have := hr j e.symm; omega)).trans (h.block j hj hne)⟩
theorem set_grown (w : World) (p : Addr) (u : Value) : w.grownBy (w.setCell p u) (some p.block) :=
  ⟨rfl, rfl, rfl, by rw [World.size_setCell]; exact Nat.le_refl _, fun j _ hne => Below.heap_setCell w p u j (fun e => hne (by rw [e]))⟩
theorem put4_grown (w : World) (b o : Nat) (x y z t : Value) : w.grownBy (put4 w b o x y z t) (some b) :=
  ⟨rfl, rfl, rfl, by rw [put4_size]; exact Nat.le_refl _, fun j _ hne => put4_block (fun e => hne (by rw [e]))⟩
theorem below_grown {w w' : World} (h : Below w.heap.size w w') (row : Option Nat) : w.grownBy w' row := ⟨h.os, h.tape, h.output, h.size, fun j hj _ => h.block j hj⟩
theorem grow_refl (w : World) (row : Option Nat) : w.grownBy w row := ⟨rfl, rfl, rfl, Nat.le_refl _, fun _ _ _ => rfl⟩
theorem grow_drew {a b : World} {row : Option Nat} (h : a.grownBy b row) : a.grownBy b.drew row := ⟨h.os, h.tape, h.output, h.size, h.block⟩

theorem B4.kept {k : Nat} {w w' : World} {a b c d : Value} {row : Option Nat} (h : B4 k w a b c d) (hg : w.grownBy w' row) (hne : some k ≠ row) : B4 k w' a b c d :=
  have e := hg.block k h.lt hne
  ⟨Nat.lt_of_lt_of_le h.lt hg.size, (World.cell?_of_block e).trans h.c0, (World.cell?_of_block e).trans h.c1, (World.cell?_of_block e).trans h.c2, (World.cell?_of_block e).trans h.c3, fun o => (World.frozen?_of_block e).trans (h.fz o)⟩

/-- A drawn condition: it lies in blocks from S on, and its parts are a row of its own. -/
structure Dk (S : Nat) (w : World) (x : K) : Prop where
  has : x.In w
  lt : ∀ b ∈ x.blocks, b < w.heap.size
  ge : ∀ b ∈ x.blocks, S ≤ b
  own : OwnC w S (.slice x.A x.ps.length x.cap) x.ps
  ap : ∀ j, (Value.slice x.A x.ps.length x.cap).ownBlock = some j → j ∉ blocks x.ps
theorem Dk.lies {S : Nat} {w : World} {x : K} (h : Dk S w x) : Lies w w.heap.size x := ⟨h.has, h.lt⟩
theorem own_kept {S n : Nat} {w w' : World} {v : Value} {xs : List Value} {e : TypeId} {ez : Nat} {row : Option Nat} (h : w.ownsRow S e ez v n xs) (hg : w.grownBy w' row) (hr : ∀ j, row = some j → v.ownBlock ≠ some j) : w'.ownsRow S e ez v n xs :=
  h.kept hg (by
    cases e : v.ownBlock with
    | none => exact .inl rfl
    | some j => exact .inr fun e2 => hr j e2.symm e)
theorem own_ge {S n : Nat} {w : World} {v : Value} {xs : List Value} {e : TypeId} {ez : Nat} (h : w.ownsRow S e ez v n xs) {j : Nat} (hj : v.ownBlock = some j) : S ≤ j ∧ j < w.heap.size := by
  rcases h.2 with ⟨hv, _⟩ | ⟨g', c, cur, hv, hS, hh, _⟩
  · rw [hv] at hj; cases hj
  · rw [hv] at hj
    injection hj with hj
    subst hj
    exact ⟨hS, (Array.getElem?_eq_some_iff.1 hh).1⟩
theorem own_more {S S' n : Nat} {w : World} {v : Value} {xs : List Value} {e : TypeId} {ez : Nat} (h : w.ownsRow S e ez v n xs) (hS : S' ≤ S) : w.ownsRow S' e ez v n xs := by
  refine ⟨h.1, ?_⟩
  rcases h.2 with h0 | ⟨g', c, cur, hv, hS2, hr⟩
  · exact .inl h0
  · exact .inr ⟨g', c, cur, hv, Nat.le_trans hS hS2, hr⟩
theorem Dk.kept {S : Nat} {w w' : World} {x : K} {row : Option Nat} (h : Dk S w x) (hg : w.grownBy w' row) (hr : ∀ j, row = some j → j < S) : Dk S w' x := by
  refine ⟨h.has.alike fun b hb => hg.block b (h.lt b hb) (fun e => ?_), fun b hb => Nat.lt_of_lt_of_le (h.lt b hb) hg.size, h.ge, own_kept h.own hg (fun j hj e => ?_), h.ap⟩
  · have := hr b e.symm; have := h.ge b hb; omega
  · have := hr j hj; have := (own_ge h.own e).1; omega
theorem Dk.more {S S' : Nat} {w : World} {x : K} (h : Dk S w x) (hS : S' ≤ S) : Dk S' w x := ⟨h.has, h.lt, fun b hb => Nat.le_trans hS (h.ge b hb), own_more h.own hS, h.ap⟩
theorem Dk.alloc {S : Nat} {w : World} {x : K} (h : Dk S w x) (o : Obj) : Dk S (w.alloc o) x := h.kept (World.grownBy_alloc w o none) (fun j e => by cases e)
/-- Any other head. -/
theorem Dk.head {S : Nat} {w : World} {op op' : Int} {nm nm' : ByteArray} {day day' : Int} {A : Option Addr} {cap : Nat} {ps : List K} (h : Dk S w (.mk op nm day A cap ps)) (hn : nm'.size ≤ maxLen) : Dk S w (.mk op' nm' day' A cap ps) := by
  obtain ⟨⟨h1, h2, h3⟩, hl, hg, ho, ha⟩ := h
  have hb : (K.mk op' nm' day' A cap ps).blocks = (K.mk op nm day A cap ps).blocks := rfl
  exact ⟨⟨h1, ⟨hn, h2.2⟩, h3⟩, fun b hb' => hl b hb', fun b hb' => hg b hb', ho, ha⟩
theorem Dk.leaf {S : Nat} {w : World} (op : Int) (nm : ByteArray) (day : Int) (hn : nm.size ≤ maxLen) : Dk S w (.mk op nm day none 0 []) :=
  ⟨⟨fun h => by simp at h, ⟨hn, by simp, by simp [maxLen]⟩, trivial⟩, fun b hb => by simp [K.blocks, blocks] at hb, fun b hb => by simp [K.blocks, blocks] at hb, World.ownsRow_nil w _ _ _, fun j hj => by simp [Value.ownBlock, K.A] at hj⟩
theorem Dk.one {S : Nat} {u : World} {p : K} (op : Int) (hp : p.In u) (hl : ∀ b ∈ p.blocks, b < u.heap.size) (hge : ∀ b ∈ p.blocks, S ≤ b) (hS : S ≤ u.heap.size) :
    Dk S (u.alloc (.cells #[.int .i64 p.op, .string p.nm, .int .i64 p.day, .slice p.A p.ps.length p.cap] 26)) (.mk op .empty 0 (some ⟨u.heap.size, 0, none⟩) 1 [p]) := by
  have hb := below1 u (.cells #[.int .i64 p.op, .string p.nm, .int .i64 p.day, .slice p.A p.ps.length p.cap] 26)
  have hbl : (K.mk op .empty 0 (some ⟨u.heap.size, 0, none⟩) 1 [p]).blocks = u.heap.size :: p.blocks := by simp [K.blocks, blocks]
  have hown := World.ownsRow_lit (base := S) (e := 26) (size := 4) u #[.int .i64 p.op, .string p.nm, .int .i64 p.day, .slice p.A p.ps.length p.cap] 1 hS (by decide) (by simp)
  refine ⟨⟨fun _ => ⟨u.heap.size, 0, rfl, fun i hi => ?_⟩, ⟨by simp [maxLen], by simp, by simp [maxLen]⟩, ins_mem.2 fun q hq => ?_⟩, fun x hx => ?_, fun x hx => ?_, hown, fun j hj hj2 => ?_⟩
  · have : i = 0 := by simpa using hi
    subst this
    exact ⟨by simp [go_sem], by simp [go_sem], by simp [go_sem], by simp [go_sem]⟩
  · have : q = p := by simpa using hq
    subst this
    exact hp.alike fun b hb' => hb.block b (hl b hb')
  · rw [hbl, List.mem_cons] at hx
    rcases hx with rfl | hx
    · simp
    · have := hl x hx; have := hb.size; omega
  · rw [hbl, List.mem_cons] at hx
    rcases hx with rfl | hx
    · exact hS
    · exact hge x hx
  · simp only [Value.ownBlock, K.A, K.ps, Option.some.injEq] at hj
    simp only [K.ps, blocks, List.append_nil] at hj2
    have := hl j hj2
    omega
theorem Dk.two {S : Nat} {u : World} {p q : K} (op : Int) (hp : p.In u) (hq : q.In u) (hl : ∀ b ∈ p.blocks, b < u.heap.size) (hl2 : ∀ b ∈ q.blocks, b < u.heap.size) (hge : ∀ b ∈ p.blocks, S ≤ b) (hge2 : ∀ b ∈ q.blocks, S ≤ b) (hS : S ≤ u.heap.size) :
    Dk S (u.alloc (.cells #[.int .i64 p.op, .string p.nm, .int .i64 p.day, .slice p.A p.ps.length p.cap, .int .i64 q.op, .string q.nm, .int .i64 q.day, .slice q.A q.ps.length q.cap] 26)) (.mk op .empty 0 (some ⟨u.heap.size, 0, none⟩) 2 [p, q]) := by
  have hb := below1 u (.cells #[.int .i64 p.op, .string p.nm, .int .i64 p.day, .slice p.A p.ps.length p.cap, .int .i64 q.op, .string q.nm, .int .i64 q.day, .slice q.A q.ps.length q.cap] 26)
  have hbl : (K.mk op .empty 0 (some ⟨u.heap.size, 0, none⟩) 2 [p, q]).blocks = u.heap.size :: (p.blocks ++ q.blocks) := by simp [K.blocks, blocks]
  have hown := World.ownsRow_lit (base := S) (e := 26) (size := 4) u #[.int .i64 p.op, .string p.nm, .int .i64 p.day, .slice p.A p.ps.length p.cap, .int .i64 q.op, .string q.nm, .int .i64 q.day, .slice q.A q.ps.length q.cap] 2 hS (by decide) (by simp)
  refine ⟨⟨fun _ => ⟨u.heap.size, 0, rfl, fun i hi => ?_⟩, ⟨by simp [maxLen], by simp, by simp [maxLen]⟩, ins_mem.2 fun r hr => ?_⟩, fun x hx => ?_, fun x hx => ?_, hown, fun j hj hj2 => ?_⟩
  · match i, hi with
    | 0, _ => exact ⟨by simp [go_sem], by simp [go_sem], by simp [go_sem], by simp [go_sem]⟩
    | 1, _ => exact ⟨by simp [go_sem], by simp [go_sem], by simp [go_sem], by simp [go_sem]⟩
  · rcases List.mem_cons.1 hr with rfl | hr
    · exact hp.alike fun b hb' => hb.block b (hl b hb')
    · have : r = q := by simpa using hr
      subst this
      exact hq.alike fun b hb' => hb.block b (hl2 b hb')
  · rw [hbl, List.mem_cons, List.mem_append] at hx
    rcases hx with rfl | hx | hx
    · simp
    · have := hl x hx; have := hb.size; omega
    · have := hl2 x hx; have := hb.size; omega
  · rw [hbl, List.mem_cons, List.mem_append] at hx
    rcases hx with rfl | hx | hx
    · exact hS
    · exact hge x hx
    · exact hge2 x hx
  · simp only [Value.ownBlock, K.A, K.ps, Option.some.injEq] at hj
    simp only [K.ps, blocks, List.append_nil, List.mem_append] at hj2
    rcases hj2 with h | h
    · have := hl j h; omega
    · have := hl2 j h; omega
/-- A drawn condition behind the parts of another. -/
theorem Dk.app {S : Nat} {u w1 : World} {op : Int} {nm : ByteArray} {day : Int} {A : Option Addr} {cap : Nat} {ps : List K} {r : K} {a3 : Option Addr} {c3 : Nat} (h : Dk S u (.mk op nm day A cap ps)) (hr : r.In u) (hrl : ∀ b ∈ r.blocks, b < u.heap.size) (hrg : ∀ b ∈ r.blocks, S ≤ b) (hap : ∀ j, (Value.slice A ps.length cap).ownBlock = some j → j ∉ r.blocks)
    (ho : OwnC w1 S (.slice a3 (ps.length + 1) c3) (ps ++ [r])) (hg : u.grownBy w1 (Value.slice A ps.length cap).ownBlock) (hat : (Value.slice a3 (ps.length + 1) c3).ownBlock = (Value.slice A ps.length cap).ownBlock ∨ (Value.slice a3 (ps.length + 1) c3).ownBlock = some u.heap.size) :
    Dk S w1 (.mk op nm day a3 c3 (ps ++ [r])) := by
  obtain ⟨⟨h1, h2, h3⟩, hl, hge, hown, ha⟩ := h
  have hlp : ∀ b ∈ blocks ps, b < u.heap.size := fun b hb => hl b (by simp only [K.blocks, List.mem_append]; exact .inr hb)
  have hgp : ∀ b ∈ blocks ps, S ≤ b := fun b hb => hge b (by simp only [K.blocks, List.mem_append]; exact .inr hb)
  have hkeep : ∀ q, q ∈ ps → q.In w1 := fun q hq => (ins_mem.1 h3 q hq).alike fun b hb => hg.block b (hlp b (blocks_mem.2 ⟨q, hq, hb⟩)) (fun e => ha b e.symm (blocks_mem.2 ⟨q, hq, hb⟩))
  have hkr : r.In w1 := hr.alike fun b hb => hg.block b (hrl b hb) (fun e => hap b e.symm hb)
  have hfront : ∀ x, x ∈ frontL a3 (ps ++ [r]) → (Value.slice a3 (ps.length + 1) c3).ownBlock = some x := fun x hx => by
    cases a3 with
    | none => cases ps <;> simp [frontL] at hx
    | some a => cases ps <;> (simp [frontL] at hx; rw [hx]; rfl)
  have hblk : ∀ b ∈ (K.mk op nm day a3 c3 (ps ++ [r])).blocks, (Value.slice a3 (ps.length + 1) c3).ownBlock = some b ∨ b ∈ blocks ps ∨ b ∈ r.blocks := fun b hb => by
    rw [blocks_front, List.mem_append, blocks_app, List.mem_append] at hb
    rcases hb with hb | hb | hb
    · exact .inl (hfront b hb)
    · exact .inr (.inl hb)
    · exact .inr (.inr hb)
  have hlen : (ps ++ [r]).length = ps.length + 1 := by simp
  have hcap : ps.length + 1 ≤ c3 ∧ c3 ≤ maxLen := by
    rcases ho.2 with ⟨hv, h0⟩ | ⟨g, c, cur, hv, _, _, hnc, hcm, _, _⟩
    · rw [hlen] at h0; omega
    · injection hv with e1 e2 e3
      subst e3
      exact ⟨by omega, hcm⟩
  refine ⟨⟨fun hp => ?_, ⟨h2.1, by rw [hlen]; exact hcap.1, hcap.2⟩, ins_mem.2 fun q hq => ?_⟩, fun b hb => ?_, fun b hb => ?_, by simp only [K.A, K.ps, K.cap, hlen]; exact ho, fun j hj hj2 => ?_⟩
  · obtain ⟨g, rfl, _, _, _⟩ := ownC_el (rs := ps ++ [r]) ho hp
    refine ⟨g, 0, rfl, fun i hi => ?_⟩
    obtain ⟨g', e, _, _, he⟩ := ownC_el (rs := ps ++ [r]) ho hi
    cases e
    simpa using he
  · rcases List.mem_append.1 hq with hq | hq
    · exact hkeep q hq
    · have : q = r := by simpa using hq
      subst this; exact hkr
  · rcases hblk b hb with h | h | h
    · exact (own_ge ho h).2
    · exact Nat.lt_of_lt_of_le (hlp b h) hg.size
    · exact Nat.lt_of_lt_of_le (hrl b h) hg.size
  · rcases hblk b hb with h | h | h
    · exact (own_ge ho h).1
    · exact hgp b h
    · exact hrg b h
  · simp only [K.A, K.ps, K.cap, hlen] at hj
    simp only [K.ps, blocks_app, List.mem_append] at hj2
    rcases hat with e | e
    · have e2 := e.symm.trans hj
      rcases hj2 with h | h
      · exact ha j e2 h
      · exact hap j e2 h
    · rw [e] at hj
      injection hj with hj
      rcases hj2 with h | h
      · have := hlp j h; omega
      · have := hrl j h; omega

/-- A condition with P is drawn, by at most c bytes of the code. -/
def cdAns (P : K → Prop) (c g : Nat) (A : Option Addr) (n cap k B : Nat) (w : World) (e : Ending) (w' : World) : Prop :=
  ∃ (x : K) (k' : Nat), e = .returned x.val ∧ P x ∧ k' ≤ k + c ∧ Ok w' g A n cap k' B ∧ Dk (w.heap.size + 1) w' x ∧ w.grownBy w' (some g)
/-- A string with P is drawn. -/
def sAns (P : ByteArray → Prop) (c g : Nat) (A : Option Addr) (n cap k B : Nat) (w : World) (e : Ending) (w' : World) : Prop :=
  ∃ (s : ByteArray) (k' : Nat), e = .returned (.string s) ∧ P s ∧ k' ≤ k + c ∧ Ok w' g A n cap k' B ∧ w.grownBy w' (some g)

/-- The answer's block is stored, then perhaps a literal is made: the cursor's world. -/
structure Fin (w v : World) (g : Nat) (A : Option Addr) (n cap k B : Nat) : Prop where
  ok : Ok v g A n cap k B
  gr : w.grownBy v (some g)
  lt : g < w.heap.size
  z : w.heap.size < v.heap.size
theorem Fin.put {w v : World} {g : Nat} {A : Option Addr} {n cap k B : Nat} (h : Fin w v g A n cap k B) (x y z t : Value) : Fin w (put4 v w.heap.size 0 x y z t) g A n cap k B := by
  have h1 := put4_grown v w.heap.size 0 x y z t
  have h2 := h.lt
  exact ⟨DrD.Ok.kept h.ok h1 (fun j e => by injection e with e; omega), grow_row h.gr h1 (fun j e => by injection e with e; omega), h.lt, by rw [put4_size]; exact h.z⟩
theorem Fin.alloc {w v : World} {g : Nat} {A : Option Addr} {n cap k B : Nat} (h : Fin w v g A n cap k B) (o : Obj) : Fin w (v.alloc o) g A n cap k B :=
  ⟨h.ok.alloc o, grow_row h.gr (World.grownBy_alloc v o none) (fun j e => by cases e), h.lt, by have := h.z; simp; omega⟩
theorem Fin.step {w v v' : World} {g : Nat} {A : Option Addr} {n cap k k' B : Nat} (h : Fin w v g A n cap k B) (hok : Ok v' g A n cap k' B) (hg : v.grownBy v' (some g)) : Fin w v' g A n cap k' B :=
  ⟨hok, grow2 h.gr hg, h.lt, Nat.lt_of_lt_of_le h.z hg.size⟩

set_option maxHeartbeats 1000000 in
theorem ofP (P : ByteArray → Prop) (L : Nat) (cs : Array Value) (m : Nat) (hm : m = cs.size) (h1 : 1 ≤ m) (h2 : m ≤ 1000) (g : Nat) (A : Option Addr) (n cap k B : Nat) (w : World)
    (h : Ok w g A n cap k B) (hk : k ≤ 999999) (hL : w.heap[L]? = some (.cells cs 9 (0, 0))) (hne : L ≠ g) (hs : ∀ v ∈ cs.toList, ∃ s : ByteArray, v = .string s ∧ P s) :
    Calls Tryz.prog 31 #[.pointer (some ⟨g, 0, none⟩), .slice (some ⟨L, 0, none⟩) m m] w (sAns P 2 g A n cap k B w) := by
  have HH := Lib.hid h
  have HM := Lib.hid hm
  have HS := Lib.hid hs
  have HL := Lib.hid hL
  clear h hm hs hL
  go_enter Tryz.func31, Tryz.ntmps31
  go_wp2_with (go_at_call 30; refine (pick (m : Int) (by omega) (by omega) g A n cap k B _ HH.out hk).mono ?_; rintro e w1 ⟨r, k', rfl, hr, hk', hok, hg⟩; refine Hid.out ?_)
  refine Lib.hid ?_
  have hr' : r < cs.size := by have := HM.out; omega
  obtain ⟨s, hs1, hs2⟩ := HS.out (cs[r]) (by simp)
  have HP := Lib.hid hs2
  have hLl : L < w.heap.size := (Array.getElem?_eq_some_iff.1 HL.out).1
  have hL1 : w1.heap[L]? = some (.cells cs 9 (0, 0)) := (hg.block L hLl (fun e => by injection e with e; exact hne e)).trans HL.out
  have hcell : w1.cell? ⟨L, r, none⟩ = some (.string s) := by
    rw [cell_of_row w1 L r cs _ (0, 0) hL1, Array.getElem?_eq_getElem hr', hs1]
  have i0 : (0 : Int) ≤ (r : Int) := by omega
  have HG := Lib.hid (And.intro hok hg)
  clear hL1 hok hg hs2
  go_wp2_with fail
  go_ret
  exact ⟨s, k', rfl, HP.out, hk', HG.out.1, HG.out.2⟩

end Go.Proofs.YtmgjeplbhnfakaaGreatDoor.DrD
