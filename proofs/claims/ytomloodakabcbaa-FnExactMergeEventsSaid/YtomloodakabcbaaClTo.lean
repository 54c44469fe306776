/-
  What the laws' helpers toClause, toClauseS and toContract return: a copy in new memory of its own.
-/
import Derived.Test.YtomloodakabcbaaCl
import Derived.Test.YtomloodakabcbaaRowTo
import Derived.Test.YtomloodakabcbaaCoMk
namespace Go.Proofs.Ytomloodakabcbaa.Cl
open Go.RowKit Go.Proofs.Ytomloodakabcbaa.Cond Go.Proofs.Ytomloodakabcbaa.Gx
set_option linter.unusedVariables false
set_option linter.unusedSimpArgs false

/-- A row of clauses in memory of its own: the row in block g (room for n), all else between g and E. -/
structure RwM (w : World) (g E n : Nat) (ms : List M) : Prop where
  blk : Blk w g (n * 12)
  el : ∀ i, ∀ h : i < ms.length, El w g (i * 12) ms[i].cells
  ins : ∀ m ∈ ms, m.k.In w
  si : ∀ m ∈ ms, m.id.size ≤ maxLen ∧ m.act.size ≤ maxLen ∧ m.rep.size ≤ maxLen
  ge : ∀ b ∈ blocks (ms.map M.k), g < b
  lt : ∀ b ∈ blocks (ms.map M.k), b < E
  nd : (blocks (ms.map M.k)).Nodup
  fz : ∀ b ∈ blocks (ms.map M.k), ∀ o, w.frozen? ⟨b, o, none⟩ = false
theorem mk_mem {ms : List M} {m : M} (h : m ∈ ms) {b : Nat} (hb : b ∈ m.k.blocks) : b ∈ blocks (ms.map M.k) := blocks_mem.2 ⟨m.k, List.mem_map.2 ⟨m, h, rfl⟩, hb⟩
theorem RwM.alike {w w' : World} {g E n : Nat} {ms : List M} (h : RwM w g E n ms) (hg : w'.heap[g]? = w.heap[g]?) (hb : ∀ b ∈ blocks (ms.map M.k), w'.heap[b]? = w.heap[b]?) : RwM w' g E n ms :=
  ⟨h.blk.alike hg, fun i hi => (h.el i hi).alike hg, fun m hm => (h.ins m hm).alike fun b hb' => hb b (mk_mem hm hb'), h.si, h.ge, h.lt, h.nd, fun b hb' o => (World.frozen?_of_block (a := ⟨b, o, none⟩) (hb b hb')).trans (h.fz b hb' o)⟩
theorem RwM.below {w w' : World} {g E n B : Nat} {ms : List M} (h : RwM w g E n ms) (hb : Below B w w') (hg : g < B) (hE : E ≤ B) : RwM w' g E n ms :=
  h.alike (hb.block g hg) fun b hb' => hb.block b (by have := h.lt b hb'; omega)
theorem RwM.wide {w : World} {g E E' n : Nat} {ms : List M} (h : RwM w g E n ms) (hE : E ≤ E') : RwM w g E' n ms :=
  ⟨h.blk, h.el, h.ins, h.si, h.ge, fun b hb => Nat.lt_of_lt_of_le (h.lt b hb) hE, h.nd, h.fz⟩
/-- One clause more is stored. -/
theorem RwM.snoc {w : World} {g E F n : Nat} {ms : List M} {m : M} (h : RwM w g E n ms) (hk : Own w E F m.k) (hs : m.id.size ≤ maxLen ∧ m.act.size ≤ maxLen ∧ m.rep.size ≤ maxLen) (hEF : E ≤ F) (hg : g < E) (hl : ms.length < n) :
    RwM (putL w g (ms.length * 12) m.cells) g F n (ms ++ [m]) := by
  have hne : ∀ b, g < b → (putL w g (ms.length * 12) m.cells).heap[b]? = w.heap[b]? := fun b hb => putL_block (by omega) _ _ _
  have e0 : (ms ++ [m]).map M.k = ms.map M.k ++ [m.k] := by simp
  have e1 : blocks ((ms ++ [m]).map M.k) = blocks (ms.map M.k) ++ m.k.blocks := by rw [e0, blocks_append]; simp [blocks]
  have hml := M.len m
  refine ⟨putL_blk _ _ h.blk, fun i hi => ?_, fun x hx => ?_, fun x hx => ?_, fun b hb => ?_, fun b hb => ?_, ?_, fun b hb o => ?_⟩
  · by_cases e : i = ms.length
    · subst e
      have e2 : (ms ++ [m])[ms.length]'hi = m := by simp
      rw [e2]
      exact putL_el _ _ h.blk (by rw [hml]; omega)
    · have hi' : i < ms.length := by simp at hi; omega
      have e2 : (ms ++ [m])[i]'hi = ms[i] := by simp [hi']
      rw [e2]
      exact putL_els (h.el i hi') (by rw [M.len]; omega)
  · rcases List.mem_append.1 hx with hx | hx
    · exact (h.ins x hx).alike fun b hb => hne b (h.ge b (mk_mem hx hb))
    · have : x = m := by simpa using hx
      subst this
      exact hk.has.alike fun b hb => hne b (by have := hk.ge b hb; omega)
  · rcases List.mem_append.1 hx with hx | hx
    · exact h.si x hx
    · have : x = m := by simpa using hx
      subst this; exact hs
  · rw [e1, List.mem_append] at hb
    rcases hb with hb | hb
    · exact h.ge b hb
    · have := hk.ge b hb; omega
  · rw [e1, List.mem_append] at hb
    rcases hb with hb | hb
    · have := h.lt b hb; omega
    · exact hk.lt b hb
  · rw [e1]
    exact List.nodup_append.2 ⟨h.nd, hk.nd, fun a ha b hb e => by have := h.lt a ha; have := hk.ge b hb; omega⟩
  · rw [e1, List.mem_append] at hb
    rcases hb with hb | hb
    · rw [World.frozen?_of_block (a := ⟨b, o, none⟩) (hne b (h.ge b hb))]
      exact h.fz b hb o
    · rw [World.frozen?_of_block (a := ⟨b, o, none⟩) (hne b (by have := hk.ge b hb; omega))]
      exact hk.fz b hb o

def tcAns (x : L) (w : World) (e : Ending) (w' : World) : Prop :=
  ∃ q : M, e = .returned q.val ∧ q.cl = x ∧ Own w' w.heap.size w'.heap.size q.k ∧ Below w.heap.size w w'

theorem cl_take (ms : List M) (k : Nat) (hk : k < ms.length) : (ms.map M.cl).take (k + 1) = (ms.map M.cl).take k ++ [ms[k].cl] := by
  rw [List.take_succ_eq_append_getElem (by simpa using hk)]; simp

/-- The blocks in which a contract lies. -/
def frontN (A : Option Addr) (n : Nat) : List Nat := match A, n with | some a, _ + 1 => [a.block] | _, _ => []
def Kt.blocks (x : Kt) : List Nat := frontN x.A1 x.n1 ++ (frontN x.A2 x.n2 ++ Cond.blocks (x.ms.map M.k))
/-- A contract that may be written. -/
structure WrC (w : World) (x : Kt) : Prop where
  has : LiC w w.heap.size x
  nd : x.blocks.Nodup
  fz : ∀ b ∈ x.blocks, ∀ o, w.frozen? ⟨b, o, none⟩ = false
theorem frontN_mem {A : Option Addr} {n b : Nat} (h : b ∈ frontN A n) : 0 < n ∧ ∃ a, A = some a ∧ a.block = b := by
  cases A with
  | none => simp [frontN] at h
  | some a =>
    cases n with
    | zero => simp [frontN] at h
    | succ n => simp [frontN] at h; exact ⟨by omega, a, rfl, h.symm⟩
theorem LiC.lt {w : World} {B : Nat} {x : Kt} (h : LiC w B x) : ∀ b ∈ x.blocks, b < B := fun b hb => by
  simp only [Kt.blocks, List.mem_append] at hb
  rcases hb with hb | hb | hb
  · obtain ⟨h0, a, e, rfl⟩ := frontN_mem hb
    obtain ⟨ad, e2, hB, _⟩ := h.p.is (by have := h.p.len; omega)
    rw [e] at e2
    injection e2 with e2
    rw [e2]; exact hB
  · obtain ⟨h0, a, e, rfl⟩ := frontN_mem hb
    obtain ⟨b', o, e2, hB, _⟩ := h.c.at_ (by have := h.c.len; omega)
    rw [e] at e2
    injection e2 with e2
    rw [e2]; exact hB
  · obtain ⟨k, hk, hb⟩ := blocks_mem.1 hb
    obtain ⟨m, hm, rfl⟩ := List.mem_map.1 hk
    exact (h.c.all m hm).k.lt b hb
theorem LiC.alike {w w' : World} {B B' : Nat} {x : Kt} (h : LiC w B x) (hB : B ≤ B') (hb : ∀ b ∈ x.blocks, w'.heap[b]? = w.heap[b]?) : LiC w' B' x := by
  refine ⟨⟨fun hp => ?_, h.p.len, h.p.nc, h.p.cm, h.p.szs, h.p.sp⟩, ⟨fun hp => ?_, fun m hm => ⟨⟨(h.c.all m hm).k.has.alike fun b hb' => hb b ?_, fun b hb' => Nat.lt_of_lt_of_le ((h.c.all m hm).k.lt b hb') hB⟩, (h.c.all m hm).si, (h.c.all m hm).sa, (h.c.all m hm).sr⟩, h.c.len, h.c.nc, h.c.cm⟩⟩
  · obtain ⟨ad, e, hlt, hc⟩ := h.p.is hp
    refine ⟨ad, e, by omega, fun j hj => (World.cell?_of_block (a := ad.add j) ?_).trans (hc j hj)⟩
    rw [Row.block_add]
    refine hb _ ?_
    have hn := h.p.len
    obtain ⟨n, hn'⟩ : ∃ n, x.n1 = n + 1 := ⟨x.n1 - 1, by omega⟩
    simp [Kt.blocks, frontN, e, hn']
  · obtain ⟨b, o, e, hlt, hc⟩ := h.c.at_ hp
    refine ⟨b, o, e, by omega, fun i hi => (hc i hi).alike (hb b ?_)⟩
    have hn := h.c.len
    obtain ⟨n, hn'⟩ : ∃ n, x.n2 = n + 1 := ⟨x.n2 - 1, by omega⟩
    simp [Kt.blocks, frontN, e, hn']
  · simp only [Kt.blocks, List.mem_append]
    exact .inr (.inr (mk_mem hm hb'))
theorem WrC.same {w w' : World} {x : Kt} (h : WrC w x) (hb : ∀ b ∈ x.blocks, w'.heap[b]? = w.heap[b]?) (hs : w.heap.size ≤ w'.heap.size) : WrC w' x :=
  ⟨h.has.alike hs hb, h.nd, fun b hb' o => (World.frozen?_of_block (a := ⟨b, o, none⟩) (hb b hb')).trans (h.fz b hb' o)⟩
theorem WrC.on {w w' : World} {x : Kt} (h : WrC w x) (hb : Below w.heap.size w w') : WrC w' x := h.same (fun b hb' => hb.block b (h.has.lt b hb')) hb.size
/-- The rows of a copy. -/
theorem RwM.lir {w : World} {g E cap : Nat} {ms : List M} (h : RwM w g E cap ms) (hg : g < w.heap.size) (hE : E ≤ w.heap.size) (hc : ms.length ≤ cap) (hm : cap ≤ maxLen) : LiR w w.heap.size (some ⟨g, 0, none⟩) ms.length cap ms :=
  ⟨fun hp => ⟨g, 0, rfl, hg, fun i hi => by rw [Nat.zero_add]; exact h.el i hi⟩, fun m hm' => ⟨⟨h.ins m hm', fun b hb => by have := h.lt b (mk_mem hm' hb); omega⟩, (h.si m hm').1, (h.si m hm').2.1, (h.si m hm').2.2⟩, rfl, hc, hm⟩
theorem LiN.of_own {w : World} {S n cap : Nat} {A : Option Addr} {ss : List ByteArray} (h : w.ownsRow S 9 1 (.slice A n cap) n (ss.map Value.string)) (hn : n = ss.length) (hs : ∀ p ∈ ss, p.size ≤ maxLen) : LiN w w.heap.size A n cap ss := by
  refine ⟨Row.Is.of_own h hn, hn, ?_, ?_, hs, ?_⟩
  · rcases h.2 with ⟨hv, h0⟩ | ⟨g, c, cur, hv, _, _, hnc, _, _, _⟩
    · omega
    · injection hv with h1 h2 h3; omega
  · rcases h.2 with ⟨hv, h0⟩ | ⟨g, c, cur, hv, _, _, _, hcm, _, _⟩
    · injection hv with h1 h2 h3; rw [h3]; simp [maxLen]
    · injection hv with h1 h2 h3; rw [h3]; exact hcm
  · intro ad e h0
    rcases h.2 with ⟨hv, _⟩ | ⟨g, c, cur, hv, _⟩
    · cases hv; cases e
    · injection hv with h1 h2 h3
      rw [h1] at e
      injection e with e
      rw [← e]

/-- A copy of a contract. -/
def ctAns (x : Ct) (w : World) (e : Ending) (w' : World) : Prop :=
  ∃ q : Kt, e = .returned q.val ∧ q.ct = x ∧ WrC w' q ∧ (∀ b ∈ q.blocks, w.heap.size ≤ b) ∧ Below w.heap.size w w'

end Go.Proofs.Ytomloodakabcbaa.Cl

