/-
  l5Read of the model.
  ParseCondition of the model.
  The text of a condition: l5Text of the model, text of the program.
  The text of a condition is read back as that condition.
  The value of a condition: l5Holds of the model, holds of the program.
  Both EvaluateCondition.
  Simplification, in plain facts: it keeps the value, the form and the size, and a second one changes nothing.
  Both FormatCondition.
  skip and take of the program's reader.
  readNot and readFrom of the program's reader.
  The words with which a condition's text begins, in plain facts.
  read of the program's reader, each way through it.
-/
import Derived.Test.YtmgjeplbhnfakaaGreatDoorMa
import Derived.Test.YtmgjeplbhnfakaaGreatDoorSmS
import Derived.Test.YtmgjeplbhnfakaaGreatDoorGoodI
import Derived.Deep.RegionHeld3
import Derived.Test.YtmgjeplbhnfakaaGreatDoorShelfNm
import Derived.Test.YtmgjeplbhnfakaaGreatDoorOpC
import Derived.Lib.SlicesS
import Derived.Test.YtmgjeplbhnfakaaGreatDoorShelfCut
import Derived.Test.YtmgjeplbhnfakaaGreatDoorNmI
namespace Go.Proofs.YtmgjeplbhnfakaaGreatDoor.Cond
open Go.RowKit
set_option linter.unusedVariables false
set_option linter.unusedSimpArgs false

/-- What l5Read answers. -/
def RdAns (s : ByteArray) (o : Option (Q × List UInt8)) (w : World) (e : Ending) (w' : World) : Prop :=
  Below w.heap.size w w' ∧ (match o with
    | some (q, r) => ∃ k : K, e = .returned (.tuple #[k.val, .int .i64 ((s.size - r.length : Nat) : Int)]) ∧ k.cond = q.c ∧ Wr w' k ∧ ∀ x ∈ k.blocks, w.heap.size ≤ x
    | none => ∃ k : K, e = .returned (.tuple #[k.val, .int .i64 (-1)]))
theorem rd_bad {s : ByteArray} {w v : World} {kb : Nat} {k : K} {x0 x1 x2 x3 : Value} (hb : Below w.heap.size w v) (hk : w.heap.size ≤ kb) : RdAns s none w (.returned (.tuple #[k.val, .int .i64 (-1)])) (put4 v kb 0 x0 x1 x2 x3) :=
  ⟨put4_below hb hk, k, rfl⟩
theorem rd_good {s : ByteArray} {w v : World} {kb : Nat} {k : K} {q : Q} {r : List UInt8} {x0 x1 x2 x3 : Value} {t : Int} (ht : t = ((s.size - r.length : Nat) : Int)) (hb : Below w.heap.size w v) (hq : k.cond = q.c) (hw : Wr v k) (hge : ∀ x ∈ k.blocks, w.heap.size ≤ x) (hn : kb ∉ k.blocks) (hk : w.heap.size ≤ kb) : RdAns s (some (q, r)) w (.returned (.tuple #[k.val, .int .i64 t])) (put4 v kb 0 x0 x1 x2 x3) := by
  subst ht
  exact ⟨put4_below hb hk, k, rfl, hq, put_wr hw hn, hge⟩

theorem blk_new (w : World) (arr : Array Value) (T : TypeId) : Blk (w.alloc (.cells arr T)) w.heap.size arr.size := ⟨arr, T, heap_alloc_new w _, rfl⟩
theorem el_new (w : World) (k : K) (T : TypeId) : El (w.alloc (.cells #[.int .i64 k.op, .string k.nm, .int .i64 k.day, .slice k.A k.ps.length k.cap] T)) w.heap.size 0 k := by
  obtain ⟨_, h0, h1, h2, h3, _⟩ := B4.new w (.int .i64 k.op) (.string k.nm) (.int .i64 k.day) (.slice k.A k.ps.length k.cap) T
  exact ⟨h0, h1, h2, h3⟩
theorem neg_end {s : ByteArray} {w w2 : World} {kb S : Nat} {k : K} {q : Q} {r : List UInt8} {x0 x1 x2 x3 : Value} {T : TypeId} {t : Int} (ht : t = ((s.size - r.length : Nat) : Int)) (hb : Below w.heap.size w w2) (hq : k.cond = q.c) (hw : Wr w2 k) (hge : ∀ x ∈ k.blocks, S ≤ x) (hS : w.heap.size ≤ S) (hk : w.heap.size ≤ kb) (hkS : kb < S) :
    RdAns s (some (.neg q, r)) w (.returned (.tuple #[(K.mk 4 .empty 0 (some ⟨w2.heap.size + 1, 0, none⟩) 1 [k]).val, .int .i64 t])) (((put4 w2 kb 0 x0 x1 x2 x3).alloc (.cells #[.int .i64 k.op, .string k.nm, .int .i64 k.day, .slice k.A k.ps.length k.cap] T)).alloc (.cells #[.int .i64 k.op, .string k.nm, .int .i64 k.day, .slice k.A k.ps.length k.cap] T)) := by
  subst ht
  obtain ⟨V, hV⟩ : ∃ V, V = put4 w2 kb 0 x0 x1 x2 x3 := ⟨_, rfl⟩
  have hVs : V.heap.size = w2.heap.size := by rw [hV, put4_size]
  have hVb : Below w.heap.size w V := by rw [hV]; exact put4_below hb hk
  have hVw : Wr V k := by rw [hV]; exact put_wr hw (fun h => by have := hge _ h; omega)
  rw [← hV]
  obtain ⟨U, hU⟩ : ∃ U, U = V.alloc (.cells #[.int .i64 k.op, .string k.nm, .int .i64 k.day, .slice k.A k.ps.length k.cap] T) := ⟨_, rfl⟩
  have hUs : U.heap.size = w2.heap.size + 1 := by rw [hU]; simp [hVs]
  rw [← hU, ← hUs]
  have hUb : Below V.heap.size V U := by rw [hU]; exact below1 _ _
  have h2 : Wr (U.alloc (.cells #[.int .i64 k.op, .string k.nm, .int .i64 k.day, .slice k.A k.ps.length k.cap] T)) k := (hVw.on hUb).on (below1 _ _)
  have hnot : U.heap.size ∉ k.blocks := fun h => by have := hVw.lt _ h; omega
  have hlt := hb.size
  refine ⟨(hVb.trans (hUb.mono hVb.size)).trans ((below1 _ _).mono (by omega)), _, rfl, ?_, wr_one h2 (blk_new _ _ _) (el_new _ _ _) hnot, fun x hx => ?_⟩
  · simp only [K.cond, conds, Q.c, hq]
  · simp only [K.blocks, blocks, List.append_nil, List.mem_append, List.mem_singleton] at hx
    rcases hx with rfl | hx
    · omega
    · have := hge x hx; omega
theorem neg_bad {s : ByteArray} {w w2 : World} {kb : Nat} {k : K} {x0 x1 x2 x3 : Value} {T : TypeId} (hb : Below w.heap.size w w2) (hk : w.heap.size ≤ kb) :
    RdAns s none w (.returned (.tuple #[(K.mk 4 .empty 0 (some ⟨w2.heap.size + 1, 0, none⟩) 1 [k]).val, .int .i64 (-1)])) (((put4 w2 kb 0 x0 x1 x2 x3).alloc (.cells #[.int .i64 k.op, .string k.nm, .int .i64 k.day, .slice k.A k.ps.length k.cap] T)).alloc (.cells #[.int .i64 k.op, .string k.nm, .int .i64 k.day, .slice k.A k.ps.length k.cap] T)) :=
  ⟨((put4_below hb hk).alloc (by rw [put4_size]; exact hb.size) _).alloc (by simp [put4_size]; have := hb.size; omega) _, _, rfl⟩
theorem pair_end {s : ByteArray} {w v : World} {kb S : Nat} {ka kc : K} {qa qb q : Q} {op : Int} {r : List UInt8} {x0 x1 x2 x3 : Value} {T : TypeId} {t : Int} (hop : q = .and qa qb ∧ op = 5 ∨ q = .or qa qb ∧ op = 6) (ht : t = ((s.size - r.length : Nat) : Int)) (hb : Below w.heap.size w v) (ha : ka.cond = qa.c) (hc : kc.cond = qb.c) (hwa : Wr v ka) (hwc : Wr v kc) (hd : Dj ka kc) (hga : ∀ x ∈ ka.blocks, S ≤ x) (hgc : ∀ x ∈ kc.blocks, S ≤ x) (hS : w.heap.size ≤ S) (hk : w.heap.size ≤ kb) (hkS : kb < S) :
    RdAns s (some (q, r)) w (.returned (.tuple #[(K.mk op .empty 0 (some ⟨v.heap.size, 0, none⟩) 2 [ka, kc]).val, .int .i64 t])) ((put4 v kb 0 x0 x1 x2 x3).alloc (.cells #[.int .i64 ka.op, .string ka.nm, .int .i64 ka.day, .slice ka.A ka.ps.length ka.cap, .int .i64 kc.op, .string kc.nm, .int .i64 kc.day, .slice kc.A kc.ps.length kc.cap] T)) := by
  subst ht
  obtain ⟨V, hV⟩ : ∃ V, V = put4 v kb 0 x0 x1 x2 x3 := ⟨_, rfl⟩
  have hVs : V.heap.size = v.heap.size := by rw [hV, put4_size]
  have hVb : Below w.heap.size w V := by rw [hV]; exact put4_below hb hk
  have hVa : Wr V ka := by rw [hV]; exact put_wr hwa (fun h => by have := hga _ h; omega)
  have hVc : Wr V kc := by rw [hV]; exact put_wr hwc (fun h => by have := hgc _ h; omega)
  rw [← hV, ← hVs]
  have hlt := hb.size
  have e1 : El (V.alloc (.cells #[.int .i64 ka.op, .string ka.nm, .int .i64 ka.day, .slice ka.A ka.ps.length ka.cap, .int .i64 kc.op, .string kc.nm, .int .i64 kc.day, .slice kc.A kc.ps.length kc.cap] T)) V.heap.size 0 ka := ⟨by simp [go_sem], by simp [go_sem], by simp [go_sem], by simp [go_sem]⟩
  have e2 : El (V.alloc (.cells #[.int .i64 ka.op, .string ka.nm, .int .i64 ka.day, .slice ka.A ka.ps.length ka.cap, .int .i64 kc.op, .string kc.nm, .int .i64 kc.day, .slice kc.A kc.ps.length kc.cap] T)) V.heap.size 4 kc := ⟨by simp [go_sem], by simp [go_sem], by simp [go_sem], by simp [go_sem]⟩
  refine ⟨hVb.trans ((below1 _ _).mono hVb.size), _, rfl, ?_, wr_two (hVa.on (below1 _ _)) (hVc.on (below1 _ _)) hd (blk_new _ _ _) e1 e2 (fun h => by have := hVa.lt _ h; omega) (fun h => by have := hVc.lt _ h; omega), fun x hx => ?_⟩
  · rcases hop with ⟨rfl, rfl⟩ | ⟨rfl, rfl⟩ <;> simp only [K.cond, conds, Q.c, ha, hc]
  · simp only [K.blocks, blocks, List.append_nil, List.mem_append, List.mem_singleton] at hx
    rcases hx with rfl | hx | hx
    · omega
    · have := hga x hx; omega
    · have := hgc x hx; omega

theorem rd_not {dt : List UInt8 → Option Int} {n : Nat} {l : List UInt8} (h : st wNot l = true) : rd dt (n + 1) l = match rd dt n (l.drop 4) with | some (q, r) => some (.neg q, r) | none => none := by
  rw [rd, if_pos h]
  first | rfl | (cases rd dt n (l.drop 4) <;> rfl)
theorem rd_from {dt : List UInt8 → Option Int} {n : Nat} {l : List UInt8} (h1 : st wNot l = false) (h : st wFrom l = true) : rd dt (n + 1) l = match dt ((l.drop 5).take 10) with | some x => some (.frm x, l.drop 15) | none => none := by
  rw [rd, if_neg (by rw [h1]; decide), if_pos h]
  first | rfl | (cases dt ((l.drop 5).take 10) <;> rfl)
theorem rd_par {dt : List UInt8 → Option Int} {n : Nat} {l : List UInt8} (h1 : st wNot l = false) (h2 : st wFrom l = false) (h : st wPar l = true) : rd dt (n + 1) l = match rd dt n (l.drop 1) with
       | none => none
       | some (a, r) =>
         if st wOr r then (match rd dt n (r.drop 4) with | none => none | some (b, r2) => if st wEnd r2 then some (.or a b, r2.drop 1) else none)
         else if st wAnd r then (match rd dt n (r.drop 5) with | none => none | some (b, r2) => if st wEnd r2 then some (.and a b, r2.drop 1) else none)
         else none := by
  rw [rd, if_neg (by rw [h1]; decide), if_neg (by rw [h2]; decide), if_pos h]
  first | rfl | (cases rd dt n (l.drop 1) with
    | none => rfl
    | some p => rfl)
theorem rd_word {dt : List UInt8 → Option Int} {n : Nat} {l : List UInt8} (h1 : st wNot l = false) (h2 : st wFrom l = false) (h3 : st wPar l = false) : rd dt (n + 1) l = if word l = wTrue then some (.tru, l.drop 4) else if isNm (ba (word l)) then some (.fact (ba (word l)), l.drop (word l).length) else none := by
  rw [rd, if_neg (by rw [h1]; decide), if_neg (by rw [h2]; decide), if_neg (by rw [h3]; decide)]

end Go.Proofs.YtmgjeplbhnfakaaGreatDoor.Cond

namespace Go.Proofs.YtmgjeplbhnfakaaGreatDoor.Cond
open Go.RowKit
set_option linter.unusedVariables false
set_option linter.unusedSimpArgs false

/-- What ParseCondition reads. -/
def pc (dt : List UInt8 → Option Int) (l : List UInt8) : Option Q :=
  match rd dt (l.length + 1) l with
  | some (q, r) => if r.isEmpty && decide (q.size ≤ 15) then some q else none
  | none => none
def dOf : Option Q → C | some q => q.c | none => .mk 0 .empty 0 []
theorem pc_len {dt : List UInt8 → Option Int} (hdt : Dt dt) {l : List UInt8} {q : Q} (h : pc dt l = some q) : l.length ≤ 225 ∧ q.c.wt ≤ l.length ∧ q.ok ∧ q.size ≤ 15 := by
  unfold pc at h
  cases hr : rd dt (l.length + 1) l with
  | none => rw [hr] at h; cases h
  | some p =>
    obtain ⟨q', r⟩ := p
    rw [hr] at h
    simp only at h
    split at h
    · rename_i hc
      rw [Bool.and_eq_true, List.isEmpty_iff, decide_eq_true_eq] at hc
      simp only [Option.some.injEq] at h
      subst h
      have hi := rd_is hdt _ _ _ _ hr
      have h1 := hi.up
      have h2 := hi.wt
      rw [hc.1, List.length_nil] at h1 h2
      exact ⟨by omega, by omega, hi.ok, hc.2⟩
    · cases h

/-- An answer: a condition in memory of its own, and a bool. -/
def PbAns (d : C) (y : Bool) (w : World) (e : Ending) (w' : World) : Prop :=
  ∃ r : K, e = .returned (.tuple #[r.val, .bool y]) ∧ r.cond = d ∧ Wr w' r ∧ (∀ x ∈ r.blocks, w.heap.size ≤ x) ∧ Below w.heap.size w w'
theorem PbAns.alloc {d : C} {y : Bool} {w w' : World} {e : Ending} (h : PbAns d y w e w') (o : Obj) : PbAns d y w e (w'.alloc o) := by
  obtain ⟨r, h1, h2, h3, h4, h5⟩ := h
  exact ⟨r, h1, h2, h3.on (below1 _ _), h4, h5.alloc h5.size _⟩
theorem pb_zero {w v : World} {kb : Nat} {x0 x1 x2 x3 : Value} (hb : Below w.heap.size w v) (hk : w.heap.size ≤ kb) : PbAns (.mk 0 .empty 0 []) false w (.returned (.tuple #[.agg #[.int .i64 0, .string ⟨#[]⟩, .int .i64 0, .slice none 0 0], .bool false])) (put4 v kb 0 x0 x1 x2 x3) :=
  ⟨.mk 0 .empty 0 none 0 [], rfl, rfl, wr_none 0 .empty 0 (by simp [maxLen]), by simp [K.blocks, blocks], put4_below hb hk⟩
theorem pb_res {w v : World} {kb S : Nat} {d : C} {r : K} {x0 x1 x2 x3 : Value} (hb : Below w.heap.size w v) (hr : r.cond = d) (hw : Wr v r) (hs : ∀ x ∈ r.blocks, S ≤ x) (hS : w.heap.size ≤ S) (hk : kb < S) (hkb : w.heap.size ≤ kb) : PbAns d true w (.returned (.tuple #[r.val, .bool true])) (put4 v kb 0 x0 x1 x2 x3) :=
  ⟨r, rfl, hr, put_wr hw (fun h => by have := hs _ h; omega), fun x hx => by have := hs x hx; omega, put4_below hb hkb⟩

end Go.Proofs.YtmgjeplbhnfakaaGreatDoor.Cond

namespace Go.Proofs.YtmgjeplbhnfakaaGreatDoor.Txt
open Go.RowKit Go.Proofs.YtmgjeplbhnfakaaGreatDoor.Cond Go.Proofs.YtmgjeplbhnfakaaGreatDoor.Cal Go.Proofs.YtmgjeplbhnfakaaGreatDoor.FmtDate Go.Proofs.YtmgjeplbhnfakaaGreatDoor.FmtPlain Go.Proofs.YtmgjeplbhnfakaaGreatDoor.Tab
set_option linter.unusedVariables false

def txt : Q → List UInt8
  | .tru => [116, 114, 117, 101]
  | .fact s => s.toList
  | .frm d => [102, 114, 111, 109, 32] ++ text (yr d) (mo d) (da d)
  | .neg a => [110, 111, 116, 32] ++ txt a
  | .and a b => [40] ++ txt a ++ [32, 97, 110, 100, 32] ++ txt b ++ [41]
  | .or a b => [40] ++ txt a ++ [32, 111, 114, 32] ++ txt b ++ [41]

theorem isDy_day {d : Int} (h : isDy d = true) : Day d := by
  unfold isDy at h
  simp at h
  exact ⟨h.1, h.2⟩
theorem date_len {d : Int} (h : Day d) : (text (yr d) (mo d) (da d)).length ≤ 15 := by
  obtain ⟨⟨y1, y2⟩, _⟩ := (date_is h).1
  have h1 := dec_le (yr d).toNat (by omega)
  unfold FmtDate.text
  simp [two]; omega
theorem txt_len : ∀ q : Q, q.ok → (txt q).length ≤ 25 * q.size
  | .tru, _ => by simp [txt, Q.size]
  | .fact s, h => by
    have h2 : isNm s = true := h
    unfold isNm at h2
    simp only [Bool.and_eq_true, decide_eq_true_eq] at h2
    have h3 : s.toList.length = s.size := by rw [Go.ByteArray.toList_eq]; simp
    simp only [txt, Q.size, h3]
    omega
  | .frm d, h => by
    have := date_len (isDy_day h)
    simp only [txt, Q.size, List.length_append, List.length_cons, List.length_nil]; omega
  | .neg a, h => by
    have := txt_len a h
    simp only [txt, Q.size, List.length_append, List.length_cons, List.length_nil]; omega
  | .and a b, h => by
    have := txt_len a h.1; have := txt_len b h.2
    simp only [txt, Q.size, List.length_append, List.length_cons, List.length_nil]; omega
  | .or a b, h => by
    have := txt_len a h.1; have := txt_len b h.2
    simp only [txt, Q.size, List.length_append, List.length_cons, List.length_nil]; omega

theorem catIs (a b : List UInt8) (h : a.length + b.length ≤ 100000) (w : World) :
    (Op.stringOp .add ⟨a.toArray⟩ ⟨b.toArray⟩).run Tryz.prog w = .ok (.string ⟨(a ++ b).toArray⟩) w := by
  rw [run_string_add_sum w _ _ (by rw [size, size]; omega), cat]
theorem str_eta (s : ByteArray) : (⟨s.toList.toArray⟩ : ByteArray) = s := by
  rw [Go.ByteArray.toList_eq]

theorem One {w : World} {B : Nat} {op : Int} {nm : ByteArray} {day : Int} {A : Option Addr} {cap : Nat} {p : K} (h : Lies w B (.mk op nm day A cap [p])) : ∃ b o, A = some ⟨b, o, none⟩ ∧ b < B ∧ El w b o p := by
  obtain ⟨b, o, rfl, hb, he⟩ := h.at (by simp)
  exact ⟨b, o, rfl, hb, by simpa using he 0 (by simp)⟩
theorem Two {w : World} {B : Nat} {op : Int} {nm : ByteArray} {day : Int} {A : Option Addr} {cap : Nat} {p q : K} (h : Lies w B (.mk op nm day A cap [p, q])) : ∃ b o, A = some ⟨b, o, none⟩ ∧ b < B ∧ El w b o p ∧ El w b (o + 4) q := by
  obtain ⟨b, o, rfl, hb, he⟩ := h.at (by simp)
  exact ⟨b, o, rfl, hb, by simpa using he 0 (by simp), by simpa using he 1 (by simp)⟩

set_option maxHeartbeats 8000000 in
theorem implText (w : World) (hT : Tab w) (hP : Pow w) (q : Q) : q.ok → q.size ≤ 1000 → ∀ (k : K) (v : World), Below w.heap.size w v → k.cond = q.c → Lies v v.heap.size k →
    Calls Tryz.prog 27 #[k.val] v fun e w' => e = .returned (.string ⟨(txt q).toArray⟩) ∧ Below v.heap.size v w' := by
  have HL : Hid (∀ x, Day x → ∀ v, Below w.heap.size w v → Calls Tryz.prog 49 #[.int .i64 x] v fun e w' => e = .returned (.tuple #[.string ⟨(text (yr x) (mo x) (da x)).toArray⟩, .bool true]) ∧ Below v.heap.size v w') := Lib.hid fun x hx v hb => implYes x hx v (hT.below hb) (hP.below hb)
  clear hT hP
  induction q with
  | tru =>
    intro hok hsz k v hbv hk hin
    obtain ⟨A, cap, rfl⟩ := K.leaf hk
    clear hk hin
    have B0 := Lib.hid (below1 v (.cells #[.int .i64 1, .string .empty, .int .i64 0, .slice A 0 cap] 26))
    show Calls Tryz.prog 27 #[.agg #[.int .i64 1, .string .empty, .int .i64 0, .slice A 0 cap]] v fun e w' => e = .returned (.string ⟨(txt (.tru)).toArray⟩) ∧ Below v.heap.size v w'
    clear hbv
    go_enter Tryz.func27, Tryz.ntmps27
    go_wp2_with fail
    go_ret
    exact ⟨rfl, B0.out⟩
  | fact s =>
    intro hok hsz k v hbv hk hin
    obtain ⟨A, cap, rfl⟩ := K.leaf hk
    clear hk hin
    have B0 := Lib.hid (below1 v (.cells #[.int .i64 2, .string s, .int .i64 0, .slice A 0 cap] 26))
    show Calls Tryz.prog 27 #[.agg #[.int .i64 2, .string s, .int .i64 0, .slice A 0 cap]] v fun e w' => e = .returned (.string ⟨(txt (.fact s)).toArray⟩) ∧ Below v.heap.size v w'
    show Calls Tryz.prog 27 #[.agg #[.int .i64 2, .string s, .int .i64 0, .slice A 0 cap]] v fun e w' => e = .returned (.string ⟨s.toList.toArray⟩) ∧ Below v.heap.size v w'
    rw [str_eta]
    clear hbv
    go_enter Tryz.func27, Tryz.ntmps27
    go_wp2_with fail
    go_ret
    exact ⟨rfl, B0.out⟩
  | frm x =>
    intro hok hsz k v hbv hk hin
    obtain ⟨A, cap, rfl⟩ := K.leaf hk
    clear hk hin
    have B0 := Lib.hid (below1 v (.cells #[.int .i64 3, .string .empty, .int .i64 x, .slice A 0 cap] 26))
    show Calls Tryz.prog 27 #[.agg #[.int .i64 3, .string .empty, .int .i64 x, .slice A 0 cap]] v fun e w' => e = .returned (.string ⟨(txt (.frm x)).toArray⟩) ∧ Below v.heap.size v w'
    have hd : Day x := isDy_day hok
    have HLL := Lib.hid (HL.out x hd _ (hbv.trans (B0.out.mono hbv.size)))
    have hl := date_len hd
    show Calls Tryz.prog 27 #[.agg #[.int .i64 3, .string .empty, .int .i64 x, .slice A 0 cap]] v fun e w' => e = .returned (.string ⟨([102, 114, 111, 109, 32] ++ text (yr x) (mo x) (da x)).toArray⟩) ∧ Below v.heap.size v w'
    have a1 := catIs [102, 114, 111, 109, 32] (text (yr x) (mo x) (da x)) (by simp; omega)
    clear hbv hd hok hl
    generalize hE : [102, 114, 111, 109, 32] ++ text (yr x) (mo x) (da x) = E at *
    clear hE
    generalize text (yr x) (mo x) (da x) = T at *
    go_enter Tryz.func27, Tryz.ntmps27
    go_wp2_with (go_at_call 49; refine HLL.out.mono ?_; rintro e w2 ⟨rfl, hb2⟩)
    go_ret
    exact ⟨rfl, B0.out.trans (hb2.mono B0.out.size)⟩
  | neg a ih =>
    intro hok hsz k v hbv hk hin
    obtain ⟨A, cap, p, rfl, hp⟩ := K.one hk
    obtain ⟨b, o, rfl, hb, hE⟩ := One hin
    simp only [Q.size] at hsz
    have B0 := Lib.hid (below1 v (.cells #[.int .i64 4, .string .empty, .int .i64 0, .slice (some ⟨b, o, none⟩) 1 cap] 26))
    have HI := Lib.hid (ih hok (by omega) p _ (hbv.trans (B0.out.mono hbv.size)) hp ((hin.part (by simp)).on B0.out))
    obtain ⟨c0, c1, c2, c3⟩ := hE.alike (B0.out.block b hb)
    have hl := txt_len a hok
    have a1 := catIs [110, 111, 116, 32] (txt a) (by simp; omega)
    show Calls Tryz.prog 27 #[.agg #[.int .i64 4, .string .empty, .int .i64 0, .slice (some ⟨b, o, none⟩) 1 cap]] v fun e w' => e = .returned (.string ⟨([110, 111, 116, 32] ++ txt a).toArray⟩) ∧ Below v.heap.size v w'
    clear hk hin ih hbv hE hp hok hl
    generalize hE : [110, 111, 116, 32] ++ txt a = E at *
    clear hE
    generalize txt a = T at *
    go_enter Tryz.func27, Tryz.ntmps27
    go_wp2_with (go_at_call 27; refine HI.out.mono ?_; rintro e w2 ⟨rfl, hb2⟩)
    go_ret
    exact ⟨rfl, B0.out.trans (hb2.mono B0.out.size)⟩
  | and a b iha ihb =>
    intro hok hsz k v hbv hk hin
    obtain ⟨A, cap, p1, p2, rfl, hp1, hp2⟩ := K.two hk
    obtain ⟨b', o, rfl, hb, hE1, hE2⟩ := Two hin
    simp only [Q.size] at hsz
    obtain ⟨X, hX⟩ : ∃ X, X = v.alloc (.cells #[.int .i64 5, .string .empty, .int .i64 0, .slice (some ⟨b', o, none⟩) 2 cap] 26) := ⟨_, rfl⟩
    have B0 : Hid (Below v.heap.size v X) := Lib.hid (by rw [hX]; exact below1 _ _)
    have X0 : Hid (B4 v.heap.size X (.int .i64 5) (.string .empty) (.int .i64 0) (.slice (some ⟨b', o, none⟩) 2 cap)) := Lib.hid (by rw [hX]; exact B4.new _ _ _ _ _ _)
    have HI1 : Hid (∀ u, Below X.heap.size X u → Calls Tryz.prog 27 #[p1.val] u fun e w' => e = .returned (.string ⟨(txt a).toArray⟩) ∧ Below u.heap.size u w') := Lib.hid fun u hu => iha hok.1 (by omega) p1 u ((hbv.trans (B0.out.mono hbv.size)).trans (hu.mono (Nat.le_trans hbv.size B0.out.size))) hp1 (((hin.part (by simp)).on B0.out).on hu)
    have HI2 : Hid (∀ u, Below X.heap.size X u → Calls Tryz.prog 27 #[p2.val] u fun e w' => e = .returned (.string ⟨(txt b).toArray⟩) ∧ Below u.heap.size u w') := Lib.hid fun u hu => ihb hok.2 (by omega) p2 u ((hbv.trans (B0.out.mono hbv.size)).trans (hu.mono (Nat.le_trans hbv.size B0.out.size))) hp2 (((hin.part (by simp)).on B0.out).on hu)
    have KX : Hid (∀ v', Below X.heap.size X v' → v'.cell? ⟨v.heap.size, 3, none⟩ = some (.slice (some ⟨b', o, none⟩) 2 cap) ∧ (v'.cell? ⟨b', o, none⟩ = some (.int .i64 p1.op) ∧ v'.cell? ⟨b', o + 1, none⟩ = some (.string p1.nm) ∧ v'.cell? ⟨b', o + 2, none⟩ = some (.int .i64 p1.day) ∧ v'.cell? ⟨b', o + 3, none⟩ = some (.slice p1.A p1.ps.length p1.cap)) ∧ v'.cell? ⟨b', o + 4, none⟩ = some (.int .i64 p2.op) ∧ v'.cell? ⟨b', o + 4 + 1, none⟩ = some (.string p2.nm) ∧ v'.cell? ⟨b', o + 4 + 2, none⟩ = some (.int .i64 p2.day) ∧ v'.cell? ⟨b', o + 4 + 3, none⟩ = some (.slice p2.A p2.ps.length p2.cap)) := Lib.hid fun v' hv => by
      have e := X0.out.on hv
      have hb2 : v'.heap[b']? = v.heap[b']? := (hv.block b' (by have := B0.out.size; omega)).trans (B0.out.block b' hb)
      have f1 := hE1.alike hb2
      have f2 := hE2.alike hb2
      exact ⟨e.c3, ⟨f1.c0, f1.c1, f1.c2, f1.c3⟩, f2.c0, f2.c1, f2.c2, f2.c3⟩
    have hl1 := txt_len a hok.1
    have hl2 := txt_len b hok.2
    have a1 := catIs [40] (txt a) (by simp; omega)
    have a2 := catIs ([40] ++ txt a) [32, 97, 110, 100, 32] (by simp; omega)
    have a3 := catIs ([40] ++ txt a ++ [32, 97, 110, 100, 32]) (txt b) (by simp; omega)
    have a4 := catIs ([40] ++ txt a ++ [32, 97, 110, 100, 32] ++ txt b) [41] (by simp; omega)
    show Calls Tryz.prog 27 #[.agg #[.int .i64 5, .string .empty, .int .i64 0, .slice (some ⟨b', o, none⟩) 2 cap]] v fun e w' => e = .returned (.string ⟨([40] ++ txt a ++ [32, 97, 110, 100, 32] ++ txt b ++ [41]).toArray⟩) ∧ Below v.heap.size v w'
    have HXX := Lib.hid hX
    clear hk hin iha ihb hbv hE1 hE2 hp1 hp2 hok hl1 hl2 hX
    generalize h4 : [40] ++ txt a ++ [32, 97, 110, 100, 32] ++ txt b ++ [41] = E4 at *
    generalize h3 : [40] ++ txt a ++ [32, 97, 110, 100, 32] ++ txt b = E3 at *
    generalize h2 : [40] ++ txt a ++ [32, 97, 110, 100, 32] = E2 at *
    generalize h1 : [40] ++ txt a = E1 at *
    clear h4 h3 h2 h1
    generalize txt a = T1 at *
    generalize txt b = T2 at *
    go_enter Tryz.func27, Tryz.ntmps27
    go_wp2_with fail
    rw [← HXX.out]
    have hc0 := KX.out X (Below.refl _ _)
    clear X0 HXX
    go_region_held3 (fun u => u.cell? ⟨v.heap.size, 3, none⟩ = some (.slice (some ⟨b', o, none⟩) 2 cap) ∧ (u.cell? ⟨b', o, none⟩ = some (.int .i64 p1.op) ∧ u.cell? ⟨b', o + 1, none⟩ = some (.string p1.nm) ∧ u.cell? ⟨b', o + 2, none⟩ = some (.int .i64 p1.day) ∧ u.cell? ⟨b', o + 3, none⟩ = some (.slice p1.A p1.ps.length p1.cap)) ∧ u.cell? ⟨b', o + 4, none⟩ = some (.int .i64 p2.op) ∧ u.cell? ⟨b', o + 4 + 1, none⟩ = some (.string p2.nm) ∧ u.cell? ⟨b', o + 4 + 2, none⟩ = some (.int .i64 p2.day) ∧ u.cell? ⟨b', o + 4 + 3, none⟩ = some (.slice p2.A p2.ps.length p2.cap)) (first | (refine KX.out _ ?_; (repeat (first | exact Below.refl _ _ | exact b2 | exact b1 | apply Below.drew)); done))
      (first
        | (go_at_call 27; (with_reducible refine (HI1.out _ (by (repeat (first | exact Below.refl _ _ | exact b2 | exact b1 | apply Below.drew)))).mono ?_); rintro e wa ⟨rfl, hb⟩; have b1 : Below X.heap.size X wa := (Below.trans (by (repeat (first | exact Below.refl _ _ | exact b2 | exact b1 | apply Below.drew))) (hb.mono (by first | omega | (simp; done) | (simp; omega) | exact b1.size | (have := b1.size; simp; omega)))); clear hb)
        | (go_at_call 27; (with_reducible refine (HI2.out _ (by (repeat (first | exact Below.refl _ _ | exact b2 | exact b1 | apply Below.drew)))).mono ?_); rintro e wb ⟨rfl, hb⟩; have b2 : Below X.heap.size X wb := (Below.trans (by (repeat (first | exact Below.refl _ _ | exact b2 | exact b1 | apply Below.drew))) (hb.mono (by first | omega | (simp; done) | (simp; omega) | exact b1.size | (have := b1.size; simp; omega)))); clear hb))
    all_goals
      go_wp2_with fail
      go_ret
      exact ⟨rfl, B0.out.trans (b2.mono B0.out.size)⟩
  | or a b iha ihb =>
    intro hok hsz k v hbv hk hin
    obtain ⟨A, cap, p1, p2, rfl, hp1, hp2⟩ := K.two hk
    obtain ⟨b', o, rfl, hb, hE1, hE2⟩ := Two hin
    simp only [Q.size] at hsz
    obtain ⟨X, hX⟩ : ∃ X, X = v.alloc (.cells #[.int .i64 6, .string .empty, .int .i64 0, .slice (some ⟨b', o, none⟩) 2 cap] 26) := ⟨_, rfl⟩
    have B0 : Hid (Below v.heap.size v X) := Lib.hid (by rw [hX]; exact below1 _ _)
    have X0 : Hid (B4 v.heap.size X (.int .i64 6) (.string .empty) (.int .i64 0) (.slice (some ⟨b', o, none⟩) 2 cap)) := Lib.hid (by rw [hX]; exact B4.new _ _ _ _ _ _)
    have HI1 : Hid (∀ u, Below X.heap.size X u → Calls Tryz.prog 27 #[p1.val] u fun e w' => e = .returned (.string ⟨(txt a).toArray⟩) ∧ Below u.heap.size u w') := Lib.hid fun u hu => iha hok.1 (by omega) p1 u ((hbv.trans (B0.out.mono hbv.size)).trans (hu.mono (Nat.le_trans hbv.size B0.out.size))) hp1 (((hin.part (by simp)).on B0.out).on hu)
    have HI2 : Hid (∀ u, Below X.heap.size X u → Calls Tryz.prog 27 #[p2.val] u fun e w' => e = .returned (.string ⟨(txt b).toArray⟩) ∧ Below u.heap.size u w') := Lib.hid fun u hu => ihb hok.2 (by omega) p2 u ((hbv.trans (B0.out.mono hbv.size)).trans (hu.mono (Nat.le_trans hbv.size B0.out.size))) hp2 (((hin.part (by simp)).on B0.out).on hu)
    have KX : Hid (∀ v', Below X.heap.size X v' → v'.cell? ⟨v.heap.size, 3, none⟩ = some (.slice (some ⟨b', o, none⟩) 2 cap) ∧ (v'.cell? ⟨b', o, none⟩ = some (.int .i64 p1.op) ∧ v'.cell? ⟨b', o + 1, none⟩ = some (.string p1.nm) ∧ v'.cell? ⟨b', o + 2, none⟩ = some (.int .i64 p1.day) ∧ v'.cell? ⟨b', o + 3, none⟩ = some (.slice p1.A p1.ps.length p1.cap)) ∧ v'.cell? ⟨b', o + 4, none⟩ = some (.int .i64 p2.op) ∧ v'.cell? ⟨b', o + 4 + 1, none⟩ = some (.string p2.nm) ∧ v'.cell? ⟨b', o + 4 + 2, none⟩ = some (.int .i64 p2.day) ∧ v'.cell? ⟨b', o + 4 + 3, none⟩ = some (.slice p2.A p2.ps.length p2.cap)) := Lib.hid fun v' hv => by
      have e := X0.out.on hv
      have hb2 : v'.heap[b']? = v.heap[b']? := (hv.block b' (by have := B0.out.size; omega)).trans (B0.out.block b' hb)
      have f1 := hE1.alike hb2
      have f2 := hE2.alike hb2
      exact ⟨e.c3, ⟨f1.c0, f1.c1, f1.c2, f1.c3⟩, f2.c0, f2.c1, f2.c2, f2.c3⟩
    have hl1 := txt_len a hok.1
    have hl2 := txt_len b hok.2
    have a1 := catIs [40] (txt a) (by simp; omega)
    have a2 := catIs ([40] ++ txt a) [32, 111, 114, 32] (by simp; omega)
    have a3 := catIs ([40] ++ txt a ++ [32, 111, 114, 32]) (txt b) (by simp; omega)
    have a4 := catIs ([40] ++ txt a ++ [32, 111, 114, 32] ++ txt b) [41] (by simp; omega)
    show Calls Tryz.prog 27 #[.agg #[.int .i64 6, .string .empty, .int .i64 0, .slice (some ⟨b', o, none⟩) 2 cap]] v fun e w' => e = .returned (.string ⟨([40] ++ txt a ++ [32, 111, 114, 32] ++ txt b ++ [41]).toArray⟩) ∧ Below v.heap.size v w'
    have HXX := Lib.hid hX
    clear hk hin iha ihb hbv hE1 hE2 hp1 hp2 hok hl1 hl2 hX
    generalize h4 : [40] ++ txt a ++ [32, 111, 114, 32] ++ txt b ++ [41] = E4 at *
    generalize h3 : [40] ++ txt a ++ [32, 111, 114, 32] ++ txt b = E3 at *
    generalize h2 : [40] ++ txt a ++ [32, 111, 114, 32] = E2 at *
    generalize h1 : [40] ++ txt a = E1 at *
    clear h4 h3 h2 h1
    generalize txt a = T1 at *
    generalize txt b = T2 at *
    go_enter Tryz.func27, Tryz.ntmps27
    go_wp2_with fail
    rw [← HXX.out]
    have hc0 := KX.out X (Below.refl _ _)
    clear X0 HXX
    go_region_held3 (fun u => u.cell? ⟨v.heap.size, 3, none⟩ = some (.slice (some ⟨b', o, none⟩) 2 cap) ∧ (u.cell? ⟨b', o, none⟩ = some (.int .i64 p1.op) ∧ u.cell? ⟨b', o + 1, none⟩ = some (.string p1.nm) ∧ u.cell? ⟨b', o + 2, none⟩ = some (.int .i64 p1.day) ∧ u.cell? ⟨b', o + 3, none⟩ = some (.slice p1.A p1.ps.length p1.cap)) ∧ u.cell? ⟨b', o + 4, none⟩ = some (.int .i64 p2.op) ∧ u.cell? ⟨b', o + 4 + 1, none⟩ = some (.string p2.nm) ∧ u.cell? ⟨b', o + 4 + 2, none⟩ = some (.int .i64 p2.day) ∧ u.cell? ⟨b', o + 4 + 3, none⟩ = some (.slice p2.A p2.ps.length p2.cap)) (first | (refine KX.out _ ?_; (repeat (first | exact Below.refl _ _ | exact b2 | exact b1 | apply Below.drew)); done))
      (first
        | (go_at_call 27; (with_reducible refine (HI1.out _ (by (repeat (first | exact Below.refl _ _ | exact b2 | exact b1 | apply Below.drew)))).mono ?_); rintro e wa ⟨rfl, hb⟩; have b1 : Below X.heap.size X wa := (Below.trans (by (repeat (first | exact Below.refl _ _ | exact b2 | exact b1 | apply Below.drew))) (hb.mono (by first | omega | (simp; done) | (simp; omega) | exact b1.size | (have := b1.size; simp; omega)))); clear hb)
        | (go_at_call 27; (with_reducible refine (HI2.out _ (by (repeat (first | exact Below.refl _ _ | exact b2 | exact b1 | apply Below.drew)))).mono ?_); rintro e wb ⟨rfl, hb⟩; have b2 : Below X.heap.size X wb := (Below.trans (by (repeat (first | exact Below.refl _ _ | exact b2 | exact b1 | apply Below.drew))) (hb.mono (by first | omega | (simp; done) | (simp; omega) | exact b1.size | (have := b1.size; simp; omega)))); clear hb))
    all_goals
      go_wp2_with fail
      go_ret
      exact ⟨rfl, B0.out.trans (b2.mono B0.out.size)⟩

end Go.Proofs.YtmgjeplbhnfakaaGreatDoor.Txt

namespace Go.Proofs.YtmgjeplbhnfakaaGreatDoor.RdT
open Go.RowKit Go.Proofs.YtmgjeplbhnfakaaGreatDoor.Cond
set_option linter.unusedVariables false
set_option linter.unusedSimpArgs false

theorem txt_dtext (y m d : Int) : FmtDate.text y m d = DPlain.text y m d := rfl
theorem ba_list (s : ByteArray) : ba s.toList = s := by rw [Go.ByteArray.toList_eq]
theorem st_split {p l : List UInt8} (h : st p l = true) : l = p ++ l.drop p.length := by
  have h1 : l.take p.length = p := by simpa [st] using h
  conv => lhs; rw [← List.take_append_drop p.length l, h1]
theorem st_app (p r : List UInt8) : st p (p ++ r) = true := by simp [st]

/-- Behind a condition no name goes on. -/
def stop (r : List UInt8) : Prop := ∀ b l, r = b :: l → sgn b.toNat = false
theorem word_app {a r : List UInt8} (ha : ∀ b ∈ a, sgn b.toNat = true) (hr : stop r) : word (a ++ r) = a := by
  unfold word
  rw [List.takeWhile_append_of_pos ha]
  cases r with
  | nil => simp
  | cons b l => simp [hr b l rfl]
theorem name_all {s : ByteArray} (h : isNm s = true) : (∀ b ∈ s.toList, sgn b.toNat = true) ∧ s.toList ≠ [] ∧ isWd s = false := by
  simp only [isNm, Bool.and_eq_true, decide_eq_true_eq, Bool.not_eq_true'] at h
  obtain ⟨⟨⟨⟨⟨h1, h2⟩, h3⟩, h4⟩, h5⟩, h6⟩ := h
  refine ⟨fun b hb => ?_, fun e => ?_, h6⟩
  · rw [Go.ByteArray.toList_eq] at hb
    obtain ⟨i, hi, rfl⟩ := List.getElem_of_mem hb
    have hi' : i < s.size := by simpa using hi
    have := h5 i hi'
    simp only [bAt, hi', dif_pos] at this
    exact this
  · rw [Go.ByteArray.toList_eq] at e
    have : s.data.toList.length = 0 := by rw [e]; rfl
    have e2 : s.data.toList.length = s.size := Array.length_toList
    omega
theorem txt_pos : ∀ q : Q, q.ok → q.size ≤ (Txt.txt q).length
  | .tru, _ => by simp [Txt.txt, Q.size]
  | .fact s, h => by
    have := (name_all (s := s) h).2.1
    simp only [Txt.txt, Q.size]
    exact List.length_pos_iff.2 this
  | .frm d, h => by simp [Txt.txt, Q.size]
  | .neg a, h => by
    have := txt_pos a h
    simp [Txt.txt, Q.size]; omega
  | .and a b, h => by
    have := txt_pos a h.1; have := txt_pos b h.2
    simp [Txt.txt, Q.size]; omega
  | .or a b, h => by
    have := txt_pos a h.1; have := txt_pos b h.2
    simp [Txt.txt, Q.size]; omega

theorem rd_txt {dt : List UInt8 → Option Int} (hdt : Dt dt) : ∀ (q : Q) (n : Nat) (r : List UInt8), q.ok → q.size ≤ n → stop r → rd dt n (Txt.txt q ++ r) = some (q, r) := by
  intro q
  induction q with
  | tru =>
    intro n r _ hn hr
    obtain ⟨m, rfl⟩ : ∃ m, n = m + 1 := ⟨n - 1, by simp [Q.size] at hn; omega⟩
    have hw : word ([116, 114, 117, 101] ++ r) = wTrue := word_app (by decide) hr
    have e1 : st wNot ([116, 114, 117, 101] ++ r) = false := by simp [st, wNot]
    have e2 : st wFrom ([116, 114, 117, 101] ++ r) = false := by simp [st, wFrom]
    have e3 : st wPar ([116, 114, 117, 101] ++ r) = false := by simp [st, wPar]
    simp only [Txt.txt, rd, e1, e2, e3, hw, if_true, Bool.false_eq_true, if_false]
    rfl
  | fact s =>
    intro n r hok hn hr
    obtain ⟨m, rfl⟩ : ∃ m, n = m + 1 := ⟨n - 1, by simp [Q.size] at hn; omega⟩
    have hnm : isNm s = true := hok
    obtain ⟨h1, h2, h3⟩ := name_all hnm
    have hw : word (s.toList ++ r) = s.toList := word_app h1 hr
    simp only [isWd, Bool.or_eq_false_iff, decide_eq_false_iff_not] at h3
    have e1 : st wNot (s.toList ++ r) = false := by
      cases h : st wNot (s.toList ++ r) with
      | false => rfl
      | true =>
        have e := st_split h
        have h4 : word (wNot ++ (s.toList ++ r).drop wNot.length) = [110, 111, 116] := by
          rw [show wNot ++ (s.toList ++ r).drop wNot.length = [110, 111, 116] ++ (32 :: (s.toList ++ r).drop wNot.length) from rfl]
          exact word_app (by decide) (fun b l e => by injection e with e1 e2; subst e1; rfl)
        rw [← e, hw] at h4
        exact absurd h4 h3.1.1.1.1.1.1.2
    have e2 : st wFrom (s.toList ++ r) = false := by
      cases h : st wFrom (s.toList ++ r) with
      | false => rfl
      | true =>
        have e := st_split h
        have h4 : word (wFrom ++ (s.toList ++ r).drop wFrom.length) = [102, 114, 111, 109] := by
          rw [show wFrom ++ (s.toList ++ r).drop wFrom.length = [102, 114, 111, 109] ++ (32 :: (s.toList ++ r).drop wFrom.length) from rfl]
          exact word_app (by decide) (fun b l e => by injection e with e1 e2; subst e1; rfl)
        rw [← e, hw] at h4
        exact absurd h4 h3.1.1.1.1.1.1.1.2
    have e3 : st wPar (s.toList ++ r) = false := by
      cases h : st wPar (s.toList ++ r) with
      | false => rfl
      | true =>
        have e := st_split h
        have h4 : word (wPar ++ (s.toList ++ r).drop wPar.length) = [] := by
          rw [show wPar ++ (s.toList ++ r).drop wPar.length = [] ++ (40 :: (s.toList ++ r).drop wPar.length) from rfl]
          exact word_app (by decide) (fun b l e => by injection e with e1 e2; subst e1; rfl)
        rw [← e, hw] at h4
        exact absurd h4 h2
    have e4 : ¬ s.toList = wTrue := h3.1.1.1.1.1.1.1.1
    simp only [Txt.txt, rd, e1, e2, e3, hw, e4, ba_list, hnm, if_true, Bool.false_eq_true, if_false, List.drop_left]
  | frm d =>
    intro n r hok hn hr
    obtain ⟨m, rfl⟩ : ∃ m, n = m + 1 := ⟨n - 1, by simp [Q.size] at hn; omega⟩
    have hday := Txt.isDy_day hok
    have hl : (FmtDate.text (Cal.yr d) (Cal.mo d) (Cal.da d)).length = 10 := DPlain.text_len (Cal.date_is hday).1.1
    have hd : dt (FmtDate.text (Cal.yr d) (Cal.mo d) (Cal.da d)) = some d := (hdt _ _).2 ⟨hday, rfl⟩
    have e : Txt.txt (.frm d) ++ r = wFrom ++ (FmtDate.text (Cal.yr d) (Cal.mo d) (Cal.da d) ++ r) := by simp [Txt.txt, wFrom]
    rw [e]
    generalize FmtDate.text (Cal.yr d) (Cal.mo d) (Cal.da d) = t at *
    have e1 : st wNot (wFrom ++ (t ++ r)) = false := by simp [st, wNot, wFrom]
    have e2 : st wFrom (wFrom ++ (t ++ r)) = true := st_app _ _
    have d5 : (wFrom ++ (t ++ r)).drop 5 = t ++ r := rfl
    have d15 : (wFrom ++ (t ++ r)).drop 15 = r := by
      rw [show (15 : Nat) = 5 + 10 from rfl, ← List.drop_drop, d5, ← hl, List.drop_left]
    have t10 : (t ++ r).take 10 = t := by rw [← hl, List.take_left]
    simp only [rd, e1, e2, d5, d15, t10, hd, if_true, Bool.false_eq_true, if_false]
  | neg a ih =>
    intro n r hok hn hr
    obtain ⟨m, rfl⟩ : ∃ m, n = m + 1 := ⟨n - 1, by simp [Q.size] at hn; omega⟩
    have e : Txt.txt (.neg a) ++ r = wNot ++ (Txt.txt a ++ r) := by simp [Txt.txt, wNot]
    rw [e]
    have e1 : st wNot (wNot ++ (Txt.txt a ++ r)) = true := st_app _ _
    have d4 : (wNot ++ (Txt.txt a ++ r)).drop 4 = Txt.txt a ++ r := rfl
    simp only [rd, e1, d4, ih m r hok (by simp [Q.size] at hn; omega) hr, if_true]
  | and a b iha ihb =>
    intro n r hok hn hr
    obtain ⟨m, rfl⟩ : ∃ m, n = m + 1 := ⟨n - 1, by simp [Q.size] at hn; omega⟩
    have e : Txt.txt (.and a b) ++ r = wPar ++ (Txt.txt a ++ (wAnd ++ (Txt.txt b ++ (wEnd ++ r)))) := by simp [Txt.txt, wPar, wAnd, wEnd]
    rw [e]
    have hb := ihb m (wEnd ++ r) hok.2 (by simp [Q.size] at hn; omega) (fun b l e => by injection e with e1 e2; subst e1; rfl)
    generalize Txt.txt b ++ (wEnd ++ r) = L2 at *
    have ha := iha m (wAnd ++ L2) hok.1 (by simp [Q.size] at hn; omega) (fun b l e => by injection e with e1 e2; subst e1; rfl)
    generalize hL1 : Txt.txt a ++ (wAnd ++ L2) = L1 at *
    have e1 : st wNot (wPar ++ L1) = false := by simp [st, wNot, wPar]
    have e2 : st wFrom (wPar ++ L1) = false := by simp [st, wFrom, wPar]
    have e3 : st wPar (wPar ++ L1) = true := st_app _ _
    have d1 : (wPar ++ L1).drop 1 = L1 := rfl
    have e4 : st wOr (wAnd ++ L2) = false := by simp [st, wOr, wAnd]
    have e5 : st wAnd (wAnd ++ L2) = true := st_app _ _
    have d5 : (wAnd ++ L2).drop 5 = L2 := rfl
    have e6 : st wEnd (wEnd ++ r) = true := st_app _ _
    have d6 : (wEnd ++ r).drop 1 = r := rfl
    simp only [rd, e1, e2, e3, d1, ha, e4, e5, d5, hb, e6, d6, if_true, Bool.false_eq_true, if_false]
  | or a b iha ihb =>
    intro n r hok hn hr
    obtain ⟨m, rfl⟩ : ∃ m, n = m + 1 := ⟨n - 1, by simp [Q.size] at hn; omega⟩
    have e : Txt.txt (.or a b) ++ r = wPar ++ (Txt.txt a ++ (wOr ++ (Txt.txt b ++ (wEnd ++ r)))) := by simp [Txt.txt, wPar, wOr, wEnd]
    rw [e]
    have hb := ihb m (wEnd ++ r) hok.2 (by simp [Q.size] at hn; omega) (fun b l e => by injection e with e1 e2; subst e1; rfl)
    generalize Txt.txt b ++ (wEnd ++ r) = L2 at *
    have ha := iha m (wOr ++ L2) hok.1 (by simp [Q.size] at hn; omega) (fun b l e => by injection e with e1 e2; subst e1; rfl)
    generalize hL1 : Txt.txt a ++ (wOr ++ L2) = L1 at *
    have e1 : st wNot (wPar ++ L1) = false := by simp [st, wNot, wPar]
    have e2 : st wFrom (wPar ++ L1) = false := by simp [st, wFrom, wPar]
    have e3 : st wPar (wPar ++ L1) = true := st_app _ _
    have d1 : (wPar ++ L1).drop 1 = L1 := rfl
    have e4 : st wOr (wOr ++ L2) = true := st_app _ _
    have d5 : (wOr ++ L2).drop 4 = L2 := rfl
    have e6 : st wEnd (wEnd ++ r) = true := st_app _ _
    have d6 : (wEnd ++ r).drop 1 = r := rfl
    simp only [rd, e1, e2, e3, d1, ha, e4, d5, hb, e6, d6, if_true, Bool.false_eq_true, if_false]

theorem pc_txt {dt : List UInt8 → Option Int} (hdt : Dt dt) {q : Q} (hok : q.ok) (hs : q.size ≤ 15) : pc dt (Txt.txt q) = some q := by
  have h := rd_txt hdt q ((Txt.txt q).length + 1) [] hok (by have := txt_pos q hok; omega) (fun b l e => by cases e)
  rw [List.append_nil] at h
  unfold pc
  rw [h]
  simp [hs]

end Go.Proofs.YtmgjeplbhnfakaaGreatDoor.RdT

namespace Go.Proofs.YtmgjeplbhnfakaaGreatDoor.Cond
open Go.RowKit

def Q.holds (kn : ByteArray → Bool) (d : Int) : Q → Bool
  | .tru => true
  | .fact s => kn s
  | .frm x => decide (x ≤ d)
  | .neg a => !a.holds kn d
  | .and a b => a.holds kn d && b.holds kn d
  | .or a b => a.holds kn d || b.holds kn d

theorem tl_inj {a b : ByteArray} (h : a.toList = b.toList) : a = b := by
  rw [Go.ByteArray.toList_eq, Go.ByteArray.toList_eq] at h
  cases a; cases b
  simpa [Array.toList_inj] using h

def has (ss : List ByteArray) (x : ByteArray) : Bool := ss.any fun p => decide (p.toList = x.toList)

theorem contains_has (ss : List ByteArray) (x : ByteArray) : Lib.containsS ss x = has ss x := by
  rw [Bool.eq_iff_iff, Lib.containsS_iff, has, List.any_eq_true]
  constructor
  · intro h
    exact ⟨x, h, by simp⟩
  · rintro ⟨p, hp, he⟩
    rw [← tl_inj (of_decide_eq_true he)]; exact hp

theorem has_no {ss : List ByteArray} {k : Nat} (hk : ss.length ≤ k) {x : ByteArray} (h : ∀ j, ∀ hj : j < ss.length, j < k → ¬ ss[j].toList = x.toList) : has ss x = false := by
  unfold has
  rw [List.any_eq_false]
  intro p hp
  obtain ⟨j, hj, rfl⟩ := List.mem_iff_getElem.1 hp
  simpa using h j hj (by omega)
theorem has_yes {ss : List ByteArray} {k : Nat} (hk : k < ss.length) {x : ByteArray} (h : ss[k].toList = x.toList) : has ss x = true := by
  unfold has
  rw [List.any_eq_true]
  exact ⟨ss[k], List.getElem_mem hk, by simpa using h⟩

set_option maxHeartbeats 1000000 in
theorem l5Has (A : Option Addr) (n cap : Nat) (ss : List ByteArray) (x : ByteArray) (B : Nat) (w : World) (hn : n = ss.length) (hm : n ≤ 1048576) (hA : Row.Is w B A ss) :
    Calls Tryz.prog 48 #[.slice A n cap, .string x] w fun e w' => e = .returned (.bool (has ss x)) ∧ w = w' := by
  have HN := Lib.hid hn
  clear hn
  go_enter Tryz.func48, Tryz.ntmps48
  go_wp2_with fail
  go_loopw [5] (fun i wr => ∃ k : Nat, k ≤ n ∧ i = .int .i64 k ∧ Hid (∀ j, ∀ hj : j < ss.length, j < k → ¬ ss[j].toList = x.toList) ∧ w = wr) (fun i _ => n - (intOf i).toNat)
  case atStart => exact ⟨0, Nat.zero_le _, rfl, Lib.hid fun j _ hj => by omega, rfl⟩
  case round =>
    obtain ⟨k, hk, rfl, HK, rfl⟩ := hrel
    by_cases hlt : k < n
    · have hk' : k < ss.length := by have := HN.out; omega
      obtain ⟨ad, rfl, hB, hc⟩ := hA (by omega)
      obtain ⟨p, hp⟩ : ∃ p, p = ss[k] := ⟨_, rfl⟩
      have hcell : w.cell? (ad.add k) = some (.string p) := by rw [hp]; exact hc k hk'
      have HP := Lib.hid hp
      clear hp hc
      by_cases he : p.toList = x.toList
      · have he' : (p.toList == x.toList) = true := by simpa using he
        go_wp2_with fail
        go_ret
        exact ⟨by rw [has_yes hk' (by rw [← HP.out]; exact he)]; rfl, rfl⟩
      · have he' : (p.toList == x.toList) = false := by simpa using he
        go_wp2_with fail
        go_roundw
        case rel => exact ⟨k + 1, by omega, by go_num, Lib.hid fun j hj hjk => by
          by_cases e : j = k
          · subst e; rw [← HP.out]; exact he
          · exact HK.out j hj (by omega), trivial⟩
        case measure => simp [intOf]; omega
    · go_wp2_with fail
      go_ret
      exact ⟨by rw [has_no (k := k) (by have := HN.out; omega) HK.out]; rfl, rfl⟩

theorem One {w : World} {B : Nat} {op : Int} {nm : ByteArray} {day : Int} {A : Option Addr} {cap : Nat} {p : K} (h : Lies w B (.mk op nm day A cap [p])) : ∃ b o, A = some ⟨b, o, none⟩ ∧ b < B ∧ El w b o p := by
  obtain ⟨b, o, rfl, hb, he⟩ := h.at (by simp)
  exact ⟨b, o, rfl, hb, by simpa using he 0 (by simp)⟩
theorem Two {w : World} {B : Nat} {op : Int} {nm : ByteArray} {day : Int} {A : Option Addr} {cap : Nat} {p q : K} (h : Lies w B (.mk op nm day A cap [p, q])) : ∃ b o, A = some ⟨b, o, none⟩ ∧ b < B ∧ El w b o p ∧ El w b (o + 4) q := by
  obtain ⟨b, o, rfl, hb, he⟩ := h.at (by simp)
  exact ⟨b, o, rfl, hb, by simpa using he 0 (by simp), by simpa using he 1 (by simp)⟩

set_option maxHeartbeats 4000000 in
theorem l5Holds (F : Option Addr) (n cf : Nat) (ss : List ByteArray) (d : Int) (w : World) (hn : n = ss.length) (hm : n ≤ 1048576) (hF : Row.Is w w.heap.size F ss) (q : Q) : ∀ (k : K) (v : World), Below w.heap.size w v → k.cond = q.c → Lies v v.heap.size k →
    Calls Tryz.prog 26 #[k.val, .slice F n cf, .int .i64 d] v fun e w' => e = .returned (.bool (q.holds (has ss) d)) ∧ Below v.heap.size v w' := by
  have HL : Hid (∀ s v, Below w.heap.size w v → Calls Tryz.prog 48 #[.slice F n cf, .string s] v fun e w' => e = .returned (.bool (has ss s)) ∧ Below v.heap.size v w') := Lib.hid fun s v hb => (l5Has F n cf ss s w.heap.size v hn hm (hF.below hb)).mono fun e w' ⟨he, hw⟩ => ⟨he, by rw [← hw]; exact Below.refl _ _⟩
  clear hn hm hF
  induction q with
  | tru =>
    intro k v hbv hk hin
    obtain ⟨A, cap, rfl⟩ := K.leaf hk
    clear hk hin
    have B0 := Lib.hid (below1 v (.cells #[.int .i64 1, .string .empty, .int .i64 0, .slice A 0 cap] 26))
    show Calls Tryz.prog 26 #[.agg #[.int .i64 1, .string .empty, .int .i64 0, .slice A 0 cap], .slice F n cf, .int .i64 d] v fun e w' => e = .returned (.bool ((Q.tru).holds (has ss) d)) ∧ Below v.heap.size v w'
    clear hbv
    go_enter Tryz.func26, Tryz.ntmps26
    go_wp2_with fail
    go_ret
    exact ⟨rfl, B0.out⟩
  | fact s =>
    intro k v hbv hk hin
    obtain ⟨A, cap, rfl⟩ := K.leaf hk
    clear hk hin
    have B0 := Lib.hid (below1 v (.cells #[.int .i64 2, .string s, .int .i64 0, .slice A 0 cap] 26))
    show Calls Tryz.prog 26 #[.agg #[.int .i64 2, .string s, .int .i64 0, .slice A 0 cap], .slice F n cf, .int .i64 d] v fun e w' => e = .returned (.bool ((Q.fact s).holds (has ss) d)) ∧ Below v.heap.size v w'
    have HLL := Lib.hid (HL.out s _ (hbv.trans (B0.out.mono hbv.size)))
    clear hbv
    go_enter Tryz.func26, Tryz.ntmps26
    go_wp2_with (go_at_call 48; refine HLL.out.mono ?_; rintro e w2 ⟨rfl, hb2⟩)
    go_ret
    exact ⟨rfl, B0.out.trans (hb2.mono B0.out.size)⟩
  | frm x =>
    intro k v hbv hk hin
    obtain ⟨A, cap, rfl⟩ := K.leaf hk
    clear hk hin
    have B0 := Lib.hid (below1 v (.cells #[.int .i64 3, .string .empty, .int .i64 x, .slice A 0 cap] 26))
    show Calls Tryz.prog 26 #[.agg #[.int .i64 3, .string .empty, .int .i64 x, .slice A 0 cap], .slice F n cf, .int .i64 d] v fun e w' => e = .returned (.bool ((Q.frm x).holds (has ss) d)) ∧ Below v.heap.size v w'
    clear hbv
    go_enter Tryz.func26, Tryz.ntmps26
    go_wp2_with fail
    go_ret
    exact ⟨rfl, B0.out⟩
  | neg a ih =>
    intro k v hbv hk hin
    obtain ⟨A, cap, p, rfl, hp⟩ := K.one hk
    obtain ⟨b, o, rfl, hb, hE⟩ := One hin
    have B0 := Lib.hid (below1 v (.cells #[.int .i64 4, .string .empty, .int .i64 0, .slice (some ⟨b, o, none⟩) 1 cap] 26))
    have HI := Lib.hid (ih p _ (hbv.trans (B0.out.mono hbv.size)) hp ((hin.part (by simp)).on B0.out))
    obtain ⟨c0, c1, c2, c3⟩ := hE.alike (B0.out.block b hb)
    clear hk hin ih hbv hE hp
    show Calls Tryz.prog 26 #[.agg #[.int .i64 4, .string .empty, .int .i64 0, .slice (some ⟨b, o, none⟩) 1 cap], .slice F n cf, .int .i64 d] v fun e w' => e = .returned (.bool ((Q.neg a).holds (has ss) d)) ∧ Below v.heap.size v w'
    obtain ⟨r, hr⟩ : ∃ r, r = a.holds (has ss) d := ⟨_, rfl⟩
    rw [← hr] at HI
    have HR := Lib.hid hr
    clear hr
    go_enter Tryz.func26, Tryz.ntmps26
    go_wp2_with (go_at_call 26; refine HI.out.mono ?_; rintro e w2 ⟨rfl, hb2⟩)
    go_ret
    exact ⟨by unfold Q.holds; rw [← HR.out]; rfl, B0.out.trans (hb2.mono B0.out.size)⟩
  | and a b iha ihb =>
    intro k v hbv hk hin
    obtain ⟨A, cap, p1, p2, rfl, hp1, hp2⟩ := K.two hk
    obtain ⟨b', o, rfl, hb, hE1, hE2⟩ := Two hin
    have B0 := Lib.hid (below1 v (.cells #[.int .i64 5, .string .empty, .int .i64 0, .slice (some ⟨b', o, none⟩) 2 cap] 26))
    have X0 := Lib.hid (B4.new v (.int .i64 5) (.string .empty) (.int .i64 0) (.slice (some ⟨b', o, none⟩) 2 cap) 26)
    have HI1 := Lib.hid (iha p1 _ (hbv.trans (B0.out.mono hbv.size)) hp1 ((hin.part (by simp)).on B0.out))
    have HI2 : Hid (∀ u, Below v.heap.size v u → Calls Tryz.prog 26 #[p2.val, .slice F n cf, .int .i64 d] u fun e w' => e = .returned (.bool (b.holds (has ss) d)) ∧ Below u.heap.size u w') := Lib.hid fun u hu => ihb p2 u (hbv.trans (hu.mono hbv.size)) hp2 ((hin.part (by simp)).on hu)
    obtain ⟨c0, c1, c2, c3⟩ := hE1.alike (B0.out.block b' hb)
    have HE2 : Hid (∀ u, Below v.heap.size v u → El u b' (o + 4) p2) := Lib.hid fun u hu => hE2.alike (hu.block b' hb)
    clear hk hin iha ihb hbv hE1 hE2 hp1 hp2
    show Calls Tryz.prog 26 #[.agg #[.int .i64 5, .string .empty, .int .i64 0, .slice (some ⟨b', o, none⟩) 2 cap], .slice F n cf, .int .i64 d] v fun e w' => e = .returned (.bool ((Q.and a b).holds (has ss) d)) ∧ Below v.heap.size v w'
    obtain ⟨r, hr⟩ : ∃ r, r = a.holds (has ss) d := ⟨_, rfl⟩
    rw [← hr] at HI1
    have HR := Lib.hid hr
    clear hr
    cases r
    · go_enter Tryz.func26, Tryz.ntmps26
      go_wp2_with (go_at_call 26; refine HI1.out.mono ?_; rintro e w2 ⟨rfl, hb2⟩)
      go_ret
      exact ⟨by unfold Q.holds; rw [← HR.out]; rfl, B0.out.trans (hb2.mono B0.out.size)⟩
    · go_enter Tryz.func26, Tryz.ntmps26
      go_wp2_with (go_at_call 26; refine HI1.out.mono ?_; rintro e w2 ⟨rfl, hb2⟩; refine Hid.out ?_)
      refine Lib.hid ?_
      have HB2 := Lib.hid (B0.out.trans (hb2.mono B0.out.size))
      have HX2 := Lib.hid (X0.out.on hb2)
      obtain ⟨_, x0, x1, x2, x3, _⟩ := HX2.out
      obtain ⟨d0, d1, d2, d3⟩ := HE2.out w2 HB2.out
      have HI3 := Lib.hid (HI2.out w2 HB2.out)
      clear hb2 c0 c1 c2 c3
      go_wp2_with (go_at_call 26; refine HI3.out.mono ?_; rintro e w3 ⟨rfl, hb3⟩)
      go_ret
      exact ⟨by show _ = Ending.returned (.bool (a.holds (has ss) d && b.holds (has ss) d)); rw [← HR.out]; rfl, HB2.out.trans (hb3.mono HB2.out.size)⟩
  | or a b iha ihb =>
    intro k v hbv hk hin
    obtain ⟨A, cap, p1, p2, rfl, hp1, hp2⟩ := K.two hk
    obtain ⟨b', o, rfl, hb, hE1, hE2⟩ := Two hin
    have B0 := Lib.hid (below1 v (.cells #[.int .i64 6, .string .empty, .int .i64 0, .slice (some ⟨b', o, none⟩) 2 cap] 26))
    have X0 := Lib.hid (B4.new v (.int .i64 6) (.string .empty) (.int .i64 0) (.slice (some ⟨b', o, none⟩) 2 cap) 26)
    have HI1 := Lib.hid (iha p1 _ (hbv.trans (B0.out.mono hbv.size)) hp1 ((hin.part (by simp)).on B0.out))
    have HI2 : Hid (∀ u, Below v.heap.size v u → Calls Tryz.prog 26 #[p2.val, .slice F n cf, .int .i64 d] u fun e w' => e = .returned (.bool (b.holds (has ss) d)) ∧ Below u.heap.size u w') := Lib.hid fun u hu => ihb p2 u (hbv.trans (hu.mono hbv.size)) hp2 ((hin.part (by simp)).on hu)
    obtain ⟨c0, c1, c2, c3⟩ := hE1.alike (B0.out.block b' hb)
    have HE2 : Hid (∀ u, Below v.heap.size v u → El u b' (o + 4) p2) := Lib.hid fun u hu => hE2.alike (hu.block b' hb)
    clear hk hin iha ihb hbv hE1 hE2 hp1 hp2
    show Calls Tryz.prog 26 #[.agg #[.int .i64 6, .string .empty, .int .i64 0, .slice (some ⟨b', o, none⟩) 2 cap], .slice F n cf, .int .i64 d] v fun e w' => e = .returned (.bool ((Q.or a b).holds (has ss) d)) ∧ Below v.heap.size v w'
    obtain ⟨r, hr⟩ : ∃ r, r = a.holds (has ss) d := ⟨_, rfl⟩
    rw [← hr] at HI1
    have HR := Lib.hid hr
    clear hr
    cases r
    · go_enter Tryz.func26, Tryz.ntmps26
      go_wp2_with (go_at_call 26; refine HI1.out.mono ?_; rintro e w2 ⟨rfl, hb2⟩; refine Hid.out ?_)
      refine Lib.hid ?_
      have HB2 := Lib.hid (B0.out.trans (hb2.mono B0.out.size))
      have HX2 := Lib.hid (X0.out.on hb2)
      obtain ⟨_, x0, x1, x2, x3, _⟩ := HX2.out
      obtain ⟨d0, d1, d2, d3⟩ := HE2.out w2 HB2.out
      have HI3 := Lib.hid (HI2.out w2 HB2.out)
      clear hb2 c0 c1 c2 c3
      go_wp2_with (go_at_call 26; refine HI3.out.mono ?_; rintro e w3 ⟨rfl, hb3⟩)
      go_ret
      exact ⟨by show _ = Ending.returned (.bool (a.holds (has ss) d || b.holds (has ss) d)); rw [← HR.out]; rfl, HB2.out.trans (hb3.mono HB2.out.size)⟩
    · go_enter Tryz.func26, Tryz.ntmps26
      go_wp2_with (go_at_call 26; refine HI1.out.mono ?_; rintro e w2 ⟨rfl, hb2⟩)
      go_ret
      exact ⟨by unfold Q.holds; rw [← HR.out]; rfl, B0.out.trans (hb2.mono B0.out.size)⟩

set_option maxHeartbeats 1000000 in
theorem knowsE (F : Option Addr) (n cf fb : Nat) (ss : List ByteArray) (x : ByteArray) (v : World) (hn : n = ss.length) (hm : n ≤ 1048576) (hF : Row.Is v v.heap.size F ss) (hsp : ∀ ad, F = some ad → 0 < n → ad = ⟨ad.block, ad.off, none⟩) (hc : v.cell? ⟨fb, 0, none⟩ = some (.slice F n cf)) :
    Calls Tryz.prog 20 #[.string x, .pointer (some ⟨fb, 0, none⟩)] v fun e w' => e = .returned (.bool (has ss x)) ∧ Below v.heap.size v w' := by
  have HC : Hid (Calls Tryz.prog 21 #[.slice F n cf, .string x] v fun e w' => e = .returned (.bool (has ss x)) ∧ v = w') := Lib.hid (by
    rcases Nat.eq_zero_or_pos n with e | e
    · subst e
      have : ss = [] := List.eq_nil_of_length_eq_zero hn.symm
      subst this
      exact (Tryz.slices_Contains_string_empty F cf x v).mono fun e w' ⟨he, hw⟩ => ⟨he, hw.symm⟩
    · obtain ⟨ad, rfl, hb, hcl⟩ := hF (by omega)
      rw [hsp ad rfl e]
      refine (Tryz.slices_Contains_string ad.block ad.off n cf ss x v (by omega) (by omega) (fun j hj => ?_)).mono fun e w' ⟨he, hw⟩ => ⟨?_, hw.symm⟩
      · have := hcl j hj
        rw [hsp ad rfl e, add_none] at this
        rw [this]
        simp [List.getD, hj]
      · rw [he, hn, List.take_length]
        congr 2
        exact contains_has ss x)
  clear hF hn hm hsp
  go_enter Tryz.func20, Tryz.ntmps20
  go_wp2_with (go_at_call 21; refine HC.out.mono ?_; rintro e w' ⟨rfl, rfl⟩)
  go_ret
  exact ⟨rfl, Below.refl _ _⟩

set_option maxHeartbeats 4000000 in
theorem holdsE (F : Option Addr) (n cf fb : Nat) (ss : List ByteArray) (d : Int) (w : World) (hn : n = ss.length) (hm : n ≤ 1048576) (hF : Row.Is w w.heap.size F ss) (hsp : ∀ ad, F = some ad → 0 < n → ad = ⟨ad.block, ad.off, none⟩) (hfb : fb < w.heap.size) (hc : w.cell? ⟨fb, 0, none⟩ = some (.slice F n cf)) (q : Q) : ∀ (k : K) (v : World), Below w.heap.size w v → k.cond = q.c → Lies v v.heap.size k →
    Calls Tryz.prog 19 #[k.val, .int .i64 d, .func (.func 20) #[] #[.pointer (some ⟨fb, 0, none⟩)]] v fun e w' => e = .returned (.bool (q.holds (has ss) d)) ∧ Below v.heap.size v w' := by
  have HL : Hid (∀ s v, Below w.heap.size w v → Calls Tryz.prog 20 #[.string s, .pointer (some ⟨fb, 0, none⟩)] v fun e w' => e = .returned (.bool (has ss s)) ∧ Below v.heap.size v w') := Lib.hid fun s v hb => knowsE F n cf fb ss s v hn hm ((hF.below hb).more hb.size) hsp ((hb.cell (p := ⟨fb, 0, none⟩) hfb).trans hc)
  clear hn hm hF hsp hc hfb
  induction q with
  | tru =>
    intro k v hbv hk hin
    obtain ⟨A, cap, rfl⟩ := K.leaf hk
    clear hk hin
    have B0 := Lib.hid (below1 v (.cells #[.int .i64 1, .string .empty, .int .i64 0, .slice A 0 cap] 26))
    show Calls Tryz.prog 19 #[.agg #[.int .i64 1, .string .empty, .int .i64 0, .slice A 0 cap], .int .i64 d, .func (.func 20) #[] #[.pointer (some ⟨fb, 0, none⟩)]] v fun e w' => e = .returned (.bool ((Q.tru).holds (has ss) d)) ∧ Below v.heap.size v w'
    clear hbv
    go_enter Tryz.func19, Tryz.ntmps19
    go_wp2_with fail
    go_ret
    exact ⟨rfl, B0.out⟩
  | fact s =>
    intro k v hbv hk hin
    obtain ⟨A, cap, rfl⟩ := K.leaf hk
    clear hk hin
    have B0 := Lib.hid (below1 v (.cells #[.int .i64 2, .string s, .int .i64 0, .slice A 0 cap] 26))
    show Calls Tryz.prog 19 #[.agg #[.int .i64 2, .string s, .int .i64 0, .slice A 0 cap], .int .i64 d, .func (.func 20) #[] #[.pointer (some ⟨fb, 0, none⟩)]] v fun e w' => e = .returned (.bool ((Q.fact s).holds (has ss) d)) ∧ Below v.heap.size v w'
    have HLL := Lib.hid (HL.out s _ (hbv.trans (B0.out.mono hbv.size)))
    clear hbv
    go_enter Tryz.func19, Tryz.ntmps19
    go_wp2_with (go_at_call 20; refine HLL.out.mono ?_; rintro e w2 ⟨rfl, hb2⟩)
    go_ret
    exact ⟨rfl, B0.out.trans (hb2.mono B0.out.size)⟩
  | frm x =>
    intro k v hbv hk hin
    obtain ⟨A, cap, rfl⟩ := K.leaf hk
    clear hk hin
    have B0 := Lib.hid (below1 v (.cells #[.int .i64 3, .string .empty, .int .i64 x, .slice A 0 cap] 26))
    show Calls Tryz.prog 19 #[.agg #[.int .i64 3, .string .empty, .int .i64 x, .slice A 0 cap], .int .i64 d, .func (.func 20) #[] #[.pointer (some ⟨fb, 0, none⟩)]] v fun e w' => e = .returned (.bool ((Q.frm x).holds (has ss) d)) ∧ Below v.heap.size v w'
    clear hbv
    go_enter Tryz.func19, Tryz.ntmps19
    go_wp2_with fail
    go_ret
    exact ⟨rfl, B0.out⟩
  | neg a ih =>
    intro k v hbv hk hin
    obtain ⟨A, cap, p, rfl, hp⟩ := K.one hk
    obtain ⟨b, o, rfl, hb, hE⟩ := One hin
    have B0 := Lib.hid (below1 v (.cells #[.int .i64 4, .string .empty, .int .i64 0, .slice (some ⟨b, o, none⟩) 1 cap] 26))
    have HI := Lib.hid (ih p _ (hbv.trans (B0.out.mono hbv.size)) hp ((hin.part (by simp)).on B0.out))
    obtain ⟨c0, c1, c2, c3⟩ := hE.alike (B0.out.block b hb)
    clear hk hin ih hbv hE hp
    show Calls Tryz.prog 19 #[.agg #[.int .i64 4, .string .empty, .int .i64 0, .slice (some ⟨b, o, none⟩) 1 cap], .int .i64 d, .func (.func 20) #[] #[.pointer (some ⟨fb, 0, none⟩)]] v fun e w' => e = .returned (.bool ((Q.neg a).holds (has ss) d)) ∧ Below v.heap.size v w'
    obtain ⟨r, hr⟩ : ∃ r, r = a.holds (has ss) d := ⟨_, rfl⟩
    rw [← hr] at HI
    have HR := Lib.hid hr
    clear hr
    go_enter Tryz.func19, Tryz.ntmps19
    go_wp2_with (go_at_call 19; refine HI.out.mono ?_; rintro e w2 ⟨rfl, hb2⟩)
    go_ret
    exact ⟨by unfold Q.holds; rw [← HR.out]; rfl, B0.out.trans (hb2.mono B0.out.size)⟩
  | and a b iha ihb =>
    intro k v hbv hk hin
    obtain ⟨A, cap, p1, p2, rfl, hp1, hp2⟩ := K.two hk
    obtain ⟨b', o, rfl, hb, hE1, hE2⟩ := Two hin
    have B0 := Lib.hid (below1 v (.cells #[.int .i64 5, .string .empty, .int .i64 0, .slice (some ⟨b', o, none⟩) 2 cap] 26))
    have X0 := Lib.hid (B4.new v (.int .i64 5) (.string .empty) (.int .i64 0) (.slice (some ⟨b', o, none⟩) 2 cap) 26)
    have HI1 := Lib.hid (iha p1 _ (hbv.trans (B0.out.mono hbv.size)) hp1 ((hin.part (by simp)).on B0.out))
    have HI2 : Hid (∀ u, Below v.heap.size v u → Calls Tryz.prog 19 #[p2.val, .int .i64 d, .func (.func 20) #[] #[.pointer (some ⟨fb, 0, none⟩)]] u fun e w' => e = .returned (.bool (b.holds (has ss) d)) ∧ Below u.heap.size u w') := Lib.hid fun u hu => ihb p2 u (hbv.trans (hu.mono hbv.size)) hp2 ((hin.part (by simp)).on hu)
    obtain ⟨c0, c1, c2, c3⟩ := hE1.alike (B0.out.block b' hb)
    have HE2 : Hid (∀ u, Below v.heap.size v u → El u b' (o + 4) p2) := Lib.hid fun u hu => hE2.alike (hu.block b' hb)
    clear hk hin iha ihb hbv hE1 hE2 hp1 hp2
    show Calls Tryz.prog 19 #[.agg #[.int .i64 5, .string .empty, .int .i64 0, .slice (some ⟨b', o, none⟩) 2 cap], .int .i64 d, .func (.func 20) #[] #[.pointer (some ⟨fb, 0, none⟩)]] v fun e w' => e = .returned (.bool ((Q.and a b).holds (has ss) d)) ∧ Below v.heap.size v w'
    obtain ⟨r, hr⟩ : ∃ r, r = a.holds (has ss) d := ⟨_, rfl⟩
    rw [← hr] at HI1
    have HR := Lib.hid hr
    clear hr
    cases r
    · go_enter Tryz.func19, Tryz.ntmps19
      go_wp2_with (go_at_call 19; refine HI1.out.mono ?_; rintro e w2 ⟨rfl, hb2⟩)
      go_ret
      exact ⟨by unfold Q.holds; rw [← HR.out]; rfl, B0.out.trans (hb2.mono B0.out.size)⟩
    · go_enter Tryz.func19, Tryz.ntmps19
      go_wp2_with (go_at_call 19; refine HI1.out.mono ?_; rintro e w2 ⟨rfl, hb2⟩; refine Hid.out ?_)
      refine Lib.hid ?_
      have HB2 := Lib.hid (B0.out.trans (hb2.mono B0.out.size))
      have HX2 := Lib.hid (X0.out.on hb2)
      obtain ⟨_, x0, x1, x2, x3, _⟩ := HX2.out
      obtain ⟨d0, d1, d2, d3⟩ := HE2.out w2 HB2.out
      have HI3 := Lib.hid (HI2.out w2 HB2.out)
      clear hb2 c0 c1 c2 c3
      go_wp2_with (go_at_call 19; refine HI3.out.mono ?_; rintro e w3 ⟨rfl, hb3⟩)
      go_ret
      exact ⟨by show _ = Ending.returned (.bool (a.holds (has ss) d && b.holds (has ss) d)); rw [← HR.out]; rfl, HB2.out.trans (hb3.mono HB2.out.size)⟩
  | or a b iha ihb =>
    intro k v hbv hk hin
    obtain ⟨A, cap, p1, p2, rfl, hp1, hp2⟩ := K.two hk
    obtain ⟨b', o, rfl, hb, hE1, hE2⟩ := Two hin
    have B0 := Lib.hid (below1 v (.cells #[.int .i64 6, .string .empty, .int .i64 0, .slice (some ⟨b', o, none⟩) 2 cap] 26))
    have X0 := Lib.hid (B4.new v (.int .i64 6) (.string .empty) (.int .i64 0) (.slice (some ⟨b', o, none⟩) 2 cap) 26)
    have HI1 := Lib.hid (iha p1 _ (hbv.trans (B0.out.mono hbv.size)) hp1 ((hin.part (by simp)).on B0.out))
    have HI2 : Hid (∀ u, Below v.heap.size v u → Calls Tryz.prog 19 #[p2.val, .int .i64 d, .func (.func 20) #[] #[.pointer (some ⟨fb, 0, none⟩)]] u fun e w' => e = .returned (.bool (b.holds (has ss) d)) ∧ Below u.heap.size u w') := Lib.hid fun u hu => ihb p2 u (hbv.trans (hu.mono hbv.size)) hp2 ((hin.part (by simp)).on hu)
    obtain ⟨c0, c1, c2, c3⟩ := hE1.alike (B0.out.block b' hb)
    have HE2 : Hid (∀ u, Below v.heap.size v u → El u b' (o + 4) p2) := Lib.hid fun u hu => hE2.alike (hu.block b' hb)
    clear hk hin iha ihb hbv hE1 hE2 hp1 hp2
    show Calls Tryz.prog 19 #[.agg #[.int .i64 6, .string .empty, .int .i64 0, .slice (some ⟨b', o, none⟩) 2 cap], .int .i64 d, .func (.func 20) #[] #[.pointer (some ⟨fb, 0, none⟩)]] v fun e w' => e = .returned (.bool ((Q.or a b).holds (has ss) d)) ∧ Below v.heap.size v w'
    obtain ⟨r, hr⟩ : ∃ r, r = a.holds (has ss) d := ⟨_, rfl⟩
    rw [← hr] at HI1
    have HR := Lib.hid hr
    clear hr
    cases r
    · go_enter Tryz.func19, Tryz.ntmps19
      go_wp2_with (go_at_call 19; refine HI1.out.mono ?_; rintro e w2 ⟨rfl, hb2⟩; refine Hid.out ?_)
      refine Lib.hid ?_
      have HB2 := Lib.hid (B0.out.trans (hb2.mono B0.out.size))
      have HX2 := Lib.hid (X0.out.on hb2)
      obtain ⟨_, x0, x1, x2, x3, _⟩ := HX2.out
      obtain ⟨d0, d1, d2, d3⟩ := HE2.out w2 HB2.out
      have HI3 := Lib.hid (HI2.out w2 HB2.out)
      clear hb2 c0 c1 c2 c3
      go_wp2_with (go_at_call 19; refine HI3.out.mono ?_; rintro e w3 ⟨rfl, hb3⟩)
      go_ret
      exact ⟨by show _ = Ending.returned (.bool (a.holds (has ss) d || b.holds (has ss) d)); rw [← HR.out]; rfl, HB2.out.trans (hb3.mono HB2.out.size)⟩
    · go_enter Tryz.func19, Tryz.ntmps19
      go_wp2_with (go_at_call 19; refine HI1.out.mono ?_; rintro e w2 ⟨rfl, hb2⟩)
      go_ret
      exact ⟨by unfold Q.holds; rw [← HR.out]; rfl, B0.out.trans (hb2.mono B0.out.size)⟩

end Go.Proofs.YtmgjeplbhnfakaaGreatDoor.Cond

namespace Go.Proofs.YtmgjeplbhnfakaaGreatDoor.Cond
open Go.RowKit

/-- What EvaluateCondition answers. -/
structure EvIs (c : C) (f : Bool) (ss : List ByteArray) (d : Int) (x y : Bool) : Prop where
  no : (c.good && f && isDy d) = false → x = false ∧ y = false
  yes : ∀ q : Q, c = q.c → (c.good && f && isDy d) = true → x = q.holds (has ss) d ∧ y = true
theorem Q.c_inj : ∀ {a b : Q}, a.c = b.c → a = b := by
  intro a
  induction a with
  | tru => intro b h; cases b <;> simp [Q.c] at h <;> simp_all
  | fact s => intro b h; cases b <;> simp [Q.c] at h <;> simp_all
  | frm d => intro b h; cases b <;> simp [Q.c] at h <;> simp_all
  | neg a ih => intro b h; cases b <;> simp [Q.c] at h; rw [ih h]
  | and a a' ih ih' => intro b h; cases b <;> simp [Q.c] at h; rw [ih h.1, ih' h.2]
  | or a a' ih ih' => intro b h; cases b <;> simp [Q.c] at h; rw [ih h.1, ih' h.2]
theorem ev_is (c : C) (f : Bool) (ss : List ByteArray) (d : Int) : ∃ x y, EvIs c f ss d x y := by
  cases h : (c.good && f && isDy d) with
  | false => exact ⟨false, false, fun _ => ⟨rfl, rfl⟩, fun q _ h2 => by rw [h] at h2; cases h2⟩
  | true =>
    have hg : c.good = true := by
      simp only [Bool.and_eq_true] at h
      exact h.1.1
    obtain ⟨q, hq, _⟩ := good_q hg
    exact ⟨q.holds (has ss) d, true, ⟨fun h2 => (by rw [h] at h2; cases h2), fun q' hq' _ => (by rw [Q.c_inj (hq'.symm.trans hq)]; exact ⟨rfl, rfl⟩)⟩⟩

set_option maxHeartbeats 4000000 in
theorem specEv (k : K) (F : Option Addr) (n cf : Nat) (ss : List ByteArray) (d : Int) (w : World) (hin : Lies w w.heap.size k) (hw : k.cond.wt ≤ 1048576) (hn : n = ss.length) (hm : n ≤ 1048576) (hF : Row.Is w w.heap.size F ss) (f : Bool) (hf : f = true ↔ FOk ss) (x y : Bool) (hx : EvIs k.cond f ss d x y) :
    Calls Tryz.prog 8 #[k.val, .slice F n cf, .int .i64 d] w fun e w' => e = .returned (.tuple #[.bool x, .bool y]) ∧ Below w.heap.size w w' := by
  have B0 := Lib.hid (below1 w (.cells #[.int .i64 k.op, .string k.nm, .int .i64 k.day, .slice k.A k.ps.length k.cap] 26))
  have X0 := Lib.hid (B4.new w (.int .i64 k.op) (.string k.nm) (.int .i64 k.day) (.slice k.A k.ps.length k.cap) 26)
  have HG := l5Good k _ (hin.on B0.out) hw
  have HFA : Hid (∀ v, Below w.heap.size w v → Calls Tryz.prog 24 #[.slice F n cf] v fun e w' => e = .returned (.bool f) ∧ Below v.heap.size v w') := Lib.hid fun v hb => (l5Facts F n cf ss w.heap.size v hn hm (hF.below hb) f hf).mono fun e w' ⟨he, m, hm⟩ => ⟨he, by rw [hm]; exact below_drewN (Below.refl _ _) _⟩
  have HD : Hid (∀ v, Calls Tryz.prog 25 #[.int .i64 d] v fun e w' => e = .returned (.bool (isDy d)) ∧ v = w') := Lib.hid fun v => l3Good d v
  have HH : Hid (∀ q : Q, k.cond = q.c → ∀ v, Below w.heap.size w v → Calls Tryz.prog 26 #[k.val, .slice F n cf, .int .i64 d] v fun e w' => e = .returned (.bool (q.holds (has ss) d)) ∧ Below v.heap.size v w') := Lib.hid fun q hq v hb => l5Holds F n cf ss d w hn hm hF q k v hb hq (hin.on hb)
  have HX := Lib.hid hx
  have HQ : Hid (k.cond.good = true → ∃ q : Q, k.cond = q.c) := Lib.hid fun h => by obtain ⟨q, hq, _⟩ := good_q h; exact ⟨q, hq⟩
  clear hin hw hn hm hF hf hx
  obtain ⟨g, hg⟩ : ∃ g, g = k.cond.good := ⟨_, rfl⟩
  rw [← hg] at HG
  have HGG := Lib.hid hg
  have HGH := Lib.hid HG
  clear hg HG
  obtain ⟨t, ht⟩ : ∃ t, t = isDy d := ⟨_, rfl⟩
  rw [← ht] at HD
  have HT := Lib.hid ht
  clear ht
  cases g
  · have HE : Hid (x = false ∧ y = false) := Lib.hid (HX.out.no (by rw [← HGG.out]; rfl))
    go_enter Tryz.func8, Tryz.ntmps8
    go_wp2_with (go_at_call 23; refine HGH.out.mono ?_; rintro e w2 ⟨rfl, hb2⟩)
    go_ret2
    exact ⟨by rw [HE.out.1, HE.out.2]; rfl, B0.out.trans (hb2.mono B0.out.size)⟩
  obtain ⟨q, hq⟩ := HQ.out HGG.out.symm
  have HQQ := Lib.hid hq
  clear hq
  go_enter Tryz.func8, Tryz.ntmps8
  go_wp2_with (go_at_call 23; refine HGH.out.mono ?_; rintro e w2 ⟨rfl, hb2⟩; refine Hid.out ?_)
  refine Lib.hid ?_
  have B2 := Lib.hid (B0.out.trans (hb2.mono B0.out.size))
  have X2 := Lib.hid (X0.out.on hb2)
  have HFH := Lib.hid (HFA.out w2 B2.out)
  clear hb2
  cases f
  · have HE : Hid (x = false ∧ y = false) := Lib.hid (HX.out.no (by rw [← HGG.out]; rfl))
    go_wp2_with (go_at_call 24; refine HFH.out.mono ?_; rintro e w3 ⟨rfl, hb3⟩)
    go_ret2
    exact ⟨by rw [HE.out.1, HE.out.2]; rfl, B2.out.trans (hb3.mono B2.out.size)⟩
  go_wp2_with (go_at_call 24; refine HFH.out.mono ?_; rintro e w3 ⟨rfl, hb3⟩; refine Hid.out ?_)
  refine Lib.hid ?_
  have B3 := Lib.hid (B2.out.trans (hb3.mono B2.out.size))
  have X3 := Lib.hid (X2.out.on hb3)
  obtain ⟨_, x0, x1, x2, x3, _⟩ := X3.out
  have HHH := Lib.hid (HH.out q HQQ.out w3 B3.out)
  clear hb3
  cases t
  · have HE : Hid (x = false ∧ y = false) := Lib.hid (HX.out.no (by rw [← HGG.out, ← HT.out]; rfl))
    go_wp2_with (go_at_call 25; refine (HD.out _).mono ?_; rintro e w4 ⟨rfl, rfl⟩)
    go_ret2
    exact ⟨by rw [HE.out.1, HE.out.2]; rfl, B3.out⟩
  have HE : Hid (x = q.holds (has ss) d ∧ y = true) := Lib.hid (HX.out.yes q HQQ.out (by rw [← HGG.out, ← HT.out]; rfl))
  go_wp2_with (first | (go_at_call 25; refine (HD.out _).mono ?_; rintro e w4 ⟨rfl, rfl⟩) | (go_at_call 26; refine HHH.out.mono ?_; rintro e w5 ⟨rfl, hb5⟩))
  go_ret2
  exact ⟨by rw [HE.out.1, HE.out.2]; rfl, B3.out.trans (hb5.mono B3.out.size)⟩

set_option maxHeartbeats 4000000 in
theorem implEv (k : K) (F : Option Addr) (n cf : Nat) (ss : List ByteArray) (d : Int) (w : World) (hin : Lies w w.heap.size k) (hw : k.cond.wt ≤ 1048576) (hn : n = ss.length) (hm : n ≤ 1048576) (hF : Row.Is w w.heap.size F ss) (hs : ∀ p ∈ ss, p.size ≤ maxLen) (hsp : ∀ ad, F = some ad → 0 < n → ad = ⟨ad.block, ad.off, none⟩) (f : Bool) (hf : f = true ↔ FOk ss) (x y : Bool) (hx : EvIs k.cond f ss d x y) :
    Calls Tryz.prog 6 #[k.val, .slice F n cf, .int .i64 d] w fun e w' => e = .returned (.tuple #[.bool x, .bool y]) ∧ Below w.heap.size w w' := by
  obtain ⟨w0, hw0⟩ : ∃ w0, w0 = (w.alloc (.cells #[.int .i64 k.op, .string k.nm, .int .i64 k.day, .slice k.A k.ps.length k.cap] 26)).alloc (.cells #[.slice F n cf] 27) := ⟨_, rfl⟩
  have B0 : Hid (Below w.heap.size w w0) := Lib.hid (by rw [hw0]; exact (below1 _ _).alloc (by simp) _)
  have X0 : Hid (B4 w.heap.size w0 (.int .i64 k.op) (.string k.nm) (.int .i64 k.day) (.slice k.A k.ps.length k.cap)) := Lib.hid (by rw [hw0]; exact (B4.new w _ _ _ _ _).alloc _)
  have L0 : Hid (w.heap.size + 1 < w0.heap.size) := Lib.hid (by rw [hw0]; simp)
  have C0 : Hid (w0.cell? ⟨w.heap.size + 1, 0, none⟩ = some (.slice F n cf)) := Lib.hid (by rw [hw0]; simp [go_sem])
  have CC : Hid (∀ v, Below w0.heap.size w0 v → v.cell? ⟨w.heap.size + 1, 0, none⟩ = some (.slice F n cf)) := Lib.hid fun v hb => (hb.cell (p := ⟨w.heap.size + 1, 0, none⟩) L0.out).trans C0.out
  have HG := implGood k w0 (hin.on B0.out) hw
  have HFA : Hid (∀ v, Below w0.heap.size w0 v → Calls Tryz.prog 17 #[.slice F n cf] v fun e w' => e = .returned (.bool f) ∧ v = w') := Lib.hid fun v hb => isFactList F n cf ss w.heap.size v hn hm (hF.below (B0.out.trans (hb.mono B0.out.size))) hs f hf
  have HD : Hid (∀ v, Calls Tryz.prog 18 #[.int .i64 d] v fun e w' => e = .returned (.bool (isDy d)) ∧ v = w') := Lib.hid fun v => isDay d v
  have HH : Hid (∀ q : Q, k.cond = q.c → ∀ v, Below w0.heap.size w0 v → Calls Tryz.prog 19 #[k.val, .int .i64 d, .func (.func 20) #[] #[.pointer (some ⟨w.heap.size + 1, 0, none⟩)]] v fun e w' => e = .returned (.bool (q.holds (has ss) d)) ∧ Below v.heap.size v w') := Lib.hid fun q hq v hb => holdsE F n cf (w.heap.size + 1) ss d w0 hn hm ((hF.below B0.out).more B0.out.size) hsp L0.out C0.out q k v hb hq ((hin.on B0.out).on hb)
  have hmf : ∀ (fn : Fn) (first cap : Array Value) (w : World), (Instr.makeFunc fn first cap).run Tryz.prog w = .ok (.func fn first cap) w := fun _ _ _ _ => rfl
  have HX := Lib.hid hx
  have HQ : Hid (k.cond.good = true → ∃ q : Q, k.cond = q.c) := Lib.hid fun h => by obtain ⟨q, hq, _⟩ := good_q h; exact ⟨q, hq⟩
  have HW := Lib.hid hw0
  clear hin hw hn hm hF hf hx hs hsp hw0 C0 L0
  obtain ⟨g, hg⟩ : ∃ g, g = k.cond.good := ⟨_, rfl⟩
  rw [← hg] at HG
  have HGG := Lib.hid hg
  have HGH := Lib.hid HG
  clear hg HG
  obtain ⟨t, ht⟩ : ∃ t, t = isDy d := ⟨_, rfl⟩
  rw [← ht] at HD
  have HT := Lib.hid ht
  clear ht
  cases g
  · have HE : Hid (x = false ∧ y = false) := Lib.hid (HX.out.no (by rw [← HGG.out]; rfl))
    go_enter Tryz.func6, Tryz.ntmps6
    go_wp2_with (go_at_call 16; rw [← HW.out]; refine HGH.out.mono ?_; rintro e w2 ⟨rfl, hb2⟩)
    go_ret2
    exact ⟨by rw [HE.out.1, HE.out.2]; rfl, B0.out.trans (hb2.mono B0.out.size)⟩
  obtain ⟨q, hq⟩ := HQ.out HGG.out.symm
  have HQQ := Lib.hid hq
  clear hq
  go_enter Tryz.func6, Tryz.ntmps6
  go_wp2_with (go_at_call 16; rw [← HW.out]; refine HGH.out.mono ?_; rintro e w2 ⟨rfl, hb2⟩; refine Hid.out ?_)
  refine Lib.hid ?_
  have B2 := Lib.hid (B0.out.trans (hb2.mono B0.out.size))
  have X2 := Lib.hid (X0.out.on hb2)
  obtain ⟨_, x0, x1, x2, x3, _⟩ := X2.out
  have c2 := CC.out w2 hb2
  have HFH := Lib.hid (HFA.out w2 hb2)
  have HHH := Lib.hid (HH.out q HQQ.out w2 hb2)
  clear hb2
  cases f
  · have HE : Hid (x = false ∧ y = false) := Lib.hid (HX.out.no (by rw [← HGG.out]; rfl))
    go_wp2_with (go_at_call 17; refine HFH.out.mono ?_; rintro e w3 ⟨rfl, rfl⟩)
    go_ret2
    exact ⟨by rw [HE.out.1, HE.out.2]; rfl, B2.out⟩
  cases t
  · have HE : Hid (x = false ∧ y = false) := Lib.hid (HX.out.no (by rw [← HGG.out, ← HT.out]; rfl))
    go_wp2_with (first | (go_at_call 17; refine HFH.out.mono ?_; rintro e w3 ⟨rfl, rfl⟩) | (go_at_call 18; refine (HD.out _).mono ?_; rintro e w4 ⟨rfl, rfl⟩))
    go_ret2
    exact ⟨by rw [HE.out.1, HE.out.2]; rfl, B2.out⟩
  have HE : Hid (x = q.holds (has ss) d ∧ y = true) := Lib.hid (HX.out.yes q HQQ.out (by rw [← HGG.out, ← HT.out]; rfl))
  go_wp2_with (first | (go_at_call 17; refine HFH.out.mono ?_; rintro e w3 ⟨rfl, rfl⟩) | (go_at_call 18; refine (HD.out _).mono ?_; rintro e w4 ⟨rfl, rfl⟩) | (go_at_call 19; refine HHH.out.mono ?_; rintro e w5 ⟨rfl, hb5⟩))
  go_ret2
  exact ⟨by rw [HE.out.1, HE.out.2]; rfl, B2.out.trans (hb5.mono B2.out.size)⟩

end Go.Proofs.YtmgjeplbhnfakaaGreatDoor.Cond

namespace Go.Proofs.YtmgjeplbhnfakaaGreatDoor.Cond
open Go.RowKit
set_option linter.unusedVariables false
set_option linter.unusedSimpArgs false

theorem inj_c : ∀ {a b : Q}, a.c = b.c → a = b := Q.c_inj
theorem tru_of {a : Q} (h : isTru a = true) : a = .tru := by cases a <;> simp [isTru] at h <;> rfl
theorem nev_of {a : Q} (h : isNev a = true) : a = .neg .tru := by
  cases a with
  | neg b => cases b <;> simp [isNev] at h <;> rfl
  | _ => simp [isNev] at h

/-- Nothing is left to simplify. -/
def Q.nf : Q → Prop
  | .tru => True
  | .fact _ => True
  | .frm d => d ≠ 0
  | .neg a => a.nf ∧ negQ a = .neg a
  | .and a b => a.nf ∧ b.nf ∧ pairQ true a b = .and a b
  | .or a b => a.nf ∧ b.nf ∧ pairQ false a b = .or a b
theorem nf_smp {q : Q} (h : q.nf) : smp q = q := by
  induction q with
  | tru => rfl
  | fact s => rfl
  | frm d => simp only [smp]; exact if_neg h
  | neg a ih => simp only [smp, ih h.1]; exact h.2
  | and a b iha ihb => simp only [smp, iha h.1, ihb h.2.1]; exact h.2.2
  | or a b iha ihb => simp only [smp, iha h.1, ihb h.2.1]; exact h.2.2
theorem neg_nf {a : Q} (h : a.nf) : (negQ a).nf := by
  cases a with
  | neg b => exact h.1
  | tru => exact ⟨h, rfl⟩
  | fact s => exact ⟨h, rfl⟩
  | frm d => exact ⟨h, rfl⟩
  | and a b => exact ⟨h, rfl⟩
  | or a b => exact ⟨h, rfl⟩
theorem pair_nf (an : Bool) {a b : Q} (ha : a.nf) (hb : b.nf) : (pairQ an a b).nf := by
  cases an with
  | true =>
    by_cases h1 : isTru a = true
    · simpa [pairQ, h1] using hb
    by_cases h2 : isTru b = true
    · simpa [pairQ, h1, h2] using ha
    by_cases h3 : isNev a = true
    · simpa [pairQ, h1, h2, h3] using ha
    by_cases h4 : isNev b = true
    · simpa [pairQ, h1, h2, h3, h4] using hb
    by_cases h5 : sameC a.c b.c = true
    · simpa [pairQ, h1, h2, h3, h4, h5] using ha
    have e : pairQ true a b = .and a b := by simp [pairQ, h1, h2, h3, h4, h5]
    rw [e]
    exact ⟨ha, hb, e⟩
  | false =>
    by_cases h1 : isTru a = true
    · simpa [pairQ, h1] using ha
    by_cases h2 : isTru b = true
    · simpa [pairQ, h1, h2] using hb
    by_cases h3 : isNev a = true
    · simpa [pairQ, h1, h2, h3] using hb
    by_cases h4 : isNev b = true
    · simpa [pairQ, h1, h2, h3, h4] using ha
    by_cases h5 : sameC a.c b.c = true
    · simpa [pairQ, h1, h2, h3, h4, h5] using ha
    have e : pairQ false a b = .or a b := by simp [pairQ, h1, h2, h3, h4, h5]
    rw [e]
    exact ⟨ha, hb, e⟩
theorem smp_nf : ∀ q : Q, (smp q).nf
  | .tru => trivial
  | .fact s => trivial
  | .frm d => by
    simp only [smp]
    split
    · trivial
    · assumption
  | .neg a => neg_nf (smp_nf a)
  | .and a b => pair_nf true (smp_nf a) (smp_nf b)
  | .or a b => pair_nf false (smp_nf a) (smp_nf b)
theorem smp_smp (q : Q) : smp (smp q) = smp q := nf_smp (smp_nf q)

theorem neg_size (a : Q) : (negQ a).size ≤ 1 + a.size := by cases a <;> simp [negQ, Q.size] <;> omega
theorem pair_size (an : Bool) (a b : Q) : (pairQ an a b).size ≤ 1 + (a.size + b.size) := by
  unfold pairQ
  repeat' split
  all_goals first | omega | (simp only [Q.size]; omega)
theorem smp_size (q : Q) : (smp q).size ≤ q.size := by
  induction q with
  | tru => exact Nat.le_refl _
  | fact s => exact Nat.le_refl _
  | frm d => simp only [smp]; split <;> simp [Q.size]
  | neg a ih => have := neg_size (smp a); simp only [smp, Q.size]; omega
  | and a b iha ihb => have := pair_size true (smp a) (smp b); simp only [smp, Q.size]; omega
  | or a b iha ihb => have := pair_size false (smp a) (smp b); simp only [smp, Q.size]; omega
theorem neg_ok {a : Q} (h : a.ok) : (negQ a).ok := by cases a <;> exact h
theorem pair_ok (an : Bool) {a b : Q} (ha : a.ok) (hb : b.ok) : (pairQ an a b).ok := by
  unfold pairQ
  repeat' split
  all_goals first | exact ha | exact hb | exact ⟨ha, hb⟩
theorem smp_ok {q : Q} (h : q.ok) : (smp q).ok := by
  induction q with
  | tru => exact h
  | fact s => exact h
  | frm d =>
    simp only [smp]
    split
    · trivial
    · exact h
  | neg a ih => exact neg_ok (ih h)
  | and a b iha ihb => exact pair_ok true (iha h.1) (ihb h.2)
  | or a b iha ihb => exact pair_ok false (iha h.1) (ihb h.2)

theorem neg_holds (kn : ByteArray → Bool) (d : Int) (a : Q) : (negQ a).holds kn d = !a.holds kn d := by cases a <;> simp [negQ, Q.holds]
theorem and_holds (kn : ByteArray → Bool) (d : Int) (a b : Q) : (pairQ true a b).holds kn d = (a.holds kn d && b.holds kn d) := by
  by_cases h1 : isTru a = true
  · have e : pairQ true a b = b := by simp [pairQ, h1]
    rw [e]
    have e2 := tru_of h1
    subst e2; simp [Q.holds]
  by_cases h2 : isTru b = true
  · have e : pairQ true a b = a := by simp [pairQ, h1, h2]
    rw [e]
    have e2 := tru_of h2
    subst e2; simp [Q.holds]
  by_cases h3 : isNev a = true
  · have e : pairQ true a b = a := by simp [pairQ, h1, h2, h3]
    rw [e]
    have e2 := nev_of h3
    subst e2; simp [Q.holds]
  by_cases h4 : isNev b = true
  · have e : pairQ true a b = b := by simp [pairQ, h1, h2, h3, h4]
    rw [e]
    have e2 := nev_of h4
    subst e2; simp [Q.holds]
  by_cases h5 : sameC a.c b.c = true
  · have e : pairQ true a b = a := by simp [pairQ, h1, h2, h3, h4, h5]
    rw [e]
    have e2 := inj_c ((same_iff _ _).1 h5)
    subst e2; simp [Q.holds]
  simp [pairQ, h1, h2, h3, h4, h5, Q.holds]
theorem or_holds (kn : ByteArray → Bool) (d : Int) (a b : Q) : (pairQ false a b).holds kn d = (a.holds kn d || b.holds kn d) := by
  by_cases h1 : isTru a = true
  · have e : pairQ false a b = a := by simp [pairQ, h1]
    rw [e]
    have e2 := tru_of h1
    subst e2; simp [Q.holds]
  by_cases h2 : isTru b = true
  · have e : pairQ false a b = b := by simp [pairQ, h1, h2]
    rw [e]
    have e2 := tru_of h2
    subst e2; simp [Q.holds]
  by_cases h3 : isNev a = true
  · have e : pairQ false a b = b := by simp [pairQ, h1, h2, h3]
    rw [e]
    have e2 := nev_of h3
    subst e2; simp [Q.holds]
  by_cases h4 : isNev b = true
  · have e : pairQ false a b = a := by simp [pairQ, h1, h2, h3, h4]
    rw [e]
    have e2 := nev_of h4
    subst e2; simp [Q.holds]
  by_cases h5 : sameC a.c b.c = true
  · have e : pairQ false a b = a := by simp [pairQ, h1, h2, h3, h4, h5]
    rw [e]
    have e2 := inj_c ((same_iff _ _).1 h5)
    subst e2; simp [Q.holds]
  simp [pairQ, h1, h2, h3, h4, h5, Q.holds]
theorem smp_holds (kn : ByteArray → Bool) (d : Int) (hd : 0 ≤ d) (q : Q) : (smp q).holds kn d = q.holds kn d := by
  induction q with
  | tru => rfl
  | fact s => rfl
  | frm x =>
    simp only [smp]
    split
    · rename_i h; subst h; simp [Q.holds, hd]
    · rfl
  | neg a ih => simp only [smp, neg_holds, ih, Q.holds]
  | and a b iha ihb => simp only [smp, and_holds, iha, ihb, Q.holds]
  | or a b iha ihb => simp only [smp, or_holds, iha, ihb, Q.holds]

end Go.Proofs.YtmgjeplbhnfakaaGreatDoor.Cond

namespace Go.Proofs.YtmgjeplbhnfakaaGreatDoor.FmF
open Go.RowKit Go.Proofs.YtmgjeplbhnfakaaGreatDoor.Cond Go.Proofs.YtmgjeplbhnfakaaGreatDoor.Txt Go.Proofs.YtmgjeplbhnfakaaGreatDoor.FmtDate Go.Proofs.YtmgjeplbhnfakaaGreatDoor.Tab
set_option linter.unusedVariables false

/-- What FormatCondition answers. -/
structure FmIs (c : C) (t : ByteArray) (y : Bool) : Prop where
  no : c.good = false → t = ⟨#[]⟩ ∧ y = false
  yes : ∀ q : Q, c = q.c → c.good = true → t = ⟨(txt q).toArray⟩ ∧ y = true
theorem c_inj : ∀ {a b : Q}, a.c = b.c → a = b := by
  intro a
  induction a with
  | tru => intro b h; cases b <;> simp [Q.c] at h <;> simp_all
  | fact s => intro b h; cases b <;> simp [Q.c] at h <;> simp_all
  | frm d => intro b h; cases b <;> simp [Q.c] at h <;> simp_all
  | neg a ih => intro b h; cases b <;> simp [Q.c] at h; rw [ih h]
  | and a a' ih ih' => intro b h; cases b <;> simp [Q.c] at h; rw [ih h.1, ih' h.2]
  | or a a' ih ih' => intro b h; cases b <;> simp [Q.c] at h; rw [ih h.1, ih' h.2]
theorem fm_is (c : C) : ∃ t y, FmIs c t y := by
  cases h : c.good with
  | false => exact ⟨⟨#[]⟩, false, ⟨fun _ => ⟨rfl, rfl⟩, fun q _ h2 => (by rw [h] at h2; cases h2)⟩⟩
  | true =>
    obtain ⟨q, hq, _⟩ := good_q h
    exact ⟨⟨(txt q).toArray⟩, true, ⟨fun h2 => (by rw [h] at h2; cases h2), fun q' hq' _ => (by rw [c_inj (hq'.symm.trans hq)]; exact ⟨rfl, rfl⟩)⟩⟩

set_option maxHeartbeats 4000000 in
theorem implFm (k : K) (w : World) (hin : Lies w w.heap.size k) (hw : k.cond.wt ≤ 1048576) (hT : Tab w) (hP : Pow w) (t : ByteArray) (y : Bool) (hx : FmIs k.cond t y) :
    Calls Tryz.prog 11 #[k.val] w fun e w' => e = .returned (.tuple #[.string t, .bool y]) ∧ Below w.heap.size w w' := by
  have B0 := Lib.hid (below1 w (.cells #[.int .i64 k.op, .string k.nm, .int .i64 k.day, .slice k.A k.ps.length k.cap] 26))
  have X0 := Lib.hid (B4.new w (.int .i64 k.op) (.string k.nm) (.int .i64 k.day) (.slice k.A k.ps.length k.cap) 26)
  have HG := implGood k _ (hin.on B0.out) hw
  have HX := Lib.hid hx
  have HIN := Lib.hid hin
  have HTT := Lib.hid (And.intro hT hP)
  clear hin hw hx hT hP
  obtain ⟨g, hg⟩ : ∃ g, g = k.cond.good := ⟨_, rfl⟩
  rw [← hg] at HG
  have HGG := Lib.hid hg
  have HGH := Lib.hid HG
  clear hg HG
  cases g
  · have HE := Lib.hid (HX.out.no HGG.out.symm)
    go_enter Tryz.func11, Tryz.ntmps11
    go_wp2_with (go_at_call 16; refine HGH.out.mono ?_; rintro e w2 ⟨rfl, hb2⟩)
    go_ret2
    exact ⟨by rw [HE.out.1, HE.out.2]; rfl, B0.out.trans (hb2.mono B0.out.size)⟩
  obtain ⟨q, hq, hok, hs⟩ := good_q HGG.out.symm
  have HE := Lib.hid (HX.out.yes q hq HGG.out.symm)
  have HTX : Hid (∀ v, Below w.heap.size w v → Calls Tryz.prog 27 #[k.val] v fun e w' => e = .returned (.string ⟨(txt q).toArray⟩) ∧ Below v.heap.size v w') := Lib.hid fun v hb => implText w HTT.out.1 HTT.out.2 q hok (by omega) k v hb hq (HIN.out.on hb)
  clear hq hok hs
  go_enter Tryz.func11, Tryz.ntmps11
  go_wp2_with (go_at_call 16; refine HGH.out.mono ?_; rintro e w2 ⟨rfl, hb2⟩; refine Hid.out ?_)
  refine Lib.hid ?_
  have B2 := Lib.hid (B0.out.trans (hb2.mono B0.out.size))
  have X2 := Lib.hid (X0.out.on hb2)
  obtain ⟨_, x0, x1, x2, x3, _⟩ := X2.out
  have HT2 := Lib.hid (HTX.out w2 B2.out)
  clear hb2
  go_wp2_with (go_at_call 27; refine HT2.out.mono ?_; rintro e w3 ⟨rfl, hb3⟩)
  go_ret2
  exact ⟨by rw [HE.out.1, HE.out.2]; rfl, B2.out.trans (hb3.mono B2.out.size)⟩

end Go.Proofs.YtmgjeplbhnfakaaGreatDoor.FmF

namespace Go.Proofs.YtmgjeplbhnfakaaGreatDoor.Cond
open Go.RowKit
set_option linter.unusedVariables false
set_option linter.unusedSimpArgs false

/-- A reader: the rest of its text, and the conditions that may still begin. -/
structure Rr (b : Nat) (w : World) (l : List UInt8) (L : Nat) : Prop where
  lt : b < w.heap.size
  c0 : w.cell? ⟨b, 0, none⟩ = some (.string (ba l))
  c1 : w.cell? ⟨b, 1, none⟩ = some (.int .i64 (L : Int))
  fz : ∀ o, w.frozen? ⟨b, o, none⟩ = false
theorem Rr.alike {b : Nat} {w w' : World} {l : List UInt8} {L : Nat} (h : Rr b w l L) (hb : w'.heap[b]? = w.heap[b]?) (hs : w.heap.size ≤ w'.heap.size) : Rr b w' l L :=
  ⟨Nat.lt_of_lt_of_le h.lt hs, (World.cell?_of_block (a := ⟨b, 0, none⟩) hb).trans h.c0, (World.cell?_of_block (a := ⟨b, 1, none⟩) hb).trans h.c1, fun o => (World.frozen?_of_block (a := ⟨b, o, none⟩) hb).trans (h.fz o)⟩
theorem Rr.on {b : Nat} {w w' : World} {l : List UInt8} {L : Nat} (h : Rr b w l L) (hb : Below w.heap.size w w') : Rr b w' l L := h.alike (hb.block b h.lt) hb.size
theorem Rr.set0 {b : Nat} {w : World} {l : List UInt8} {L : Nat} (h : Rr b w l L) (l' : List UInt8) : Rr b (w.setCell ⟨b, 0, none⟩ (.string (ba l'))) l' L :=
  ⟨by simpa using h.lt, by simp [go_sem, h.c0, h.fz], by simp [go_sem, h.c1], fun o => by simp [go_sem, h.fz]⟩
theorem Rr.set1 {b : Nat} {w : World} {l : List UInt8} {L : Nat} (h : Rr b w l L) (L' : Nat) : Rr b (w.setCell ⟨b, 1, none⟩ (.int .i64 (L' : Int))) l L' :=
  ⟨by simpa using h.lt, by simp [go_sem, h.c0], by simp [go_sem, h.c1, h.fz], fun o => by simp [go_sem, h.fz]⟩
theorem mv_set (b o : Nat) (w : World) (x : Value) : Mv (· = b) (· = b) w (w.setCell ⟨b, o, none⟩ x) :=
  ⟨rfl, rfl, rfl, by simp, fun i hi hn => Below.heap_setCell w _ x i hn, fun i hi => .inl hi⟩

/-- What is left behind p. -/
def trim (p l : List UInt8) : List UInt8 := if st p l then l.drop p.length else l
theorem st_prefix (p l : List UInt8) : Lib.hasPrefix l p = st p l := by
  unfold Lib.hasPrefix st
  rw [Bool.eq_iff_iff, List.isPrefixOf_iff_prefix, decide_eq_true_eq, List.prefix_iff_eq_take]
  exact eq_comm
theorem trim_prefix (p l : List UInt8) : Lib.trimPrefix l p = trim p l := by
  unfold Lib.trimPrefix trim
  rw [st_prefix]

theorem skip (b L : Nat) (l : List UInt8) (p : ByteArray) (w : World) (h : Rr b w l L) :
    Calls Tryz.prog 50 #[.pointer (some ⟨b, 0, none⟩), .string p] w fun e w' => e = .returned (.bool (st p.data.toList l)) ∧ w.setCell ⟨b, 0, none⟩ (.string (ba (trim p.data.toList l))) = w' := by
  have HC := Lib.hid (Tryz.strings_CutPrefix (ba l) p w)
  rw [trim_prefix, st_prefix] at HC
  have c0 := h.c0
  have f0 := h.fz 0
  clear h
  go_enter Tryz.func50, Tryz.ntmps50
  go_wp2_with (go_at_call 68; refine HC.out.mono ?_; rintro e w' ⟨rfl, rfl⟩)
  go_ret
  exact ⟨rfl, rfl⟩

theorem take_ (b L n : Nat) (l : List UInt8) (w : World) (h : Rr b w l L) (hl : l.length ≤ 2000000) (hn : n ≤ 2000000) :
    Calls Tryz.prog 52 #[.pointer (some ⟨b, 0, none⟩), .int .i64 (n : Int)] w fun e w' => e = .returned (.string (ba (l.take n))) ∧ w.setCell ⟨b, 0, none⟩ (.string (ba (l.drop n))) = w' := by
  have hsz : (ba l).size = l.length := by simp [ByteArray.size]
  obtain ⟨s, hs⟩ : ∃ s, s = ba l := ⟨_, rfl⟩
  obtain ⟨m, hm⟩ : ∃ m, m = min n l.length := ⟨_, rfl⟩
  have hml : m ≤ s.size := by rw [hs, hsz]; omega
  have s1 : ∀ w, (Instr.slice 9 (.string s) none (some (.int .i64 (m : Int))) none).run Tryz.prog w = .ok (.string (ba (l.take n))) w := fun w => by
    have e : s.extract 0 m = ba (l.take n) := ext_of (by rw [hs]; simp [hm])
    rw [← e, run_slice_string_h w 9 s Tryz.underlying9 .i64 (m : Int) (by omega) (by omega), Int.toNat_natCast]
  have s2 : ∀ w, (Instr.slice 9 (.string s) (some (.int .i64 (m : Int))) none none).run Tryz.prog w = .ok (.string (ba (l.drop n))) w := fun w => by
    have e : s.extract m s.size = ba (l.drop n) := ext_of (by
      have h1 : s.data.toList = l := by rw [hs]
      have h2 : s.size = l.length := by rw [hs, hsz]
      rw [h1, List.take_of_length_le (by rw [List.length_drop]; omega)]
      by_cases hc : n ≤ l.length
      · rw [show m = n by omega]
      · rw [List.drop_of_length_le (by omega), List.drop_of_length_le (by omega)])
    rw [← e, run_slice_string_l w 9 s Tryz.underlying9 .i64 (m : Int) (by omega) (by omega), Int.toNat_natCast]
  have c0 := h.c0
  have f0 := h.fz 0
  rw [← hs] at c0
  have hmin : min (n : Int) (s.size : Int) = (m : Int) := by rw [hs, hsz, hm]; omega
  have hm0 : (0 : Int) ≤ (m : Int) := by omega
  have HN := Lib.hid hn
  clear h hs hm hsz hn
  go_enter Tryz.func52, Tryz.ntmps52
  go_wp2_with fail
  go_ret
  exact ⟨rfl, rfl⟩

end Go.Proofs.YtmgjeplbhnfakaaGreatDoor.Cond

namespace Go.Proofs.YtmgjeplbhnfakaaGreatDoor.Cond
open Go.RowKit
set_option linter.unusedVariables false
set_option linter.unusedSimpArgs false

/-- An answer of the reader: a condition of its own, and the reader behind it; or none. -/
def PG (b : Nat) (q : Q) (r : List UInt8) (L : Nat) (w : World) (e : Ending) (w' : World) : Prop :=
  Mv (· = b) (· = b) w w' ∧ ∃ k : K, e = .returned (.tuple #[k.val, .bool true]) ∧ k.cond = q.c ∧ Wr w' k ∧ (∀ x ∈ k.blocks, w.heap.size ≤ x) ∧ Rr b w' r L
def PB (b : Nat) (w : World) (e : Ending) (w' : World) : Prop :=
  Mv (· = b) (· = b) w w' ∧ ∃ k : K, e = .returned (.tuple #[k.val, .bool false])
theorem Mv.put4 {b kb : Nat} {w v : World} {x0 x1 x2 x3 : Value} (h : Mv (· = b) (· = b) w v) (hk : w.heap.size ≤ kb) : Mv (· = b) (· = b) w (Cond.put4 v kb 0 x0 x1 x2 x3) :=
  ⟨by have := h.os; exact this, by have := h.tape; exact this, by have := h.output; exact this, by rw [put4_size]; exact h.size, fun i hi hn => (put4_block (by omega)).trans (h.block i hi hn), fun i hi => .inl hi⟩
theorem Mv.alloc {b : Nat} {w v : World} (h : Mv (· = b) (· = b) w v) (ob : Obj) : Mv (· = b) (· = b) w (v.alloc ob) := h.trans (Mv.of_below (below1 _ _))
theorem Rr.put4 {b kb L : Nat} {v : World} {r : List UInt8} {x0 x1 x2 x3 : Value} (h : Rr b v r L) (hk : b ≠ kb) : Rr b (Cond.put4 v kb 0 x0 x1 x2 x3) r L := h.alike (put4_block hk) (by rw [put4_size]; exact Nat.le_refl _)
theorem B4.mv {b k : Nat} {w w' : World} {a c d e : Value} (h : B4 k w a c d e) (hm : Mv (· = b) (· = b) w w') (hk : k ≠ b) : B4 k w' a c d e := h.alike (hm.block k h.lt hk) hm.size
theorem Wr.mv {b : Nat} {w w' : World} {k : K} (h : Wr w k) (hm : Mv (· = b) (· = b) w w') (hk : b ∉ k.blocks) : Wr w' k := h.same (fun x hx => hm.block x (h.lt x hx) (fun e => hk (e ▸ hx))) hm.size
theorem pg_leaf {b kb L : Nat} {q : Q} {r : List UInt8} {w v : World} {k : K} {x0 x1 x2 x3 : Value} (hm : Mv (· = b) (· = b) w v) (hq : k.cond = q.c) (hw : Wr v k) (hge : ∀ x ∈ k.blocks, w.heap.size ≤ x) (hn : kb ∉ k.blocks) (hr : Rr b v r L) (hk : w.heap.size ≤ kb) (hb : b ≠ kb) :
    PG b q r L w (.returned (.tuple #[k.val, .bool true])) (Cond.put4 v kb 0 x0 x1 x2 x3) := ⟨hm.put4 hk, k, rfl, hq, put_wr hw hn, hge, hr.put4 hb⟩
theorem pb_any {b kb : Nat} {w v : World} {x0 x1 x2 x3 : Value} (k : K) (hm : Mv (· = b) (· = b) w v) (hk : w.heap.size ≤ kb) : PB b w (.returned (.tuple #[k.val, .bool false])) (Cond.put4 v kb 0 x0 x1 x2 x3) := ⟨hm.put4 hk, k, rfl⟩
theorem pg_neg {b kb L S : Nat} {q : Q} {r : List UInt8} {w w2 : World} {k : K} {x0 x1 x2 x3 : Value} {T : TypeId} (hm : Mv (· = b) (· = b) w w2) (hq : k.cond = q.c) (hw : Wr w2 k) (hge : ∀ x ∈ k.blocks, S ≤ x) (hr : Rr b w2 r L) (hk : w.heap.size ≤ kb) (hkS : kb < S) (hb : b < w.heap.size) :
    PG b (.neg q) r L w (.returned (.tuple #[(K.mk 4 .empty 0 (some ⟨w2.heap.size + 1, 0, none⟩) 1 [k]).val, .bool true])) (((Cond.put4 w2 kb 0 x0 x1 x2 x3).alloc (.cells #[.int .i64 k.op, .string k.nm, .int .i64 k.day, .slice k.A k.ps.length k.cap] T)).alloc (.cells #[.int .i64 k.op, .string k.nm, .int .i64 k.day, .slice k.A k.ps.length k.cap] T)) := by
  have hr2 := (hr.put4 (x0 := x0) (x1 := x1) (x2 := x2) (x3 := x3) (show b ≠ kb by omega))
  have hmV := hm.put4 (x0 := x0) (x1 := x1) (x2 := x2) (x3 := x3) hk
  have hVw : Wr (Cond.put4 w2 kb 0 x0 x1 x2 x3) k := put_wr hw (fun h => by have := hge _ h; omega)
  have hVs : (Cond.put4 w2 kb 0 x0 x1 x2 x3).heap.size = w2.heap.size := put4_size
  generalize Cond.put4 w2 kb 0 x0 x1 x2 x3 = V at *
  obtain ⟨U, hU⟩ : ∃ U, U = V.alloc (.cells #[.int .i64 k.op, .string k.nm, .int .i64 k.day, .slice k.A k.ps.length k.cap] T) := ⟨_, rfl⟩
  have hUs : U.heap.size = w2.heap.size + 1 := by rw [hU]; simp [hVs]
  have hUb : Below V.heap.size V U := by rw [hU]; exact below1 _ _
  rw [← hU, ← hUs]
  have h2 : Wr (U.alloc (.cells #[.int .i64 k.op, .string k.nm, .int .i64 k.day, .slice k.A k.ps.length k.cap] T)) k := (hVw.on hUb).on (below1 _ _)
  have hnot : U.heap.size ∉ k.blocks := fun h => by have := hVw.lt _ h; omega
  have hlt := hm.size
  refine ⟨(hmV.trans (Mv.of_below hUb)).alloc _, _, rfl, by simp only [K.cond, conds, Q.c, hq], wr_one h2 (blk_new _ _ _) (el_new _ _ _) hnot, fun x hx => ?_, (hr2.on hUb).on (below1 _ _)⟩
  simp only [K.blocks, blocks, List.append_nil, List.mem_append, List.mem_singleton] at hx
  rcases hx with rfl | hx
  · omega
  · have := hge x hx; omega

/-- What the calls of read inside give. -/
structure Sub (dt : List UInt8 → Option Int) (n b : Nat) (W : World) : Prop where
  good : ∀ l L q r v, rd dt n l = some (q, r) → q.size ≤ L → L ≤ 15 → l.length < n → Rr b v l L → Below W.heap.size W v → Calls Tryz.prog 28 #[.pointer (some ⟨b, 0, none⟩)] v (PG b q r (L - q.size) v)
  bad : ∀ l L v, (∀ q r, rd dt n l = some (q, r) → L < q.size) → L ≤ 15 → l.length < n → Rr b v l L → Below W.heap.size W v → Calls Tryz.prog 28 #[.pointer (some ⟨b, 0, none⟩)] v (PB b v)

set_option maxRecDepth 100000 in
set_option maxHeartbeats 4000000 in
theorem notGood {dt : List UInt8 → Option Int} {n b : Nat} {W : World} (hS : Sub dt n b W) (hbW : W.heap.size ≤ b) (l : List UInt8) (L : Nat) (q : Q) (r : List UInt8) (w : World) (h1 : st [32] l = true) (hr : rd dt n (l.drop 1) = some (q, r)) (hq : q.size ≤ L) (hL : L ≤ 15) (hl : l.length ≤ n) (h : Rr b w l L) (hW : Below W.heap.size W w) :
    Calls Tryz.prog 55 #[.pointer (some ⟨b, 0, none⟩)] w (PG b (.neg q) r (L - q.size) w) := by
  have hl1 := st_len h1
  simp only [List.length_cons, List.length_nil] at hl1
  obtain ⟨X, hX⟩ : ∃ X, X = w.alloc (.cells #[.int .i64 0, .string ⟨#[]⟩, .int .i64 0, .slice none 0 0] 26) := ⟨_, rfl⟩
  have b0 : Below w.heap.size w X := by rw [hX]; exact below1 _ _
  have P0 : Hid (B4 w.heap.size X (.int .i64 0) (.string ⟨#[]⟩) (.int .i64 0) (.slice none 0 0)) := Lib.hid (by rw [hX]; exact B4.new _ _ _ _ _ _)
  have hRX := h.on b0
  have HSK := skip b L l ⟨#[32]⟩ X hRX
  rw [show (⟨#[32]⟩ : ByteArray).data.toList = [32] from rfl, h1, show trim [32] l = l.drop 1 by rw [trim, h1]; rfl] at HSK
  obtain ⟨X1, hX1⟩ : ∃ X1, X1 = X.setCell ⟨b, 0, none⟩ (.string (ba (l.drop 1))) := ⟨_, rfl⟩
  have hR1 : Rr b X1 (l.drop 1) L := by rw [hX1]; exact hRX.set0 _
  have hm1 : Mv (· = b) (· = b) w X1 := (Mv.of_below b0).trans (by rw [hX1]; exact mv_set b 0 X _)
  have hW1 : Below W.heap.size W X1 := by
    have := hW.trans (b0.mono hW.size)
    rw [hX1]; exact this.setCell (p := ⟨b, 0, none⟩) hbW _
  have hbw : b < w.heap.size := h.lt
  have P1 : Hid (B4 w.heap.size X1 (.int .i64 0) (.string ⟨#[]⟩) (.int .i64 0) (.slice none 0 0)) := Lib.hid (by rw [hX1]; exact P0.out.far (by simp; omega) _)
  have HRD := Lib.hid (hS.good (l.drop 1) L q r X1 hr hq hL (by rw [List.length_drop]; omega) hR1 hW1)
  have hXs : w.heap.size < X1.heap.size := P1.out.lt
  have M1 := Lib.hid hm1
  have HXX := Lib.hid hX
  have HX1 := Lib.hid hX1
  have HSKH := Lib.hid HSK
  clear hX hX1 HSK hR1 hRX hm1 hW1 hr h1 b0 h hW hS
  go_enter Tryz.func55, Tryz.ntmps55
  go_wp2_with (first | (go_at_call 50; (try rw [← HXX.out]); refine HSKH.out.mono ?_; rintro e w' ⟨rfl, rfl⟩; (try rw [← HX1.out])) | (go_at_call 28; (try rw [← HX1.out]); refine HRD.out.mono ?_; rintro e w2 ⟨hm2, k, rfl, hk, hwk, hge, hrr⟩; refine Hid.out ?_))
  refine Lib.hid ?_
  have M2 := Lib.hid (M1.out.trans hm2)
  have P2 := Lib.hid (P1.out.mv hm2 (by omega))
  have HF : Hid (∀ x0 x1 x2 x3, PG b (.neg q) r (L - q.size) w (.returned (.tuple #[(K.mk 4 .empty 0 (some ⟨w2.heap.size + 1, 0, none⟩) 1 [k]).val, .bool true])) (((Cond.put4 w2 w.heap.size 0 x0 x1 x2 x3).alloc (.cells #[.int .i64 k.op, .string k.nm, .int .i64 k.day, .slice k.A k.ps.length k.cap] 26)).alloc (.cells #[.int .i64 k.op, .string k.nm, .int .i64 k.day, .slice k.A k.ps.length k.cap] 26))) := Lib.hid fun x0 x1 x2 x3 => pg_neg M2.out hk hwk hge hrr (Nat.le_refl _) hXs hbw
  obtain ⟨_, p0, p1, p2, p3, pf⟩ := P2.out
  have pf0 := pf 0
  have pf1 := pf 1
  have pf2 := pf 2
  have pf3 := pf 3
  clear pf
  clear hm2 hk hwk hge hrr
  go_wp2_with fail
  obtain ⟨_, t0, t1, t2, t3, _⟩ := ((P2.out.put (.int .i64 4) (.string ⟨#[]⟩) (.int .i64 0) (.slice (some ⟨w2.heap.size + 1, 0, none⟩) 1 1)).alloc (.cells #[.int .i64 k.op, .string k.nm, .int .i64 k.day, .slice k.A k.ps.length k.cap] 26)).alloc (.cells #[.int .i64 k.op, .string k.nm, .int .i64 k.day, .slice k.A k.ps.length k.cap] 26)
  have hf := HF.out (.int .i64 4) (.string ⟨#[]⟩) (.int .i64 0) (.slice (some ⟨w2.heap.size + 1, 0, none⟩) 1 1)
  simp only [Cond.put4] at t0 t1 t2 t3 hf
  exact bodyPost_ret (v := .tuple #[(K.mk 4 .empty 0 (some ⟨w2.heap.size + 1, 0, none⟩) 1 [k]).val, .bool true]) (by simp [results, Tryz.results55, go_sem, t0, t1, t2, t3]; first | done | exact ⟨rfl, rfl, rfl, rfl, rfl, rfl⟩) rfl hf

set_option maxRecDepth 100000 in
set_option maxHeartbeats 4000000 in
theorem notNo {b : Nat} {W : World} (hbW : W.heap.size ≤ b) (l : List UInt8) (L : Nat) (w : World) (h1 : st [32] l = false) (h : Rr b w l L) (hW : Below W.heap.size W w) :
    Calls Tryz.prog 55 #[.pointer (some ⟨b, 0, none⟩)] w (PB b w) := by
  obtain ⟨X, hX⟩ : ∃ X, X = w.alloc (.cells #[.int .i64 0, .string ⟨#[]⟩, .int .i64 0, .slice none 0 0] 26) := ⟨_, rfl⟩
  have b0 : Below w.heap.size w X := by rw [hX]; exact below1 _ _
  have P0 : Hid (B4 w.heap.size X (.int .i64 0) (.string ⟨#[]⟩) (.int .i64 0) (.slice none 0 0)) := Lib.hid (by rw [hX]; exact B4.new _ _ _ _ _ _)
  have hRX := h.on b0
  have HSK := skip b L l ⟨#[32]⟩ X hRX
  rw [show (⟨#[32]⟩ : ByteArray).data.toList = [32] from rfl, h1, show trim [32] l = l by rw [trim, h1]; rfl] at HSK
  obtain ⟨X1, hX1⟩ : ∃ X1, X1 = X.setCell ⟨b, 0, none⟩ (.string (ba l)) := ⟨_, rfl⟩
  have hR1 : Rr b X1 l L := by rw [hX1]; exact hRX.set0 _
  have hm1 : Mv (· = b) (· = b) w X1 := (Mv.of_below b0).trans (by rw [hX1]; exact mv_set b 0 X _)
  have hW1 : Below W.heap.size W X1 := by
    have := hW.trans (b0.mono hW.size)
    rw [hX1]; exact this.setCell (p := ⟨b, 0, none⟩) hbW _
  have hbw : b < w.heap.size := h.lt
  have P1 : Hid (B4 w.heap.size X1 (.int .i64 0) (.string ⟨#[]⟩) (.int .i64 0) (.slice none 0 0)) := Lib.hid (by rw [hX1]; exact P0.out.far (by simp; omega) _)
  have hXs : w.heap.size < X1.heap.size := P1.out.lt
  have M1 := Lib.hid hm1
  have HXX := Lib.hid hX
  have HX1 := Lib.hid hX1
  have HSKH := Lib.hid HSK
  have P2 := P1
  have M2 := M1
  clear hX hX1 HSK hR1 hRX hm1 hW1 h1 b0 h hW
  go_enter Tryz.func55, Tryz.ntmps55
  go_wp2_with (go_at_call 50; (try rw [← HXX.out]); refine HSKH.out.mono ?_; rintro e w' ⟨rfl, rfl⟩; (try rw [← HX1.out]); refine Hid.out ?_)
  refine Lib.hid ?_
  obtain ⟨_, p0, p1, p2, p3, pf⟩ := P2.out
  have pf0 := pf 0
  have pf1 := pf 1
  have pf2 := pf 2
  have pf3 := pf 3
  clear pf
  go_wp2_with fail
  obtain ⟨_, t0, t1, t2, t3, _⟩ := P2.out.put (.int .i64 0) (.string ⟨#[]⟩) (.int .i64 0) (.slice none 0 0)
  have hf := pb_any (b := b) (kb := w.heap.size) (x0 := .int .i64 0) (x1 := .string ⟨#[]⟩) (x2 := .int .i64 0) (x3 := .slice none 0 0) (.mk 0 .empty 0 none 0 []) M2.out (Nat.le_refl _)
  simp only [Cond.put4] at t0 t1 t2 t3 hf
  exact bodyPost_ret (v := .tuple #[.agg #[.int .i64 0, .string ⟨#[]⟩, .int .i64 0, .slice none 0 0], .bool false]) (by simp [results, Tryz.results55, go_sem, t0, t1, t2, t3]) rfl hf

set_option maxRecDepth 100000 in
set_option maxHeartbeats 4000000 in
theorem fromNo {b : Nat} {W : World} (hbW : W.heap.size ≤ b) (l : List UInt8) (L : Nat) (w : World) (h1 : st [32] l = false) (h : Rr b w l L) (hW : Below W.heap.size W w) :
    Calls Tryz.prog 54 #[.pointer (some ⟨b, 0, none⟩)] w (PB b w) := by
  obtain ⟨X, hX⟩ : ∃ X, X = w.alloc (.cells #[.int .i64 0, .string ⟨#[]⟩, .int .i64 0, .slice none 0 0] 26) := ⟨_, rfl⟩
  have b0 : Below w.heap.size w X := by rw [hX]; exact below1 _ _
  have P0 : Hid (B4 w.heap.size X (.int .i64 0) (.string ⟨#[]⟩) (.int .i64 0) (.slice none 0 0)) := Lib.hid (by rw [hX]; exact B4.new _ _ _ _ _ _)
  have hRX := h.on b0
  have HSK := skip b L l ⟨#[32]⟩ X hRX
  rw [show (⟨#[32]⟩ : ByteArray).data.toList = [32] from rfl, h1, show trim [32] l = l by rw [trim, h1]; rfl] at HSK
  obtain ⟨X1, hX1⟩ : ∃ X1, X1 = X.setCell ⟨b, 0, none⟩ (.string (ba l)) := ⟨_, rfl⟩
  have hR1 : Rr b X1 l L := by rw [hX1]; exact hRX.set0 _
  have hm1 : Mv (· = b) (· = b) w X1 := (Mv.of_below b0).trans (by rw [hX1]; exact mv_set b 0 X _)
  have hW1 : Below W.heap.size W X1 := by
    have := hW.trans (b0.mono hW.size)
    rw [hX1]; exact this.setCell (p := ⟨b, 0, none⟩) hbW _
  have hbw : b < w.heap.size := h.lt
  have P1 : Hid (B4 w.heap.size X1 (.int .i64 0) (.string ⟨#[]⟩) (.int .i64 0) (.slice none 0 0)) := Lib.hid (by rw [hX1]; exact P0.out.far (by simp; omega) _)
  have hXs : w.heap.size < X1.heap.size := P1.out.lt
  have M1 := Lib.hid hm1
  have HXX := Lib.hid hX
  have HX1 := Lib.hid hX1
  have HSKH := Lib.hid HSK
  have P2 := P1
  have M2 := M1
  clear hX hX1 HSK hR1 hRX hm1 hW1 h1 b0 h hW
  go_enter Tryz.func54, Tryz.ntmps54
  go_wp2_with (go_at_call 50; (try rw [← HXX.out]); refine HSKH.out.mono ?_; rintro e w' ⟨rfl, rfl⟩; (try rw [← HX1.out]); refine Hid.out ?_)
  refine Lib.hid ?_
  obtain ⟨_, p0, p1, p2, p3, pf⟩ := P2.out
  have pf0 := pf 0
  have pf1 := pf 1
  have pf2 := pf 2
  have pf3 := pf 3
  clear pf
  go_wp2_with fail
  obtain ⟨_, t0, t1, t2, t3, _⟩ := P2.out.put (.int .i64 0) (.string ⟨#[]⟩) (.int .i64 0) (.slice none 0 0)
  have hf := pb_any (b := b) (kb := w.heap.size) (x0 := .int .i64 0) (x1 := .string ⟨#[]⟩) (x2 := .int .i64 0) (x3 := .slice none 0 0) (.mk 0 .empty 0 none 0 []) M2.out (Nat.le_refl _)
  simp only [Cond.put4] at t0 t1 t2 t3 hf
  exact bodyPost_ret (v := .tuple #[.agg #[.int .i64 0, .string ⟨#[]⟩, .int .i64 0, .slice none 0 0], .bool false]) (by simp [results, Tryz.results54, go_sem, t0, t1, t2, t3]) rfl hf

set_option maxRecDepth 100000 in
set_option maxHeartbeats 4000000 in
theorem notBad {dt : List UInt8 → Option Int} {n b : Nat} {W : World} (hS : Sub dt n b W) (hbW : W.heap.size ≤ b) (l : List UInt8) (L : Nat) (w : World) (h1 : st [32] l = true) (hr : ∀ q r, rd dt n (l.drop 1) = some (q, r) → L < q.size) (hL : L ≤ 15) (hl : l.length ≤ n) (h : Rr b w l L) (hW : Below W.heap.size W w) :
    Calls Tryz.prog 55 #[.pointer (some ⟨b, 0, none⟩)] w (PB b w) := by
  have hl1 := st_len h1
  simp only [List.length_cons, List.length_nil] at hl1
  obtain ⟨X, hX⟩ : ∃ X, X = w.alloc (.cells #[.int .i64 0, .string ⟨#[]⟩, .int .i64 0, .slice none 0 0] 26) := ⟨_, rfl⟩
  have b0 : Below w.heap.size w X := by rw [hX]; exact below1 _ _
  have P0 : Hid (B4 w.heap.size X (.int .i64 0) (.string ⟨#[]⟩) (.int .i64 0) (.slice none 0 0)) := Lib.hid (by rw [hX]; exact B4.new _ _ _ _ _ _)
  have hRX := h.on b0
  have HSK := skip b L l ⟨#[32]⟩ X hRX
  rw [show (⟨#[32]⟩ : ByteArray).data.toList = [32] from rfl, h1, show trim [32] l = l.drop 1 by rw [trim, h1]; rfl] at HSK
  obtain ⟨X1, hX1⟩ : ∃ X1, X1 = X.setCell ⟨b, 0, none⟩ (.string (ba (l.drop 1))) := ⟨_, rfl⟩
  have hR1 : Rr b X1 (l.drop 1) L := by rw [hX1]; exact hRX.set0 _
  have hm1 : Mv (· = b) (· = b) w X1 := (Mv.of_below b0).trans (by rw [hX1]; exact mv_set b 0 X _)
  have hW1 : Below W.heap.size W X1 := by
    have := hW.trans (b0.mono hW.size)
    rw [hX1]; exact this.setCell (p := ⟨b, 0, none⟩) hbW _
  have hbw : b < w.heap.size := h.lt
  have P1 : Hid (B4 w.heap.size X1 (.int .i64 0) (.string ⟨#[]⟩) (.int .i64 0) (.slice none 0 0)) := Lib.hid (by rw [hX1]; exact P0.out.far (by simp; omega) _)
  have hXs : w.heap.size < X1.heap.size := P1.out.lt
  have M1 := Lib.hid hm1
  have HXX := Lib.hid hX
  have HX1 := Lib.hid hX1
  have HSKH := Lib.hid HSK
  have HRD := Lib.hid (hS.bad (l.drop 1) L X1 hr hL (by rw [List.length_drop]; omega) hR1 hW1)
  clear hX hX1 HSK hR1 hRX hm1 hW1 hr h1 b0 h hW hS
  go_enter Tryz.func55, Tryz.ntmps55
  go_wp2_with (first | (go_at_call 50; (try rw [← HXX.out]); refine HSKH.out.mono ?_; rintro e w' ⟨rfl, rfl⟩; (try rw [← HX1.out])) | (go_at_call 28; (try rw [← HX1.out]); refine HRD.out.mono ?_; rintro e w2 ⟨hm2, k, rfl⟩; refine Hid.out ?_))
  refine Lib.hid ?_
  have M2 := Lib.hid (M1.out.trans hm2)
  have P2 := Lib.hid (P1.out.mv hm2 (by omega))
  have HF : Hid (∀ x0 x1 x2 x3, PB b w (.returned (.tuple #[(K.mk 4 .empty 0 (some ⟨w2.heap.size + 1, 0, none⟩) 1 [k]).val, .bool false])) (((Cond.put4 w2 w.heap.size 0 x0 x1 x2 x3).alloc (.cells #[.int .i64 k.op, .string k.nm, .int .i64 k.day, .slice k.A k.ps.length k.cap] 26)).alloc (.cells #[.int .i64 k.op, .string k.nm, .int .i64 k.day, .slice k.A k.ps.length k.cap] 26))) := Lib.hid fun x0 x1 x2 x3 => ⟨((M2.out.put4 (Nat.le_refl _)).alloc _).alloc _, _, rfl⟩
  obtain ⟨_, p0, p1, p2, p3, pf⟩ := P2.out
  have pf0 := pf 0
  have pf1 := pf 1
  have pf2 := pf 2
  have pf3 := pf 3
  clear pf
  clear hm2
  go_wp2_with fail
  obtain ⟨_, t0, t1, t2, t3, _⟩ := ((P2.out.put (.int .i64 4) (.string ⟨#[]⟩) (.int .i64 0) (.slice (some ⟨w2.heap.size + 1, 0, none⟩) 1 1)).alloc (.cells #[.int .i64 k.op, .string k.nm, .int .i64 k.day, .slice k.A k.ps.length k.cap] 26)).alloc (.cells #[.int .i64 k.op, .string k.nm, .int .i64 k.day, .slice k.A k.ps.length k.cap] 26)
  have hf := HF.out (.int .i64 4) (.string ⟨#[]⟩) (.int .i64 0) (.slice (some ⟨w2.heap.size + 1, 0, none⟩) 1 1)
  simp only [Cond.put4] at t0 t1 t2 t3 hf
  exact bodyPost_ret (v := .tuple #[(K.mk 4 .empty 0 (some ⟨w2.heap.size + 1, 0, none⟩) 1 [k]).val, .bool false]) (by simp [results, Tryz.results55, go_sem, t0, t1, t2, t3]; first | done | exact ⟨rfl, rfl, rfl, rfl, rfl, rfl⟩) rfl hf

set_option maxRecDepth 100000 in
set_option maxHeartbeats 4000000 in
theorem fromGood {dt : List UInt8 → Option Int} (hdt : Dt dt) {b : Nat} {W : World} (hT : Tab.Tab W) (hLi : LiesD.Lies W) (hbW : W.heap.size ≤ b) (l : List UInt8) (L : Nat) (w : World) (h1 : st [32] l = true) (d : Int) (hd : dt ((l.drop 1).take 10) = some d) (hl : l.length ≤ 1900000) (h : Rr b w l L) (hW : Below W.heap.size W w) :
    Calls Tryz.prog 54 #[.pointer (some ⟨b, 0, none⟩)] w (PG b (.frm d) (l.drop 11) L w) := by
  obtain ⟨X, hX⟩ : ∃ X, X = w.alloc (.cells #[.int .i64 0, .string ⟨#[]⟩, .int .i64 0, .slice none 0 0] 26) := ⟨_, rfl⟩
  have b0 : Below w.heap.size w X := by rw [hX]; exact below1 _ _
  have P0 : Hid (B4 w.heap.size X (.int .i64 0) (.string ⟨#[]⟩) (.int .i64 0) (.slice none 0 0)) := Lib.hid (by rw [hX]; exact B4.new _ _ _ _ _ _)
  have hRX := h.on b0
  have HSK := skip b L l ⟨#[32]⟩ X hRX
  rw [show (⟨#[32]⟩ : ByteArray).data.toList = [32] from rfl, h1, show trim [32] l = l.drop 1 by rw [trim, h1]; rfl] at HSK
  obtain ⟨X1, hX1⟩ : ∃ X1, X1 = X.setCell ⟨b, 0, none⟩ (.string (ba (l.drop 1))) := ⟨_, rfl⟩
  have hR1 : Rr b X1 (l.drop 1) L := by rw [hX1]; exact hRX.set0 _
  have hm1 : Mv (· = b) (· = b) w X1 := (Mv.of_below b0).trans (by rw [hX1]; exact mv_set b 0 X _)
  have hW1 : Below W.heap.size W X1 := by
    have := hW.trans (b0.mono hW.size)
    rw [hX1]; exact this.setCell (p := ⟨b, 0, none⟩) hbW _
  have hbw : b < w.heap.size := h.lt
  have P1 : Hid (B4 w.heap.size X1 (.int .i64 0) (.string ⟨#[]⟩) (.int .i64 0) (.slice none 0 0)) := Lib.hid (by rw [hX1]; exact P0.out.far (by simp; omega) _)
  have hXs : w.heap.size < X1.heap.size := P1.out.lt
  have M1 := Lib.hid hm1
  have HXX := Lib.hid hX
  have HX1 := Lib.hid hX1
  have HSKH := Lib.hid HSK
  have HTK := take_ b L 10 (l.drop 1) X1 hR1 (by rw [List.length_drop]; omega) (by omega)
  have e10 : ((10 : Nat) : Int) = 10 := rfl
  rw [e10, List.drop_drop] at HTK
  obtain ⟨X2, hX2⟩ : ∃ X2, X2 = X1.setCell ⟨b, 0, none⟩ (.string (ba (l.drop (1 + 10)))) := ⟨_, rfl⟩
  have hR2 : Rr b X2 (l.drop (1 + 10)) L := by rw [hX2]; exact hR1.set0 _
  have hm2 : Mv (· = b) (· = b) w X2 := hm1.trans (by rw [hX2]; exact mv_set b 0 X1 _)
  have hW2 : Below W.heap.size W X2 := by rw [hX2]; exact hW1.setCell (p := ⟨b, 0, none⟩) hbW _
  have PX2 : Hid (B4 w.heap.size X2 (.int .i64 0) (.string ⟨#[]⟩) (.int .i64 0) (.slice none 0 0)) := Lib.hid (by rw [hX2]; exact P1.out.far (by simp; omega) _)
  obtain ⟨x, hx⟩ : ∃ x, x = ba ((l.drop 1).take 10) := ⟨_, rfl⟩
  have hxl : x.data.toList = (l.drop 1).take 10 := by rw [hx]
  have HPD : Hid (Calls Tryz.prog 69 #[.string x] X2 fun e w' => e = .returned (.tuple #[.int .i64 d, .bool true]) ∧ Below X2.heap.size X2 w') := Lib.hid ((PImpl.impl x (by rw [hx]; simp [ByteArray.size]; omega) X2 (hT.below hW2) (hLi.below hW2)).mono fun e w' ⟨a1, a2⟩ => by
    rw [← hxl] at hd
    unfold PImpl.Ans at a1
    rcases a1 with ⟨d', a, rfl⟩ | ⟨a, _⟩
    · rw [a.uniq ((hdt _ _).1 hd)]; exact ⟨rfl, a2⟩
    · exact absurd ((hdt _ _).1 hd) (a d))
  rw [← hx] at HTK
  have HX2 := Lib.hid hX2
  have HTKH := Lib.hid HTK
  have M2 := Lib.hid hm2
  have R2 := Lib.hid hR2
  clear hX hX1 hX2 HSK HTK hR1 hR2 hRX hm1 hm2 hW1 hW2 h1 b0 h hW hd hx hxl e10 hT hLi
  go_enter Tryz.func54, Tryz.ntmps54
  go_wp2_with (first | (go_at_call 50; (try rw [← HXX.out]); refine HSKH.out.mono ?_; rintro e w' ⟨rfl, rfl⟩; (try rw [← HX1.out])) | (go_at_call 52; (try rw [← HX1.out]); refine HTKH.out.mono ?_; rintro e w' ⟨rfl, rfl⟩; (try rw [← HX2.out])) | (go_at_call 69; (try rw [← HX2.out]); refine HPD.out.mono ?_; rintro e w3 ⟨rfl, hb3⟩; refine Hid.out ?_))
  refine Lib.hid ?_
  have P2 := Lib.hid (PX2.out.on hb3)
  have M3 := Lib.hid (M2.out.trans (Mv.of_below hb3))
  have R3 := Lib.hid (R2.out.on hb3)
  obtain ⟨_, p0, p1, p2, p3, pf⟩ := P2.out
  have pf0 := pf 0
  have pf1 := pf 1
  have pf2 := pf 2
  have pf3 := pf 3
  clear pf
  clear hb3
  go_wp2_with fail
  obtain ⟨_, t0, t1, t2, t3, _⟩ := P2.out.put (.int .i64 3) (.string ⟨#[]⟩) (.int .i64 d) (.slice none 0 0)
  have hf := pg_leaf (b := b) (kb := w.heap.size) (k := .mk 3 .empty d none 0 []) (q := .frm d) (x0 := .int .i64 3) (x1 := .string ⟨#[]⟩) (x2 := .int .i64 d) (x3 := .slice none 0 0) M3.out rfl (wr_none 3 .empty d (by simp [maxLen])) (by simp [K.blocks, blocks]) (by simp [K.blocks, blocks]) R3.out (Nat.le_refl _) (by omega)
  simp only [Cond.put4] at t0 t1 t2 t3 hf
  exact bodyPost_ret (v := .tuple #[.agg #[.int .i64 3, .string ⟨#[]⟩, .int .i64 d, .slice none 0 0], .bool true]) (by simp [results, Tryz.results54, go_sem, t0, t1, t2, t3]) rfl hf

set_option maxRecDepth 100000 in
set_option maxHeartbeats 4000000 in
theorem fromBad {dt : List UInt8 → Option Int} (hdt : Dt dt) {b : Nat} {W : World} (hT : Tab.Tab W) (hLi : LiesD.Lies W) (hbW : W.heap.size ≤ b) (l : List UInt8) (L : Nat) (w : World) (h1 : st [32] l = true) (hd : dt ((l.drop 1).take 10) = none) (hl : l.length ≤ 1900000) (h : Rr b w l L) (hW : Below W.heap.size W w) :
    Calls Tryz.prog 54 #[.pointer (some ⟨b, 0, none⟩)] w (PB b w) := by
  obtain ⟨X, hX⟩ : ∃ X, X = w.alloc (.cells #[.int .i64 0, .string ⟨#[]⟩, .int .i64 0, .slice none 0 0] 26) := ⟨_, rfl⟩
  have b0 : Below w.heap.size w X := by rw [hX]; exact below1 _ _
  have P0 : Hid (B4 w.heap.size X (.int .i64 0) (.string ⟨#[]⟩) (.int .i64 0) (.slice none 0 0)) := Lib.hid (by rw [hX]; exact B4.new _ _ _ _ _ _)
  have hRX := h.on b0
  have HSK := skip b L l ⟨#[32]⟩ X hRX
  rw [show (⟨#[32]⟩ : ByteArray).data.toList = [32] from rfl, h1, show trim [32] l = l.drop 1 by rw [trim, h1]; rfl] at HSK
  obtain ⟨X1, hX1⟩ : ∃ X1, X1 = X.setCell ⟨b, 0, none⟩ (.string (ba (l.drop 1))) := ⟨_, rfl⟩
  have hR1 : Rr b X1 (l.drop 1) L := by rw [hX1]; exact hRX.set0 _
  have hm1 : Mv (· = b) (· = b) w X1 := (Mv.of_below b0).trans (by rw [hX1]; exact mv_set b 0 X _)
  have hW1 : Below W.heap.size W X1 := by
    have := hW.trans (b0.mono hW.size)
    rw [hX1]; exact this.setCell (p := ⟨b, 0, none⟩) hbW _
  have hbw : b < w.heap.size := h.lt
  have P1 : Hid (B4 w.heap.size X1 (.int .i64 0) (.string ⟨#[]⟩) (.int .i64 0) (.slice none 0 0)) := Lib.hid (by rw [hX1]; exact P0.out.far (by simp; omega) _)
  have hXs : w.heap.size < X1.heap.size := P1.out.lt
  have M1 := Lib.hid hm1
  have HXX := Lib.hid hX
  have HX1 := Lib.hid hX1
  have HSKH := Lib.hid HSK
  have HTK := take_ b L 10 (l.drop 1) X1 hR1 (by rw [List.length_drop]; omega) (by omega)
  have e10 : ((10 : Nat) : Int) = 10 := rfl
  rw [e10, List.drop_drop] at HTK
  obtain ⟨X2, hX2⟩ : ∃ X2, X2 = X1.setCell ⟨b, 0, none⟩ (.string (ba (l.drop (1 + 10)))) := ⟨_, rfl⟩
  have hR2 : Rr b X2 (l.drop (1 + 10)) L := by rw [hX2]; exact hR1.set0 _
  have hm2 : Mv (· = b) (· = b) w X2 := hm1.trans (by rw [hX2]; exact mv_set b 0 X1 _)
  have hW2 : Below W.heap.size W X2 := by rw [hX2]; exact hW1.setCell (p := ⟨b, 0, none⟩) hbW _
  have PX2 : Hid (B4 w.heap.size X2 (.int .i64 0) (.string ⟨#[]⟩) (.int .i64 0) (.slice none 0 0)) := Lib.hid (by rw [hX2]; exact P1.out.far (by simp; omega) _)
  obtain ⟨x, hx⟩ : ∃ x, x = ba ((l.drop 1).take 10) := ⟨_, rfl⟩
  have hxl : x.data.toList = (l.drop 1).take 10 := by rw [hx]
  have HPD : Hid (Calls Tryz.prog 69 #[.string x] X2 fun e w' => e = .returned (.tuple #[.int .i64 0, .bool false]) ∧ Below X2.heap.size X2 w') := Lib.hid ((PImpl.impl x (by rw [hx]; simp [ByteArray.size]; omega) X2 (hT.below hW2) (hLi.below hW2)).mono fun e w' ⟨a1, a2⟩ => by
    rw [← hxl] at hd
    unfold PImpl.Ans at a1
    rcases a1 with ⟨d', a, _⟩ | ⟨_, rfl⟩
    · rw [(hdt _ _).2 a] at hd; cases hd
    · exact ⟨rfl, a2⟩)
  rw [← hx] at HTK
  have HX2 := Lib.hid hX2
  have HTKH := Lib.hid HTK
  have M2 := Lib.hid hm2
  have R2 := Lib.hid hR2
  clear hX hX1 hX2 HSK HTK hR1 hR2 hRX hm1 hm2 hW1 hW2 h1 b0 h hW hd hx hxl e10 hT hLi
  go_enter Tryz.func54, Tryz.ntmps54
  go_wp2_with (first | (go_at_call 50; (try rw [← HXX.out]); refine HSKH.out.mono ?_; rintro e w' ⟨rfl, rfl⟩; (try rw [← HX1.out])) | (go_at_call 52; (try rw [← HX1.out]); refine HTKH.out.mono ?_; rintro e w' ⟨rfl, rfl⟩; (try rw [← HX2.out])) | (go_at_call 69; (try rw [← HX2.out]); refine HPD.out.mono ?_; rintro e w3 ⟨rfl, hb3⟩; refine Hid.out ?_))
  refine Lib.hid ?_
  have P2 := Lib.hid (PX2.out.on hb3)
  have M3 := Lib.hid (M2.out.trans (Mv.of_below hb3))
  have R3 := Lib.hid (R2.out.on hb3)
  obtain ⟨_, p0, p1, p2, p3, pf⟩ := P2.out
  have pf0 := pf 0
  have pf1 := pf 1
  have pf2 := pf 2
  have pf3 := pf 3
  clear pf
  clear hb3
  go_wp2_with fail
  obtain ⟨_, t0, t1, t2, t3, _⟩ := P2.out.put (.int .i64 3) (.string ⟨#[]⟩) (.int .i64 0) (.slice none 0 0)
  have hf := pb_any (b := b) (kb := w.heap.size) (x0 := .int .i64 3) (x1 := .string ⟨#[]⟩) (x2 := .int .i64 0) (x3 := .slice none 0 0) (.mk 3 .empty 0 none 0 []) M3.out (Nat.le_refl _)
  simp only [Cond.put4] at t0 t1 t2 t3 hf
  exact bodyPost_ret (v := .tuple #[.agg #[.int .i64 3, .string ⟨#[]⟩, .int .i64 0, .slice none 0 0], .bool false]) (by simp [results, Tryz.results54, go_sem, t0, t1, t2, t3]) rfl hf

end Go.Proofs.YtmgjeplbhnfakaaGreatDoor.Cond

namespace Go.Proofs.YtmgjeplbhnfakaaGreatDoor.Cond
open Go.RowKit
set_option linter.unusedVariables false

theorem st_iff {p l : List UInt8} : st p l = true ↔ ∃ t, l = p ++ t := by
  unfold st
  rw [decide_eq_true_eq]
  constructor
  · intro h; exact ⟨l.drop p.length, by conv => lhs; rw [← List.take_append_drop p.length l, h]⟩
  · rintro ⟨t, rfl⟩; simp
theorem word_app {p t : List UInt8} (hp : ∀ x ∈ p, sgn x.toNat = true) (ht : ∀ x, t.head? = some x → sgn x.toNat = false) : word (p ++ t) = p := by
  induction p with
  | nil =>
    cases t with
    | nil => rfl
    | cons x t => simp [word, ht x rfl]
  | cons y p ih =>
    have h1 := hp y (by simp)
    have h2 := ih (fun x hx => hp x (by simp [hx]))
    unfold word at h2 ⊢
    simp [h1, h2]
theorem word_not {l : List UInt8} (h : st wNot l = true) : word l = [110, 111, 116] := by
  obtain ⟨t, rfl⟩ := st_iff.1 h
  exact word_app (p := [110, 111, 116]) (t := 32 :: t) (by decide) (by intro x hx; simp at hx; subst hx; decide)
theorem word_from {l : List UInt8} (h : st wFrom l = true) : word l = [102, 114, 111, 109] := by
  obtain ⟨t, rfl⟩ := st_iff.1 h
  exact word_app (p := [102, 114, 111, 109]) (t := 32 :: t) (by decide) (by intro x hx; simp at hx; subst hx; decide)
theorem word_par {l : List UInt8} (h : st wPar l = true) : word l = [] := by
  obtain ⟨t, rfl⟩ := st_iff.1 h
  exact word_app (p := []) (t := 40 :: t) (by simp) (by intro x hx; simp at hx; subst hx; decide)
theorem word_pre (l : List UInt8) : l = word l ++ l.drop (word l).length := by
  conv => lhs; rw [← List.take_append_drop (word l).length l]
  congr 1
  exact (List.prefix_iff_eq_take.1 (List.takeWhile_prefix _)).symm
theorem st_not {l : List UInt8} (h : word l = [110, 111, 116]) : st wNot l = st [32] (l.drop 3) := by
  have e := word_pre l
  rw [h] at e
  rw [Bool.eq_iff_iff, st_iff, st_iff]
  constructor
  · rintro ⟨t, ht⟩; exact ⟨t, by rw [ht]; rfl⟩
  · rintro ⟨t, ht⟩; exact ⟨t, by rw [e]; show [110, 111, 116] ++ l.drop 3 = _; rw [ht]; rfl⟩
theorem st_from {l : List UInt8} (h : word l = [102, 114, 111, 109]) : st wFrom l = st [32] (l.drop 4) := by
  have e := word_pre l
  rw [h] at e
  rw [Bool.eq_iff_iff, st_iff, st_iff]
  constructor
  · rintro ⟨t, ht⟩; exact ⟨t, by rw [ht]; rfl⟩
  · rintro ⟨t, ht⟩; exact ⟨t, by rw [e]; show [102, 114, 111, 109] ++ l.drop 4 = _; rw [ht]; rfl⟩
theorem or_and {r : List UInt8} (h : st wAnd r = true) : st wOr r = false := by
  obtain ⟨t, rfl⟩ := st_iff.1 h
  rfl
theorem nm_not : isNm (ba [110, 111, 116]) = false := by decide +kernel
theorem nm_from : isNm (ba [102, 114, 111, 109]) = false := by decide +kernel

end Go.Proofs.YtmgjeplbhnfakaaGreatDoor.Cond

namespace Go.Proofs.YtmgjeplbhnfakaaGreatDoor.Cond
open Go.RowKit
set_option linter.unusedVariables false
set_option linter.unusedSimpArgs false

set_option maxRecDepth 100000 in
set_option maxHeartbeats 8000000 in
theorem rPairG {b : Nat} {W : World} (hbW : W.heap.size ≤ b) (l : List UInt8) (M : Nat) (w : World) (hll : l.length ≤ 1900000) (hM : M ≤ 15) (h : Rr b w l (M + 1)) (hW : Below W.heap.size W w) (hP : st wPar l = true) (q : Q) (r : List UInt8) (Lr : Nat) (HCALL : ∀ v, Rr b v (l.drop 1) M → Below W.heap.size W v → Calls Tryz.prog 51 #[.pointer (some ⟨b, 0, none⟩)] v (PG b q r Lr v)) :
    Calls Tryz.prog 28 #[.pointer (some ⟨b, 0, none⟩)] w (PG b q r Lr w) := by
  have hbw : b < w.heap.size := h.lt
  obtain ⟨X, hX⟩ : ∃ X, X = w.setCell ⟨b, 1, none⟩ (.int .i64 (M : Int)) := ⟨_, rfl⟩
  have hRX : Rr b X l M := by rw [hX]; exact h.set1 M
  have hXs : X.heap.size = w.heap.size := by rw [hX]; simp
  have hmX : Mv (· = b) (· = b) w X := by rw [hX]; exact mv_set b 1 w _
  obtain ⟨X1, hX1⟩ : ∃ V, V = X.alloc (.cells #[.int .i64 0, .string ⟨#[]⟩, .int .i64 0, .slice none 0 0] 26) := ⟨_, rfl⟩
  have b0 : Below X.heap.size X X1 := by rw [hX1]; exact below1 _ _
  have hR1 : Rr b X1 l M := hRX.on b0
  have hm1 : Mv (· = b) (· = b) w X1 := hmX.trans (Mv.of_below b0)
  have hW1 : Below W.heap.size W X1 := by
    have h0 : Below W.heap.size W X := by rw [hX]; exact hW.setCell (p := ⟨b, 1, none⟩) hbW _
    exact h0.trans (b0.mono h0.size)
  have P1 : Hid (B4 w.heap.size X1 (.int .i64 0) (.string ⟨#[]⟩) (.int .i64 0) (.slice none 0 0)) := Lib.hid (by rw [← hXs, hX1]; exact B4.new _ _ _ _ _ _)
  have HSK := skip b M l ⟨#[40]⟩ X1 hR1
  rw [show (⟨#[40]⟩ : ByteArray).data.toList = wPar from rfl, hP, show trim wPar l = l.drop 1 by rw [trim, hP]; rfl] at HSK
  obtain ⟨X2, hX2⟩ : ∃ V, V = X1.setCell ⟨b, 0, none⟩ (.string (ba (l.drop 1))) := ⟨_, rfl⟩
  have hR2 : Rr b X2 (l.drop 1) M := by rw [hX2]; exact hR1.set0 _
  have hm2 : Mv (· = b) (· = b) w X2 := hm1.trans (by rw [hX2]; exact mv_set b 0 X1 _)
  have hW2 : Below W.heap.size W X2 := by rw [hX2]; exact hW1.setCell (p := ⟨b, 0, none⟩) hbW _
  have P3 : Hid (B4 w.heap.size X2 (.int .i64 0) (.string ⟨#[]⟩) (.int .i64 0) (.slice none 0 0)) := Lib.hid (by rw [hX2]; exact P1.out.far (by simp; omega) _)
  have rc1 : w.cell? ⟨b, 1, none⟩ = some (.int .i64 ((M : Int) + 1)) := by have := h.c1; rw [this]; simp
  have rf1 := h.fz 1
  have hl0 : ((M : Int) + 1 == 0) = false := by rw [beq_eq_false_iff_ne]; omega
  have hl1 : ¬ (M : Int) + 1 = 0 := by omega
  have HXX := Lib.hid hX
  have HX1 := Lib.hid hX1
  have HX2 := Lib.hid hX2
  have HSKH := Lib.hid HSK
  have SW : Hid (w.heap.size < X2.heap.size) := Lib.hid P3.out.lt
  have MX := Lib.hid hm2
  have S3 := SW
  have HSUB := Lib.hid (HCALL X2 hR2 hW2)
  clear hXs hmX hX hX1 hX2 HSK hR1 hR2 hRX hm1 hm2 hW1 hW2 b0 h hW hP
  clear HCALL
  go_enter Tryz.func28, Tryz.ntmps28
  go_wp2_with (first | (go_at_call 50; (try rw [← HXX.out]); (try rw [← HX1.out]); refine HSKH.out.mono ?_; rintro e w' ⟨rfl, rfl⟩; (try rw [← HX2.out])) | fail | (go_at_call 51; (try rw [← HX2.out]); refine HSUB.out.mono ?_; rintro e wz ⟨hmz, k, rfl, hk, hwk, hge, hrr⟩; refine Hid.out ?_))
  refine Lib.hid ?_
  have MZ := Lib.hid (MX.out.trans hmz)
  have P2 := Lib.hid (P3.out.mv hmz (by omega))
  have HF : Hid (∀ x0 x1 x2 x3, PG b q r Lr w (.returned (.tuple #[k.val, .bool true])) (Cond.put4 wz w.heap.size 0 x0 x1 x2 x3)) := Lib.hid fun x0 x1 x2 x3 => pg_leaf MZ.out hk hwk (fun x hx => by have := hge x hx; have := S3.out; omega) (fun hx => by have := hge _ hx; have := S3.out; omega) hrr (Nat.le_refl _) (by omega)
  obtain ⟨_, p0, p1, p2, p3, pf⟩ := P2.out
  have pf0 := pf 0
  have pf1 := pf 1
  have pf2 := pf 2
  have pf3 := pf 3
  clear pf
  clear hmz hk hwk hge hrr
  go_wp2_with fail
  obtain ⟨_, t0, t1, t2, t3, _⟩ := P2.out.put (.int .i64 k.op) (.string k.nm) (.int .i64 k.day) (.slice k.A k.ps.length k.cap)
  have hf := HF.out (.int .i64 k.op) (.string k.nm) (.int .i64 k.day) (.slice k.A k.ps.length k.cap)
  simp only [Cond.put4] at t0 t1 t2 t3 hf
  exact bodyPost_ret (v := .tuple #[k.val, .bool true]) (by simp [results, Tryz.results28, go_sem, t0, t1, t2, t3]) rfl hf

set_option maxRecDepth 100000 in
set_option maxHeartbeats 8000000 in
theorem rPairB {b : Nat} {W : World} (hbW : W.heap.size ≤ b) (l : List UInt8) (M : Nat) (w : World) (hll : l.length ≤ 1900000) (hM : M ≤ 15) (h : Rr b w l (M + 1)) (hW : Below W.heap.size W w) (hP : st wPar l = true) (HCALL : ∀ v, Rr b v (l.drop 1) M → Below W.heap.size W v → Calls Tryz.prog 51 #[.pointer (some ⟨b, 0, none⟩)] v (PB b v)) :
    Calls Tryz.prog 28 #[.pointer (some ⟨b, 0, none⟩)] w (PB b w) := by
  have hbw : b < w.heap.size := h.lt
  obtain ⟨X, hX⟩ : ∃ X, X = w.setCell ⟨b, 1, none⟩ (.int .i64 (M : Int)) := ⟨_, rfl⟩
  have hRX : Rr b X l M := by rw [hX]; exact h.set1 M
  have hXs : X.heap.size = w.heap.size := by rw [hX]; simp
  have hmX : Mv (· = b) (· = b) w X := by rw [hX]; exact mv_set b 1 w _
  obtain ⟨X1, hX1⟩ : ∃ V, V = X.alloc (.cells #[.int .i64 0, .string ⟨#[]⟩, .int .i64 0, .slice none 0 0] 26) := ⟨_, rfl⟩
  have b0 : Below X.heap.size X X1 := by rw [hX1]; exact below1 _ _
  have hR1 : Rr b X1 l M := hRX.on b0
  have hm1 : Mv (· = b) (· = b) w X1 := hmX.trans (Mv.of_below b0)
  have hW1 : Below W.heap.size W X1 := by
    have h0 : Below W.heap.size W X := by rw [hX]; exact hW.setCell (p := ⟨b, 1, none⟩) hbW _
    exact h0.trans (b0.mono h0.size)
  have P1 : Hid (B4 w.heap.size X1 (.int .i64 0) (.string ⟨#[]⟩) (.int .i64 0) (.slice none 0 0)) := Lib.hid (by rw [← hXs, hX1]; exact B4.new _ _ _ _ _ _)
  have HSK := skip b M l ⟨#[40]⟩ X1 hR1
  rw [show (⟨#[40]⟩ : ByteArray).data.toList = wPar from rfl, hP, show trim wPar l = l.drop 1 by rw [trim, hP]; rfl] at HSK
  obtain ⟨X2, hX2⟩ : ∃ V, V = X1.setCell ⟨b, 0, none⟩ (.string (ba (l.drop 1))) := ⟨_, rfl⟩
  have hR2 : Rr b X2 (l.drop 1) M := by rw [hX2]; exact hR1.set0 _
  have hm2 : Mv (· = b) (· = b) w X2 := hm1.trans (by rw [hX2]; exact mv_set b 0 X1 _)
  have hW2 : Below W.heap.size W X2 := by rw [hX2]; exact hW1.setCell (p := ⟨b, 0, none⟩) hbW _
  have P3 : Hid (B4 w.heap.size X2 (.int .i64 0) (.string ⟨#[]⟩) (.int .i64 0) (.slice none 0 0)) := Lib.hid (by rw [hX2]; exact P1.out.far (by simp; omega) _)
  have rc1 : w.cell? ⟨b, 1, none⟩ = some (.int .i64 ((M : Int) + 1)) := by have := h.c1; rw [this]; simp
  have rf1 := h.fz 1
  have hl0 : ((M : Int) + 1 == 0) = false := by rw [beq_eq_false_iff_ne]; omega
  have hl1 : ¬ (M : Int) + 1 = 0 := by omega
  have HXX := Lib.hid hX
  have HX1 := Lib.hid hX1
  have HX2 := Lib.hid hX2
  have HSKH := Lib.hid HSK
  have SW : Hid (w.heap.size < X2.heap.size) := Lib.hid P3.out.lt
  have MX := Lib.hid hm2
  have S3 := SW
  have HSUB := Lib.hid (HCALL X2 hR2 hW2)
  clear hXs hmX hX hX1 hX2 HSK hR1 hR2 hRX hm1 hm2 hW1 hW2 b0 h hW hP
  clear HCALL
  go_enter Tryz.func28, Tryz.ntmps28
  go_wp2_with (first | (go_at_call 50; (try rw [← HXX.out]); (try rw [← HX1.out]); refine HSKH.out.mono ?_; rintro e w' ⟨rfl, rfl⟩; (try rw [← HX2.out])) | fail | (go_at_call 51; (try rw [← HX2.out]); refine HSUB.out.mono ?_; rintro e wz ⟨hmz, k, rfl⟩; refine Hid.out ?_))
  refine Lib.hid ?_
  have MZ := Lib.hid (MX.out.trans hmz)
  have P2 := Lib.hid (P3.out.mv hmz (by omega))
  have HF : Hid (∀ x0 x1 x2 x3, PB b w (.returned (.tuple #[k.val, .bool false])) (Cond.put4 wz w.heap.size 0 x0 x1 x2 x3)) := Lib.hid fun x0 x1 x2 x3 => pb_any k MZ.out (Nat.le_refl _)
  obtain ⟨_, p0, p1, p2, p3, pf⟩ := P2.out
  have pf0 := pf 0
  have pf1 := pf 1
  have pf2 := pf 2
  have pf3 := pf 3
  clear pf
  clear hmz
  go_wp2_with fail
  obtain ⟨_, t0, t1, t2, t3, _⟩ := P2.out.put (.int .i64 k.op) (.string k.nm) (.int .i64 k.day) (.slice k.A k.ps.length k.cap)
  have hf := HF.out (.int .i64 k.op) (.string k.nm) (.int .i64 k.day) (.slice k.A k.ps.length k.cap)
  simp only [Cond.put4] at t0 t1 t2 t3 hf
  exact bodyPost_ret (v := .tuple #[k.val, .bool false]) (by simp [results, Tryz.results28, go_sem, t0, t1, t2, t3]) rfl hf

set_option maxRecDepth 100000 in
set_option maxHeartbeats 8000000 in
theorem rFromG {b : Nat} {W : World} (hbW : W.heap.size ≤ b) (l : List UInt8) (M : Nat) (w : World) (hll : l.length ≤ 1900000) (hM : M ≤ 15) (h : Rr b w l (M + 1)) (hW : Below W.heap.size W w) (hP : st wPar l = false) (hw : word l = [102, 114, 111, 109]) (q : Q) (r : List UInt8) (Lr : Nat) (HCALL : ∀ v, Rr b v (l.drop (word l).length) M → Below W.heap.size W v → Calls Tryz.prog 54 #[.pointer (some ⟨b, 0, none⟩)] v (PG b q r Lr v)) :
    Calls Tryz.prog 28 #[.pointer (some ⟨b, 0, none⟩)] w (PG b q r Lr w) := by
  have hbw : b < w.heap.size := h.lt
  obtain ⟨X, hX⟩ : ∃ X, X = w.setCell ⟨b, 1, none⟩ (.int .i64 (M : Int)) := ⟨_, rfl⟩
  have hRX : Rr b X l M := by rw [hX]; exact h.set1 M
  have hXs : X.heap.size = w.heap.size := by rw [hX]; simp
  have hmX : Mv (· = b) (· = b) w X := by rw [hX]; exact mv_set b 1 w _
  obtain ⟨X1, hX1⟩ : ∃ V, V = X.alloc (.cells #[.int .i64 0, .string ⟨#[]⟩, .int .i64 0, .slice none 0 0] 26) := ⟨_, rfl⟩
  have b0 : Below X.heap.size X X1 := by rw [hX1]; exact below1 _ _
  have hR1 : Rr b X1 l M := hRX.on b0
  have hm1 : Mv (· = b) (· = b) w X1 := hmX.trans (Mv.of_below b0)
  have hW1 : Below W.heap.size W X1 := by
    have h0 : Below W.heap.size W X := by rw [hX]; exact hW.setCell (p := ⟨b, 1, none⟩) hbW _
    exact h0.trans (b0.mono h0.size)
  have P1 : Hid (B4 w.heap.size X1 (.int .i64 0) (.string ⟨#[]⟩) (.int .i64 0) (.slice none 0 0)) := Lib.hid (by rw [← hXs, hX1]; exact B4.new _ _ _ _ _ _)
  have HSK := skip b M l ⟨#[40]⟩ X1 hR1
  rw [show (⟨#[40]⟩ : ByteArray).data.toList = wPar from rfl, hP, show trim wPar l = l by rw [trim, hP]; rfl] at HSK
  obtain ⟨X2, hX2⟩ : ∃ V, V = X1.setCell ⟨b, 0, none⟩ (.string (ba (l))) := ⟨_, rfl⟩
  have hR2 : Rr b X2 (l) M := by rw [hX2]; exact hR1.set0 _
  have hm2 : Mv (· = b) (· = b) w X2 := hm1.trans (by rw [hX2]; exact mv_set b 0 X1 _)
  have hW2 : Below W.heap.size W X2 := by rw [hX2]; exact hW1.setCell (p := ⟨b, 0, none⟩) hbW _
  have P3 : Hid (B4 w.heap.size X2 (.int .i64 0) (.string ⟨#[]⟩) (.int .i64 0) (.slice none 0 0)) := Lib.hid (by rw [hX2]; exact P1.out.far (by simp; omega) _)
  have rc1 : w.cell? ⟨b, 1, none⟩ = some (.int .i64 ((M : Int) + 1)) := by have := h.c1; rw [this]; simp
  have rf1 := h.fz 1
  have hl0 : ((M : Int) + 1 == 0) = false := by rw [beq_eq_false_iff_ne]; omega
  have hl1 : ¬ (M : Int) + 1 = 0 := by omega
  have HXX := Lib.hid hX
  have HX1 := Lib.hid hX1
  have HX2 := Lib.hid hX2
  have HSKH := Lib.hid HSK
  have SW : Hid (w.heap.size < X2.heap.size) := Lib.hid P3.out.lt
  have HWL : Hid (∀ v, Calls Tryz.prog 53 #[.string (ba l)] v fun e w' => e = .returned (.int .i64 ((word l).length : Int)) ∧ v = w') := Lib.hid fun v => wordLength (ba l) (by simp [ByteArray.size, maxLen]; omega) v
  have HTK := take_ b M (word l).length l X2 hR2 (by omega) (by have := word_len l; omega)
  rw [show l.take (word l).length = word l from (List.prefix_iff_eq_take.1 (List.takeWhile_prefix _)).symm] at HTK
  obtain ⟨X3, hX3⟩ : ∃ V, V = X2.setCell ⟨b, 0, none⟩ (.string (ba (l.drop (word l).length))) := ⟨_, rfl⟩
  have hR3 : Rr b X3 (l.drop (word l).length) M := by rw [hX3]; exact hR2.set0 _
  have hm3 : Mv (· = b) (· = b) w X3 := hm2.trans (by rw [hX3]; exact mv_set b 0 X2 _)
  have hW3 : Below W.heap.size W X3 := by rw [hX3]; exact hW2.setCell (p := ⟨b, 0, none⟩) hbW _
  have P4 : Hid (B4 w.heap.size X3 (.int .i64 0) (.string ⟨#[]⟩) (.int .i64 0) (.slice none 0 0)) := Lib.hid (by rw [hX3]; exact P3.out.far (by simp; omega) _)
  have HX3 := Lib.hid hX3
  have HTKH := Lib.hid HTK
  have MX := Lib.hid hm3
  have RX := Lib.hid hR3
  have S3 : Hid (w.heap.size < X3.heap.size) := Lib.hid P4.out.lt
  have rx0 := hR2.c0
  have HSUB := Lib.hid (HCALL X3 hR3 hW3)
  have hwd : word l = [102, 114, 111, 109] := hw
  rw [hw] at HTKH HX3 HWL
  clear hXs hmX hX hX1 hX2 hX3 HSK HTK hR1 hR2 hR3 hRX hm1 hm2 hm3 hW1 hW2 hW3 b0 h hW hP
  clear hw hwd
  clear HCALL
  go_enter Tryz.func28, Tryz.ntmps28
  go_wp2_with (first | (go_at_call 50; (try rw [← HXX.out]); (try rw [← HX1.out]); refine HSKH.out.mono ?_; rintro e w' ⟨rfl, rfl⟩; (try rw [← HX2.out])) | (go_at_call 53; (try rw [← HX2.out]); refine (HWL.out _).mono ?_; rintro e w' ⟨rfl, rfl⟩) | (go_at_call 52; (try rw [← HX2.out]); refine HTKH.out.mono ?_; rintro e w' ⟨rfl, rfl⟩; (try rw [← HX3.out])) | (go_at_call 54; (try rw [← HX3.out]); refine HSUB.out.mono ?_; rintro e wz ⟨hmz, k, rfl, hk, hwk, hge, hrr⟩; refine Hid.out ?_))
  refine Lib.hid ?_
  have MZ := Lib.hid (MX.out.trans hmz)
  have P2 := Lib.hid (P4.out.mv hmz (by omega))
  have HF : Hid (∀ x0 x1 x2 x3, PG b q r Lr w (.returned (.tuple #[k.val, .bool true])) (Cond.put4 wz w.heap.size 0 x0 x1 x2 x3)) := Lib.hid fun x0 x1 x2 x3 => pg_leaf MZ.out hk hwk (fun x hx => by have := hge x hx; have := S3.out; omega) (fun hx => by have := hge _ hx; have := S3.out; omega) hrr (Nat.le_refl _) (by omega)
  obtain ⟨_, p0, p1, p2, p3, pf⟩ := P2.out
  have pf0 := pf 0
  have pf1 := pf 1
  have pf2 := pf 2
  have pf3 := pf 3
  clear pf
  clear hmz hk hwk hge hrr
  go_wp2_with fail
  obtain ⟨_, t0, t1, t2, t3, _⟩ := P2.out.put (.int .i64 k.op) (.string k.nm) (.int .i64 k.day) (.slice k.A k.ps.length k.cap)
  have hf := HF.out (.int .i64 k.op) (.string k.nm) (.int .i64 k.day) (.slice k.A k.ps.length k.cap)
  simp only [Cond.put4] at t0 t1 t2 t3 hf
  exact bodyPost_ret (v := .tuple #[k.val, .bool true]) (by simp [results, Tryz.results28, go_sem, t0, t1, t2, t3]) rfl hf

set_option maxRecDepth 100000 in
set_option maxHeartbeats 8000000 in
theorem rFromB {b : Nat} {W : World} (hbW : W.heap.size ≤ b) (l : List UInt8) (M : Nat) (w : World) (hll : l.length ≤ 1900000) (hM : M ≤ 15) (h : Rr b w l (M + 1)) (hW : Below W.heap.size W w) (hP : st wPar l = false) (hw : word l = [102, 114, 111, 109]) (HCALL : ∀ v, Rr b v (l.drop (word l).length) M → Below W.heap.size W v → Calls Tryz.prog 54 #[.pointer (some ⟨b, 0, none⟩)] v (PB b v)) :
    Calls Tryz.prog 28 #[.pointer (some ⟨b, 0, none⟩)] w (PB b w) := by
  have hbw : b < w.heap.size := h.lt
  obtain ⟨X, hX⟩ : ∃ X, X = w.setCell ⟨b, 1, none⟩ (.int .i64 (M : Int)) := ⟨_, rfl⟩
  have hRX : Rr b X l M := by rw [hX]; exact h.set1 M
  have hXs : X.heap.size = w.heap.size := by rw [hX]; simp
  have hmX : Mv (· = b) (· = b) w X := by rw [hX]; exact mv_set b 1 w _
  obtain ⟨X1, hX1⟩ : ∃ V, V = X.alloc (.cells #[.int .i64 0, .string ⟨#[]⟩, .int .i64 0, .slice none 0 0] 26) := ⟨_, rfl⟩
  have b0 : Below X.heap.size X X1 := by rw [hX1]; exact below1 _ _
  have hR1 : Rr b X1 l M := hRX.on b0
  have hm1 : Mv (· = b) (· = b) w X1 := hmX.trans (Mv.of_below b0)
  have hW1 : Below W.heap.size W X1 := by
    have h0 : Below W.heap.size W X := by rw [hX]; exact hW.setCell (p := ⟨b, 1, none⟩) hbW _
    exact h0.trans (b0.mono h0.size)
  have P1 : Hid (B4 w.heap.size X1 (.int .i64 0) (.string ⟨#[]⟩) (.int .i64 0) (.slice none 0 0)) := Lib.hid (by rw [← hXs, hX1]; exact B4.new _ _ _ _ _ _)
  have HSK := skip b M l ⟨#[40]⟩ X1 hR1
  rw [show (⟨#[40]⟩ : ByteArray).data.toList = wPar from rfl, hP, show trim wPar l = l by rw [trim, hP]; rfl] at HSK
  obtain ⟨X2, hX2⟩ : ∃ V, V = X1.setCell ⟨b, 0, none⟩ (.string (ba (l))) := ⟨_, rfl⟩
  have hR2 : Rr b X2 (l) M := by rw [hX2]; exact hR1.set0 _
  have hm2 : Mv (· = b) (· = b) w X2 := hm1.trans (by rw [hX2]; exact mv_set b 0 X1 _)
  have hW2 : Below W.heap.size W X2 := by rw [hX2]; exact hW1.setCell (p := ⟨b, 0, none⟩) hbW _
  have P3 : Hid (B4 w.heap.size X2 (.int .i64 0) (.string ⟨#[]⟩) (.int .i64 0) (.slice none 0 0)) := Lib.hid (by rw [hX2]; exact P1.out.far (by simp; omega) _)
  have rc1 : w.cell? ⟨b, 1, none⟩ = some (.int .i64 ((M : Int) + 1)) := by have := h.c1; rw [this]; simp
  have rf1 := h.fz 1
  have hl0 : ((M : Int) + 1 == 0) = false := by rw [beq_eq_false_iff_ne]; omega
  have hl1 : ¬ (M : Int) + 1 = 0 := by omega
  have HXX := Lib.hid hX
  have HX1 := Lib.hid hX1
  have HX2 := Lib.hid hX2
  have HSKH := Lib.hid HSK
  have SW : Hid (w.heap.size < X2.heap.size) := Lib.hid P3.out.lt
  have HWL : Hid (∀ v, Calls Tryz.prog 53 #[.string (ba l)] v fun e w' => e = .returned (.int .i64 ((word l).length : Int)) ∧ v = w') := Lib.hid fun v => wordLength (ba l) (by simp [ByteArray.size, maxLen]; omega) v
  have HTK := take_ b M (word l).length l X2 hR2 (by omega) (by have := word_len l; omega)
  rw [show l.take (word l).length = word l from (List.prefix_iff_eq_take.1 (List.takeWhile_prefix _)).symm] at HTK
  obtain ⟨X3, hX3⟩ : ∃ V, V = X2.setCell ⟨b, 0, none⟩ (.string (ba (l.drop (word l).length))) := ⟨_, rfl⟩
  have hR3 : Rr b X3 (l.drop (word l).length) M := by rw [hX3]; exact hR2.set0 _
  have hm3 : Mv (· = b) (· = b) w X3 := hm2.trans (by rw [hX3]; exact mv_set b 0 X2 _)
  have hW3 : Below W.heap.size W X3 := by rw [hX3]; exact hW2.setCell (p := ⟨b, 0, none⟩) hbW _
  have P4 : Hid (B4 w.heap.size X3 (.int .i64 0) (.string ⟨#[]⟩) (.int .i64 0) (.slice none 0 0)) := Lib.hid (by rw [hX3]; exact P3.out.far (by simp; omega) _)
  have HX3 := Lib.hid hX3
  have HTKH := Lib.hid HTK
  have MX := Lib.hid hm3
  have RX := Lib.hid hR3
  have S3 : Hid (w.heap.size < X3.heap.size) := Lib.hid P4.out.lt
  have rx0 := hR2.c0
  have HSUB := Lib.hid (HCALL X3 hR3 hW3)
  have hwd : word l = [102, 114, 111, 109] := hw
  rw [hw] at HTKH HX3 HWL
  clear hXs hmX hX hX1 hX2 hX3 HSK HTK hR1 hR2 hR3 hRX hm1 hm2 hm3 hW1 hW2 hW3 b0 h hW hP
  clear hw hwd
  clear HCALL
  go_enter Tryz.func28, Tryz.ntmps28
  go_wp2_with (first | (go_at_call 50; (try rw [← HXX.out]); (try rw [← HX1.out]); refine HSKH.out.mono ?_; rintro e w' ⟨rfl, rfl⟩; (try rw [← HX2.out])) | (go_at_call 53; (try rw [← HX2.out]); refine (HWL.out _).mono ?_; rintro e w' ⟨rfl, rfl⟩) | (go_at_call 52; (try rw [← HX2.out]); refine HTKH.out.mono ?_; rintro e w' ⟨rfl, rfl⟩; (try rw [← HX3.out])) | (go_at_call 54; (try rw [← HX3.out]); refine HSUB.out.mono ?_; rintro e wz ⟨hmz, k, rfl⟩; refine Hid.out ?_))
  refine Lib.hid ?_
  have MZ := Lib.hid (MX.out.trans hmz)
  have P2 := Lib.hid (P4.out.mv hmz (by omega))
  have HF : Hid (∀ x0 x1 x2 x3, PB b w (.returned (.tuple #[k.val, .bool false])) (Cond.put4 wz w.heap.size 0 x0 x1 x2 x3)) := Lib.hid fun x0 x1 x2 x3 => pb_any k MZ.out (Nat.le_refl _)
  obtain ⟨_, p0, p1, p2, p3, pf⟩ := P2.out
  have pf0 := pf 0
  have pf1 := pf 1
  have pf2 := pf 2
  have pf3 := pf 3
  clear pf
  clear hmz
  go_wp2_with fail
  obtain ⟨_, t0, t1, t2, t3, _⟩ := P2.out.put (.int .i64 k.op) (.string k.nm) (.int .i64 k.day) (.slice k.A k.ps.length k.cap)
  have hf := HF.out (.int .i64 k.op) (.string k.nm) (.int .i64 k.day) (.slice k.A k.ps.length k.cap)
  simp only [Cond.put4] at t0 t1 t2 t3 hf
  exact bodyPost_ret (v := .tuple #[k.val, .bool false]) (by simp [results, Tryz.results28, go_sem, t0, t1, t2, t3]) rfl hf

set_option maxRecDepth 100000 in
set_option maxHeartbeats 8000000 in
theorem rNotG {b : Nat} {W : World} (hbW : W.heap.size ≤ b) (l : List UInt8) (M : Nat) (w : World) (hll : l.length ≤ 1900000) (hM : M ≤ 15) (h : Rr b w l (M + 1)) (hW : Below W.heap.size W w) (hP : st wPar l = false) (hw : word l = [110, 111, 116]) (q : Q) (r : List UInt8) (Lr : Nat) (HCALL : ∀ v, Rr b v (l.drop (word l).length) M → Below W.heap.size W v → Calls Tryz.prog 55 #[.pointer (some ⟨b, 0, none⟩)] v (PG b q r Lr v)) :
    Calls Tryz.prog 28 #[.pointer (some ⟨b, 0, none⟩)] w (PG b q r Lr w) := by
  have hbw : b < w.heap.size := h.lt
  obtain ⟨X, hX⟩ : ∃ X, X = w.setCell ⟨b, 1, none⟩ (.int .i64 (M : Int)) := ⟨_, rfl⟩
  have hRX : Rr b X l M := by rw [hX]; exact h.set1 M
  have hXs : X.heap.size = w.heap.size := by rw [hX]; simp
  have hmX : Mv (· = b) (· = b) w X := by rw [hX]; exact mv_set b 1 w _
  obtain ⟨X1, hX1⟩ : ∃ V, V = X.alloc (.cells #[.int .i64 0, .string ⟨#[]⟩, .int .i64 0, .slice none 0 0] 26) := ⟨_, rfl⟩
  have b0 : Below X.heap.size X X1 := by rw [hX1]; exact below1 _ _
  have hR1 : Rr b X1 l M := hRX.on b0
  have hm1 : Mv (· = b) (· = b) w X1 := hmX.trans (Mv.of_below b0)
  have hW1 : Below W.heap.size W X1 := by
    have h0 : Below W.heap.size W X := by rw [hX]; exact hW.setCell (p := ⟨b, 1, none⟩) hbW _
    exact h0.trans (b0.mono h0.size)
  have P1 : Hid (B4 w.heap.size X1 (.int .i64 0) (.string ⟨#[]⟩) (.int .i64 0) (.slice none 0 0)) := Lib.hid (by rw [← hXs, hX1]; exact B4.new _ _ _ _ _ _)
  have HSK := skip b M l ⟨#[40]⟩ X1 hR1
  rw [show (⟨#[40]⟩ : ByteArray).data.toList = wPar from rfl, hP, show trim wPar l = l by rw [trim, hP]; rfl] at HSK
  obtain ⟨X2, hX2⟩ : ∃ V, V = X1.setCell ⟨b, 0, none⟩ (.string (ba (l))) := ⟨_, rfl⟩
  have hR2 : Rr b X2 (l) M := by rw [hX2]; exact hR1.set0 _
  have hm2 : Mv (· = b) (· = b) w X2 := hm1.trans (by rw [hX2]; exact mv_set b 0 X1 _)
  have hW2 : Below W.heap.size W X2 := by rw [hX2]; exact hW1.setCell (p := ⟨b, 0, none⟩) hbW _
  have P3 : Hid (B4 w.heap.size X2 (.int .i64 0) (.string ⟨#[]⟩) (.int .i64 0) (.slice none 0 0)) := Lib.hid (by rw [hX2]; exact P1.out.far (by simp; omega) _)
  have rc1 : w.cell? ⟨b, 1, none⟩ = some (.int .i64 ((M : Int) + 1)) := by have := h.c1; rw [this]; simp
  have rf1 := h.fz 1
  have hl0 : ((M : Int) + 1 == 0) = false := by rw [beq_eq_false_iff_ne]; omega
  have hl1 : ¬ (M : Int) + 1 = 0 := by omega
  have HXX := Lib.hid hX
  have HX1 := Lib.hid hX1
  have HX2 := Lib.hid hX2
  have HSKH := Lib.hid HSK
  have SW : Hid (w.heap.size < X2.heap.size) := Lib.hid P3.out.lt
  have HWL : Hid (∀ v, Calls Tryz.prog 53 #[.string (ba l)] v fun e w' => e = .returned (.int .i64 ((word l).length : Int)) ∧ v = w') := Lib.hid fun v => wordLength (ba l) (by simp [ByteArray.size, maxLen]; omega) v
  have HTK := take_ b M (word l).length l X2 hR2 (by omega) (by have := word_len l; omega)
  rw [show l.take (word l).length = word l from (List.prefix_iff_eq_take.1 (List.takeWhile_prefix _)).symm] at HTK
  obtain ⟨X3, hX3⟩ : ∃ V, V = X2.setCell ⟨b, 0, none⟩ (.string (ba (l.drop (word l).length))) := ⟨_, rfl⟩
  have hR3 : Rr b X3 (l.drop (word l).length) M := by rw [hX3]; exact hR2.set0 _
  have hm3 : Mv (· = b) (· = b) w X3 := hm2.trans (by rw [hX3]; exact mv_set b 0 X2 _)
  have hW3 : Below W.heap.size W X3 := by rw [hX3]; exact hW2.setCell (p := ⟨b, 0, none⟩) hbW _
  have P4 : Hid (B4 w.heap.size X3 (.int .i64 0) (.string ⟨#[]⟩) (.int .i64 0) (.slice none 0 0)) := Lib.hid (by rw [hX3]; exact P3.out.far (by simp; omega) _)
  have HX3 := Lib.hid hX3
  have HTKH := Lib.hid HTK
  have MX := Lib.hid hm3
  have RX := Lib.hid hR3
  have S3 : Hid (w.heap.size < X3.heap.size) := Lib.hid P4.out.lt
  have rx0 := hR2.c0
  have HSUB := Lib.hid (HCALL X3 hR3 hW3)
  have hwd : word l = [110, 111, 116] := hw
  rw [hw] at HTKH HX3 HWL
  clear hXs hmX hX hX1 hX2 hX3 HSK HTK hR1 hR2 hR3 hRX hm1 hm2 hm3 hW1 hW2 hW3 b0 h hW hP
  clear hw hwd
  clear HCALL
  go_enter Tryz.func28, Tryz.ntmps28
  go_wp2_with (first | (go_at_call 50; (try rw [← HXX.out]); (try rw [← HX1.out]); refine HSKH.out.mono ?_; rintro e w' ⟨rfl, rfl⟩; (try rw [← HX2.out])) | (go_at_call 53; (try rw [← HX2.out]); refine (HWL.out _).mono ?_; rintro e w' ⟨rfl, rfl⟩) | (go_at_call 52; (try rw [← HX2.out]); refine HTKH.out.mono ?_; rintro e w' ⟨rfl, rfl⟩; (try rw [← HX3.out])) | (go_at_call 55; (try rw [← HX3.out]); refine HSUB.out.mono ?_; rintro e wz ⟨hmz, k, rfl, hk, hwk, hge, hrr⟩; refine Hid.out ?_))
  refine Lib.hid ?_
  have MZ := Lib.hid (MX.out.trans hmz)
  have P2 := Lib.hid (P4.out.mv hmz (by omega))
  have HF : Hid (∀ x0 x1 x2 x3, PG b q r Lr w (.returned (.tuple #[k.val, .bool true])) (Cond.put4 wz w.heap.size 0 x0 x1 x2 x3)) := Lib.hid fun x0 x1 x2 x3 => pg_leaf MZ.out hk hwk (fun x hx => by have := hge x hx; have := S3.out; omega) (fun hx => by have := hge _ hx; have := S3.out; omega) hrr (Nat.le_refl _) (by omega)
  obtain ⟨_, p0, p1, p2, p3, pf⟩ := P2.out
  have pf0 := pf 0
  have pf1 := pf 1
  have pf2 := pf 2
  have pf3 := pf 3
  clear pf
  clear hmz hk hwk hge hrr
  go_wp2_with fail
  obtain ⟨_, t0, t1, t2, t3, _⟩ := P2.out.put (.int .i64 k.op) (.string k.nm) (.int .i64 k.day) (.slice k.A k.ps.length k.cap)
  have hf := HF.out (.int .i64 k.op) (.string k.nm) (.int .i64 k.day) (.slice k.A k.ps.length k.cap)
  simp only [Cond.put4] at t0 t1 t2 t3 hf
  exact bodyPost_ret (v := .tuple #[k.val, .bool true]) (by simp [results, Tryz.results28, go_sem, t0, t1, t2, t3]) rfl hf

set_option maxRecDepth 100000 in
set_option maxHeartbeats 8000000 in
theorem rNotB {b : Nat} {W : World} (hbW : W.heap.size ≤ b) (l : List UInt8) (M : Nat) (w : World) (hll : l.length ≤ 1900000) (hM : M ≤ 15) (h : Rr b w l (M + 1)) (hW : Below W.heap.size W w) (hP : st wPar l = false) (hw : word l = [110, 111, 116]) (HCALL : ∀ v, Rr b v (l.drop (word l).length) M → Below W.heap.size W v → Calls Tryz.prog 55 #[.pointer (some ⟨b, 0, none⟩)] v (PB b v)) :
    Calls Tryz.prog 28 #[.pointer (some ⟨b, 0, none⟩)] w (PB b w) := by
  have hbw : b < w.heap.size := h.lt
  obtain ⟨X, hX⟩ : ∃ X, X = w.setCell ⟨b, 1, none⟩ (.int .i64 (M : Int)) := ⟨_, rfl⟩
  have hRX : Rr b X l M := by rw [hX]; exact h.set1 M
  have hXs : X.heap.size = w.heap.size := by rw [hX]; simp
  have hmX : Mv (· = b) (· = b) w X := by rw [hX]; exact mv_set b 1 w _
  obtain ⟨X1, hX1⟩ : ∃ V, V = X.alloc (.cells #[.int .i64 0, .string ⟨#[]⟩, .int .i64 0, .slice none 0 0] 26) := ⟨_, rfl⟩
  have b0 : Below X.heap.size X X1 := by rw [hX1]; exact below1 _ _
  have hR1 : Rr b X1 l M := hRX.on b0
  have hm1 : Mv (· = b) (· = b) w X1 := hmX.trans (Mv.of_below b0)
  have hW1 : Below W.heap.size W X1 := by
    have h0 : Below W.heap.size W X := by rw [hX]; exact hW.setCell (p := ⟨b, 1, none⟩) hbW _
    exact h0.trans (b0.mono h0.size)
  have P1 : Hid (B4 w.heap.size X1 (.int .i64 0) (.string ⟨#[]⟩) (.int .i64 0) (.slice none 0 0)) := Lib.hid (by rw [← hXs, hX1]; exact B4.new _ _ _ _ _ _)
  have HSK := skip b M l ⟨#[40]⟩ X1 hR1
  rw [show (⟨#[40]⟩ : ByteArray).data.toList = wPar from rfl, hP, show trim wPar l = l by rw [trim, hP]; rfl] at HSK
  obtain ⟨X2, hX2⟩ : ∃ V, V = X1.setCell ⟨b, 0, none⟩ (.string (ba (l))) := ⟨_, rfl⟩
  have hR2 : Rr b X2 (l) M := by rw [hX2]; exact hR1.set0 _
  have hm2 : Mv (· = b) (· = b) w X2 := hm1.trans (by rw [hX2]; exact mv_set b 0 X1 _)
  have hW2 : Below W.heap.size W X2 := by rw [hX2]; exact hW1.setCell (p := ⟨b, 0, none⟩) hbW _
  have P3 : Hid (B4 w.heap.size X2 (.int .i64 0) (.string ⟨#[]⟩) (.int .i64 0) (.slice none 0 0)) := Lib.hid (by rw [hX2]; exact P1.out.far (by simp; omega) _)
  have rc1 : w.cell? ⟨b, 1, none⟩ = some (.int .i64 ((M : Int) + 1)) := by have := h.c1; rw [this]; simp
  have rf1 := h.fz 1
  have hl0 : ((M : Int) + 1 == 0) = false := by rw [beq_eq_false_iff_ne]; omega
  have hl1 : ¬ (M : Int) + 1 = 0 := by omega
  have HXX := Lib.hid hX
  have HX1 := Lib.hid hX1
  have HX2 := Lib.hid hX2
  have HSKH := Lib.hid HSK
  have SW : Hid (w.heap.size < X2.heap.size) := Lib.hid P3.out.lt
  have HWL : Hid (∀ v, Calls Tryz.prog 53 #[.string (ba l)] v fun e w' => e = .returned (.int .i64 ((word l).length : Int)) ∧ v = w') := Lib.hid fun v => wordLength (ba l) (by simp [ByteArray.size, maxLen]; omega) v
  have HTK := take_ b M (word l).length l X2 hR2 (by omega) (by have := word_len l; omega)
  rw [show l.take (word l).length = word l from (List.prefix_iff_eq_take.1 (List.takeWhile_prefix _)).symm] at HTK
  obtain ⟨X3, hX3⟩ : ∃ V, V = X2.setCell ⟨b, 0, none⟩ (.string (ba (l.drop (word l).length))) := ⟨_, rfl⟩
  have hR3 : Rr b X3 (l.drop (word l).length) M := by rw [hX3]; exact hR2.set0 _
  have hm3 : Mv (· = b) (· = b) w X3 := hm2.trans (by rw [hX3]; exact mv_set b 0 X2 _)
  have hW3 : Below W.heap.size W X3 := by rw [hX3]; exact hW2.setCell (p := ⟨b, 0, none⟩) hbW _
  have P4 : Hid (B4 w.heap.size X3 (.int .i64 0) (.string ⟨#[]⟩) (.int .i64 0) (.slice none 0 0)) := Lib.hid (by rw [hX3]; exact P3.out.far (by simp; omega) _)
  have HX3 := Lib.hid hX3
  have HTKH := Lib.hid HTK
  have MX := Lib.hid hm3
  have RX := Lib.hid hR3
  have S3 : Hid (w.heap.size < X3.heap.size) := Lib.hid P4.out.lt
  have rx0 := hR2.c0
  have HSUB := Lib.hid (HCALL X3 hR3 hW3)
  have hwd : word l = [110, 111, 116] := hw
  rw [hw] at HTKH HX3 HWL
  clear hXs hmX hX hX1 hX2 hX3 HSK HTK hR1 hR2 hR3 hRX hm1 hm2 hm3 hW1 hW2 hW3 b0 h hW hP
  clear hw hwd
  clear HCALL
  go_enter Tryz.func28, Tryz.ntmps28
  go_wp2_with (first | (go_at_call 50; (try rw [← HXX.out]); (try rw [← HX1.out]); refine HSKH.out.mono ?_; rintro e w' ⟨rfl, rfl⟩; (try rw [← HX2.out])) | (go_at_call 53; (try rw [← HX2.out]); refine (HWL.out _).mono ?_; rintro e w' ⟨rfl, rfl⟩) | (go_at_call 52; (try rw [← HX2.out]); refine HTKH.out.mono ?_; rintro e w' ⟨rfl, rfl⟩; (try rw [← HX3.out])) | (go_at_call 55; (try rw [← HX3.out]); refine HSUB.out.mono ?_; rintro e wz ⟨hmz, k, rfl⟩; refine Hid.out ?_))
  refine Lib.hid ?_
  have MZ := Lib.hid (MX.out.trans hmz)
  have P2 := Lib.hid (P4.out.mv hmz (by omega))
  have HF : Hid (∀ x0 x1 x2 x3, PB b w (.returned (.tuple #[k.val, .bool false])) (Cond.put4 wz w.heap.size 0 x0 x1 x2 x3)) := Lib.hid fun x0 x1 x2 x3 => pb_any k MZ.out (Nat.le_refl _)
  obtain ⟨_, p0, p1, p2, p3, pf⟩ := P2.out
  have pf0 := pf 0
  have pf1 := pf 1
  have pf2 := pf 2
  have pf3 := pf 3
  clear pf
  clear hmz
  go_wp2_with fail
  obtain ⟨_, t0, t1, t2, t3, _⟩ := P2.out.put (.int .i64 k.op) (.string k.nm) (.int .i64 k.day) (.slice k.A k.ps.length k.cap)
  have hf := HF.out (.int .i64 k.op) (.string k.nm) (.int .i64 k.day) (.slice k.A k.ps.length k.cap)
  simp only [Cond.put4] at t0 t1 t2 t3 hf
  exact bodyPost_ret (v := .tuple #[k.val, .bool false]) (by simp [results, Tryz.results28, go_sem, t0, t1, t2, t3]) rfl hf

set_option maxRecDepth 100000 in
set_option maxHeartbeats 8000000 in
theorem rTrue {b : Nat} {W : World} (hbW : W.heap.size ≤ b) (l : List UInt8) (M : Nat) (w : World) (hll : l.length ≤ 1900000) (hM : M ≤ 15) (h : Rr b w l (M + 1)) (hW : Below W.heap.size W w) (hP : st wPar l = false) (hw : word l = [116, 114, 117, 101]) :
    Calls Tryz.prog 28 #[.pointer (some ⟨b, 0, none⟩)] w (PG b .tru (l.drop 4) M w) := by
  have hbw : b < w.heap.size := h.lt
  obtain ⟨X, hX⟩ : ∃ X, X = w.setCell ⟨b, 1, none⟩ (.int .i64 (M : Int)) := ⟨_, rfl⟩
  have hRX : Rr b X l M := by rw [hX]; exact h.set1 M
  have hXs : X.heap.size = w.heap.size := by rw [hX]; simp
  have hmX : Mv (· = b) (· = b) w X := by rw [hX]; exact mv_set b 1 w _
  obtain ⟨X1, hX1⟩ : ∃ V, V = X.alloc (.cells #[.int .i64 0, .string ⟨#[]⟩, .int .i64 0, .slice none 0 0] 26) := ⟨_, rfl⟩
  have b0 : Below X.heap.size X X1 := by rw [hX1]; exact below1 _ _
  have hR1 : Rr b X1 l M := hRX.on b0
  have hm1 : Mv (· = b) (· = b) w X1 := hmX.trans (Mv.of_below b0)
  have hW1 : Below W.heap.size W X1 := by
    have h0 : Below W.heap.size W X := by rw [hX]; exact hW.setCell (p := ⟨b, 1, none⟩) hbW _
    exact h0.trans (b0.mono h0.size)
  have P1 : Hid (B4 w.heap.size X1 (.int .i64 0) (.string ⟨#[]⟩) (.int .i64 0) (.slice none 0 0)) := Lib.hid (by rw [← hXs, hX1]; exact B4.new _ _ _ _ _ _)
  have HSK := skip b M l ⟨#[40]⟩ X1 hR1
  rw [show (⟨#[40]⟩ : ByteArray).data.toList = wPar from rfl, hP, show trim wPar l = l by rw [trim, hP]; rfl] at HSK
  obtain ⟨X2, hX2⟩ : ∃ V, V = X1.setCell ⟨b, 0, none⟩ (.string (ba (l))) := ⟨_, rfl⟩
  have hR2 : Rr b X2 (l) M := by rw [hX2]; exact hR1.set0 _
  have hm2 : Mv (· = b) (· = b) w X2 := hm1.trans (by rw [hX2]; exact mv_set b 0 X1 _)
  have hW2 : Below W.heap.size W X2 := by rw [hX2]; exact hW1.setCell (p := ⟨b, 0, none⟩) hbW _
  have P3 : Hid (B4 w.heap.size X2 (.int .i64 0) (.string ⟨#[]⟩) (.int .i64 0) (.slice none 0 0)) := Lib.hid (by rw [hX2]; exact P1.out.far (by simp; omega) _)
  have rc1 : w.cell? ⟨b, 1, none⟩ = some (.int .i64 ((M : Int) + 1)) := by have := h.c1; rw [this]; simp
  have rf1 := h.fz 1
  have hl0 : ((M : Int) + 1 == 0) = false := by rw [beq_eq_false_iff_ne]; omega
  have hl1 : ¬ (M : Int) + 1 = 0 := by omega
  have HXX := Lib.hid hX
  have HX1 := Lib.hid hX1
  have HX2 := Lib.hid hX2
  have HSKH := Lib.hid HSK
  have SW : Hid (w.heap.size < X2.heap.size) := Lib.hid P3.out.lt
  have HWL : Hid (∀ v, Calls Tryz.prog 53 #[.string (ba l)] v fun e w' => e = .returned (.int .i64 ((word l).length : Int)) ∧ v = w') := Lib.hid fun v => wordLength (ba l) (by simp [ByteArray.size, maxLen]; omega) v
  have HTK := take_ b M (word l).length l X2 hR2 (by omega) (by have := word_len l; omega)
  rw [show l.take (word l).length = word l from (List.prefix_iff_eq_take.1 (List.takeWhile_prefix _)).symm] at HTK
  obtain ⟨X3, hX3⟩ : ∃ V, V = X2.setCell ⟨b, 0, none⟩ (.string (ba (l.drop (word l).length))) := ⟨_, rfl⟩
  have hR3 : Rr b X3 (l.drop (word l).length) M := by rw [hX3]; exact hR2.set0 _
  have hm3 : Mv (· = b) (· = b) w X3 := hm2.trans (by rw [hX3]; exact mv_set b 0 X2 _)
  have hW3 : Below W.heap.size W X3 := by rw [hX3]; exact hW2.setCell (p := ⟨b, 0, none⟩) hbW _
  have P4 : Hid (B4 w.heap.size X3 (.int .i64 0) (.string ⟨#[]⟩) (.int .i64 0) (.slice none 0 0)) := Lib.hid (by rw [hX3]; exact P3.out.far (by simp; omega) _)
  have HX3 := Lib.hid hX3
  have HTKH := Lib.hid HTK
  have MX := Lib.hid hm3
  have RX := Lib.hid hR3
  have S3 : Hid (w.heap.size < X3.heap.size) := Lib.hid P4.out.lt
  have rx0 := hR2.c0
  rw [hw] at HTKH HX3 HWL RX
  clear hXs hmX hX hX1 hX2 hX3 HSK HTK hR1 hR2 hR3 hRX hm1 hm2 hm3 hW1 hW2 hW3 b0 h hW hP
  clear hw
  have HF : Hid (∀ x0 x1 x2 x3, PG b .tru (l.drop 4) M w (.returned (.tuple #[.agg #[.int .i64 1, .string ⟨#[]⟩, .int .i64 0, .slice none 0 0], .bool true])) (Cond.put4 X3 w.heap.size 0 x0 x1 x2 x3)) := Lib.hid fun x0 x1 x2 x3 => pg_leaf (k := .mk 1 .empty 0 none 0 []) MX.out rfl (wr_none 1 .empty 0 (by simp [maxLen])) (by simp [K.blocks, blocks]) (by simp [K.blocks, blocks]) RX.out (Nat.le_refl _) (by omega)
  have P2 := P4
  go_enter Tryz.func28, Tryz.ntmps28
  go_wp2_with (first | (go_at_call 50; (try rw [← HXX.out]); (try rw [← HX1.out]); refine HSKH.out.mono ?_; rintro e w' ⟨rfl, rfl⟩; (try rw [← HX2.out])) | (go_at_call 53; (try rw [← HX2.out]); refine (HWL.out _).mono ?_; rintro e w' ⟨rfl, rfl⟩) | (go_at_call 52; (try rw [← HX2.out]); refine HTKH.out.mono ?_; rintro e w' ⟨rfl, rfl⟩; (try rw [← HX3.out]); refine Hid.out ?_))
  refine Lib.hid ?_
  obtain ⟨_, p0, p1, p2, p3, pf⟩ := P2.out
  have pf0 := pf 0
  have pf1 := pf 1
  have pf2 := pf 2
  have pf3 := pf 3
  clear pf
  go_wp2_with fail
  obtain ⟨_, t0, t1, t2, t3, _⟩ := P2.out.put (.int .i64 1) (.string ⟨#[]⟩) (.int .i64 0) (.slice none 0 0)
  have hf := HF.out (.int .i64 1) (.string ⟨#[]⟩) (.int .i64 0) (.slice none 0 0)
  simp only [Cond.put4] at t0 t1 t2 t3 hf
  exact bodyPost_ret (v := .tuple #[.agg #[.int .i64 1, .string ⟨#[]⟩, .int .i64 0, .slice none 0 0], .bool true]) (by simp [results, Tryz.results28, go_sem, t0, t1, t2, t3]) rfl hf

set_option maxRecDepth 100000 in
set_option maxHeartbeats 8000000 in
theorem rFactG {b : Nat} {W : World} (hbW : W.heap.size ≤ b) (l : List UInt8) (M : Nat) (w : World) (hll : l.length ≤ 1900000) (hM : M ≤ 15) (h : Rr b w l (M + 1)) (hW : Below W.heap.size W w) (hP : st wPar l = false) (h1 : word l ≠ [116, 114, 117, 101]) (h2 : word l ≠ [102, 114, 111, 109]) (h3 : word l ≠ [110, 111, 116]) (hg : isNm (ba (word l)) = true) :
    Calls Tryz.prog 28 #[.pointer (some ⟨b, 0, none⟩)] w (PG b (.fact (ba (word l))) (l.drop (word l).length) M w) := by
  have hbw : b < w.heap.size := h.lt
  obtain ⟨X, hX⟩ : ∃ X, X = w.setCell ⟨b, 1, none⟩ (.int .i64 (M : Int)) := ⟨_, rfl⟩
  have hRX : Rr b X l M := by rw [hX]; exact h.set1 M
  have hXs : X.heap.size = w.heap.size := by rw [hX]; simp
  have hmX : Mv (· = b) (· = b) w X := by rw [hX]; exact mv_set b 1 w _
  obtain ⟨X1, hX1⟩ : ∃ V, V = X.alloc (.cells #[.int .i64 0, .string ⟨#[]⟩, .int .i64 0, .slice none 0 0] 26) := ⟨_, rfl⟩
  have b0 : Below X.heap.size X X1 := by rw [hX1]; exact below1 _ _
  have hR1 : Rr b X1 l M := hRX.on b0
  have hm1 : Mv (· = b) (· = b) w X1 := hmX.trans (Mv.of_below b0)
  have hW1 : Below W.heap.size W X1 := by
    have h0 : Below W.heap.size W X := by rw [hX]; exact hW.setCell (p := ⟨b, 1, none⟩) hbW _
    exact h0.trans (b0.mono h0.size)
  have P1 : Hid (B4 w.heap.size X1 (.int .i64 0) (.string ⟨#[]⟩) (.int .i64 0) (.slice none 0 0)) := Lib.hid (by rw [← hXs, hX1]; exact B4.new _ _ _ _ _ _)
  have HSK := skip b M l ⟨#[40]⟩ X1 hR1
  rw [show (⟨#[40]⟩ : ByteArray).data.toList = wPar from rfl, hP, show trim wPar l = l by rw [trim, hP]; rfl] at HSK
  obtain ⟨X2, hX2⟩ : ∃ V, V = X1.setCell ⟨b, 0, none⟩ (.string (ba (l))) := ⟨_, rfl⟩
  have hR2 : Rr b X2 (l) M := by rw [hX2]; exact hR1.set0 _
  have hm2 : Mv (· = b) (· = b) w X2 := hm1.trans (by rw [hX2]; exact mv_set b 0 X1 _)
  have hW2 : Below W.heap.size W X2 := by rw [hX2]; exact hW1.setCell (p := ⟨b, 0, none⟩) hbW _
  have P3 : Hid (B4 w.heap.size X2 (.int .i64 0) (.string ⟨#[]⟩) (.int .i64 0) (.slice none 0 0)) := Lib.hid (by rw [hX2]; exact P1.out.far (by simp; omega) _)
  have rc1 : w.cell? ⟨b, 1, none⟩ = some (.int .i64 ((M : Int) + 1)) := by have := h.c1; rw [this]; simp
  have rf1 := h.fz 1
  have hl0 : ((M : Int) + 1 == 0) = false := by rw [beq_eq_false_iff_ne]; omega
  have hl1 : ¬ (M : Int) + 1 = 0 := by omega
  have HXX := Lib.hid hX
  have HX1 := Lib.hid hX1
  have HX2 := Lib.hid hX2
  have HSKH := Lib.hid HSK
  have SW : Hid (w.heap.size < X2.heap.size) := Lib.hid P3.out.lt
  have HWL : Hid (∀ v, Calls Tryz.prog 53 #[.string (ba l)] v fun e w' => e = .returned (.int .i64 ((word l).length : Int)) ∧ v = w') := Lib.hid fun v => wordLength (ba l) (by simp [ByteArray.size, maxLen]; omega) v
  have HTK := take_ b M (word l).length l X2 hR2 (by omega) (by have := word_len l; omega)
  rw [show l.take (word l).length = word l from (List.prefix_iff_eq_take.1 (List.takeWhile_prefix _)).symm] at HTK
  obtain ⟨X3, hX3⟩ : ∃ V, V = X2.setCell ⟨b, 0, none⟩ (.string (ba (l.drop (word l).length))) := ⟨_, rfl⟩
  have hR3 : Rr b X3 (l.drop (word l).length) M := by rw [hX3]; exact hR2.set0 _
  have hm3 : Mv (· = b) (· = b) w X3 := hm2.trans (by rw [hX3]; exact mv_set b 0 X2 _)
  have hW3 : Below W.heap.size W X3 := by rw [hX3]; exact hW2.setCell (p := ⟨b, 0, none⟩) hbW _
  have P4 : Hid (B4 w.heap.size X3 (.int .i64 0) (.string ⟨#[]⟩) (.int .i64 0) (.slice none 0 0)) := Lib.hid (by rw [hX3]; exact P3.out.far (by simp; omega) _)
  have HX3 := Lib.hid hX3
  have HTKH := Lib.hid HTK
  have MX := Lib.hid hm3
  have RX := Lib.hid hR3
  have S3 : Hid (w.heap.size < X3.heap.size) := Lib.hid P4.out.lt
  have rx0 := hR2.c0
  have q1 : ((ba (word l)).toList == [116, 114, 117, 101]) = false := by rw [Go.ByteArray.toList_eq, beq_eq_false_iff_ne]; exact h1
  have q2 : ((ba (word l)).toList == [102, 114, 111, 109]) = false := by rw [Go.ByteArray.toList_eq, beq_eq_false_iff_ne]; exact h2
  have q3 : ((ba (word l)).toList == [110, 111, 116]) = false := by rw [Go.ByteArray.toList_eq, beq_eq_false_iff_ne]; exact h3
  have q4 : ¬ (ba (word l)).toList = [116, 114, 117, 101] := by rw [Go.ByteArray.toList_eq]; exact h1
  have q5 : ¬ (ba (word l)).toList = [102, 114, 111, 109] := by rw [Go.ByteArray.toList_eq]; exact h2
  have q6 : ¬ (ba (word l)).toList = [110, 111, 116] := by rw [Go.ByteArray.toList_eq]; exact h3
  have hys : (ba (word l)).size ≤ maxLen := by have := word_len l; simp [ByteArray.size, maxLen]; omega
  have HVN : Hid (∀ v, Calls Tryz.prog 40 #[.string (ba (word l))] v fun e w' => e = .returned (.bool true) ∧ v = w') := Lib.hid fun v => by rw [← hg]; exact isValidName _ hys v
  have HF : Hid (∀ x0 x1 x2 x3, PG b (.fact (ba (word l))) (l.drop (word l).length) M w (.returned (.tuple #[.agg #[.int .i64 2, .string (ba (word l)), .int .i64 0, .slice none 0 0], .bool true])) (Cond.put4 X3 w.heap.size 0 x0 x1 x2 x3)) := Lib.hid fun x0 x1 x2 x3 => pg_leaf (k := .mk 2 (ba (word l)) 0 none 0 []) MX.out rfl (wr_none 2 (ba (word l)) 0 hys) (by simp [K.blocks, blocks]) (by simp [K.blocks, blocks]) RX.out (Nat.le_refl _) (by omega)
  clear hXs hmX hX hX1 hX2 hX3 HSK HTK hR1 hR2 hR3 hRX hm1 hm2 hm3 hW1 hW2 hW3 b0 h hW hP
  clear hys h1 h2 h3 hg
  have P2 := P4
  obtain ⟨y, hy⟩ : ∃ y, y = ba (word l) := ⟨_, rfl⟩
  rw [← hy] at q1 q2 q3 q4 q5 q6 HVN HF HTKH
  have HY := Lib.hid hy
  clear hy
  go_enter Tryz.func28, Tryz.ntmps28
  go_wp2_with (first | (go_at_call 50; (try rw [← HXX.out]); (try rw [← HX1.out]); refine HSKH.out.mono ?_; rintro e w' ⟨rfl, rfl⟩; (try rw [← HX2.out])) | (go_at_call 53; (try rw [← HX2.out]); refine (HWL.out _).mono ?_; rintro e w' ⟨rfl, rfl⟩) | (go_at_call 52; (try rw [← HX2.out]); refine HTKH.out.mono ?_; rintro e w' ⟨rfl, rfl⟩; (try rw [← HX3.out]); refine Hid.out ?_))
  refine Lib.hid ?_
  obtain ⟨_, p0, p1, p2, p3, pf⟩ := P2.out
  have pf0 := pf 0
  have pf1 := pf 1
  have pf2 := pf 2
  have pf3 := pf 3
  clear pf
  go_wp2_with (go_at_call 40; refine (HVN.out _).mono ?_; rintro e w' ⟨rfl, rfl⟩)
  obtain ⟨_, t0, t1, t2, t3, _⟩ := P2.out.put (.int .i64 2) (.string y) (.int .i64 0) (.slice none 0 0)
  have hf := HF.out (.int .i64 2) (.string y) (.int .i64 0) (.slice none 0 0)
  simp only [Cond.put4] at t0 t1 t2 t3 hf
  exact bodyPost_ret (v := .tuple #[.agg #[.int .i64 2, .string y, .int .i64 0, .slice none 0 0], .bool true]) (by simp [results, Tryz.results28, go_sem, t0, t1, t2, t3]) rfl (by first | exact hf | (rw [← HY.out]; exact hf))

set_option maxRecDepth 100000 in
set_option maxHeartbeats 8000000 in
theorem rFactB {b : Nat} {W : World} (hbW : W.heap.size ≤ b) (l : List UInt8) (M : Nat) (w : World) (hll : l.length ≤ 1900000) (hM : M ≤ 15) (h : Rr b w l (M + 1)) (hW : Below W.heap.size W w) (hP : st wPar l = false) (h1 : word l ≠ [116, 114, 117, 101]) (h2 : word l ≠ [102, 114, 111, 109]) (h3 : word l ≠ [110, 111, 116]) (hg : isNm (ba (word l)) = false) :
    Calls Tryz.prog 28 #[.pointer (some ⟨b, 0, none⟩)] w (PB b w) := by
  have hbw : b < w.heap.size := h.lt
  obtain ⟨X, hX⟩ : ∃ X, X = w.setCell ⟨b, 1, none⟩ (.int .i64 (M : Int)) := ⟨_, rfl⟩
  have hRX : Rr b X l M := by rw [hX]; exact h.set1 M
  have hXs : X.heap.size = w.heap.size := by rw [hX]; simp
  have hmX : Mv (· = b) (· = b) w X := by rw [hX]; exact mv_set b 1 w _
  obtain ⟨X1, hX1⟩ : ∃ V, V = X.alloc (.cells #[.int .i64 0, .string ⟨#[]⟩, .int .i64 0, .slice none 0 0] 26) := ⟨_, rfl⟩
  have b0 : Below X.heap.size X X1 := by rw [hX1]; exact below1 _ _
  have hR1 : Rr b X1 l M := hRX.on b0
  have hm1 : Mv (· = b) (· = b) w X1 := hmX.trans (Mv.of_below b0)
  have hW1 : Below W.heap.size W X1 := by
    have h0 : Below W.heap.size W X := by rw [hX]; exact hW.setCell (p := ⟨b, 1, none⟩) hbW _
    exact h0.trans (b0.mono h0.size)
  have P1 : Hid (B4 w.heap.size X1 (.int .i64 0) (.string ⟨#[]⟩) (.int .i64 0) (.slice none 0 0)) := Lib.hid (by rw [← hXs, hX1]; exact B4.new _ _ _ _ _ _)
  have HSK := skip b M l ⟨#[40]⟩ X1 hR1
  rw [show (⟨#[40]⟩ : ByteArray).data.toList = wPar from rfl, hP, show trim wPar l = l by rw [trim, hP]; rfl] at HSK
  obtain ⟨X2, hX2⟩ : ∃ V, V = X1.setCell ⟨b, 0, none⟩ (.string (ba (l))) := ⟨_, rfl⟩
  have hR2 : Rr b X2 (l) M := by rw [hX2]; exact hR1.set0 _
  have hm2 : Mv (· = b) (· = b) w X2 := hm1.trans (by rw [hX2]; exact mv_set b 0 X1 _)
  have hW2 : Below W.heap.size W X2 := by rw [hX2]; exact hW1.setCell (p := ⟨b, 0, none⟩) hbW _
  have P3 : Hid (B4 w.heap.size X2 (.int .i64 0) (.string ⟨#[]⟩) (.int .i64 0) (.slice none 0 0)) := Lib.hid (by rw [hX2]; exact P1.out.far (by simp; omega) _)
  have rc1 : w.cell? ⟨b, 1, none⟩ = some (.int .i64 ((M : Int) + 1)) := by have := h.c1; rw [this]; simp
  have rf1 := h.fz 1
  have hl0 : ((M : Int) + 1 == 0) = false := by rw [beq_eq_false_iff_ne]; omega
  have hl1 : ¬ (M : Int) + 1 = 0 := by omega
  have HXX := Lib.hid hX
  have HX1 := Lib.hid hX1
  have HX2 := Lib.hid hX2
  have HSKH := Lib.hid HSK
  have SW : Hid (w.heap.size < X2.heap.size) := Lib.hid P3.out.lt
  have HWL : Hid (∀ v, Calls Tryz.prog 53 #[.string (ba l)] v fun e w' => e = .returned (.int .i64 ((word l).length : Int)) ∧ v = w') := Lib.hid fun v => wordLength (ba l) (by simp [ByteArray.size, maxLen]; omega) v
  have HTK := take_ b M (word l).length l X2 hR2 (by omega) (by have := word_len l; omega)
  rw [show l.take (word l).length = word l from (List.prefix_iff_eq_take.1 (List.takeWhile_prefix _)).symm] at HTK
  obtain ⟨X3, hX3⟩ : ∃ V, V = X2.setCell ⟨b, 0, none⟩ (.string (ba (l.drop (word l).length))) := ⟨_, rfl⟩
  have hR3 : Rr b X3 (l.drop (word l).length) M := by rw [hX3]; exact hR2.set0 _
  have hm3 : Mv (· = b) (· = b) w X3 := hm2.trans (by rw [hX3]; exact mv_set b 0 X2 _)
  have hW3 : Below W.heap.size W X3 := by rw [hX3]; exact hW2.setCell (p := ⟨b, 0, none⟩) hbW _
  have P4 : Hid (B4 w.heap.size X3 (.int .i64 0) (.string ⟨#[]⟩) (.int .i64 0) (.slice none 0 0)) := Lib.hid (by rw [hX3]; exact P3.out.far (by simp; omega) _)
  have HX3 := Lib.hid hX3
  have HTKH := Lib.hid HTK
  have MX := Lib.hid hm3
  have RX := Lib.hid hR3
  have S3 : Hid (w.heap.size < X3.heap.size) := Lib.hid P4.out.lt
  have rx0 := hR2.c0
  have q1 : ((ba (word l)).toList == [116, 114, 117, 101]) = false := by rw [Go.ByteArray.toList_eq, beq_eq_false_iff_ne]; exact h1
  have q2 : ((ba (word l)).toList == [102, 114, 111, 109]) = false := by rw [Go.ByteArray.toList_eq, beq_eq_false_iff_ne]; exact h2
  have q3 : ((ba (word l)).toList == [110, 111, 116]) = false := by rw [Go.ByteArray.toList_eq, beq_eq_false_iff_ne]; exact h3
  have q4 : ¬ (ba (word l)).toList = [116, 114, 117, 101] := by rw [Go.ByteArray.toList_eq]; exact h1
  have q5 : ¬ (ba (word l)).toList = [102, 114, 111, 109] := by rw [Go.ByteArray.toList_eq]; exact h2
  have q6 : ¬ (ba (word l)).toList = [110, 111, 116] := by rw [Go.ByteArray.toList_eq]; exact h3
  have hys : (ba (word l)).size ≤ maxLen := by have := word_len l; simp [ByteArray.size, maxLen]; omega
  have HVN : Hid (∀ v, Calls Tryz.prog 40 #[.string (ba (word l))] v fun e w' => e = .returned (.bool false) ∧ v = w') := Lib.hid fun v => by rw [← hg]; exact isValidName _ hys v
  have HF : Hid (∀ x0 x1 x2 x3, PB b w (.returned (.tuple #[.agg #[.int .i64 2, .string (ba (word l)), .int .i64 0, .slice none 0 0], .bool false])) (Cond.put4 X3 w.heap.size 0 x0 x1 x2 x3)) := Lib.hid fun x0 x1 x2 x3 => pb_any (.mk 2 (ba (word l)) 0 none 0 []) MX.out (Nat.le_refl _)
  clear hXs hmX hX hX1 hX2 hX3 HSK HTK hR1 hR2 hR3 hRX hm1 hm2 hm3 hW1 hW2 hW3 b0 h hW hP
  clear hys h1 h2 h3 hg
  have P2 := P4
  obtain ⟨y, hy⟩ : ∃ y, y = ba (word l) := ⟨_, rfl⟩
  rw [← hy] at q1 q2 q3 q4 q5 q6 HVN HF HTKH
  have HY := Lib.hid hy
  clear hy
  go_enter Tryz.func28, Tryz.ntmps28
  go_wp2_with (first | (go_at_call 50; (try rw [← HXX.out]); (try rw [← HX1.out]); refine HSKH.out.mono ?_; rintro e w' ⟨rfl, rfl⟩; (try rw [← HX2.out])) | (go_at_call 53; (try rw [← HX2.out]); refine (HWL.out _).mono ?_; rintro e w' ⟨rfl, rfl⟩) | (go_at_call 52; (try rw [← HX2.out]); refine HTKH.out.mono ?_; rintro e w' ⟨rfl, rfl⟩; (try rw [← HX3.out]); refine Hid.out ?_))
  refine Lib.hid ?_
  obtain ⟨_, p0, p1, p2, p3, pf⟩ := P2.out
  have pf0 := pf 0
  have pf1 := pf 1
  have pf2 := pf 2
  have pf3 := pf 3
  clear pf
  go_wp2_with (go_at_call 40; refine (HVN.out _).mono ?_; rintro e w' ⟨rfl, rfl⟩)
  obtain ⟨_, t0, t1, t2, t3, _⟩ := P2.out.put (.int .i64 2) (.string y) (.int .i64 0) (.slice none 0 0)
  have hf := HF.out (.int .i64 2) (.string y) (.int .i64 0) (.slice none 0 0)
  simp only [Cond.put4] at t0 t1 t2 t3 hf
  exact bodyPost_ret (v := .tuple #[.agg #[.int .i64 2, .string y, .int .i64 0, .slice none 0 0], .bool false]) (by simp [results, Tryz.results28, go_sem, t0, t1, t2, t3]) rfl (by first | exact hf | (rw [← HY.out]; exact hf))

set_option maxHeartbeats 4000000 in
theorem rZero {b : Nat} (l : List UInt8) (w : World) (h : Rr b w l 0) : Calls Tryz.prog 28 #[.pointer (some ⟨b, 0, none⟩)] w (PB b w) := by
  have rc1 : w.cell? ⟨b, 1, none⟩ = some (.int .i64 0) := h.c1
  have hbw : b < w.heap.size := h.lt
  clear h
  go_enter Tryz.func28, Tryz.ntmps28
  go_wp2_with fail
  exact bodyPost_ret (v := .tuple #[.agg #[.int .i64 0, .string ⟨#[]⟩, .int .i64 0, .slice none 0 0], .bool false]) (by simp [results, Tryz.results28, go_sem]) rfl ⟨Mv.of_below (below1 _ _), .mk 0 .empty 0 none 0 [], rfl⟩

end Go.Proofs.YtmgjeplbhnfakaaGreatDoor.Cond
