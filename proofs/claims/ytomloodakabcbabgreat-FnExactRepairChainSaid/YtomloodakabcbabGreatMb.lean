/-
  The numbers of clauses by their Ids, as a map in memory.
  What the program's checks of a contract come to, in plain facts.
  The program's checks of a clause by itself and of the parties.
  The program's check of the parties.
  The Repair of a clause, by the program.
  Whether a clause has a valid Repair, by the program.
  Rows of conditions that a call makes by append.
  The names of the clauses, by the program.
  checkContract of the program; IsValidContract.
-/
import Derived.Test.YtomloodakabcbabGreatClV
import Derived.Maps.OwnSet
import Derived.Maps.OwnOps
import Derived.Test.YtomloodakabcbabGreatGoodI
import Derived.Test.YtomloodakabcbabGreatShelfNm
import Derived.BigQuiet
import Derived.Test.YtomloodakabcbabGreatCoTo
import Derived.Maps.AppendAt
import Derived.Deep.RegionWith
namespace Go.Proofs.YtomloodakabcbabGreat.Cl
open Go.RowKit Go.Maps Go.Proofs.YtomloodakabcbabGreat.Cond Go.Proofs.YtomloodakabcbabGreat.Gx Go.Proofs.YtomloodakabcbabGreat.NdS
set_option linter.unusedVariables false

/-- An Id as a key. -/
def key (s : ByteArray) : Lit := .string s.data.toList
theorem key_ne {a b : ByteArray} (h : ¬ a.toList = b.toList) : key a ≠ key b := fun e => h (by
  injection e with e
  rw [ByteArray.toList_eq, ByteArray.toList_eq, e])
theorem key_eq {a b : ByteArray} (h : a.toList = b.toList) : key a = key b := by
  rw [ByteArray.toList_eq, ByteArray.toList_eq] at h
  unfold key
  rw [h]
theorem lawS : Keyed Tryz.prog 9 := string_keyed Tryz.underlying9
theorem zeroI (w : World) : (zeroValue 3).run Tryz.prog w = .ok (.int .i64 0) w := by kernel_rfl

/-- Whether a clause has this Id, and its number. -/
def numB (ls : List L) (id : ByteArray) : Bool := decide (fnd ls id < ls.length)
def numI (ls : List L) (id : ByteArray) : Int := if fnd ls id < ls.length then (fnd ls id : Int) else 0
theorem numB_yes {ls : List L} {id : ByteArray} (h : fnd ls id < ls.length) : numB ls id = true := decide_eq_true h
theorem numB_no {ls : List L} {id : ByteArray} (h : ¬ fnd ls id < ls.length) : numB ls id = false := decide_eq_false h
theorem numI_yes {ls : List L} {id : ByteArray} (h : fnd ls id < ls.length) : numI ls id = (fnd ls id : Int) := if_pos h
theorem numI_no {ls : List L} {id : ByteArray} (h : ¬ fnd ls id < ls.length) : numI ls id = 0 := if_neg h
theorem fnd_snoc (ls : List L) (x : L) (id : ByteArray) : fnd (ls ++ [x]) id = if fnd ls id < ls.length then fnd ls id else if hasId id x then ls.length else ls.length + 1 := by
  unfold fnd
  rw [List.findIdx_append]
  split
  · rfl
  · have : List.findIdx (hasId id) ls ≤ ls.length := List.findIdx_le_length
    simp only [List.findIdx_cons, List.findIdx_nil]
    cases hasId id x
    · simp only [cond_false, Bool.false_eq_true, if_false]; omega
    · simp only [cond_true, if_true]; omega

/-- What the map reads as: the numbers of the clauses. -/
structure IsNum (D : DataW Unit) (ls : List L) : Prop where
  map : IsMap D
  has : ∀ id, Maps.has D (key id) = numB ls id
  at_ : ∀ id, D.atKey (key id) (.lit (.int .i64 0)) = .lit (.int .i64 (numI ls id))
theorem isNum_nil : IsNum (.map []) [] :=
  ⟨isMap_empty, fun id => by simp [Maps.has, numB], fun id => by
    have h : Maps.has (.map [] : DataW Unit) (key id) = false := by simp [Maps.has]
    rw [atKey_of_not_has h]; simp [numI]⟩
theorem isKey (s : ByteArray) : WideAt.IsKeyLit (key s) := trivial
theorem IsNum.snoc {D : DataW Unit} {ls : List L} (h : IsNum D ls) (x : L) (hx : ¬ fnd ls x.id < ls.length) : IsNum (D.put (key x.id) (.lit (.int .i64 (ls.length : Int)))) (ls ++ [x]) := by
  have hlen : (ls ++ [x]).length = ls.length + 1 := by simp
  refine ⟨h.map.put _ _, fun id => ?_, fun id => ?_⟩
  · by_cases e : x.id.toList = id.toList
    · rw [← key_eq e, has_put_same h.map (isKey _)]
      have h1 : hasId id x = true := decide_eq_true e
      refine (numB_yes ?_).symm
      rw [fnd_snoc, hlen, h1]
      split
      · omega
      · simp
    · rw [has_put_other (key_ne (fun e2 => e e2.symm)), h.has id]
      have h1 : hasId id x = false := decide_eq_false e
      unfold numB
      rw [fnd_snoc, hlen, h1]
      refine decide_eq_decide.2 ?_
      split
      · omega
      · simp; omega
  · by_cases e : x.id.toList = id.toList
    · rw [← key_eq e, atKey_put_same h.map (isKey _)]
      have h1 : hasId id x = true := decide_eq_true e
      have h2 : ¬ fnd ls id < ls.length := by
        have h3 : hasId id = hasId x.id := by funext y; unfold hasId; rw [e]
        have h4 : fnd ls id = fnd ls x.id := by unfold fnd; rw [h3]
        rw [h4]; exact hx
      have h3 : fnd (ls ++ [x]) id = ls.length := by rw [fnd_snoc, if_neg h2, h1]; rfl
      rw [numI_yes (by rw [h3, hlen]; omega), h3]
    · rw [atKey_put_other (key_ne (fun e2 => e e2.symm)), h.at_ id]
      have h1 : hasId id x = false := decide_eq_false e
      unfold numI
      rw [fnd_snoc, hlen, h1]
      by_cases hf : fnd ls id < ls.length
      · simp only [hf, if_true]; rw [if_pos (by omega)]
      · simp [hf]

/-- Block b holds the numbers of the clauses ls. -/
def Nums (w : World) (b n : Nat) (ls : List L) : Prop := ∃ D : DataW Unit, w.ownsMap Tryz.prog 9 (plainElem Tryz.prog 3) b n D ∧ IsNum D ls
theorem Nums.on {w w' : World} {b n : Nat} {ls : List L} (h : Nums w b n ls) (hb : Below w.heap.size w w') : Nums w' b n ls := by
  obtain ⟨D, h1, h2⟩ := h
  exact ⟨D, h1.kept (row := none) ⟨hb.os, hb.tape, hb.output, hb.size, fun i hi _ => hb.block i hi⟩ (by simp), h2⟩
theorem Nums.below {w w' : World} {b n B : Nat} {ls : List L} (h : Nums w b n ls) (hb : Below B w w') (hB : b < B) : Nums w' b n ls := by
  obtain ⟨D, ⟨es, clock, h1, h2, h3, h4⟩, h5⟩ := h
  exact ⟨D, ⟨es, clock, (hb.block b hB).trans h1, h2, h3, h4⟩, h5⟩
theorem Nums.lt {w : World} {b n : Nat} {ls : List L} (h : Nums w b n ls) : b < w.heap.size := let ⟨_, h1, _⟩ := h; h1.lt
theorem Nums.drew {w : World} {b n : Nat} {ls : List L} (h : Nums w b n ls) : Nums w.drew b n ls := let ⟨D, h1, h2⟩ := h; ⟨D, h1.drew, h2⟩
theorem Nums.more {w : World} {b n n' : Nat} {ls : List L} (h : Nums w b n ls) (hn : n ≤ n') : Nums w b n' ls := let ⟨D, h1, h2⟩ := h; ⟨D, h1.mono hn, h2⟩
theorem nums_new (w : World) : Nums (w.alloc (.map #[] 0)) w.heap.size 0 [] := ⟨.map [], World.ownsMap_made _ _ _ _, isNum_nil⟩

/-- A look-up of an Id. -/
theorem run_look {w : World} {b n : Nat} {ls : List L} (h : Nums w b n ls) {id : ByteArray} (hs : id.size ≤ maxLen) :
    (Instr.lookup 47 (.map (some b)) (.string id) true).run Tryz.prog w = .ok (.tuple #[.int .i64 (numI ls id), .bool (numB ls id)]) w := by
  obtain ⟨D, h1, h2⟩ := h
  have hk : keyOf Tryz.prog 9 (.string id) = some (key id) := WideMaps.keyOf_string_mk Tryz.underlying9 hs
  obtain ⟨v, ps, hrun, hv⟩ := h1.look_ok lawS Tryz.underlying47 (zeroI w) (plainElem_int Tryz.underlying3 (by decide)) hk
  obtain ⟨c, rfl, hc, _⟩ := plainElem_int_inv Tryz.underlying3 hv
  have h3 := (congrArg Prod.fst hc)
  rw [h2.at_ id] at h3
  have h4 := Lit.int.inj (DataW.lit.inj h3)
  rw [hrun, ← h4.2, h2.has id]
/-- A store of a new Id. -/
theorem run_store {w : World} {b n : Nat} {ls : List L} (h : Nums w b n ls) {x : L} (hs : x.id.size ≤ maxLen) (hn : n < maxLen) (hl : ls.length ≤ 5000) (hx : ¬ fnd ls x.id < ls.length) :
    ∃ w', (Instr.mapUpdate 47 (.map (some b)) (.string x.id) (.int .i64 (ls.length : Int))).run Tryz.prog w = .ok () w' ∧ Nums w' b (n + 1) (ls ++ [x]) ∧ w.grownBy w' (some b) := by
  obtain ⟨D, h1, h2⟩ := h
  have hk : keyOf Tryz.prog 9 (.string x.id) = some (key x.id) := WideMaps.keyOf_string_mk Tryz.underlying9 hs
  obtain ⟨w', hrun, ho, hg⟩ := h1.update lawS Tryz.underlying47 hn hk (plainElem_int Tryz.underlying3 (WalkArith.wf_i64 (n := (ls.length : Int)) ⟨by omega, by omega⟩))
  exact ⟨w', hrun, ⟨_, ho, h2.snoc x hx⟩, hg⟩

end Go.Proofs.YtomloodakabcbabGreat.Cl

namespace Go.Proofs.YtomloodakabcbabGreat.Cl
open Go.RowKit Go.Proofs.YtomloodakabcbabGreat.Cond Go.Proofs.YtomloodakabcbabGreat.Gx Go.Proofs.YtomloodakabcbabGreat.NdI Go.Proofs.YtomloodakabcbabGreat.NdS Go.Proofs.YtomloodakabcbabGreat.SrtR
set_option linter.unusedVariables false

theorem cols_nms : ∀ (cs : List C) (s : Sg), (∀ c ∈ cs, ∃ q : Q, c = q.c) → (cols cs s).1 = s.1 ++ cs.flatMap nms
  | [], s, _ => by simp [cols]
  | c :: cs, s, h => by
    obtain ⟨q, rfl⟩ := h c (by simp)
    have h2 := cols_nms cs (col q.c s) (fun c hc => h c (by simp [hc]))
    show (cols cs (col q.c s)).1 = _
    rw [h2, col_q]; simp
theorem names_all (ls : List L) : UniTM.uni [] (UniTM.uni [] (ls.flatMap fun x => nms x.c) ++ ls.map fun x => x.act.toList) = Cl.names ls := by
  refine UniTM.eq_of_mem (UniTM.pair_uni _ List.Pairwise.nil) (UniTM.pair_uni _ List.Pairwise.nil) fun m => ?_
  rw [show Cl.names ls = UniTM.uni [] (nmsC ls) from rfl]
  simp only [UniTM.mem_uni, List.mem_append, nmsC, List.mem_flatMap, List.mem_map, List.mem_cons, List.not_mem_nil, false_or]
  constructor
  · rintro (⟨x, hx, h⟩ | ⟨x, hx, h⟩)
    · exact ⟨x, hx, .inr h⟩
    · exact ⟨x, hx, .inl h.symm⟩
  · rintro ⟨x, hx, h | h⟩
    · exact .inr ⟨x, hx, h.symm⟩
    · exact .inl ⟨x, hx, h⟩
theorem names_pure (ls : List L) (h : ∀ x ∈ ls, x.c.good = true) :
    Lib.compact (srtT (Lib.compact (srtT (cols (ls.map L.c) ([], [])).1) ++ ls.map fun x => x.act.toList)) = Cl.names ls := by
  rw [comp_nms, comp_nms, cols_nms, ← names_all]
  · simp [List.flatMap_map]
  · intro c hc
    obtain ⟨x, hx, rfl⟩ := List.mem_map.1 hc
    obtain ⟨q, hq, _, _⟩ := good_q (h x hx)
    exact ⟨q, hq⟩

/-- A clause by itself; np parties. -/
def okV (np : Nat) (x : L) : Bool := okC np x && okA x && (!decide (x.kind = 3) || decide (x.rep.toList = []))
/-- Its Repair. -/
def okP (ls : List L) (i : Nat) (x : L) : Bool := decide (x.rep.toList = []) || (decide (fnd ls x.rep < ls.length) && !decide (fnd ls x.rep = i) && decide (kindAt ls (fnd ls x.rep) = 1))
theorem okL_is (np : Nat) (ls : List L) (i : Nat) (x : L) : okL np ls i x = (okV np x && okP ls i x) := by
  unfold okL okV okP okR
  cases okC np x <;> cases okA x <;> cases decide (x.rep.toList = []) <;> cases decide (x.kind = 3) <;> simp
theorem fnd_take {ls : List L} {i : Nat} (hi : i < ls.length) : fnd ls ls[i].id = i ↔ ¬ fnd (ls.take i) ls[i].id < (ls.take i).length := by
  have hl : (ls.take i).length = i := by simp; omega
  have e : ls = ls.take i ++ (ls[i] :: ls.drop (i + 1)) := by simp
  have h1 : hasId ls[i].id ls[i] = true := decide_eq_true rfl
  have h2 : fnd ls ls[i].id = if fnd (ls.take i) ls[i].id < (ls.take i).length then fnd (ls.take i) ls[i].id else i := by
    have h3 : fnd (ls.take i ++ (ls[i] :: ls.drop (i + 1))) ls[i].id = if fnd (ls.take i) ls[i].id < (ls.take i).length then fnd (ls.take i) ls[i].id else i := by
      unfold fnd
      rw [List.findIdx_append]
      split
      · rfl
      · rw [List.findIdx_cons, h1, hl]; simp
    rwa [← e] at h3
  rw [h2]
  split
  · constructor <;> intro _ <;> omega
  · exact ⟨fun _ => ‹_›, fun _ => rfl⟩
theorem okI_is {np : Nat} {ls : List L} {i : Nat} (hi : i < ls.length) : okI np ls i ls[i] = (!numB (ls.take i) ls[i].id && okV np ls[i] && okP ls i ls[i]) := by
  unfold okI
  rw [okL_is, ← Bool.and_assoc]
  congr 1
  congr 1
  unfold numB
  rw [decide_eq_decide.2 (fnd_take hi), decide_not]
theorem take_snoc {ls : List L} {i : Nat} (hi : i < ls.length) : ls.take i ++ [ls[i]] = ls.take (i + 1) := by simp

end Go.Proofs.YtomloodakabcbabGreat.Cl

namespace Go.Proofs.YtomloodakabcbabGreat.Cl
open Go.RowKit Go.Proofs.YtomloodakabcbabGreat.Cond Go.Proofs.YtomloodakabcbabGreat.Gx Go.Proofs.YtomloodakabcbabGreat.NdI Go.Proofs.YtomloodakabcbabGreat.NdS
set_option linter.unusedVariables false
set_option linter.unusedSimpArgs false

def isIx (i : Int) (n : Nat) : Bool := decide (0 ≤ i) && decide (i < (n : Int))
theorem isIndex (i : Int) (n : Nat) (w : World) : Calls Tryz.prog 21 #[.int .i64 i, .int .i64 (n : Int)] w fun e w' => e = .returned (.bool (isIx i n)) ∧ w = w' := by
  unfold isIx
  go_enter Tryz.func21, Tryz.ntmps21
  go_wp2
  all_goals go_ret
  all_goals refine ⟨?_, rfl⟩
  all_goals (first | (simp; done) | (simp; omega) | (simp; rw [Bool.eq_iff_iff]; simp; omega))

/-- What isValidAlone asks first. -/
structure Tsv (np : Nat) (m : M) (t0 t1 t3 t4 t5 t6 : Bool) : Prop where
  e0 : t0 = isNm m.id
  e1 : t1 = isNm m.act
  e3 : t3 = isIx m.party np
  e4 : t4 = isIx m.other np
  e5 : t5 = decide (m.party = m.other)
  e6 : t6 = m.k.cond.good
theorem ix_le (i : Int) (n : Nat) : isIx i n = (decide (0 ≤ i) && decide (i ≤ (n : Int) - 1)) := by
  unfold isIx
  congr 1
  exact decide_eq_decide.2 (by omega)
/-- The rest, by kind. -/
def okK (x : L) : Bool :=
  if x.kind = 1 then decide (0 ≤ x.amt) && decide (x.amt ≤ 1000000) && decide (0 ≤ x.within) && decide (x.within ≤ 400)
  else if x.kind = 2 ∨ x.kind = 4 then decide (x.amt = 0) && decide (x.within = 0)
  else if x.kind = 3 then decide (x.amt = 0) && decide (x.within = 0) && decide (x.rep.toList = [])
  else false
theorem Tsv.ok {np : Nat} {m : M} {t0 t1 t3 t4 t5 t6 : Bool} (h : Tsv np m t0 t1 t3 t4 t5 t6) : okV np m.cl = (t0 && t1 && t6 && (t3 && t4 && !t5) && okK m.cl) := by
  have h1 : okV np m.cl = (isNm m.id && isNm m.act && m.k.cond.good && (isIx m.party np && isIx m.other np && !decide (m.party = m.other)) && ((decide (1 ≤ m.kind) && decide (m.kind ≤ 4)) && okA m.cl && (!decide (m.kind = 3) || decide (m.rep.toList = [])))) := by
    unfold okV okC
    rw [ix_le, ix_le]
    show (isNm m.id && isNm m.act && (decide (1 ≤ m.kind) && decide (m.kind ≤ 4)) && (decide (0 ≤ m.party) && decide (m.party ≤ (np : Int) - 1)) && (decide (0 ≤ m.other) && decide (m.other ≤ (np : Int) - 1)) && !decide (m.party = m.other) && m.k.cond.good && okA m.cl && (!decide (m.kind = 3) || decide (m.rep.toList = []))) = _
    ac_rfl
  have h2 : ((decide (1 ≤ m.kind) && decide (m.kind ≤ 4)) && okA m.cl && (!decide (m.kind = 3) || decide (m.rep.toList = []))) = okK m.cl := by
    unfold okK okA
    show ((decide (1 ≤ m.kind) && decide (m.kind ≤ 4)) && ((decide (0 ≤ m.amt) && decide (m.amt ≤ 1000000)) && (decide (0 ≤ m.within) && decide (m.within ≤ 400)) && (decide (m.kind = 1) || (decide (m.amt = 0) && decide (m.within = 0)))) && (!decide (m.kind = 3) || decide (m.rep.toList = []))) = (if m.kind = 1 then decide (0 ≤ m.amt) && decide (m.amt ≤ 1000000) && decide (0 ≤ m.within) && decide (m.within ≤ 400) else if m.kind = 2 ∨ m.kind = 4 then decide (m.amt = 0) && decide (m.within = 0) else if m.kind = 3 then decide (m.amt = 0) && decide (m.within = 0) && decide (m.rep.toList = []) else false)
    rw [Bool.eq_iff_iff]
    by_cases k1 : m.kind = 1
    · simp [k1]; omega
    by_cases k2 : m.kind = 2 ∨ m.kind = 4
    · rcases k2 with k2 | k2 <;> simp [k2] <;> omega
    by_cases k3 : m.kind = 3
    · simp [k3]; omega
    · simp [k1, k2, k3]; omega
  rw [h1, h2, ← h.e0, ← h.e1, ← h.e3, ← h.e4, ← h.e5, ← h.e6]

set_option maxRecDepth 100000 in
set_option maxHeartbeats 16000000 in
theorem isValidAlone (np : Nat) (m : M) (w : World) (h : LiM w w.heap.size m) (hw : m.cl.wt ≤ 1048576) (ok : Bool) (hok : ok = okV np m.cl) :
    Calls Tryz.prog 36 #[m.val, .int .i64 (np : Int)] w fun e w' => e = .returned (.bool ok) ∧ Below w.heap.size w w' := by
  obtain ⟨X, hX⟩ : ∃ X, X = w.alloc (.cells #[.string m.id, .int .i64 m.kind, .int .i64 m.party, .string m.act, .int .i64 m.other, .int .i64 m.amt, .int .i64 m.k.op, .string m.k.nm, .int .i64 m.k.day, .slice m.k.A m.k.ps.length m.k.cap, .int .i64 m.within, .string m.rep] 70) := ⟨_, rfl⟩
  have B0 : Below w.heap.size w X := by rw [hX]; exact below1 _ _
  have HLM := h.on B0
  have Q0 : Hid (Bk w.heap.size X m.cells) := Lib.hid (by rw [hX]; exact Bk.new _ _ _)
  obtain ⟨t0, e0⟩ : ∃ t, t = isNm m.id := ⟨_, rfl⟩
  obtain ⟨t1, e1⟩ : ∃ t, t = isNm m.act := ⟨_, rfl⟩
  obtain ⟨t3, e3⟩ : ∃ t, t = isIx m.party np := ⟨_, rfl⟩
  obtain ⟨t4, e4⟩ : ∃ t, t = isIx m.other np := ⟨_, rfl⟩
  obtain ⟨t5, e5⟩ : ∃ t, t = decide (m.party = m.other) := ⟨_, rfl⟩
  obtain ⟨t6, e6⟩ : ∃ t, t = m.k.cond.good := ⟨_, rfl⟩
  have HOK : Hid (ok = (t0 && t1 && t6 && (t3 && t4 && !t5) && okK m.cl)) := Lib.hid (by rw [hok]; exact Tsv.ok ⟨e0, e1, e3, e4, e5, e6⟩)
  have q0 : Hid (∀ v, Calls Tryz.prog 51 #[.string m.id] v fun e w' => e = .returned (.bool t0) ∧ v = w') := Lib.hid fun v => by rw [e0]; exact isValidName _ h.si v
  have q1 : Hid (∀ v, Calls Tryz.prog 51 #[.string m.act] v fun e w' => e = .returned (.bool t1) ∧ v = w') := Lib.hid fun v => by rw [e1]; exact isValidName _ h.sa v
  have q3 : Hid (∀ v, Calls Tryz.prog 21 #[.int .i64 m.party, .int .i64 (np : Int)] v fun e w' => e = .returned (.bool t3) ∧ v = w') := Lib.hid fun v => by rw [e3]; exact isIndex _ _ v
  have q4 : Hid (∀ v, Calls Tryz.prog 21 #[.int .i64 m.other, .int .i64 (np : Int)] v fun e w' => e = .returned (.bool t4) ∧ v = w') := Lib.hid fun v => by rw [e4]; exact isIndex _ _ v
  have q6 : Hid (Calls Tryz.prog 53 #[m.k.val] X fun e w' => e = .returned (.bool t6) ∧ Below X.heap.size X w') := Lib.hid (by rw [e6]; exact implGood m.k X HLM.k (by simp only [L.wt, M.cl] at hw; omega))
  have g5 : (m.party == m.other) = t5 := by rw [e5]; rfl
  have HB := Lib.hid B0
  have HX := Lib.hid hX
  have qc := b12 Q0.out
  rw [hX] at qc
  obtain ⟨c0, c1, c2, c3, c4, c5, c6, c7, c8, c9, c10, c11⟩ := qc
  clear h hw hok B0 HLM hX e0 e1 e3 e4 e5 e6
  go_enter Tryz.func36, Tryz.ntmps36
  cases t0
  · skip
    go_wp2_with (first | (go_at_call_of 51 (m.id); with_reducible refine (q0.out _).mono ?_; rintro e w2 ⟨rfl, rfl⟩) | (go_at_call_of 51 (m.act); with_reducible refine (q1.out _).mono ?_; rintro e w2 ⟨rfl, rfl⟩))
    go_ret
    exact ⟨by rw [HOK.out]; rfl, by rw [← HX.out]; exact HB.out⟩
  cases t1
  · skip
    go_wp2_with (first | (go_at_call_of 51 (m.id); with_reducible refine (q0.out _).mono ?_; rintro e w2 ⟨rfl, rfl⟩) | (go_at_call_of 51 (m.act); with_reducible refine (q1.out _).mono ?_; rintro e w2 ⟨rfl, rfl⟩))
    go_ret
    exact ⟨by rw [HOK.out]; rfl, by rw [← HX.out]; exact HB.out⟩
  cases t6
  · skip
    go_wp2_with (first | (first | (go_at_call_of 51 (m.id); with_reducible refine (q0.out _).mono ?_; rintro e w2 ⟨rfl, rfl⟩) | (go_at_call_of 51 (m.act); with_reducible refine (q1.out _).mono ?_; rintro e w2 ⟨rfl, rfl⟩)) | (go_at_call 53; (try rw [← HX.out]); refine q6.out.mono ?_; rintro e w2 ⟨rfl, hb2⟩; refine Hid.out ?_))
    refine Lib.hid ?_
    have HB2 := Lib.hid (HB.out.trans (hb2.mono HB.out.size))
    clear hb2
    go_wp2_with fail
    go_ret
    exact ⟨by rw [HOK.out]; rfl, HB2.out⟩
  go_wp2_with (first | (first | (go_at_call_of 51 (m.id); with_reducible refine (q0.out _).mono ?_; rintro e w2 ⟨rfl, rfl⟩) | (go_at_call_of 51 (m.act); with_reducible refine (q1.out _).mono ?_; rintro e w2 ⟨rfl, rfl⟩)) | (go_at_call 53; (try rw [← HX.out]); refine q6.out.mono ?_; rintro e w2 ⟨rfl, hb2⟩; refine Hid.out ?_))
  refine Lib.hid ?_
  have HB2 := Lib.hid (HB.out.trans (hb2.mono HB.out.size))
  have Q2 := Lib.hid (Q0.out.on hb2)
  clear hb2 c0 c1 c2 c3 c4 c5 c6 c7 c8 c9 c10 c11
  obtain ⟨c0, c1, c2, c3, c4, c5, c6, c7, c8, c9, c10, c11⟩ := b12 Q2.out
  cases t3
  · skip
    go_wp2_with (first | (go_at_call_of 21 (m.party); with_reducible refine (q3.out _).mono ?_; rintro e w3 ⟨rfl, rfl⟩) | (go_at_call_of 21 (m.other); with_reducible refine (q4.out _).mono ?_; rintro e w3 ⟨rfl, rfl⟩))
    go_ret
    exact ⟨by rw [HOK.out]; rfl, HB2.out⟩
  cases t4
  · skip
    go_wp2_with (first | (go_at_call_of 21 (m.party); with_reducible refine (q3.out _).mono ?_; rintro e w3 ⟨rfl, rfl⟩) | (go_at_call_of 21 (m.other); with_reducible refine (q4.out _).mono ?_; rintro e w3 ⟨rfl, rfl⟩))
    go_ret
    exact ⟨by rw [HOK.out]; rfl, HB2.out⟩
  cases t5
  rotate_left
  · skip
    go_wp2_with (first | (go_at_call_of 21 (m.party); with_reducible refine (q3.out _).mono ?_; rintro e w3 ⟨rfl, rfl⟩) | (go_at_call_of 21 (m.other); with_reducible refine (q4.out _).mono ?_; rintro e w3 ⟨rfl, rfl⟩))
    go_ret
    exact ⟨by rw [HOK.out]; rfl, HB2.out⟩
  have HO : Hid (ok = okK m.cl) := Lib.hid (by rw [HOK.out]; simp)
  clear HOK
  by_cases k1 : m.kind = 1
  · have HE : Hid (ok = (decide (0 ≤ m.amt) && decide (m.amt ≤ 1000000) && decide (0 ≤ m.within) && decide (m.within ≤ 400))) := Lib.hid (by rw [HO.out]; unfold okK; exact if_pos k1)
    rw [k1] at c1
    clear k1 HO
    go_wp2_with (first | (go_at_call_of 21 (m.party); with_reducible refine (q3.out _).mono ?_; rintro e w3 ⟨rfl, rfl⟩) | (go_at_call_of 21 (m.other); with_reducible refine (q4.out _).mono ?_; rintro e w3 ⟨rfl, rfl⟩))
    all_goals go_ret
    all_goals refine ⟨?_, HB2.out⟩
    all_goals (first | (rw [HE.out]; done) | (rw [HE.out]; (first | (simp_all; done) | (simp_all; omega) | (simp_all; rw [Bool.eq_iff_iff]; simp; done) | (simp_all; rw [Bool.eq_iff_iff]; simp; omega))))
  by_cases k2 : m.kind = 2
  · have HE : Hid (ok = (decide (m.amt = 0) && decide (m.within = 0))) := Lib.hid (by rw [HO.out]; unfold okK; rw [if_neg (show ¬ m.cl.kind = 1 from k1)]; exact if_pos (.inl k2))
    rw [k2] at c1
    clear k1 k2 HO
    go_wp2_with (first | (go_at_call_of 21 (m.party); with_reducible refine (q3.out _).mono ?_; rintro e w3 ⟨rfl, rfl⟩) | (go_at_call_of 21 (m.other); with_reducible refine (q4.out _).mono ?_; rintro e w3 ⟨rfl, rfl⟩))
    all_goals go_ret
    all_goals refine ⟨?_, HB2.out⟩
    all_goals (first | (rw [HE.out]; done) | (rw [HE.out]; (first | (simp_all; done) | (simp_all; omega) | (simp_all; rw [Bool.eq_iff_iff]; simp; done) | (simp_all; rw [Bool.eq_iff_iff]; simp; omega))))
  by_cases k4 : m.kind = 4
  · have HE : Hid (ok = (decide (m.amt = 0) && decide (m.within = 0))) := Lib.hid (by rw [HO.out]; unfold okK; rw [if_neg (show ¬ m.cl.kind = 1 from k1)]; exact if_pos (.inr k4))
    rw [k4] at c1
    clear k1 k2 k4 HO
    go_wp2_with (first | (go_at_call_of 21 (m.party); with_reducible refine (q3.out _).mono ?_; rintro e w3 ⟨rfl, rfl⟩) | (go_at_call_of 21 (m.other); with_reducible refine (q4.out _).mono ?_; rintro e w3 ⟨rfl, rfl⟩))
    all_goals go_ret
    all_goals refine ⟨?_, HB2.out⟩
    all_goals (first | (rw [HE.out]; done) | (rw [HE.out]; (first | (simp_all; done) | (simp_all; omega) | (simp_all; rw [Bool.eq_iff_iff]; simp; done) | (simp_all; rw [Bool.eq_iff_iff]; simp; omega))))
  by_cases k3 : m.kind = 3
  · obtain ⟨r, hr⟩ : ∃ r, r = decide (m.rep.toList = []) := ⟨_, rfl⟩
    have HE : Hid (ok = (decide (m.amt = 0) && decide (m.within = 0) && r)) := Lib.hid (by rw [HO.out, hr]; unfold okK; rw [if_neg (show ¬ m.cl.kind = 1 from k1), if_neg (show ¬ (m.cl.kind = 2 ∨ m.cl.kind = 4) from fun h => h.elim k2 k4)]; exact if_pos k3)
    have hr2 : (m.rep.toList == []) = r := by rw [hr, Bool.eq_iff_iff]; simp
    rw [k3] at c1
    clear k1 k2 k3 k4 HO hr
    cases r
    all_goals go_wp2_with (first | (go_at_call_of 21 (m.party); with_reducible refine (q3.out _).mono ?_; rintro e w3 ⟨rfl, rfl⟩) | (go_at_call_of 21 (m.other); with_reducible refine (q4.out _).mono ?_; rintro e w3 ⟨rfl, rfl⟩))
    all_goals go_ret
    all_goals refine ⟨?_, HB2.out⟩
    all_goals (first | (rw [HE.out]; done) | (rw [HE.out]; (first | (simp_all; done) | (simp_all; omega) | (simp_all; rw [Bool.eq_iff_iff]; simp; done) | (simp_all; rw [Bool.eq_iff_iff]; simp; omega))))
  · have HE : Hid (ok = false) := Lib.hid (by rw [HO.out]; unfold okK; rw [if_neg (show ¬ m.cl.kind = 1 from k1), if_neg (show ¬ (m.cl.kind = 2 ∨ m.cl.kind = 4) from fun h => h.elim k2 k4)]; exact if_neg k3)
    clear HO
    go_wp2_with (first | (go_at_call_of 21 (m.party); with_reducible refine (q3.out _).mono ?_; rintro e w3 ⟨rfl, rfl⟩) | (go_at_call_of 21 (m.other); with_reducible refine (q4.out _).mono ?_; rintro e w3 ⟨rfl, rfl⟩))
    go_ret
    exact ⟨by rw [HE.out]; rfl, HB2.out⟩

end Go.Proofs.YtomloodakabcbabGreat.Cl

namespace Go.Proofs.YtomloodakabcbabGreat.Cl
open Go.RowKit Go.Proofs.YtomloodakabcbabGreat.Cond Go.Proofs.YtomloodakabcbabGreat.Gx Go.Proofs.YtomloodakabcbabGreat.NdS
set_option linter.unusedVariables false
set_option linter.unusedSimpArgs false

theorem isPartyCount (p : Int) (w : World) : Calls Tryz.prog 50 #[.int .i64 p] w fun e w' => e = .returned (.bool (decide (2 ≤ p) && decide (p ≤ 4))) ∧ w' = w := by
  go_enter Tryz.func50, Tryz.ntmps50
  go_wp2
  all_goals go_ret
  all_goals refine ⟨?_, rfl⟩
  all_goals (first | (simp; done) | (simp; omega) | (simp; rw [Bool.eq_iff_iff]; simp; omega))

set_option maxHeartbeats 4000000 in
theorem isPartyList (A : Option Addr) (n c : Nat) (ss : List ByteArray) (w : World) (h : LiN w w.heap.size A n c ss) (ok : Bool) (hok : ok = (okN ss && (decide (2 ≤ ss.length) && decide (ss.length ≤ 4)))) :
    Calls Tryz.prog 35 #[.slice A n c] w fun e w' => e = .returned (.bool ok) ∧ w = w' := by
  obtain ⟨q, hq⟩ : ∃ q, q = (decide (2 ≤ (n : Int)) && decide ((n : Int) ≤ 4)) := ⟨_, rfl⟩
  have HPC : Hid (∀ v, Calls Tryz.prog 50 #[.int .i64 (n : Int)] v fun e w' => e = .returned (.bool q) ∧ w' = v) := Lib.hid fun v => by rw [hq]; exact isPartyCount _ v
  by_cases h2 : n < 2
  · have HO : Hid (ok = false) := Lib.hid (by rw [hok, decide_eq_false (by have := h.len; omega)]; simp)
    have hqf : q = false := by rw [hq, decide_eq_false (by omega)]; rfl
    rw [hqf] at HPC
    clear h hok h2 hq hqf
    go_enter Tryz.func35, Tryz.ntmps35
    go_wp2_with (go_at_call 50; refine (HPC.out _).mono ?_; rintro e w2 ⟨rfl, hw⟩; rw [hw]; clear hw)
    go_ret
    exact ⟨by rw [HO.out]; rfl, rfl⟩
  by_cases h4 : 4 < n
  · have HO : Hid (ok = false) := Lib.hid (by rw [hok, decide_eq_false (p := ss.length ≤ 4) (by have := h.len; omega)]; simp)
    have hqf : q = false := by rw [hq, decide_eq_false (p := (n : Int) ≤ 4) (by omega)]; simp
    rw [hqf] at HPC
    clear h hok h2 h4 hq hqf
    go_enter Tryz.func35, Tryz.ntmps35
    go_wp2_with (go_at_call 50; refine (HPC.out _).mono ?_; rintro e w2 ⟨rfl, hw⟩; rw [hw]; clear hw)
    go_ret
    exact ⟨by rw [HO.out]; rfl, rfl⟩
  have hqt : q = true := by rw [hq, decide_eq_true (by omega), decide_eq_true (by omega)]; rfl
  rw [hqt] at HPC
  have HO : Hid (ok = okN ss) := Lib.hid (by rw [hok, decide_eq_true (by have := h.len; omega), decide_eq_true (by have := h.len; omega)]; simp)
  have HLN := Lib.hid h.len
  have HSZ := Lib.hid h.szs
  obtain ⟨ad, e, hB, hc⟩ := h.is (by have := h.len; omega)
  have had := h.sp ad e (by omega)
  obtain ⟨b, oo, had2⟩ : ∃ b oo, ad = ⟨b, oo, none⟩ := ⟨_, _, had⟩
  have HC : Hid (∀ j, ∀ hj : j < ss.length, w.cell? ⟨b, oo + j, none⟩ = some (.string ss[j])) := Lib.hid fun j hj => by
    have := hc j hj
    rw [had2, add_none] at this
    exact this
  have hnc := h.nc
  have g4 : n ≤ 4 := by omega
  rw [e, had2]
  clear h hok h2 h4 hc e hB had had2 hq hqt
  go_enter Tryz.func35, Tryz.ntmps35
  go_wp2_with (go_at_call 50; refine (HPC.out _).mono ?_; rintro e w2 ⟨rfl, hw⟩; rw [hw]; clear hw)
  go_loopw [11] (fun i wr => ∃ k : Nat, k ≤ n ∧ i = .int .i64 k ∧ Hid (nOk ss k) ∧ Hid (wr = w)) (fun i _ => n - (intOf i).toNat)
  case atStart => exact ⟨0, Nat.zero_le _, rfl, Lib.hid fun i _ h => by omega, Lib.hid rfl⟩
  case round =>
    obtain ⟨k, hk, rfl, HK, HW⟩ := hrel
    have hwr := HW.out
    subst hwr
    by_cases hlt : k < n
    · have hk' : k < ss.length := by have := HLN.out; omega
      obtain ⟨p, hp⟩ : ∃ p, p = ss[k] := ⟨_, rfl⟩
      have hcell := HC.out k hk'
      rw [← hp] at hcell
      have HPP := Lib.hid hp
      have i0 : (0 : Int) ≤ (k : Int) := by omega
      have i1 : (k : Int) < (n : Int) := by omega
      have i2 : (k : Int) ≤ (c : Int) := by omega
      obtain ⟨t, ht⟩ : ∃ t, t = isNm p := ⟨_, rfl⟩
      obtain ⟨u, hu⟩ : ∃ u, u = has (ss.take k) p := ⟨_, rfl⟩
      have HNM : Hid (∀ v, Calls Tryz.prog 51 #[.string p] v fun e w' => e = .returned (.bool t) ∧ v = w') := Lib.hid fun v => by
        rw [ht]; exact isValidName p (by rw [hp]; exact HSZ.out _ (List.getElem_mem hk')) v
      have HHAS : Hid (Calls Tryz.prog 52 #[.slice (some ⟨b, oo, none⟩) k c, .string p] wr fun e w' => e = .returned (.bool u) ∧ w' = wr) := Lib.hid (by
        rw [hu, ← contains_has]
        exact Tryz.slices_Contains_string b oo k c ss p wr (by omega) (by omega) (fun j hj => by rw [HC.out j hj]; simp [List.getD, hj]))
      have HTU := Lib.hid (And.intro ht hu)
      clear hp ht hu
      cases t
      · have HO2 : Hid (ok = false) := Lib.hid (by rw [HO.out, okN_no hk' (.inl (by rw [← HPP.out, ← HTU.out.1]))])
        go_wp2_with (go_at_call 51; refine (HNM.out _).mono ?_; rintro e w' ⟨rfl, rfl⟩)
        go_ret
        exact ⟨by rw [HO2.out]; rfl, rfl⟩
      cases u
      · have HK2 : Hid (nOk ss (k + 1)) := Lib.hid fun j hj hjk => by
          by_cases e : j = k
          · subst e; rw [← HPP.out]; exact ⟨HTU.out.1.symm, HTU.out.2.symm⟩
          · exact HK.out j hj (by omega)
        go_wp2_with (first | (go_at_call 51; refine (HNM.out _).mono ?_; rintro e w' ⟨rfl, rfl⟩) | (go_at_call 52; refine HHAS.out.mono ?_; rintro e w' ⟨rfl, rfl⟩))
        go_roundw
        case rel => exact ⟨k + 1, by omega, by go_num, HK2, Lib.hid trivial⟩
        case measure => simp [intOf]; omega
      · have HO2 : Hid (ok = false) := Lib.hid (by rw [HO.out, okN_no hk' (.inr (by rw [← HPP.out, ← HTU.out.2]))])
        go_wp2_with (first | (go_at_call 51; refine (HNM.out _).mono ?_; rintro e w' ⟨rfl, rfl⟩) | (go_at_call 52; refine HHAS.out.mono ?_; rintro e w' ⟨rfl, rfl⟩))
        go_ret
        exact ⟨by rw [HO2.out]; rfl, rfl⟩
    · have HO2 : Hid (ok = true) := Lib.hid (by rw [HO.out]; exact okN_yes (fun i hi _ => HK.out i hi (by have := HLN.out; omega)))
      go_wp2_with fail
      go_ret
      exact ⟨by rw [HO2.out]; rfl, rfl⟩

end Go.Proofs.YtomloodakabcbabGreat.Cl

namespace Go.Proofs.YtomloodakabcbabGreat.Cl
open Go.RowKit Go.Proofs.YtomloodakabcbabGreat.Cond Go.Proofs.YtomloodakabcbabGreat.Gx Go.Proofs.YtomloodakabcbabGreat.NdS
set_option linter.unusedVariables false
set_option linter.unusedSimpArgs false

/-- A checked contract by value. -/
abbrev ckV (x : Kt) (mb : Nat) (v : Value) : Value := .agg #[.slice x.A1 x.n1 x.c1, .slice x.A2 x.n2 x.c2, .map (some mb), v]
theorem nums_drewN {w : World} {b n : Nat} {ls : List L} (h : Nums w b n ls) (m : Nat) : Nums (w.drewN m) b n ls := h.on (below_drewN (Below.refl _ _) m)

set_option maxHeartbeats 4000000 in
theorem repairOf (x : Kt) (mb : Nat) (N : Option Addr) (nn nc i : Nat) (m : M) (w : World) (h : LiC w w.heap.size x) (hi : CAt x i m) (hn : Nums w mb 12 x.ct.ls) :
    Calls Tryz.prog 22 #[.agg #[.slice x.A1 x.n1 x.c1, .slice x.A2 x.n2 x.c2, .map (some mb), .slice N nn nc], .int .i64 (i : Int)] w fun e w' => e = .returned (.tuple #[.int .i64 (numI x.ct.ls m.rep), .bool (numB x.ct.ls m.rep)]) ∧ Below w.heap.size w w' := by
  obtain ⟨X, hX⟩ : ∃ X, X = w.alloc (.cells #[.slice x.A1 x.n1 x.c1, .slice x.A2 x.n2 x.c2, .map (some mb), .slice N nn nc] 49) := ⟨_, rfl⟩
  have B0 : Below w.heap.size w X := by rw [hX]; exact below1 _ _
  have P0 : Hid (Bk w.heap.size X [.slice x.A1 x.n1 x.c1, .slice x.A2 x.n2 x.c2, .map (some mb), .slice N nn nc]) := Lib.hid (by rw [hX]; exact Bk.new _ _ _)
  obtain ⟨b, oo, eA, hBb, hc⟩ := h.c.at_ (by have := hi.lt; omega)
  have hE := (hc i hi.lt).alike (B0.block b hBb)
  rw [← hi.eq] at hE
  obtain ⟨c0, c1, c2, c3, c4, c5, c6, c7, c8, c9, c10, c11⟩ := e12 hE
  have hr := (h.clause hi).sr
  have HLK : ∀ k, (Instr.lookup 47 (.map (some mb)) (.string m.rep) true).run Tryz.prog (X.drewN k) = .ok (.tuple #[.int .i64 (numI x.ct.ls m.rep), .bool (numB x.ct.ls m.rep)]) (X.drewN k) := fun k => run_look (nums_drewN (hn.on B0) k) hr
  have p1 := P0.out.c 1 (by simp)
  have p2 := P0.out.c 2 (by simp)
  simp only [List.getElem_cons_succ, List.getElem_cons_zero] at p1 p2
  have i0 : (0 : Int) ≤ (i : Int) := by omega
  have i1 : (i : Int) < (x.n2 : Int) := by have := h.c.len; have := hi.lt; omega
  have HB := Lib.hid B0
  have HX := Lib.hid hX
  rw [eA] at p1 HX ⊢
  generalize numI x.ct.ls m.rep = a at *
  generalize numB x.ct.ls m.rep = t at *
  clear h hi hn B0 hX hE hc hBb eA hr P0 c0 c1 c2 c3 c4 c5 c6 c7 c8 c9 c10
  go_enter Tryz.func22, Tryz.ntmps22
  go_wp2_with fail
  rw [← HX.out]
  go_quiet (fail)
  go_wp2_with fail
  go_ret2
  exact ⟨rfl, below_drewN HB.out _⟩

end Go.Proofs.YtomloodakabcbabGreat.Cl

namespace Go.Proofs.YtomloodakabcbabGreat.Cl
open Go.RowKit Go.Proofs.YtomloodakabcbabGreat.Cond Go.Proofs.YtomloodakabcbabGreat.Gx Go.Proofs.YtomloodakabcbabGreat.NdS
set_option linter.unusedVariables false
set_option linter.unusedSimpArgs false

theorem okP_is {x : Kt} {i : Nat} {m : M} (hr : ¬ m.rep.toList = []) : okP x.ct.ls i m.cl = (numB x.ct.ls m.rep && !decide (fnd x.ct.ls m.rep = i) && decide (kindAt x.ct.ls (fnd x.ct.ls m.rep) = 1)) := by
  show (decide (m.rep.toList = []) || _) = _
  rw [decide_eq_false hr]; rfl

set_option maxRecDepth 100000 in
set_option maxHeartbeats 8000000 in
theorem hasValidRepair (x : Kt) (mb : Nat) (N : Option Addr) (nn nc i : Nat) (m : M) (w : World) (h : LiC w w.heap.size x) (hi : CAt x i m) (hn : Nums w mb 12 x.ct.ls) (ok : Bool) (hok : ok = okP x.ct.ls i m.cl) :
    Calls Tryz.prog 37 #[.agg #[.slice x.A1 x.n1 x.c1, .slice x.A2 x.n2 x.c2, .map (some mb), .slice N nn nc], .int .i64 (i : Int)] w fun e w' => e = .returned (.bool ok) ∧ Below w.heap.size w w' := by
  obtain ⟨X, hX⟩ : ∃ X, X = w.alloc (.cells #[.slice x.A1 x.n1 x.c1, .slice x.A2 x.n2 x.c2, .map (some mb), .slice N nn nc] 49) := ⟨_, rfl⟩
  have B0 : Below w.heap.size w X := by rw [hX]; exact below1 _ _
  have P0 : Hid (Bk w.heap.size X [.slice x.A1 x.n1 x.c1, .slice x.A2 x.n2 x.c2, .map (some mb), .slice N nn nc]) := Lib.hid (by rw [hX]; exact Bk.new _ _ _)
  obtain ⟨b, oo, eA, hBb, hc⟩ := h.c.at_ (by have := hi.lt; omega)
  have hE := (hc i hi.lt).alike (B0.block b hBb)
  rw [← hi.eq] at hE
  have HEE := Lib.hid (And.intro hBb hc)
  obtain ⟨c0, c1, c2, c3, c4, c5, c6, c7, c8, c9, c10, c11⟩ := e12 hE
  have p0 := P0.out.c 0 (by simp)
  have p1 := P0.out.c 1 (by simp)
  have p2 := P0.out.c 2 (by simp)
  have p3 := P0.out.c 3 (by simp)
  simp only [List.getElem_cons_succ, List.getElem_cons_zero] at p0 p1 p2 p3
  have i0 : (0 : Int) ≤ (i : Int) := by omega
  have i1 : (i : Int) < (x.n2 : Int) := by have := h.c.len; have := hi.lt; omega
  have HRO : Hid (Calls Tryz.prog 22 #[.agg #[.slice x.A1 x.n1 x.c1, .slice x.A2 x.n2 x.c2, .map (some mb), .slice N nn nc], .int .i64 (i : Int)] X fun e w' => e = .returned (.tuple #[.int .i64 (numI x.ct.ls m.rep), .bool (numB x.ct.ls m.rep)]) ∧ Below X.heap.size X w') := Lib.hid (repairOf x mb N nn nc i m X (h.on B0) hi (hn.on B0))
  have HOK := Lib.hid hok
  have HB := Lib.hid B0
  have HX := Lib.hid hX
  have HLEN : Hid (x.n2 = x.ms.length ∧ x.ct.ls.length = x.n2) := Lib.hid ⟨h.c.len, by rw [h.c.len]; simp [Kt.ct]⟩
  rw [eA] at p1 HX HRO P0 ⊢
  rw [HX.out] at p0 p1 p2 p3 c11
  clear h hi hn B0 hX hE hc hBb eA hok c0 c1 c2 c3 c4 c5 c6 c7 c8 c9 c10
  go_enter Tryz.func37, Tryz.ntmps37
  by_cases hr : m.rep.toList = []
  · have hr2 : (m.rep.toList == []) = true := by rw [hr]; rfl
    have HE : Hid (ok = true) := Lib.hid (by rw [HOK.out]; show (decide (m.rep.toList = []) || _) = true; rw [decide_eq_true hr]; rfl)
    clear hr
    go_wp2_with fail
    go_ret
    exact ⟨by rw [HE.out]; rfl, by rw [← HX.out]; exact HB.out⟩
  have hr2 : (m.rep.toList == []) = false := by simpa using hr
  have HE := Lib.hid (okP_is (x := x) (i := i) hr)
  clear hr
  by_cases hf : fnd x.ct.ls m.rep < x.ct.ls.length
  rotate_left
  · have HE2 : Hid (ok = false) := Lib.hid (by rw [HOK.out, HE.out, numB_no hf]; rfl)
    rw [numB_no hf, numI_no hf] at HRO
    clear hf
    go_wp2_with (go_at_call 22; (try rw [← HX.out]); refine HRO.out.mono ?_; rintro e w2 ⟨rfl, hb2⟩; refine Hid.out ?_)
    refine Lib.hid ?_
    have HB2 := Lib.hid (HB.out.trans (hb2.mono HB.out.size))
    clear hb2
    go_wp2_with fail
    go_ret
    exact ⟨by rw [HE2.out]; rfl, HB2.out⟩
  obtain ⟨k, hk⟩ : ∃ k, k = fnd x.ct.ls m.rep := ⟨_, rfl⟩
  rw [numB_yes hf, numI_yes hf, ← hk] at HRO
  rw [numB_yes hf, ← hk] at HE
  rw [← hk] at hf
  have hkm : k < x.ms.length := by simpa [Kt.ct] using hf
  obtain ⟨q, hq⟩ : ∃ q, q = x.ms[k] := ⟨_, rfl⟩
  have HKQ : Hid (kindAt x.ct.ls k = q.kind) := Lib.hid (kind_at ⟨hkm, hq⟩)
  have hE2 := HEE.out.2 k hkm
  rw [← hq] at hE2
  have HE2 := Lib.hid hE2
  have hk0 : (0 : Int) ≤ (k : Int) := by omega
  have hk2 : (k : Int) < (x.n2 : Int) := by have := HLEN.out; omega
  clear hk hf hkm hq hE2
  go_wp2_with (go_at_call 22; (try rw [← HX.out]); refine HRO.out.mono ?_; rintro e w2 ⟨rfl, hb2⟩; refine Hid.out ?_)
  refine Lib.hid ?_
  have HB2 := Lib.hid (HB.out.trans (hb2.mono HB.out.size))
  have P2 := Lib.hid (P0.out.on hb2)
  clear hb2 p0 p1 p2 p3 c11
  have p1 := P2.out.c 1 (by simp)
  simp only [List.getElem_cons_succ, List.getElem_cons_zero] at p1
  have d1 := (e12 (HE2.out.alike (HB2.out.block b HEE.out.1))).2.1
  by_cases hki : k = i
  · have hki2 : ((k : Int) != (i : Int)) = false := by rw [hki]; simp
    have HO : Hid (ok = false) := Lib.hid (by rw [HOK.out, HE.out, decide_eq_true hki]; simp)
    clear hki
    go_wp2_with fail
    go_ret
    exact ⟨by rw [HO.out]; rfl, HB2.out⟩
  have hki2 : ((k : Int) != (i : Int)) = true := by rw [bne_iff_ne]; omega
  obtain ⟨y1, z1⟩ : ∃ y, y = decide (q.kind = 1) := ⟨_, rfl⟩
  have HO : Hid (ok = y1) := Lib.hid (by rw [HOK.out, HE.out, decide_eq_false hki, HKQ.out, z1]; simp)
  have z1' : (q.kind == 1) = y1 := by rw [z1]; rfl
  clear hki z1
  cases y1
  all_goals
    go_wp2_with fail
    go_ret
    exact ⟨by rw [HO.out]; rfl, HB2.out⟩

end Go.Proofs.YtomloodakabcbabGreat.Cl

namespace Go.Proofs.YtomloodakabcbabGreat.Cond
open Go.RowKit
set_option linter.unusedVariables false

def K.cells (k : K) : List Value := [.int .i64 k.op, .string k.nm, .int .i64 k.day, .slice k.A k.ps.length k.cap]
def cellsL (rs : List K) : List Value := rs.flatMap K.cells
theorem cellsL_len (rs : List K) : (cellsL rs).length = rs.length * 4 := by
  induction rs with
  | nil => rfl
  | cons r rs ih =>
    unfold cellsL at ih ⊢
    rw [List.flatMap_cons, List.length_append, ih]
    simp [K.cells]; omega
theorem cellsL_app (rs : List K) (r : K) : cellsL (rs ++ [r]) = cellsL rs ++ r.cells := by simp [cellsL]
theorem cellsL_get : ∀ (rs : List K) (i : Nat) (h : i < rs.length) (j : Nat), j < 4 → (cellsL rs)[i * 4 + j]? = rs[i].cells[j]?
  | r :: rs, 0, _, j, hj => by
    simp only [cellsL, List.flatMap_cons]
    rw [List.getElem?_append_left (by simp [K.cells]; omega)]
    simp
  | r :: rs, i + 1, h, j, hj => by
    have := cellsL_get rs i (by simpa using h) j hj
    simp only [cellsL, List.flatMap_cons] at this ⊢
    rw [List.getElem?_append_right (by simp [K.cells]; omega)]
    have e : (i + 1) * 4 + j - r.cells.length = i * 4 + j := by simp [K.cells]; omega
    rw [e, this]
    simp
theorem one_cells (r : K) : ∀ u ∈ r.cells, u.oneCell' = true := fun u hu => by
  simp only [K.cells, List.mem_cons, List.not_mem_nil, or_false] at hu
  rcases hu with rfl | rfl | rfl | rfl <;> rfl

abbrev OwnC (w : World) (S : Nat) (v : Value) (rs : List K) : Prop := w.ownsRow S 68 4 v rs.length (cellsL rs)
theorem ownC_form {S : Nat} {w : World} {v : Value} {n : Nat} {xs : List Value} (h : w.ownsRow S 68 4 v n xs) : ∃ a c, v = .slice a n c := by
  rcases h.2 with ⟨hv, h0⟩ | ⟨g', c, cur, hv, _⟩
  · exact ⟨none, 0, by rw [hv, h0]⟩
  · exact ⟨_, c, hv⟩
theorem ownC_el {w : World} {S n cap : Nat} {A : Option Addr} {rs : List K} (h : OwnC w S (.slice A n cap) rs) {i : Nat} (hi : i < rs.length) : ∃ g, A = some ⟨g, 0, none⟩ ∧ S ≤ g ∧ g < w.heap.size ∧ El w g (i * 4) rs[i] := by
  rcases h.2 with ⟨_, h0⟩ | ⟨g, c, cur, hv, hS, hh, hnc, _, hcs, htk⟩
  · omega
  · injection hv with h1 h2 h3
    subst h1
    have hc : ∀ j, j < 4 → w.cell? ⟨g, i * 4 + j, none⟩ = rs[i].cells[j]? := fun j hj => by
      have h4 := cellsL_get rs i hi j hj
      have hlt : i * 4 + j < rs.length * 4 := by omega
      rw [← htk, List.getElem?_take_of_lt hlt] at h4
      rw [← h4]
      simp [World.cell?, hh]
    refine ⟨g, rfl, hS, (Array.getElem?_eq_some_iff.1 hh).1, ?_, ?_, ?_, ?_⟩
    · exact hc 0 (by omega)
    · exact hc 1 (by omega)
    · exact hc 2 (by omega)
    · exact hc 3 (by omega)
theorem ownC_lt {w : World} {S : Nat} {v : Value} {n : Nat} {xs : List Value} (h : w.ownsRow S 68 4 v n xs) {g : Nat} (hg : v.ownBlock = some g) : S ≤ g ∧ g < w.heap.size ∧ ∀ o, w.frozen? ⟨g, o, none⟩ = false := by
  rcases h.2 with ⟨hv, _⟩ | ⟨g', c, cur, hv, hS, hh, _⟩
  · rw [hv] at hg; cases hg
  · rw [hv] at hg
    injection hg with hg
    subst hg
    exact ⟨hS, (Array.getElem?_eq_some_iff.1 hh).1, fun o => by simp [World.frozen?, hh]⟩
theorem ownC_on {B : Nat} {e : TypeId} {k : Nat} {v : Value} {n : Nat} {xs : List Value} {w w' : World} (h : w.ownsRow B e k v n xs) (hb : Below w.heap.size w w') : w'.ownsRow B e k v n xs :=
  h.kept (row := none) ⟨hb.os, hb.tape, hb.output, hb.size, fun j hj _ => hb.block j hj⟩ (by cases hv : v.ownBlock <;> simp)

/-- append of one condition to a row of one's own. -/
theorem wp_appC {u : World} {ops : Array Oper} {rest : List Oper} {o : Oper} {a : Act} {Q : Exit → Act → World → Prop} (hgd : o.guard = none) (s x : Operand)
    (ho : o.op = .call { callee := .builtin .append, args := #[s, x], argTypes := #[66, 66] }) (S : Nat) (v : Value) (rs : List K) (hs : a.eval s = v) (h : OwnC u S v rs) (g c : Nat) (r : K) (hx : a.eval x = .slice (some ⟨g, 0, none⟩) 1 c) (he : El u g 0 r) (hl : rs.length + 1 ≤ 1000000) (hS : S ≤ u.heap.size)
    (hK : ∀ a3 c3 w1, OwnC w1 S (.slice a3 (rs.length + 1) c3) (rs ++ [r]) → u.grownBy w1 v.ownBlock → ((Value.slice a3 (rs.length + 1) c3).ownBlock = v.ownBlock ∨ (Value.slice a3 (rs.length + 1) c3).ownBlock = some u.heap.size) → wpList Tryz.prog ops Q rest (a.put o.dst (.slice a3 (rs.length + 1) c3)) w1) :
    wpList Tryz.prog ops Q (o :: rest) a u := by
  refine wpList_plain hgd fun Kp hK' => ?_
  obtain ⟨i0, hi, hz0, hz1, hz2⟩ := info_parts infoCond
  obtain ⟨v', w', hr, h2, h3, _, h5⟩ := run_append_own_at (P := Tryz.prog) u S 66 o.type 68 i0 _ 4 56 Tryz.underlying66 hi hz0 hz1 hz2 rfl (by decide) v rs.length (cellsL rs) h ⟨g, 0, none⟩ 1 c r.cells (by simp [K.cells])
    (fun j u' hu => by
      have hj : j < 4 := by
        rcases Nat.lt_or_ge j 4 with h | h
        · exact h
        · rw [List.getElem?_eq_none (by simpa [K.cells] using h)] at hu; cases hu
      match j, hj with
      | 0, _ => simp [K.cells] at hu; subst hu; exact he.c0
      | 1, _ => simp [K.cells] at hu; subst hu; exact he.c1
      | 2, _ => simp [K.cells] at hu; subst hu; exact he.c2
      | 3, _ => simp [K.cells] at hu; subst hu; exact he.c3) (one_cells r) (by unfold maxLen; omega) (by omega) hS
  obtain ⟨a3, c3, rfl⟩ := ownC_form h2
  unfold Oper.wp execOp
  simp only [ho, resolve, invoke, builtin, Sem.run_bind, Sem.run_pure, Result.andThen_ok, List.map_toArray, List.map_cons, List.map_nil, hs, hx, hr]
  exact hK' _ _ (hK a3 c3 w' (by unfold OwnC; rw [cellsL_app, List.length_append]; exact h2) h3 h5)


end Go.Proofs.YtomloodakabcbabGreat.Cond

namespace Go.Proofs.YtomloodakabcbabGreat.Cl
open Go.RowKit Go.Proofs.YtomloodakabcbabGreat.Cond Go.Proofs.YtomloodakabcbabGreat.Gx Go.Proofs.YtomloodakabcbabGreat.NdI Go.Proofs.YtomloodakabcbabGreat.NdS Go.Proofs.YtomloodakabcbabGreat.SrtR
set_option linter.unusedVariables false
set_option linter.unusedSimpArgs false

theorem ownC_at {w : World} {S n cap : Nat} {A : Option Addr} {rs : List K} (h : OwnC w S (.slice A n cap) rs) : At w w.heap.size A rs := fun hp => by
  obtain ⟨g, e, _, hg, _⟩ := ownC_el h hp
  refine ⟨g, 0, e, hg, fun j hj => ?_⟩
  obtain ⟨g', e', _, _, hE⟩ := ownC_el h hj
  rw [e] at e'
  cases e'
  rw [Nat.zero_add]
  exact hE
theorem flat_nms_len : ∀ (cs : List C), (∀ c ∈ cs, c.size ≤ 15) → (cs.flatMap nms).length ≤ 15 * cs.length
  | [], _ => by simp
  | c :: cs, h => by
    have h1 := flat_nms_len cs (fun c hc => h c (by simp [hc]))
    have h2 := nms_len c
    have h3 := h c (by simp)
    simp only [List.flatMap_cons, List.length_append, List.length_cons]
    omega
theorem good_size {c : C} (h : c.good = true) : c.size ≤ 15 := by
  simp only [C.good, Bool.and_eq_true, decide_eq_true_eq] at h
  exact h.2
theorem cols_len {ks : List K} (h : ∀ k ∈ ks, k.cond.good = true) : (Lib.compact (srtT (cols (conds ks) ([], [])).1)).length ≤ 15 * ks.length := by
  rw [comp_nms]
  refine Nat.le_trans (UniTM.length_uni _ _) ?_
  rw [cols_nms]
  · have := flat_nms_len (conds ks) (fun c hc => by
      rw [conds_map] at hc
      obtain ⟨k, hk, rfl⟩ := List.mem_map.1 hc
      exact good_size (h k hk))
    rw [conds_map] at this ⊢
    simpa using this
  · intro c hc
    rw [conds_map] at hc
    obtain ⟨k, hk, rfl⟩ := List.mem_map.1 hc
    obtain ⟨q, hq, _, _⟩ := good_q (h k hk)
    exact ⟨q, hq⟩
theorem ownT_some {S : Nat} {w : World} {A : Option Addr} {n c : Nat} {D : List (List UInt8)} (h : UniT.Own w S (.slice A n c) D) (h0 : 0 < D.length) : ∃ g, A = some ⟨g, 0, none⟩ := by
  rcases h.2 with ⟨_, h2⟩ | ⟨g, c, cur, hv, hb, _⟩
  · omega
  · injection hv with h1 h2 h3
    exact ⟨g, h1⟩
theorem take_map_snoc {α β : Type} (f : α → β) {xs : List α} {k : Nat} (hk : k < xs.length) : (xs.take (k + 1)).map f = (xs.take k).map f ++ [f xs[k]] := by
  rw [List.take_succ_eq_append_getElem hk, List.map_append]; rfl

set_option maxRecDepth 100000 in
set_option maxHeartbeats 8000000 in
theorem namesOf (A2 : Option Addr) (n2 c2 : Nat) (ms : List M) (w : World) (h : LiR w w.heap.size A2 n2 c2 ms) (hl : n2 ≤ 12) (hg : ∀ m ∈ ms, m.k.cond.good = true) :
    Calls Tryz.prog 38 #[.slice A2 n2 c2] w (UniT.PutAns w.heap.size (Cl.names (ms.map M.cl)) w) := by
  obtain ⟨X, hX⟩ : ∃ X, X = w.alloc (.cells #[] 68) := ⟨_, rfl⟩
  have B0 : Below w.heap.size w X := by rw [hX]; exact below1 _ _
  have O0 : Hid (OwnC X w.heap.size (.slice (some ⟨w.heap.size, 0, none⟩) 0 0) []) := Lib.hid (by
    have := World.ownsRow_lit (base := w.heap.size) (e := 68) (size := 4) w #[] 0 (by simp) (by decide) (by simp)
    rw [hX]
    simpa [OwnC, cellsL] using this)
  have HL := Lib.hid h
  have HG := Lib.hid hg
  have HLN := Lib.hid h.len
  have HX := Lib.hid hX
  have HB := Lib.hid B0
  have hn9 : n2 ≤ 9223372036854775807 := by omega
  have HPU : Hid (Lib.compact (srtT (Lib.compact (srtT (cols (conds (ms.map M.k)) ([], [])).1) ++ ms.map fun m => m.act.toList)) = Cl.names (ms.map M.cl)) := Lib.hid (by
    rw [← names_pure]
    · rw [conds_map, List.map_map, List.map_map, List.map_map]
      rfl
    · intro x hx
      obtain ⟨m, hm, rfl⟩ := List.mem_map.1 hx
      exact hg m hm)
  clear h hg B0 hX
  go_enter Tryz.func38, Tryz.ntmps38
  go_wp2_with fail
  go_loopw [3, 13] (fun v i wr => ∃ (k : Nat) (a : Option Addr) (c : Nat) (rs : List K), k ≤ n2 ∧ v = .slice a rs.length c ∧ i = .int .i64 k ∧ Hid (rs = (ms.take k).map M.k) ∧ Hid (OwnC wr w.heap.size (.slice a rs.length c) rs) ∧ Hid (Below w.heap.size w wr)) (fun _ i _ => n2 - (intOf i).toNat)
  case atStart => exact ⟨0, _, 0, [], Nat.zero_le _, rfl, rfl, Lib.hid (by simp), by rw [← HX.out]; exact O0, by rw [← HX.out]; exact HB⟩
  case round =>
    clear O0 HX HB
    obtain ⟨k, a, c, rs, hk, rfl, rfl, HRS, HO, HB⟩ := hrel
    by_cases hlt : k < n2
    · have hk' : k < ms.length := by have := HLN.out; omega
      obtain ⟨b, o, e, hBb, hc⟩ := HL.out.at_ (by omega)
      obtain ⟨p, hp⟩ : ∃ p, p = ms[k] := ⟨_, rfl⟩
      have hE := (hc k hk').alike (HB.out.block b hBb)
      rw [← hp] at hE
      obtain ⟨c0, c1, c2', c3, c4, c5, c6, c7, c8, c9, c10, c11⟩ := e12 hE
      have hlen : rs.length ≤ 12 := by rw [HRS.out]; simp; omega
      have i0 : (0 : Int) ≤ (k : Int) := by omega
      have i1 : (k : Int) < (n2 : Int) := by omega
      obtain ⟨U, hU⟩ : ∃ U, U = (wr.alloc (.cells #[.string p.id, .int .i64 p.kind, .int .i64 p.party, .string p.act, .int .i64 p.other, .int .i64 p.amt, .int .i64 p.k.op, .string p.k.nm, .int .i64 p.k.day, .slice p.k.A p.k.ps.length p.k.cap, .int .i64 p.within, .string p.rep] 70)).alloc (.cells #[.int .i64 p.k.op, .string p.k.nm, .int .i64 p.k.day, .slice p.k.A p.k.ps.length p.k.cap] 68) := ⟨_, rfl⟩
      have hUb : Below wr.heap.size wr U := by rw [hU]; exact (below1 _ _).alloc (by simp) _
      have HUO : Hid (OwnC U w.heap.size (.slice a rs.length c) rs) := Lib.hid (ownC_on HO.out hUb)
      have HUE : Hid (Cond.El U (wr.heap.size + 1) 0 p.k) := Lib.hid (by
        have h4 := B4.new (wr.alloc (.cells #[.string p.id, .int .i64 p.kind, .int .i64 p.party, .string p.act, .int .i64 p.other, .int .i64 p.amt, .int .i64 p.k.op, .string p.k.nm, .int .i64 p.k.day, .slice p.k.A p.k.ps.length p.k.cap, .int .i64 p.within, .string p.rep] 70)) (.int .i64 p.k.op) (.string p.k.nm) (.int .i64 p.k.day) (.slice p.k.A p.k.ps.length p.k.cap) 68
        rw [World.size_alloc, ← hU] at h4
        exact ⟨by simpa using h4.c0, by simpa using h4.c1, by simpa using h4.c2, by simpa using h4.c3⟩)
      have HUB : Hid (Below w.heap.size w U) := Lib.hid (HB.out.trans (hUb.mono HB.out.size))
      have HUS : Hid (w.heap.size ≤ U.heap.size) := Lib.hid HUB.out.size
      have HRS2 : Hid (rs ++ [p.k] = (ms.take (k + 1)).map M.k) := Lib.hid (by rw [take_map_snoc M.k hk', ← hp, ← HRS.out])
      have HOWN : Hid (∀ a3 c3 w1, OwnC w1 w.heap.size (.slice a3 (rs.length + 1) c3) (rs ++ [p.k]) → U.grownBy w1 (Value.slice a rs.length c).ownBlock → Below w.heap.size w w1) := Lib.hid fun a3 c3 w1 _ hg => HUB.out.grown hg HUS.out (fun j e => (ownC_lt HUO.out e).1)
      have HUU := Lib.hid hU
      rw [e]
      clear hp hE hc hBb hU hUb e HB HO
      go_wp2_with (at_builtin; (try rw [← HUU.out]); refine wp_appC rfl _ _ rfl w.heap.size _ rs rfl HUO.out (wr.heap.size + 1) 1 p.k rfl HUE.out (by omega) HUS.out ?_; intro a3 c3 w3 hown hg hat; refine Hid.out ?_)
      refine Lib.hid ?_
      have HO3 := Lib.hid hown
      have HB3 := Lib.hid (HOWN.out a3 c3 w3 hown hg)
      have hl2 : rs.length + 1 = (rs ++ [p.k]).length := by simp
      rw [hl2] at HO3 ⊢
      clear hown hg hat hl2
      go_wp2_with fail
      go_roundw
      case rel => exact ⟨k + 1, a3, c3, rs ++ [p.k], by omega, rfl, by go_num, HRS2, HO3, HB3⟩
      case measure => simp [intOf]; omega
    · have HE : Hid (rs = ms.map M.k) := Lib.hid (by rw [HRS.out, List.take_of_length_le (by have := HLN.out; omega)])
      have HNA := Lib.hid (NdI.names a c rs wr (ownC_at HO.out) (fun p hp => by
        rw [HE.out] at hp
        obtain ⟨m, hm, rfl⟩ := List.mem_map.1 hp
        exact ((HL.out.all m hm).k.below HB.out).more HB.out.size) (by rw [HE.out]; have := HLN.out; simp; omega) (fun p hp => by
        rw [HE.out] at hp
        obtain ⟨m, hm, rfl⟩ := List.mem_map.1 hp
        exact good_size (HG.out m hm)))
      have HCL : Hid ((Lib.compact (srtT (cols (conds rs) ([], [])).1)).length ≤ 180) := Lib.hid (by
        have := cols_len (ks := rs) (fun p hp => by
          rw [HE.out] at hp
          obtain ⟨m, hm, rfl⟩ := List.mem_map.1 hp
          exact HG.out m hm)
        have h2 : rs.length = ms.length := by rw [HE.out]; simp
        have := HLN.out
        omega)
      obtain ⟨N0, hN0⟩ : ∃ N0, N0 = Lib.compact (srtT (cols (conds rs) ([], [])).1) := ⟨_, rfl⟩
      have HPV : Hid (Lib.compact (srtT (N0 ++ ms.map fun m => m.act.toList)) = Cl.names (ms.map M.cl)) := Lib.hid (by rw [hN0, HE.out]; exact HPU.out)
      rw [← hN0] at HCL
      have HN0 := Lib.hid hN0
      clear HPU hN0
      go_wp2_with (go_at_call 54; refine HNA.out.mono ?_; rintro e w4 ⟨g1, m1, q1, g2, m2, q2, rfl, hnd⟩; refine Hid.out ?_)
      refine Lib.hid ?_
      have HM1 : Hid (m1 = N0.length) := Lib.hid (by rw [HN0.out]; exact hnd.l1)
      have HO4 : Hid (UniT.Own w4 w.heap.size (.slice (some ⟨g1, 0, none⟩) m1 q1) N0) := Lib.hid (by
        have h1 := hnd.o1
        rw [← HN0.out] at h1
        rcases h1.2 with h2 | ⟨g, cap, cur, hv, hg, r⟩
        · exact ⟨h1.1, .inl h2⟩
        · exact ⟨h1.1, .inr ⟨g, cap, cur, hv, Nat.le_trans HB.out.size hg, r⟩⟩)
      have HB4 := Lib.hid (HB.out.trans (hnd.bel.mono HB.out.size))
      clear hnd HN0 HE HNA HRS HO HB
      go_wp2_with fail
      go_loopw [6, 30] (fun v i wr => ∃ (k g n c : Nat) (zs : List (List UInt8)), k ≤ n2 ∧ v = .slice (some ⟨g, 0, none⟩) n c ∧ i = .int .i64 k ∧ Hid (n = zs.length) ∧ Hid (zs = N0 ++ (ms.take k).map fun m => m.act.toList) ∧ Hid (UniT.Own wr w.heap.size (.slice (some ⟨g, 0, none⟩) n c) zs) ∧ Hid (Below w.heap.size w wr)) (fun _ i _ => n2 - (intOf i).toNat)
      case atStart => exact ⟨0, g1, m1, q1, N0, Nat.zero_le _, rfl, rfl, HM1, Lib.hid (by simp), HO4, HB4⟩
      case round =>
        clear HM1 HO4 HB4
        obtain ⟨k, g, n, c, zs, hk, rfl, rfl, HN, HZ, HO, HB⟩ := hrel
        have hzl : zs.length ≤ 192 := by rw [HZ.out]; have := HCL.out; simp; omega
        by_cases hlt : k < n2
        · have hk' : k < ms.length := by have := HLN.out; omega
          obtain ⟨b, o, e, hBb, hc⟩ := HL.out.at_ (by omega)
          obtain ⟨p, hp⟩ : ∃ p, p = ms[k] := ⟨_, rfl⟩
          have hE := (hc k hk').alike (HB.out.block b hBb)
          rw [← hp] at hE
          obtain ⟨c0, c1, c2', c3, c4, c5, c6, c7, c8, c9, c10, c11⟩ := e12 hE
          have i0 : (0 : Int) ≤ (k : Int) := by omega
          have i1 : (k : Int) < (n2 : Int) := by omega
          obtain ⟨U, hU⟩ : ∃ U, U = (wr.alloc (.cells #[.string p.id, .int .i64 p.kind, .int .i64 p.party, .string p.act, .int .i64 p.other, .int .i64 p.amt, .int .i64 p.k.op, .string p.k.nm, .int .i64 p.k.day, .slice p.k.A p.k.ps.length p.k.cap, .int .i64 p.within, .string p.rep] 70)).alloc (.cells #[.string p.act] 9) := ⟨_, rfl⟩
          have hUb : Below wr.heap.size wr U := by rw [hU]; exact (below1 _ _).alloc (by simp) _
          have HUO : Hid (UniT.Own U w.heap.size (.slice (some ⟨g, 0, none⟩) n c) zs) := Lib.hid (own_on HO.out hUb)
          have HUE : Hid (UniT.Is U U.heap.size (some ⟨wr.heap.size + 1, 0, none⟩) [p.act.toList]) := Lib.hid (by
            have h4 := (UniT.Lq.new (wr.alloc (.cells #[.string p.id, .int .i64 p.kind, .int .i64 p.party, .string p.act, .int .i64 p.other, .int .i64 p.amt, .int .i64 p.k.op, .string p.k.nm, .int .i64 p.k.day, .slice p.k.A p.k.ps.length p.k.cap, .int .i64 p.within, .string p.rep] 70)) p.act.toList).is
            rw [← NdI.str_enc, ← hU, World.size_alloc] at h4
            exact h4)
          have HUB : Hid (Below w.heap.size w U) := Lib.hid (HB.out.trans (hUb.mono HB.out.size))
          have HUS : Hid (w.heap.size ≤ U.heap.size) := Lib.hid HUB.out.size
          have HZ2 : Hid (zs ++ [p.act.toList] = N0 ++ (ms.take (k + 1)).map fun m => m.act.toList) := Lib.hid (by rw [take_map_snoc _ hk', ← hp, HZ.out, List.append_assoc])
          have HOWN : Hid (∀ w1, U.grownBy w1 (Value.slice (some ⟨g, 0, none⟩) n c).ownBlock → Below w.heap.size w w1) := Lib.hid fun w1 hg => HUB.out.grown hg HUS.out (UniT.own_block HUO.out)
          have HUU := Lib.hid hU
          rw [e]
          clear hp hE hc hBb hU hUb e HB HO HZ
          go_wp2_with (at_builtin; (try rw [← HUU.out]); refine UniT.wp_app rfl _ _ rfl w.heap.size _ zs rfl HUO.out (some ⟨wr.heap.size + 1, 0, none⟩) 1 1 U.heap.size [p.act.toList] rfl rfl HUE.out (fun e => by cases e) (by omega) HUS.out ?_; intro a3 c3 w3 hown hg hat; refine Hid.out ?_)
          refine Lib.hid ?_
          obtain ⟨g3, rfl⟩ := ownT_some hown (by simp)
          have HO3 := Lib.hid hown
          have HB3 := Lib.hid (HOWN.out w3 hg)
          have HN3 : Hid (zs.length + 1 = (zs ++ [p.act.toList]).length) := Lib.hid (by simp)
          clear hown hg hat
          go_wp2_with fail
          go_roundw
          case rel => exact ⟨k + 1, g3, zs.length + 1, c3, zs ++ [p.act.toList], by omega, rfl, by go_num, HN3, HZ2, HO3, HB3⟩
          case measure => simp [intOf]; omega
        · have HZE : Hid (zs = N0 ++ ms.map fun m => m.act.toList) := Lib.hid (by rw [HZ.out, List.take_of_length_le (by have := HLN.out; omega)])
          have hle : n ≤ 5000 := by have := HN.out; omega
          have HSO := Lib.hid (sortT wr w.heap.size g n c zs HN.out hle HO.out)
          have HL1 : Hid ((srtT zs).length = zs.length) := Lib.hid (List.length_mergeSort _)
          have HGE : Hid (w.heap.size ≤ g) := Lib.hid (UniT.own_block HO.out g rfl)
          clear HZ HO
          go_wp2_with (go_at_call 55; refine HSO.out.mono ?_; rintro e w5 ⟨rfl, ho5, hg5⟩; refine Hid.out ?_)
          refine Lib.hid ?_
          have HB5 := Lib.hid (below_grown HB.out hg5 HB.out.size HGE.out)
          have HC5 := Lib.hid (compT w5 w.heap.size g n c (srtT zs) (by rw [HL1.out]; exact HN.out) hle ho5)
          clear ho5 hg5 HSO
          go_wp2_with (go_at_call 56; refine HC5.out.mono ?_; rintro e w6 ⟨m6, hm6, rfl, ho6, hg6⟩; have HM6 := Lib.hid hm6; have HO6 := Lib.hid ho6; have HG6 := Lib.hid hg6; clear hm6 ho6 hg6)
          go_ret
          refine ⟨g, m6, c, ?_, rfl, ?_, below_grown HB5.out HG6.out HB5.out.size HGE.out⟩
          · rw [← HPV.out, ← HZE.out]; exact HM6.out
          · rw [← HPV.out, ← HZE.out]; exact HO6.out

end Go.Proofs.YtomloodakabcbabGreat.Cl

namespace Go.Proofs.YtomloodakabcbabGreat.Cl
open Go.RowKit Go.Proofs.YtomloodakabcbabGreat.Cond Go.Proofs.YtomloodakabcbabGreat.Gx Go.Proofs.YtomloodakabcbabGreat.NdS
set_option linter.unusedVariables false
set_option linter.unusedSimpArgs false

theorem good_no {x : Ct} {k : Nat} (hk : k < x.ls.length) (h : numB (x.ls.take k) x.ls[k].id = true ∨ okV x.ss.length x.ls[k] = false ∨ okP x.ls k x.ls[k] = false) : x.good = false := by
  cases hg : x.good with
  | false => rfl
  | true =>
    have h1 := good_all hg k hk
    rw [okI_is hk] at h1
    simp only [Bool.and_eq_true, Bool.not_eq_true'] at h1
    rcases h with h | h | h
    · rw [h1.1.1] at h; cases h
    · rw [h1.1.2] at h; cases h
    · rw [h1.2] at h; cases h
theorem good_yes {x : Ct} (h1 : 1 ≤ x.ls.length) (h2 : x.ls.length ≤ 12) (h3 : (okN x.ss && (decide (2 ≤ x.ss.length) && decide (x.ss.length ≤ 4))) = true)
    (h4 : ∀ j, ∀ hj : j < x.ls.length, numB (x.ls.take j) x.ls[j].id = false ∧ okV x.ss.length x.ls[j] = true) (h5 : ∀ j, ∀ hj : j < x.ls.length, okP x.ls j x.ls[j] = true) : x.good = decide ((Cl.names x.ls).length ≤ 16) := by
  unfold Ct.good
  rw [decide_eq_true h1, decide_eq_true h2, h3, okAll_yes (fun i hi => by rw [okI_is hi, (h4 i hi).1, (h4 i hi).2, h5 i hi]; rfl)]
  rfl

/-- A look-up of an Id at the operation. -/
theorem wp_look {u : World} {ops : Array Oper} {rest : List Oper} {o : Oper} {a : Act} {Q : Exit → Act → World → Prop} (hgd : o.guard = none) (m x : Operand) (ho : o.op = Op.lookup 47 m x true)
    (b n : Nat) (ls : List L) (hm : a.eval m = .map (some b)) (id : ByteArray) (hx : a.eval x = .string id) (hn : Nums u b n ls) (hs : id.size ≤ maxLen)
    (hK : wpList Tryz.prog ops Q rest (a.put o.dst (.tuple #[.int .i64 (numI ls id), .bool (numB ls id)])) u) : wpList Tryz.prog ops Q (o :: rest) a u := by
  refine wpList_plain hgd fun K' hK' => ?_
  have hrun := run_look hn hs
  unfold Oper.wp
  simp [execOp, ho, hm, hx, hrun, Result.andThen]
  exact hK' _ _ hK
/-- A store of a new Id at the operation. -/
theorem wp_store {u : World} {ops : Array Oper} {rest : List Oper} {o : Oper} {a : Act} {Q : Exit → Act → World → Prop} (hgd : o.guard = none) (m y v : Operand) (ho : o.op = Op.mapUpdate 47 m y v)
    (b n : Nat) (ls : List L) (hm : a.eval m = .map (some b)) (x : L) (hy : a.eval y = .string x.id) (k : Nat) (hk : k = ls.length) (hv : a.eval v = .int .i64 (k : Int)) (hn : Nums u b n ls) (hs : x.id.size ≤ maxLen) (hl : n ≤ 5000) (hl2 : ls.length ≤ 5000) (hx : numB ls x.id = false)
    (hK : ∀ w', Nums w' b (n + 1) (ls ++ [x]) → u.grownBy w' (some b) → wpList Tryz.prog ops Q rest (a.put o.dst undef) w') : wpList Tryz.prog ops Q (o :: rest) a u := by
  refine wpList_plain hgd fun K' hK' => ?_
  subst hk
  obtain ⟨w', hrun, h1, h2⟩ := run_store (x := x) hn hs (by unfold maxLen; omega) hl2 (of_decide_eq_false hx)
  unfold Oper.wp
  simp [execOp, ho, hm, hy, hv, hrun, Result.andThen]
  exact hK' _ _ (hK w' h1 h2)

/-- The boxes of checkContract behind k clauses. -/
structure Lp (w wr : World) (x : Kt) (k : Nat) : Prop where
  bel : Below w.heap.size w wr
  b0 : Bk w.heap.size wr [.slice x.A1 x.n1 x.c1, .slice x.A2 x.n2 x.c2]
  b1 : Bk (w.heap.size + 1) wr [.slice none 0 0, .slice none 0 0, .map none, .slice none 0 0]
  b3 : Bk (w.heap.size + 1 + 1 + 1) wr [.slice x.A1 x.n1 x.c1, .slice x.A2 x.n2 x.c2, .map (some (w.heap.size + 1 + 1)), .slice none 0 0]
  nm : Nums wr (w.heap.size + 1 + 1) k (x.ct.ls.take k)
theorem Lp.on {w wr v : World} {x : Kt} {k : Nat} (h : Lp w wr x k) (hb : Below wr.heap.size wr v) : Lp w v x k :=
  ⟨h.bel.trans (hb.mono h.bel.size), h.b0.on hb, h.b1.on hb, h.b3.on hb, h.nm.on hb⟩
theorem Lp.stored {w u w3 : World} {x : Kt} {k : Nat} {ls : List L} (h : Lp w u x k) (hn : Nums w3 (w.heap.size + 1 + 1) (k + 1) ls) (hl : ls = x.ct.ls.take (k + 1)) (hg : u.grownBy w3 (some (w.heap.size + 1 + 1))) : Lp w w3 x (k + 1) :=
  ⟨h.bel.grown hg h.bel.size (fun j e => by injection e with e; omega), h.b0.kept hg (fun e => by injection e; omega), h.b1.kept hg (fun e => by injection e; omega), h.b3.kept hg (fun e => by injection e; omega), by rw [← hl]; exact hn⟩
theorem lp_start (w : World) (x : Kt) : Lp w ((((w.alloc (.cells #[.slice x.A1 x.n1 x.c1, .slice x.A2 x.n2 x.c2] 32)).alloc (.cells #[.slice none 0 0, .slice none 0 0, .map none, .slice none 0 0] 49)).alloc (.map #[] 0)).alloc (.cells #[.slice x.A1 x.n1 x.c1, .slice x.A2 x.n2 x.c2, .map (some (w.heap.size + 1 + 1)), .slice none 0 0] 49)) x 0 := by
  refine ⟨(((below1 _ _).alloc (by simp) _).alloc (by simp; omega) _).alloc (by simp; omega) _, (((Bk.new w #[.slice x.A1 x.n1 x.c1, .slice x.A2 x.n2 x.c2] _).alloc _).alloc _).alloc _, ?_, ?_, ?_⟩
  · have := ((Bk.new (w.alloc (.cells #[.slice x.A1 x.n1 x.c1, .slice x.A2 x.n2 x.c2] 32)) #[.slice none 0 0, .slice none 0 0, .map none, .slice none 0 0] 49).alloc (.map #[] 0)).alloc (.cells #[.slice x.A1 x.n1 x.c1, .slice x.A2 x.n2 x.c2, .map (some (w.heap.size + 1 + 1)), .slice none 0 0] 49)
    rw [World.size_alloc] at this
    exact this
  · have := Bk.new (((w.alloc (.cells #[.slice x.A1 x.n1 x.c1, .slice x.A2 x.n2 x.c2] 32)).alloc (.cells #[.slice none 0 0, .slice none 0 0, .map none, .slice none 0 0] 49)).alloc (.map #[] 0)) #[.slice x.A1 x.n1 x.c1, .slice x.A2 x.n2 x.c2, .map (some (w.heap.size + 1 + 1)), .slice none 0 0] 49
    rw [World.size_alloc, World.size_alloc, World.size_alloc] at this
    exact this
  · have := (nums_new ((w.alloc (.cells #[.slice x.A1 x.n1 x.c1, .slice x.A2 x.n2 x.c2] 32)).alloc (.cells #[.slice none 0 0, .slice none 0 0, .map none, .slice none 0 0] 49))).on (below1 _ (.cells #[.slice x.A1 x.n1 x.c1, .slice x.A2 x.n2 x.c2, .map (some (w.heap.size + 1 + 1)), .slice none 0 0] 49))
    rw [World.size_alloc, World.size_alloc] at this
    simpa using this

theorem nums_kept {w w' : World} {b n : Nat} {ls : List L} {row : Option Nat} (h : Nums w b n ls) (hg : w.grownBy w' row) (hne : some b ≠ row) : Nums w' b n ls := let ⟨D, h1, h2⟩ := h; ⟨D, h1.kept hg hne, h2⟩
/-- What checkContract makes of a valid contract. -/
structure CkY (x : Kt) (w w' : World) (mb g n c : Nat) : Prop where
  good : x.ct.good = true
  ge : w.heap.size ≤ mb
  ne : mb ≠ g
  nums : Nums w' mb 12 x.ct.ls
  len : n = (Cl.names x.ct.ls).length
  own : UniT.Own w' w.heap.size (.slice (some ⟨g, 0, none⟩) n c) (Cl.names x.ct.ls)
  bel : Below w.heap.size w w'
def CkAns (x : Kt) (w : World) (e : Ending) (w' : World) : Prop :=
  (x.ct.good = false ∧ Below w.heap.size w w' ∧ ∃ a1 l1 k1 a2 l2 k2 mo a3 l3 k3, e = .returned (.tuple #[.agg #[.slice a1 l1 k1, .slice a2 l2 k2, .map mo, .slice a3 l3 k3], .bool false])) ∨
  ∃ mb g n c, e = .returned (.tuple #[.agg #[.slice x.A1 x.n1 x.c1, .slice x.A2 x.n2 x.c2, .map (some mb), .slice (some ⟨g, 0, none⟩) n c], .bool true]) ∧ CkY x w w' mb g n c

set_option maxRecDepth 100000 in
set_option maxHeartbeats 16000000 in
theorem checkContract (x : Kt) (w : World) (h : LiC w w.heap.size x) (hw : x.ct.wt ≤ 1048576) : Calls Tryz.prog 20 #[x.val] w (CkAns x w) := by
  obtain ⟨X, hX⟩ : ∃ X, X = (w.alloc (.cells #[.slice x.A1 x.n1 x.c1, .slice x.A2 x.n2 x.c2] 32)).alloc (.cells #[.slice none 0 0, .slice none 0 0, .map none, .slice none 0 0] 49) := ⟨_, rfl⟩
  have B0 : Below w.heap.size w X := by rw [hX]; exact (below1 _ _).alloc (by simp) _
  have Z0 : Hid (Bk (w.heap.size + 1) X [.slice none 0 0, .slice none 0 0, .map none, .slice none 0 0]) := Lib.hid (by
    rw [hX]
    have := Bk.new (w.alloc (.cells #[.slice x.A1 x.n1 x.c1, .slice x.A2 x.n2 x.c2] 32)) #[.slice none 0 0, .slice none 0 0, .map none, .slice none 0 0] 49
    rw [World.size_alloc] at this
    exact this)
  have hcm : x.n2 ≤ 9223372036854775807 := Nat.le_trans h.c.nc h.c.cm
  obtain ⟨t0, e0⟩ : ∃ t, t = (okN x.ss && (decide (2 ≤ x.ss.length) && decide (x.ss.length ≤ 4))) := ⟨_, rfl⟩
  have HPL : Hid (∀ v, Below w.heap.size w v → Calls Tryz.prog 35 #[.slice x.A1 x.n1 x.c1] v fun e w' => e = .returned (.bool t0) ∧ v = w') := Lib.hid fun v hv => isPartyList x.A1 x.n1 x.c1 x.ss v ((h.p.below hv).more hv.size) t0 e0
  have HLEN : Hid (x.n2 = x.ms.length ∧ x.ct.ls.length = x.n2 ∧ x.ct.ss.length = x.n1) := Lib.hid ⟨h.c.len, by rw [h.c.len]; simp [Kt.ct], by rw [h.p.len]; rfl⟩
  have HL := Lib.hid h
  have HT0 : Hid (t0 = (okN x.ct.ss && (decide (2 ≤ x.ct.ss.length) && decide (x.ct.ss.length ≤ 4)))) := Lib.hid e0
  have HWT : Hid (∀ m ∈ x.ms, m.cl.wt ≤ 1048576) := Lib.hid fun m hm => Nat.le_trans (wtL_mem (List.mem_map.2 ⟨m, hm, rfl⟩)) (by simp only [Ct.wt, Kt.ct] at hw; omega)
  have HXX := Lib.hid (lp_start w x)
  have HGD : Hid (x.ct.good = true → t0 = true ∧ 1 ≤ x.n2 ∧ x.n2 ≤ 12) := Lib.hid fun hg => by
    have h1 := good_len hg
    have h2 := HLEN.out
    have h3 : (okN x.ct.ss && (decide (2 ≤ x.ct.ss.length) && decide (x.ct.ss.length ≤ 4))) = true := by
      simp only [Ct.good, Bool.and_eq_true] at hg
      simp only [Bool.and_eq_true]
      exact hg.1.1.2
    exact ⟨by rw [e0]; exact h3, by omega, by omega⟩
  have HFA : Hid (x.ct.good = false → ∀ v, Below w.heap.size w v → CkAns x w (.returned (.tuple #[.agg #[.slice none 0 0, .slice none 0 0, .map none, .slice none 0 0], .bool false])) v) := Lib.hid fun hg v hv => .inl ⟨hg, hv, _, _, _, _, _, _, _, _, _, _, rfl⟩
  have hmm := @run_makeMap Tryz.prog
  have HB := Lib.hid B0
  have HX := Lib.hid hX
  clear h hw B0 hX e0
  go_enter Tryz.func20, Tryz.ntmps20
  by_cases hbad : t0 = false ∨ x.n2 < 1 ∨ 12 < x.n2
  · have HG : Hid (x.ct.good = false) := Lib.hid (by
      cases hg : x.ct.good with
      | false => rfl
      | true =>
        obtain ⟨h1, h2, h3⟩ := HGD.out hg
        rcases hbad with h | h | h
        · rw [h1] at h; cases h
        · omega
        · omega)
    have y0 := Z0.out.c 0 (by simp)
    have y1 := Z0.out.c 1 (by simp)
    have y2 := Z0.out.c 2 (by simp)
    have y3 := Z0.out.c 3 (by simp)
    have yf0 := Z0.out.fz 0
    have yf1 := Z0.out.fz 1
    have yf2 := Z0.out.fz 2
    have yf3 := Z0.out.fz 3
    simp only [List.getElem_cons_succ, List.getElem_cons_zero] at y0 y1 y2 y3
    rw [HX.out] at y0 y1 y2 y3 yf0 yf1 yf2 yf3
    have HBX : Hid (Below w.heap.size w ((w.alloc (.cells #[.slice x.A1 x.n1 x.c1, .slice x.A2 x.n2 x.c2] 32)).alloc (.cells #[.slice none 0 0, .slice none 0 0, .map none, .slice none 0 0] 49))) := Lib.hid (by rw [← HX.out]; exact HB.out)
    cases t0
    · clear hbad
      go_wp2_with (go_at_call 35; (try rw [← HX.out]); refine (HPL.out _ HB.out).mono ?_; rintro e w2 ⟨rfl, rfl⟩; (try rw [HX.out]))
      exact bodyPost_ret (v := .tuple #[.agg #[.slice none 0 0, .slice none 0 0, .map none, .slice none 0 0], .bool false]) (by simp [results, Tryz.results20, go_sem, y0, y1, y2, y3]) rfl (HFA.out HG.out _ HBX.out)
    by_cases h1 : x.n2 < 1
    · have g1 : (x.n2 : Int) < 1 := by omega
      clear hbad h1
      go_wp2_with (go_at_call 35; (try rw [← HX.out]); refine (HPL.out _ HB.out).mono ?_; rintro e w2 ⟨rfl, rfl⟩; (try rw [HX.out]))
      exact bodyPost_ret (v := .tuple #[.agg #[.slice none 0 0, .slice none 0 0, .map none, .slice none 0 0], .bool false]) (by simp [results, Tryz.results20, go_sem, y0, y1, y2, y3]) rfl (HFA.out HG.out _ HBX.out)
    · have g1 : ¬ ((x.n2 : Int) < 1) := by omega
      have g2 : (12 : Int) < (x.n2 : Int) := by
        rcases hbad with h | h | h
        · cases h
        · omega
        · omega
      clear hbad h1
      go_wp2_with (go_at_call 35; (try rw [← HX.out]); refine (HPL.out _ HB.out).mono ?_; rintro e w2 ⟨rfl, rfl⟩; (try rw [HX.out]))
      exact bodyPost_ret (v := .tuple #[.agg #[.slice none 0 0, .slice none 0 0, .map none, .slice none 0 0], .bool false]) (by simp [results, Tryz.results20, go_sem, y0, y1, y2, y3]) rfl (HFA.out HG.out _ HBX.out)
  have ht0 : t0 = true := by
    cases t0
    · exact absurd (.inl rfl) hbad
    · rfl
  have h1 : ¬ x.n2 < 1 := fun h => hbad (.inr (.inl h))
  have h12 : x.n2 ≤ 12 := Nat.not_lt.1 fun h => hbad (.inr (.inr h))
  subst ht0
  have g1 : ¬ ((x.n2 : Int) < 1) := by omega
  have g2 : ¬ ((12 : Int) < (x.n2 : Int)) := by omega
  have HN1 : Hid (1 ≤ x.n2) := Lib.hid (by omega)
  clear hbad h1 HGD
  go_wp2_with (go_at_call 35; (try rw [← HX.out]); refine (HPL.out _ HB.out).mono ?_; rintro e w2 ⟨rfl, rfl⟩; (try rw [HX.out]))
  go_loopw [33] (fun i wr => ∃ k : Nat, k ≤ x.n2 ∧ i = .int .i64 k ∧ Hid (Lp w wr x k) ∧ Hid (∀ j, ∀ hj : j < x.ct.ls.length, j < k → numB (x.ct.ls.take j) x.ct.ls[j].id = false ∧ okV x.ct.ss.length x.ct.ls[j] = true)) (fun i _ => x.n2 - (intOf i).toNat)
  case atStart => exact ⟨0, Nat.zero_le _, rfl, HXX, Lib.hid fun j _ h => by omega⟩
  case round =>
    clear HXX HX HB
    obtain ⟨k, hk, rfl, HLP, HOK⟩ := hrel
    by_cases hlt : k < x.n2
    · have hk' : k < x.ms.length := by have := HLEN.out; omega
      have hkl : k < x.ct.ls.length := by have := HLEN.out; omega
      obtain ⟨b, o, e, hBb, hc⟩ := HL.out.c.at_ (by omega)
      obtain ⟨p, hp⟩ : ∃ p, p = x.ms[k] := ⟨_, rfl⟩
      have HCP : Hid (CAt x k p) := Lib.hid ⟨hk', hp⟩
      have HPC : Hid (x.ct.ls[k] = p.cl) := Lib.hid (HCP.out.cl.2)
      have hE := (hc k hk').alike (HLP.out.bel.block b hBb)
      rw [← hp] at hE
      obtain ⟨c0, c1, c2', c3, c4, c5, c6, c7, c8, c9, c10, c11⟩ := e12 hE
      have i0 : (0 : Int) ≤ (k : Int) := by omega
      have i1 : (k : Int) < (x.n2 : Int) := by omega
      have p1 := HLP.out.b0.c 1 (by simp)
      simp only [List.getElem_cons_succ, List.getElem_cons_zero] at p1
      obtain ⟨U, hU⟩ : ∃ U, U = wr.alloc (.cells #[.string p.id, .int .i64 p.kind, .int .i64 p.party, .string p.act, .int .i64 p.other, .int .i64 p.amt, .int .i64 p.k.op, .string p.k.nm, .int .i64 p.k.day, .slice p.k.A p.k.ps.length p.k.cap, .int .i64 p.within, .string p.rep] 70) := ⟨_, rfl⟩
      have hUb : Below wr.heap.size wr U := by rw [hU]; exact below1 _ _
      have LU := Lib.hid (HLP.out.on hUb)
      have HLU := Lib.hid (HL.out.below LU.out.bel)
      have CU : Hid (Bk wr.heap.size U p.cells) := Lib.hid (by rw [hU]; exact Bk.new _ _ _)
      have HSI := Lib.hid (HL.out.clause HCP.out).si
      have HVA : Hid (∀ ok, ok = okV x.n1 p.cl → Calls Tryz.prog 36 #[p.val, .int .i64 (x.n1 : Int)] U fun e w' => e = .returned (.bool ok) ∧ Below U.heap.size U w') := Lib.hid fun ok hok => isValidAlone x.n1 p U ((HLU.out.clause HCP.out).more LU.out.bel.size) (HWT.out p (by rw [hp]; exact List.getElem_mem hk')) ok hok
      have q0 := LU.out.b0.c 0 (by simp)
      have q3 := LU.out.b3.c 2 (by simp)
      have y0 := LU.out.b1.c 0 (by simp)
      have y1 := LU.out.b1.c 1 (by simp)
      have y2 := LU.out.b1.c 2 (by simp)
      have y3 := LU.out.b1.c 3 (by simp)
      have yf0 := LU.out.b1.fz 0
      have yf1 := LU.out.b1.fz 1
      have yf2 := LU.out.b1.fz 2
      have yf3 := LU.out.b1.fz 3
      obtain ⟨d0, d1, d2, d3, d4, d5, d6, d7, d8, d9, d10, d11⟩ := b12 CU.out
      simp only [List.getElem_cons_succ, List.getElem_cons_zero] at q0 q3 y0 y1 y2 y3
      rw [hU] at q0 q3 y0 y1 y2 y3 yf0 yf1 yf2 yf3 d0 d1 d2 d3 d4 d5 d6 d7 d8 d9 d10 d11
      have HUU := Lib.hid hU
      rw [e] at p1 ⊢
      obtain ⟨t, ht⟩ : ∃ t, t = numB (x.ct.ls.take k) p.id := ⟨_, rfl⟩
      have HT := Lib.hid ht
      clear hp hE hc hBb hU hUb e ht
      cases t
      rotate_left
      · have HG : Hid (x.ct.good = false) := Lib.hid (good_no hkl (.inl (by rw [HPC.out]; exact HT.out.symm)))
        go_wp2_with (at_lookup; (try rw [← HUU.out]); refine wp_look rfl _ _ rfl (w.heap.size + 1 + 1) k (x.ct.ls.take k) rfl p.id rfl LU.out.nm HSI.out ?_; (try rw [← HT.out]); refine Hid.out ?_)
        refine Lib.hid ?_
        clear y0 y1 y2 y3 yf0 yf1 yf2 yf3 q0 q3 d0 d1 d2 d3 d4 d5 d6 d7 d8 d9 d10 d11 c0 c1 c2' c3 c4 c5 c6 c7 c8 c9 c10 c11 p1
        have y0 := LU.out.b1.c 0 (by simp)
        have y1 := LU.out.b1.c 1 (by simp)
        have y2 := LU.out.b1.c 2 (by simp)
        have y3 := LU.out.b1.c 3 (by simp)
        have yf0 := LU.out.b1.fz 0
        have yf1 := LU.out.b1.fz 1
        have yf2 := LU.out.b1.fz 2
        have yf3 := LU.out.b1.fz 3
        simp only [List.getElem_cons_succ, List.getElem_cons_zero] at y0 y1 y2 y3
        have HE1 := Lib.hid (LU.out.b1.put (us := [.slice none 0 0, .slice none 0 0, .map none, .slice none 0 0]) rfl)
        have HE2 := Lib.hid (putL_below (B := w.heap.size) (b := w.heap.size + 1) (by omega) [.slice none 0 0, .slice none 0 0, .map none, .slice none 0 0] 0 LU.out.bel)
        go_wp2_with fail
        have t0 := HE1.out.c 0 (by simp)
        have t1 := HE1.out.c 1 (by simp)
        have t2 := HE1.out.c 2 (by simp)
        have t3 := HE1.out.c 3 (by simp)
        have hbl := HE2.out
        simp only [putL, Nat.reduceAdd, Nat.zero_add, List.getElem_cons_succ, List.getElem_cons_zero] at t0 t1 t2 t3 hbl
        exact bodyPost_ret (v := .tuple #[.agg #[.slice none 0 0, .slice none 0 0, .map none, .slice none 0 0], .bool false]) (by simp [results, Tryz.results20, go_sem, t0, t1, t2, t3]) rfl (HFA.out HG.out _ hbl)
      · obtain ⟨v, hv⟩ : ∃ v, v = okV x.n1 p.cl := ⟨_, rfl⟩
        have HV := Lib.hid (HVA.out v hv)
        have HVV : Hid (v = okV x.ct.ss.length x.ct.ls[k]) := Lib.hid (by rw [hv, HPC.out, HLEN.out.2.2])
        go_wp2_with (at_lookup; (try rw [← HUU.out]); refine wp_look rfl _ _ rfl (w.heap.size + 1 + 1) k (x.ct.ls.take k) rfl p.id rfl LU.out.nm HSI.out ?_; (try rw [← HT.out]); refine Hid.out ?_)
        refine Lib.hid ?_
        clear hv HVA y0 y1 y2 y3 yf0 yf1 yf2 yf3 q0 q3 d0 d1 d2 d3 d4 d5 d6 d7 d8 d9 d10 d11 c0 c1 c2' c3 c4 c5 c6 c7 c8 c9 c10 c11 p1
        obtain ⟨d0, d1, d2, d3, d4, d5, d6, d7, d8, d9, d10, d11⟩ := b12 CU.out
        have q0 := LU.out.b0.c 0 (by simp)
        simp only [List.getElem_cons_zero] at q0
        cases v
        · have HG : Hid (x.ct.good = false) := Lib.hid (good_no hkl (.inr (.inl HVV.out.symm)))
          go_wp2_with (go_at_call 36; refine HV.out.mono ?_; rintro e U2 ⟨rfl, hb2⟩; refine Hid.out ?_)
          refine Lib.hid ?_
          have L2 := Lib.hid (LU.out.on hb2)
          clear hb2 d0 d1 d2 d3 d4 d5 d6 d7 d8 d9 d10 d11 q0
          have y0 := L2.out.b1.c 0 (by simp)
          have y1 := L2.out.b1.c 1 (by simp)
          have y2 := L2.out.b1.c 2 (by simp)
          have y3 := L2.out.b1.c 3 (by simp)
          have yf0 := L2.out.b1.fz 0
          have yf1 := L2.out.b1.fz 1
          have yf2 := L2.out.b1.fz 2
          have yf3 := L2.out.b1.fz 3
          simp only [List.getElem_cons_succ, List.getElem_cons_zero] at y0 y1 y2 y3
          have HE1 := Lib.hid (L2.out.b1.put (us := [.slice none 0 0, .slice none 0 0, .map none, .slice none 0 0]) rfl)
          have HE2 := Lib.hid (putL_below (B := w.heap.size) (b := w.heap.size + 1) (by omega) [.slice none 0 0, .slice none 0 0, .map none, .slice none 0 0] 0 L2.out.bel)
          go_wp2_with fail
          have t0 := HE1.out.c 0 (by simp)
          have t1 := HE1.out.c 1 (by simp)
          have t2 := HE1.out.c 2 (by simp)
          have t3 := HE1.out.c 3 (by simp)
          have hbl := HE2.out
          simp only [putL, Nat.reduceAdd, Nat.zero_add, List.getElem_cons_succ, List.getElem_cons_zero] at t0 t1 t2 t3 hbl
          exact bodyPost_ret (v := .tuple #[.agg #[.slice none 0 0, .slice none 0 0, .map none, .slice none 0 0], .bool false]) (by simp [results, Tryz.results20, go_sem, t0, t1, t2, t3]) rfl (HFA.out HG.out _ hbl)
        · go_wp2_with (go_at_call 36; refine HV.out.mono ?_; rintro e U2 ⟨rfl, hb2⟩; refine Hid.out ?_)
          refine Lib.hid ?_
          have L2 := Lib.hid (LU.out.on hb2)
          have C2 := Lib.hid (CU.out.on hb2)
          clear hb2 d0 d1 d2 d3 d4 d5 d6 d7 d8 d9 d10 d11 q0
          have d0 := (b12 C2.out).1
          have q3 := L2.out.b3.c 2 (by simp)
          simp only [List.getElem_cons_succ, List.getElem_cons_zero] at q3
          have HTL : Hid ((x.ct.ls.take k).length = k) := Lib.hid (by rw [List.length_take]; omega)
          have HTS : Hid (x.ct.ls.take k ++ [p.cl] = x.ct.ls.take (k + 1)) := Lib.hid (by rw [← HPC.out]; exact take_snoc hkl)
          have HOK2 : Hid (∀ j, ∀ hj : j < x.ct.ls.length, j < k + 1 → numB (x.ct.ls.take j) x.ct.ls[j].id = false ∧ okV x.ct.ss.length x.ct.ls[j] = true) := Lib.hid fun j hj hjk => by
            by_cases e : j = k
            · subst e; exact ⟨by rw [HPC.out]; exact HT.out.symm, HVV.out.symm⟩
            · exact HOK.out j hj (by omega)
          go_wp2_with (at_mapUpdate; refine wp_store rfl _ _ _ rfl (w.heap.size + 1 + 1) k (x.ct.ls.take k) rfl p.cl rfl k HTL.out.symm rfl L2.out.nm HSI.out (by omega) (by rw [HTL.out]; omega) HT.out.symm ?_; intro w3 hn3 hg3; refine Hid.out ?_)
          refine Lib.hid ?_
          have L3 := Lib.hid (L2.out.stored hn3 HTS.out hg3)
          clear hn3 hg3 d0 q3
          go_wp2_with fail
          go_roundw
          case rel => exact ⟨k + 1, by omega, by go_num, L3, HOK2⟩
          case measure => simp [intOf]; omega
    · have hkn : k = x.n2 := by omega
      subst hkn
      have HNM : Hid (x.ct.ls.take x.n2 = x.ct.ls) := Lib.hid (List.take_of_length_le (by have := HLEN.out; omega))
      have HOKA : Hid (∀ j, ∀ hj : j < x.ct.ls.length, numB (x.ct.ls.take j) x.ct.ls[j].id = false ∧ okV x.ct.ss.length x.ct.ls[j] = true) := Lib.hid fun j hj => HOK.out j hj (by have := HLEN.out; omega)
      clear HOK
      have p1 := HLP.out.b0.c 1 (by simp)
      simp only [List.getElem_cons_succ, List.getElem_cons_zero] at p1
      go_wp2_with fail
      go_loopw [65] (fun i wr => ∃ k : Nat, k ≤ x.n2 ∧ i = .int .i64 k ∧ Hid (Lp w wr x x.n2) ∧ Hid (∀ j, ∀ hj : j < x.ct.ls.length, j < k → okP x.ct.ls j x.ct.ls[j] = true)) (fun i _ => x.n2 - (intOf i).toNat)
      case atStart => exact ⟨0, Nat.zero_le _, rfl, HLP, Lib.hid fun j _ h => by omega⟩
      case round =>
        clear HLP p1
        obtain ⟨k, hk, rfl, HLP, HOK⟩ := hrel
        by_cases hlt : k < x.n2
        · have hk' : k < x.ms.length := by have := HLEN.out; omega
          have hkl : k < x.ct.ls.length := by have := HLEN.out; omega
          obtain ⟨p, hp⟩ : ∃ p, p = x.ms[k] := ⟨_, rfl⟩
          have HCP : Hid (CAt x k p) := Lib.hid ⟨hk', hp⟩
          have HPC : Hid (x.ct.ls[k] = p.cl) := Lib.hid (HCP.out.cl.2)
          have i0 : (0 : Int) ≤ (k : Int) := by omega
          have i1 : (k : Int) < (x.n2 : Int) := by omega
          obtain ⟨v, hv⟩ : ∃ v, v = okP x.ct.ls k p.cl := ⟨_, rfl⟩
          have HV := Lib.hid (hasValidRepair x (w.heap.size + 1 + 1) none 0 0 k p wr ((HL.out.below HLP.out.bel).more HLP.out.bel.size) HCP.out ((by have := HLP.out.nm; rw [HNM.out] at this; exact this.more h12)) v hv)
          have HVV : Hid (v = okP x.ct.ls k x.ct.ls[k]) := Lib.hid (by rw [hv, HPC.out])
          have q0 := HLP.out.b3.c 0 (by simp)
          have q1 := HLP.out.b3.c 1 (by simp)
          have q2 := HLP.out.b3.c 2 (by simp)
          have q3 := HLP.out.b3.c 3 (by simp)
          simp only [List.getElem_cons_succ, List.getElem_cons_zero] at q0 q1 q2 q3
          clear hp hv
          cases v
          · have HG : Hid (x.ct.good = false) := Lib.hid (good_no hkl (.inr (.inr HVV.out.symm)))
            go_wp2_with (go_at_call 37; refine HV.out.mono ?_; rintro e U2 ⟨rfl, hb2⟩; refine Hid.out ?_)
            refine Lib.hid ?_
            have L2 := Lib.hid (HLP.out.on hb2)
            clear hb2 q0 q1 q2 q3
            have y0 := L2.out.b1.c 0 (by simp)
            have y1 := L2.out.b1.c 1 (by simp)
            have y2 := L2.out.b1.c 2 (by simp)
            have y3 := L2.out.b1.c 3 (by simp)
            have yf0 := L2.out.b1.fz 0
            have yf1 := L2.out.b1.fz 1
            have yf2 := L2.out.b1.fz 2
            have yf3 := L2.out.b1.fz 3
            simp only [List.getElem_cons_succ, List.getElem_cons_zero] at y0 y1 y2 y3
            have HE1 := Lib.hid (L2.out.b1.put (us := [.slice none 0 0, .slice none 0 0, .map none, .slice none 0 0]) rfl)
            have HE2 := Lib.hid (putL_below (B := w.heap.size) (b := w.heap.size + 1) (by omega) [.slice none 0 0, .slice none 0 0, .map none, .slice none 0 0] 0 L2.out.bel)
            go_wp2_with fail
            have t0 := HE1.out.c 0 (by simp)
            have t1 := HE1.out.c 1 (by simp)
            have t2 := HE1.out.c 2 (by simp)
            have t3 := HE1.out.c 3 (by simp)
            have hbl := HE2.out
            simp only [putL, Nat.reduceAdd, Nat.zero_add, List.getElem_cons_succ, List.getElem_cons_zero] at t0 t1 t2 t3 hbl
            exact bodyPost_ret (v := .tuple #[.agg #[.slice none 0 0, .slice none 0 0, .map none, .slice none 0 0], .bool false]) (by simp [results, Tryz.results20, go_sem, t0, t1, t2, t3]) rfl (HFA.out HG.out _ hbl)
          · have HOK2 : Hid (∀ j, ∀ hj : j < x.ct.ls.length, j < k + 1 → okP x.ct.ls j x.ct.ls[j] = true) := Lib.hid fun j hj hjk => by
              by_cases e : j = k
              · subst e; exact HVV.out.symm
              · exact HOK.out j hj (by omega)
            go_wp2_with (go_at_call 37; refine HV.out.mono ?_; rintro e U2 ⟨rfl, hb2⟩; refine Hid.out ?_)
            refine Lib.hid ?_
            have L2 := Lib.hid (HLP.out.on hb2)
            clear hb2 q0 q1 q2 q3
            go_wp2_with fail
            go_roundw
            case rel => exact ⟨k + 1, by omega, by go_num, L2, HOK2⟩
            case measure => simp [intOf]; omega
        · have HOKP : Hid (∀ j, ∀ hj : j < x.ct.ls.length, okP x.ct.ls j x.ct.ls[j] = true) := Lib.hid fun j hj => HOK.out j hj (by have := HLEN.out; omega)
          have HGY : Hid (x.ct.good = decide ((Cl.names x.ct.ls).length ≤ 16)) := Lib.hid (good_yes (by have := HLEN.out; have := HN1.out; omega) (by have := HLEN.out; omega) HT0.out.symm HOKA.out HOKP.out)
          have HNO := Lib.hid (namesOf x.A2 x.n2 x.c2 x.ms wr (((HL.out.c.below HLP.out.bel).more HLP.out.bel.size)) h12 (fun m hm => by
            obtain ⟨j, hj, rfl⟩ := List.getElem_of_mem hm
            have h1 := (HOKA.out j (by simpa [Kt.ct] using hj)).2
            obtain ⟨h2, h3⟩ := ct_get hj
            rw [h3] at h1
            simp only [okV, okC, Bool.and_eq_true] at h1
            exact h1.1.1.2))
          have p1 := HLP.out.b0.c 1 (by simp)
          simp only [List.getElem_cons_succ, List.getElem_cons_zero] at p1
          have HMS : Hid (x.ms.map M.cl = x.ct.ls) := Lib.hid rfl
          rw [HMS.out] at HNO
          go_wp2_with (go_at_call 38; refine HNO.out.mono ?_; rintro e w5 ⟨g, n, c, hn, rfl, hown, hb5⟩; have HN := Lib.hid hn; have HO := Lib.hid hown; clear hn hown; refine Hid.out ?_)
          refine Lib.hid ?_
          have L5 := Lib.hid (HLP.out.on hb5)
          have HSG : Hid (w.heap.size + 1 + 1 + 1 < wr.heap.size) := Lib.hid HLP.out.b3.lt
          have HGG : Hid (wr.heap.size ≤ g) := Lib.hid (UniT.own_block HO.out g rfl)
          clear hb5 p1 HNO
          have q0 := L5.out.b3.c 0 (by simp)
          have q1 := L5.out.b3.c 1 (by simp)
          have q2 := L5.out.b3.c 2 (by simp)
          have q3 := L5.out.b3.c 3 (by simp)
          have qf3 := L5.out.b3.fz 3
          have y0 := L5.out.b1.c 0 (by simp)
          have y1 := L5.out.b1.c 1 (by simp)
          have y2 := L5.out.b1.c 2 (by simp)
          have y3 := L5.out.b1.c 3 (by simp)
          have yf0 := L5.out.b1.fz 0
          have yf1 := L5.out.b1.fz 1
          have yf2 := L5.out.b1.fz 2
          have yf3 := L5.out.b1.fz 3
          simp only [List.getElem_cons_succ, List.getElem_cons_zero] at q0 q1 q2 q3 y0 y1 y2 y3
          have HP1 := Lib.hid (L5.out.b1.alike (vs := [.slice none 0 0, .slice none 0 0, .map none, .slice none 0 0]) (w' := putL w5 (w.heap.size + 1 + 1 + 1) 3 [.slice (some ⟨g, 0, none⟩) n c]) (putL_block (by omega) _ _ _))
          have HP2 := Lib.hid (HP1.out.put (us := [.slice x.A1 x.n1 x.c1, .slice x.A2 x.n2 x.c2, .map (some (w.heap.size + 1 + 1)), .slice (some ⟨g, 0, none⟩) n c]) rfl)
          have HP3 : Hid (Below w.heap.size w (putL (putL w5 (w.heap.size + 1 + 1 + 1) 3 [.slice (some ⟨g, 0, none⟩) n c]) (w.heap.size + 1) 0 [.slice x.A1 x.n1 x.c1, .slice x.A2 x.n2 x.c2, .map (some (w.heap.size + 1 + 1)), .slice (some ⟨g, 0, none⟩) n c])) := Lib.hid (putL_below (by omega) _ _ (putL_below (by omega) _ _ L5.out.bel))
          have HP4 : Hid (Nums (putL (putL w5 (w.heap.size + 1 + 1 + 1) 3 [.slice (some ⟨g, 0, none⟩) n c]) (w.heap.size + 1) 0 [.slice x.A1 x.n1 x.c1, .slice x.A2 x.n2 x.c2, .map (some (w.heap.size + 1 + 1)), .slice (some ⟨g, 0, none⟩) n c]) (w.heap.size + 1 + 1) 12 x.ct.ls) := Lib.hid (by
            have h1 := L5.out.nm
            rw [HNM.out] at h1
            exact (nums_kept (nums_kept h1 (putL_grown _ _ _ _) (by simp)) (putL_grown _ _ _ _) (by simp)).more h12)
          have HP5 : Hid (UniT.Own (putL (putL w5 (w.heap.size + 1 + 1 + 1) 3 [.slice (some ⟨g, 0, none⟩) n c]) (w.heap.size + 1) 0 [.slice x.A1 x.n1 x.c1, .slice x.A2 x.n2 x.c2, .map (some (w.heap.size + 1 + 1)), .slice (some ⟨g, 0, none⟩) n c]) w.heap.size (.slice (some ⟨g, 0, none⟩) n c) (Cl.names x.ct.ls)) := Lib.hid (by
            have hs := HSG.out
            have hg := HGG.out
            have h1 := World.ownsRow.kept HO.out (putL_grown w5 (w.heap.size + 1 + 1 + 1) 3 [.slice (some ⟨g, 0, none⟩) n c]) (by simp [Value.ownBlock]; omega)
            have h2 := World.ownsRow.kept h1 (putL_grown _ (w.heap.size + 1) 0 [.slice x.A1 x.n1 x.c1, .slice x.A2 x.n2 x.c2, .map (some (w.heap.size + 1 + 1)), .slice (some ⟨g, 0, none⟩) n c]) (by simp [Value.ownBlock]; omega)
            rcases h2.2 with h3 | ⟨g', cap, cur, hv, hge, r⟩
            · exact ⟨h2.1, .inl h3⟩
            · exact ⟨h2.1, .inr ⟨g', cap, cur, hv, by omega, r⟩⟩)
          by_cases h16 : n ≤ 16
          · have g16 : (n : Int) ≤ 16 := by omega
            have HFIN : Hid (CkAns x w (.returned (.tuple #[.agg #[.slice x.A1 x.n1 x.c1, .slice x.A2 x.n2 x.c2, .map (some (w.heap.size + 1 + 1)), .slice (some ⟨g, 0, none⟩) n c], .bool true])) (putL (putL w5 (w.heap.size + 1 + 1 + 1) 3 [.slice (some ⟨g, 0, none⟩) n c]) (w.heap.size + 1) 0 [.slice x.A1 x.n1 x.c1, .slice x.A2 x.n2 x.c2, .map (some (w.heap.size + 1 + 1)), .slice (some ⟨g, 0, none⟩) n c]).drew) := Lib.hid (.inr ⟨_, g, n, c, rfl, by rw [HGY.out, ← HN.out]; exact decide_eq_true h16, by omega, by have := HSG.out; have := HGG.out; omega, HP4.out.drew, HN.out, HP5.out, HP3.out.drew⟩)
            clear h16 HP3 HP4 HP5 HGY
            go_wp2_with fail
            go_region
            all_goals
              have t0 := HP2.out.drew.c 0 (by simp)
              have t1 := HP2.out.drew.c 1 (by simp)
              have t2 := HP2.out.drew.c 2 (by simp)
              have t3 := HP2.out.drew.c 3 (by simp)
              have hf := HFIN.out
              simp only [putL, Nat.reduceAdd, Nat.zero_add, List.getElem_cons_succ, List.getElem_cons_zero] at t0 t1 t2 t3 hf
              go_wp2_with fail
              exact bodyPost_ret (v := .tuple #[.agg #[.slice x.A1 x.n1 x.c1, .slice x.A2 x.n2 x.c2, .map (some (w.heap.size + 1 + 1)), .slice (some ⟨g, 0, none⟩) n c], .bool true]) (by simp [results, Tryz.results20, go_sem, t0, t1, t2, t3]; first | done | omega) rfl hf
          · have g16 : ¬ ((n : Int) ≤ 16) := by omega
            have HFIN : Hid (CkAns x w (.returned (.tuple #[.agg #[.slice x.A1 x.n1 x.c1, .slice x.A2 x.n2 x.c2, .map (some (w.heap.size + 1 + 1)), .slice (some ⟨g, 0, none⟩) n c], .bool false])) (putL (putL w5 (w.heap.size + 1 + 1 + 1) 3 [.slice (some ⟨g, 0, none⟩) n c]) (w.heap.size + 1) 0 [.slice x.A1 x.n1 x.c1, .slice x.A2 x.n2 x.c2, .map (some (w.heap.size + 1 + 1)), .slice (some ⟨g, 0, none⟩) n c]).drew) := Lib.hid (.inl ⟨by rw [HGY.out, ← HN.out]; exact decide_eq_false h16, HP3.out.drew, _, _, _, _, _, _, _, _, _, _, rfl⟩)
            clear h16 HP3 HP4 HP5 HGY
            go_wp2_with fail
            go_region
            all_goals
              have t0 := HP2.out.drew.c 0 (by simp)
              have t1 := HP2.out.drew.c 1 (by simp)
              have t2 := HP2.out.drew.c 2 (by simp)
              have t3 := HP2.out.drew.c 3 (by simp)
              have hf := HFIN.out
              simp only [putL, Nat.reduceAdd, Nat.zero_add, List.getElem_cons_succ, List.getElem_cons_zero] at t0 t1 t2 t3 hf
              go_wp2_with fail
              exact bodyPost_ret (v := .tuple #[.agg #[.slice x.A1 x.n1 x.c1, .slice x.A2 x.n2 x.c2, .map (some (w.heap.size + 1 + 1)), .slice (some ⟨g, 0, none⟩) n c], .bool false]) (by simp [results, Tryz.results20, go_sem, t0, t1, t2, t3]; first | done | omega) rfl hf

end Go.Proofs.YtomloodakabcbabGreat.Cl
