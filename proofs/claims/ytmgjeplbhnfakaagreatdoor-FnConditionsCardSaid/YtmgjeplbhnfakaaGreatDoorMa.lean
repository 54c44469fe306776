/-
  The draw of a condition that may be invalid: what condition and anyCondition of the model's cursor return.
  The union of two lists of strings in plain facts: putting in order, and sorting with equal neighbours struck, give the same list.
  Slices of strings in memory, and what the laws' helpers szStringS, toStringS and eqStringS do with them.
  Fact lists: isFactList of the program, l5Facts and l5Has of the model.
  Rows of strings that a call owns: appending; l5Put of the model.
  The model's number text: what l1Num and l1In return.
  Plain facts on the decimal text of an integer: it is read back. No program stands in it.
  The draws of fact lists, and DrawEvaluateCondition: what they return, whatever the code.
  vConditions of the laws: whether two conditions are the same.
  Plain facts on the text of an amount. No program stands in it.
  Plain facts on reading the text of a date back. No program stands in it.
  Reading a condition from a text, in plain facts.
  l5Starts of the model.
  What the rows' list of package-level variables gives the walks: the table of powers of ten.
  What the rows' list of package-level variables gives the walks that read numbers: the table of powers, strconv's two errors, strconv.Atoi.
  The program's table of the days before each month, out of the row's list; how it reads before and behind a call.
  Days and weekdays: what the model's and the program's tests return, at every int.
  The days before a year and a month, the length of a month: what the program's and the model's functions return.
  Valid dates and their days: what the program's and the model's functions return.
  DayOf and DateOf: what the program's and the model's functions return.
  DateOf: what the program's and the model's functions return.
  DateOf of the model; the walk of the law FnExactDateOf; IsMonthEnd, of the program and of the model, and the walk of its law.
  FormatDate, of the program and of the model.
  ParseDate of the program.
  ParseDate of the model; the walk of the law FnExactParseDate.
-/
import Derived.Test.YtmgjeplbhnfakaaGreatDoorDrC
import Derived.Test.YtmgjeplbhnfakaaGreatDoorSfF
import Derived.Deep.RegionLaw
import Derived.Deep.LoopGhost
import Derived.WalkKit
import Derived.Sort.EncStr
import Derived.Lib.SlicesCompact
import Derived.Test.YtmgjeplbhnfakaaGreatDoorRows
import Derived.Test.YtmgjeplbhnfakaaGreatDoorPlain
import Derived.ProofKit
import Derived.Lib.Hide
import Derived.WalkSmall
import Derived.Deep.QuietTactic
import Derived.BigQuiet
import Derived.Test.YtmgjeplbhnfakaaGreatDoorNmI
import Derived.Laws.Cover1
import Derived.Sort.Walk0
import Derived.Maps.AppendAt
import Derived.Laws.OwnMore
import Derived.Lib.ItoaNum
import Derived.Lib.AtoiTie
import Derived.Test.YtmgjeplbhnfakaaGreatDoorSmQ
import Derived.Test.YtmgjeplbhnfakaaGreatDoorCal
import Derived.Test.YtmgjeplbhnfakaaGreatDoorCondQ
import Derived.Lib.LaidTab
import Derived.MakeChecks
import Derived.Stop.LaidErr
import Derived.Test.YtmgjeplbhnfakaaGreatDoorShelfAtoi
import Derived.ChangeVars
import Derived.ChangeReads
import Derived.Test.YtmgjeplbhnfakaaGreatDoorShelf
import Derived.Lib.AppendIntMem
import Derived.Deep.RegionHeld3
namespace Go.Proofs.YtmgjeplbhnfakaaGreatDoor.DrD
open Go.RowKit Go.Proofs.YtmgjeplbhnfakaaGreatDoor.Cond Go.Proofs.YtmgjeplbhnfakaaGreatDoor.Cur Go.Proofs.YtmgjeplbhnfakaaGreatDoor.CurDay
set_option linter.unusedVariables false
set_option linter.unusedSimpArgs false

theorem ok_wt {q : Q} (h : q.ok) : q.wt ≤ 10 * q.size := by
  induction q with
  | tru => simp [Q.wt]
  | fact s => have := isNm_sz h; simp only [Q.wt, Q.size]; omega
  | frm d => simp [Q.wt]
  | neg a ih => have := ih h; simp only [Q.wt, Q.size]; omega
  | and a b iha ihb => have := iha h.1; have := ihb h.2; simp only [Q.wt, Q.size]; omega
  | or a b iha ihb => have := iha h.1; have := ihb h.2; simp only [Q.wt, Q.size]; omega
/-- Not more than that lies in a drawn condition. -/
def Wq (m : Nat) (x : K) : Prop := x.cond.wt ≤ m
theorem Bq.wq {x : K} (h : Bq 3 x) : Wq 70 x := by
  obtain ⟨q, hq, hok, hs⟩ := h
  have := ok_wt hok
  unfold Wq
  rw [hq, Q.wt_c]
  have : (2 : Nat) ^ 3 = 8 := rfl
  omega
theorem Bq.more {d : Nat} {x : K} (h : Bq d x) (hd : d ≤ 3) : Bq 3 x := by
  obtain ⟨q, hq, hok, hs⟩ := h
  have := Nat.pow_le_pow_right (n := 2) (by decide) hd
  exact ⟨q, hq, hok, by omega⟩

theorem cd_pass {P : K → Prop} {w v : World} {g c : Nat} {A : Option Addr} {n cap k k' B S : Nat} {x : K} (h : Fin w v g A n cap k' B) (hk : k' ≤ k + c) (hd : Dk S v x) (hS : w.heap.size + 1 ≤ S) (hP : P x) :
    cdAns P c g A n cap k B w (.returned x.val) (put4 v w.heap.size 0 (.int .i64 x.op) (.string x.nm) (.int .i64 x.day) (.slice x.A x.ps.length x.cap)) :=
  ⟨x, k', rfl, hP, hk, (h.put _ _ _ _).ok, (hd.more hS).kept (put4_grown _ _ _ _ _ _ _) (fun j e => by injection e with e; omega), (h.put _ _ _ _).gr⟩

set_option maxHeartbeats 4000000 in
theorem condition (g : Nat) (A : Option Addr) (n cap k B : Nat) (w : World) (h : Ok w g A n cap k B) (hk : k ≤ 960000) :
    Calls Tryz.prog 29 #[.pointer (some ⟨g, 0, none⟩)] w (cdAns (Bq 3) 2000 g A n cap k B w) := by
  obtain ⟨X, hX⟩ : ∃ X, X = w.alloc (.cells #[.int .i64 0, .string ⟨#[]⟩, .int .i64 0, .slice none 0 0] 26) := ⟨_, rfl⟩
  have F0 : Hid (Fin w X g A n cap k B) := Lib.hid (by rw [hX]; exact ⟨h.alloc _, World.grownBy_alloc w _ _, h.lt, by simp⟩)
  have P0 : Hid (B4 w.heap.size X (.int .i64 0) (.string ⟨#[]⟩) (.int .i64 0) (.slice none 0 0)) := Lib.hid (by rw [hX]; exact B4.new _ _ _ _ _ _)
  have HX := Lib.hid hX
  clear hX h
  go_enter Tryz.func29, Tryz.ntmps29
  go_wp2_with (go_at_call 30; (try rw [← HX.out]); refine (pick 3 (by omega) (by omega) g A n cap k B X F0.out.ok (by omega)).mono ?_; rintro e w1 ⟨r, k1, rfl, hr1, hk1, hok1, hg1⟩; refine Hid.out ?_)
  refine Lib.hid ?_
  have F1 := Lib.hid (F0.out.step hok1 hg1)
  have P1 := Lib.hid (DrD.B4.kept P0.out hg1 (fun e => by injection e with e; have := F0.out.lt; omega))
  clear hok1 hg1
  have HPW : Hid (10 ^ (r + 1) ≤ 1000) := Lib.hid (by
    have hr : r ≤ 2 := by omega
    match r, hr with
    | 0, _ => decide
    | 1, _ => decide
    | 2, _ => decide)
  have HB := Lib.hid (built g A n cap B r (r + 1) k1 w1 rfl (by omega) F1.out.ok (by have := HPW.out; omega))
  have e1 : ((r + 1 : Nat) : Int) = 1 + (r : Int) := by omega
  rw [e1] at HB
  clear e1
  go_wp2_with (go_at_call 56; refine HB.out.mono ?_; rintro e w2 ⟨x, k2, rfl, hx, hk2, hok2, hd2, hg2⟩; refine Hid.out ?_)
  refine Lib.hid ?_
  have HBQ : Hid (Bq 3 x) := Lib.hid (Bq.more hx (by omega))
  have D2 := Lib.hid (hd2.more (S' := w.heap.size + 1) (by have := F1.out.z; omega))
  have F2 := Lib.hid (F1.out.step hok2 hg2)
  have P2 := Lib.hid (DrD.B4.kept P1.out hg2 (fun e => by injection e with e; have := F0.out.lt; omega))
  have HK2 := Lib.hid hk2
  clear hok2 hg2 hx hd2 HB hk2
  obtain ⟨_, p0, p1, p2, p3, pf⟩ := P2.out
  have pf0 := pf 0
  have pf1 := pf 1
  have pf2 := pf 2
  have pf3 := pf 3
  clear pf
  have hz2 := F2.out.z
  go_wp2_with fail
  obtain ⟨_, t0, t1, t2, t3, _⟩ := P2.out.put (.int .i64 x.op) (.string x.nm) (.int .i64 x.day) (.slice x.A x.ps.length x.cap)
  have hf := cd_pass (P := Bq 3) (c := 2000) (k := k) F2.out (by have := HPW.out; have := HK2.out; omega) D2.out (Nat.le_refl _) HBQ.out
  simp only [put4] at t0 t1 t2 t3 hf
  exact bodyPost_ret (v := x.val) (by simp [results, Tryz.results29, go_sem, t0, t1, t2, t3]) rfl hf

/-- What anyCondition holds: the answer's block, the box of the condition so far. -/
structure St (w v : World) (kb g : Nat) (A : Option Addr) (n cap k B : Nat) (x : K) : Prop where
  fin : Fin w v g A n cap k B
  res : B4 w.heap.size v (.int .i64 0) (.string ⟨#[]⟩) (.int .i64 0) (.slice none 0 0)
  box : B4 kb v (.int .i64 x.op) (.string x.nm) (.int .i64 x.day) (.slice x.A x.ps.length x.cap)
  dk : Dk (w.heap.size + 1) v x
  kb1 : w.heap.size < kb
  ap : kb ∉ x.blocks
  ap2 : (Value.slice x.A x.ps.length x.cap).ownBlock ≠ some kb
theorem St.step {w v v' : World} {kb g : Nat} {A : Option Addr} {n cap k k' B : Nat} {x : K} (h : St w v kb g A n cap k B x) (hok : Ok v' g A n cap k' B) (hg : v.grownBy v' (some g)) : St w v' kb g A n cap k' B x :=
  have hl := h.fin.lt
  have hk := h.kb1
  ⟨h.fin.step hok hg, DrD.B4.kept h.res hg (fun e => by injection e with e; omega), DrD.B4.kept h.box hg (fun e => by injection e with e; omega), h.dk.kept hg (fun j e => by injection e with e; omega), h.kb1, h.ap, h.ap2⟩
theorem St.alloc {w v : World} {kb g : Nat} {A : Option Addr} {n cap k B : Nat} {x : K} (h : St w v kb g A n cap k B x) (o : Obj) : St w (v.alloc o) kb g A n cap k B x := h.step (h.fin.ok.alloc o) (World.grownBy_alloc v o _)
theorem St.drew {w v : World} {kb g : Nat} {A : Option Addr} {n cap k B : Nat} {x : K} (h : St w v kb g A n cap k B x) : St w v.drew kb g A n cap k B x :=
  h.step ⟨h.fin.ok.at_, h.fin.ok.bytes, h.fin.ok.small, h.fin.ok.old⟩ (grow_drew (grow_refl v _))
theorem keep_other {S : Nat} {w w' : World} {x : K} {row : Option Nat} (h : Dk S w x) (hg : w.grownBy w' row) (hr : ∀ j, row = some j → j ∉ x.blocks ∧ (Value.slice x.A x.ps.length x.cap).ownBlock ≠ some j) : Dk S w' x :=
  ⟨h.has.alike fun b hb => hg.block b (h.lt b hb) (fun e => (hr b e.symm).1 hb), fun b hb => Nat.lt_of_lt_of_le (h.lt b hb) hg.size, h.ge, own_kept h.own hg (fun j hj e => (hr j hj).2 e), h.ap⟩
/-- The box takes other cells; x's memory is what it was. -/
theorem St.turn {w v v' : World} {kb g : Nat} {A : Option Addr} {n cap k B : Nat} {x : K} (h : St w v kb g A n cap k B x) (hg : v.grownBy v' (some kb)) : Fin w v' g A n cap k B ∧ B4 w.heap.size v' (.int .i64 0) (.string ⟨#[]⟩) (.int .i64 0) (.slice none 0 0) ∧ Dk (w.heap.size + 1) v' x := by
  have hl := h.fin.lt
  have hk := h.kb1
  exact ⟨⟨DrD.Ok.kept h.fin.ok hg (fun j e => by injection e with e; omega), grow_row h.fin.gr hg (fun j e => by injection e with e; omega), hl, Nat.lt_of_lt_of_le h.fin.z hg.size⟩,
    DrD.B4.kept h.res hg (fun e => by injection e with e; omega), keep_other h.dk hg (fun j e => by injection e with e; subst e; exact ⟨h.ap, h.ap2⟩)⟩
theorem B4.set0 {k : Nat} {w : World} {a b c d : Value} (h : B4 k w a b c d) (x : Value) : B4 k (w.setCell ⟨k, 0, none⟩ x) x b c d :=
  ⟨by rw [World.size_setCell]; exact h.lt, World.cell?_setCell_same w _ _ h.c0, (World.cell?_setCell_other w _ _ _ (by simp)).trans h.c1, (World.cell?_setCell_other w _ _ _ (by simp)).trans h.c2, (World.cell?_setCell_other w _ _ _ (by simp)).trans h.c3, fun o => by simp [h.fz]⟩
theorem B4.set1 {k : Nat} {w : World} {a b c d : Value} (h : B4 k w a b c d) (x : Value) : B4 k (w.setCell ⟨k, 1, none⟩ x) a x c d :=
  ⟨by rw [World.size_setCell]; exact h.lt, (World.cell?_setCell_other w _ _ _ (by simp)).trans h.c0, World.cell?_setCell_same w _ _ h.c1, (World.cell?_setCell_other w _ _ _ (by simp)).trans h.c2, (World.cell?_setCell_other w _ _ _ (by simp)).trans h.c3, fun o => by simp [h.fz]⟩
theorem B4.set2 {k : Nat} {w : World} {a b c d : Value} (h : B4 k w a b c d) (x : Value) : B4 k (w.setCell ⟨k, 2, none⟩ x) a b x d :=
  ⟨by rw [World.size_setCell]; exact h.lt, (World.cell?_setCell_other w _ _ _ (by simp)).trans h.c0, (World.cell?_setCell_other w _ _ _ (by simp)).trans h.c1, World.cell?_setCell_same w _ _ h.c2, (World.cell?_setCell_other w _ _ _ (by simp)).trans h.c3, fun o => by simp [h.fz]⟩
theorem St.set0 {w v : World} {kb g : Nat} {A : Option Addr} {n cap k B : Nat} {op : Int} {nm : ByteArray} {day : Int} {Ax : Option Addr} {cx : Nat} {ps : List K} (h : St w v kb g A n cap k B (.mk op nm day Ax cx ps)) (z : Int) : St w (v.setCell ⟨kb, 0, none⟩ (.int .i64 z)) kb g A n cap k B (.mk z nm day Ax cx ps) := by
  obtain ⟨h1, h2, h3⟩ := h.turn (set_grown v ⟨kb, 0, none⟩ (.int .i64 z))
  exact ⟨h1, h2, DrD.B4.set0 h.box _, h3.head h.dk.has.2.1.1, h.kb1, h.ap, h.ap2⟩
theorem St.set1 {w v : World} {kb g : Nat} {A : Option Addr} {n cap k B : Nat} {op : Int} {nm : ByteArray} {day : Int} {Ax : Option Addr} {cx : Nat} {ps : List K} (h : St w v kb g A n cap k B (.mk op nm day Ax cx ps)) (s : ByteArray) (hs : s.size ≤ maxLen) : St w (v.setCell ⟨kb, 1, none⟩ (.string s)) kb g A n cap k B (.mk op s day Ax cx ps) := by
  obtain ⟨h1, h2, h3⟩ := h.turn (set_grown v ⟨kb, 1, none⟩ (.string s))
  exact ⟨h1, h2, DrD.B4.set1 h.box _, h3.head hs, h.kb1, h.ap, h.ap2⟩
theorem St.set2 {w v : World} {kb g : Nat} {A : Option Addr} {n cap k B : Nat} {op : Int} {nm : ByteArray} {day : Int} {Ax : Option Addr} {cx : Nat} {ps : List K} (h : St w v kb g A n cap k B (.mk op nm day Ax cx ps)) (z : Int) : St w (v.setCell ⟨kb, 2, none⟩ (.int .i64 z)) kb g A n cap k B (.mk op nm z Ax cx ps) := by
  obtain ⟨h1, h2, h3⟩ := h.turn (set_grown v ⟨kb, 2, none⟩ (.int .i64 z))
  exact ⟨h1, h2, DrD.B4.set2 h.box _, h3.head h.dk.has.2.1.1, h.kb1, h.ap, h.ap2⟩
theorem St.put0 {w v : World} {kb g : Nat} {A : Option Addr} {n cap k B : Nat} {x : K} (h : St w v kb g A n cap k B x) (z : Int) : St w (v.setCell ⟨kb, 0, none⟩ (.int .i64 z)) kb g A n cap k B (.mk z x.nm x.day x.A x.cap x.ps) := by cases x; exact h.set0 z
theorem St.put1 {w v : World} {kb g : Nat} {A : Option Addr} {n cap k B : Nat} {x : K} (h : St w v kb g A n cap k B x) (s : ByteArray) (hs : s.size ≤ maxLen) : St w (v.setCell ⟨kb, 1, none⟩ (.string s)) kb g A n cap k B (.mk x.op s x.day x.A x.cap x.ps) := by cases x; exact h.set1 s hs
theorem St.put2 {w v : World} {kb g : Nat} {A : Option Addr} {n cap k B : Nat} {x : K} (h : St w v kb g A n cap k B x) (z : Int) : St w (v.setCell ⟨kb, 2, none⟩ (.int .i64 z)) kb g A n cap k B (.mk x.op x.nm z x.A x.cap x.ps) := by cases x; exact h.set2 z
/-- The condition is put under a CondNot. -/
theorem St.wrap {w v : World} {kb g : Nat} {A : Option Addr} {n cap k B : Nat} {x : K} (h : St w v kb g A n cap k B x) :
    St w ((put4 v kb 0 (.int .i64 4) (.string ⟨#[]⟩) (.int .i64 0) (.slice (some ⟨v.heap.size, 0, none⟩) 1 1)).alloc (.cells #[.int .i64 x.op, .string x.nm, .int .i64 x.day, .slice x.A x.ps.length x.cap] 26)) kb g A n cap k B (.mk 4 .empty 0 (some ⟨v.heap.size, 0, none⟩) 1 [x]) := by
  have hb := h.box.lt
  have hk := h.kb1
  obtain ⟨h1, h2, h3⟩ := h.turn (put4_grown v kb 0 (.int .i64 4) (.string ⟨#[]⟩) (.int .i64 0) (.slice (some ⟨v.heap.size, 0, none⟩) 1 1))
  have hd := Dk.one (S := w.heap.size + 1) (u := put4 v kb 0 (.int .i64 4) (.string ⟨#[]⟩) (.int .i64 0) (.slice (some ⟨v.heap.size, 0, none⟩) 1 1)) (p := x) 4 h3.has h3.lt h3.ge (by rw [put4_size]; omega)
  rw [put4_size] at hd
  refine ⟨h1.alloc _, h2.alloc _, (h.box.put _ _ _ _).alloc _, hd, hk, fun e => ?_, fun e => ?_⟩
  · simp only [K.blocks, blocks, List.append_nil, List.mem_cons, List.mem_append, List.not_mem_nil, or_false] at e
    rcases e with e | e
    · omega
    · exact h.ap e
  · simp only [Value.ownBlock, K.A, K.ps, Option.some.injEq] at e
    omega
/-- Another condition is put behind the parts. -/
theorem step_appC {w u : World} {kb g : Nat} {A : Option Addr} {n cap k B : Nat} {op : Int} {nm : ByteArray} {day : Int} {Ax : Option Addr} {cx : Nat} {ps : List K} {r : K} {ops : Array Oper} {o : Oper} {a : Act} {KK : Act → World → Prop} {Q : Exit → Act → World → Prop} {E : Prop} (hgd : o.guard = none) (s y : Operand)
    (ho : o.op = .call { callee := .builtin .append, args := #[s, y], argTypes := #[24, 24] }) (h : St w u kb g A n cap k B (.mk op nm day Ax cx ps)) (hl : ps.length ≤ 200) (hs : a.eval s = .slice Ax ps.length cx) (L c : Nat) (hy : a.eval y = .slice (some ⟨L, 0, none⟩) 1 c) (he : El u L 0 r)
    (hr : Dk (w.heap.size + 1) u r) (hrk : kb ∉ r.blocks) (hap : ∀ j, (Value.slice Ax ps.length cx).ownBlock = some j → j ∉ r.blocks)
    (hK : ∀ a3 c3 w1, St w (w1.setCell ⟨kb, 3, none⟩ (.slice a3 (ps.length + 1) c3)) kb g A n cap k B (.mk op nm day a3 c3 (ps ++ [r])) → B4 kb w1 (.int .i64 op) (.string nm) (.int .i64 day) (.slice Ax ps.length cx) → KK (a.put o.dst (.slice a3 (ps.length + 1) c3)) w1) :
    if Region.wanted o (yielded ops a.tmps) = true then Oper.wp Tryz.prog o a u KK Q else E := by
  obtain ⟨i0, hi, hz0, hz1, hz2⟩ := info_parts infoCond
  have hw : Region.wanted o (yielded ops a.tmps) = true := by simp [Region.wanted, hgd]
  rw [if_pos hw]
  have hbx := h.box
  have hown : OwnC u (w.heap.size + 1) (.slice Ax ps.length cx) ps := h.dk.own
  obtain ⟨v', w', hrun, h2, h3, _, h5⟩ := run_append_own_at (P := Tryz.prog) u (w.heap.size + 1) 24 o.type 26 i0 _ 4 56 Tryz.underlying24 hi hz0 hz1 hz2 rfl (by decide) (.slice Ax ps.length cx) ps.length (cellsL ps) hown ⟨L, 0, none⟩ 1 c r.cells (by simp [K.cells])
    (fun j u' hu => by
      have hj : j < 4 := by
        rcases Nat.lt_or_ge j 4 with h | h
        · exact h
        · rw [List.getElem?_eq_none (by simpa [K.cells] using h)] at hu; cases hu
      match j, hj with
      | 0, _ => simp [K.cells] at hu; subst hu; exact he.c0
      | 1, _ => simp [K.cells] at hu; subst hu; exact he.c1
      | 2, _ => simp [K.cells] at hu; subst hu; exact he.c2
      | 3, _ => simp [K.cells] at hu; subst hu; exact he.c3) (one_cells r) (by unfold maxLen; omega) (by omega) (by have := h.box.lt; have := h.kb1; omega)
  obtain ⟨a3, c3, rfl⟩ := ownC_form h2
  unfold Oper.wp execOp
  simp only [ho, resolve, invoke, builtin, Sem.run_bind, Sem.run_pure, Result.andThen_ok, List.map_toArray, List.map_cons, List.map_nil, hs, hy, hrun]
  have ho3 : OwnC w' (w.heap.size + 1) (.slice a3 (ps.length + 1) c3) (ps ++ [r]) := by unfold OwnC; rw [cellsL_app, List.length_append]; exact h2
  have hd := Dk.app h.dk hr.has hr.lt hr.ge hap ho3 h3 h5
  have hkb1 := h.kb1
  have hl0 := h.fin.lt
  have ho0 : ∀ j, (Value.slice Ax ps.length cx).ownBlock = some j → w.heap.size + 1 ≤ j ∧ j ≠ kb := fun j hj => ⟨(own_ge hown hj).1, fun e => h.ap2 (e ▸ hj)⟩
  have hbx1 : B4 kb w' (.int .i64 op) (.string nm) (.int .i64 day) (.slice Ax ps.length cx) := DrD.B4.kept hbx h3 (fun e => (ho0 kb e.symm).2 rfl)
  have hres1 : B4 w.heap.size w' (.int .i64 0) (.string ⟨#[]⟩) (.int .i64 0) (.slice none 0 0) := DrD.B4.kept h.res h3 (fun e => by have := (ho0 _ e.symm).1; omega)
  have hfin1 : Fin w w' g A n cap k B := ⟨DrD.Ok.kept h.fin.ok h3 (fun j e => by have := (ho0 j e).1; omega), grow_row h.fin.gr h3 (fun j e => by have := (ho0 j e).1; omega), hl0, Nat.lt_of_lt_of_le h.fin.z h3.size⟩
  have hapk : kb ∉ (K.mk op nm day a3 c3 (ps ++ [r])).blocks ∧ (Value.slice a3 (ps.length + 1) c3).ownBlock ≠ some kb := by
    have h9 : (Value.slice a3 (ps.length + 1) c3).ownBlock ≠ some kb := fun e => by
      rcases h5 with e2 | e2
      · exact h.ap2 (e2.symm.trans e)
      · rw [e2] at e; injection e with e; have := hbx.lt; omega
    refine ⟨fun e => ?_, h9⟩
    rw [blocks_front, List.mem_append, blocks_app, List.mem_append] at e
    rcases e with e | e | e
    · apply h9
      cases a3 with
      | none => cases ps <;> simp [frontL] at e
      | some a => cases ps <;> (simp [frontL] at e; rw [e]; rfl)
    · exact h.ap (by simp only [K.blocks, List.mem_append]; exact .inr e)
    · exact hrk e
  refine hK a3 c3 w' ?_ hbx1
  have hst : St w w' kb g A n cap k B (.mk op nm day Ax cx ps) ∨ True := .inr trivial
  have hgs := set_grown w' ⟨kb, 3, none⟩ (.slice a3 (ps.length + 1) c3)
  have hps : (ps ++ [r]).length = ps.length + 1 := by simp
  refine ⟨⟨DrD.Ok.kept hfin1.ok hgs (fun j e => by injection e with e; simp only at e; omega), grow_row hfin1.gr hgs (fun j e => by injection e with e; simp only at e; omega), hl0, by rw [World.size_setCell]; exact hfin1.z⟩, hres1.far (by simp; omega) _, ?_, ?_, hkb1, hapk.1, ?_⟩
  · simp only [K.op, K.nm, K.day, K.A, K.ps, K.cap, hps]
    exact hbx1.set3 _
  · exact keep_other hd hgs (fun j e => by
      injection e with e
      simp only at e
      subst e
      refine ⟨hapk.1, ?_⟩
      simp only [K.A, K.ps, K.cap, hps]
      exact hapk.2)
  · simp only [K.A, K.ps, K.cap, hps]
    exact hapk.2

theorem step_appX {w u : World} {kb g : Nat} {A : Option Addr} {n cap k B : Nat} {x r : K} {ops : Array Oper} {o : Oper} {a : Act} {KK : Act → World → Prop} {Q : Exit → Act → World → Prop} {E : Prop} (hgd : o.guard = none) (s y : Operand)
    (ho : o.op = .call { callee := .builtin .append, args := #[s, y], argTypes := #[24, 24] }) (h : St w u kb g A n cap k B x) (hl : x.ps.length ≤ 200) (hs : a.eval s = .slice x.A x.ps.length x.cap) (L c : Nat) (hy : a.eval y = .slice (some ⟨L, 0, none⟩) 1 c) (he : El u L 0 r)
    (hr : Dk (w.heap.size + 1) u r) (hrk : kb ∉ r.blocks) (hap : ∀ j, (Value.slice x.A x.ps.length x.cap).ownBlock = some j → j ∉ r.blocks)
    (hK : ∀ a3 c3 w1, St w (w1.setCell ⟨kb, 3, none⟩ (.slice a3 (x.ps.length + 1) c3)) kb g A n cap k B (.mk x.op x.nm x.day a3 c3 (x.ps ++ [r])) → B4 kb w1 (.int .i64 x.op) (.string x.nm) (.int .i64 x.day) (.slice x.A x.ps.length x.cap) → KK (a.put o.dst (.slice a3 (x.ps.length + 1) c3)) w1) :
    if Region.wanted o (yielded ops a.tmps) = true then Oper.wp Tryz.prog o a u KK Q else E := by
  cases x
  exact step_appC hgd s y ho h hl hs L c hy he hr hrk hap hK

theorem Dk.drew {S : Nat} {w : World} {x : K} (h : Dk S w x) : Dk S w.drew x := h.kept (row := none) (grow_drew (grow_refl w none)) (fun j e => by cases e)
theorem elLit (u : World) (r : K) (T : TypeId) : El (u.alloc (.cells #[.int .i64 r.op, .string r.nm, .int .i64 r.day, .slice r.A r.ps.length r.cap] T)) u.heap.size 0 r := ⟨by simp [go_sem], by simp [go_sem], by simp [go_sem], by simp [go_sem]⟩
/-- Another condition is drawn. -/
theorem condSt {w v : World} {kb g : Nat} {A : Option Addr} {n cap k B : Nat} {x : K} (h : St w v kb g A n cap k B x) (hk : k ≤ 960000) :
    Calls Tryz.prog 29 #[.pointer (some ⟨g, 0, none⟩)] v fun e w' => ∃ (r : K) (k' : Nat), e = .returned r.val ∧ Bq 3 r ∧ k' ≤ k + 2000 ∧ St w w' kb g A n cap k' B x ∧ Dk (w.heap.size + 1) w' r ∧ kb ∉ r.blocks ∧ (∀ j, (Value.slice x.A x.ps.length x.cap).ownBlock = some j → j ∉ r.blocks) :=
  (condition g A n cap k B v h.fin.ok hk).mono fun e w' ⟨r, k', he, hr, hk', hok, hd, hg⟩ =>
    have hb := h.box.lt
    have hz := h.fin.z
    ⟨r, k', he, hr, hk', h.step hok hg, hd.more (by omega), fun e => by have := hd.ge _ e; omega, fun j hj e => by have := (own_ge h.dk.own hj).2; have := hd.ge j e; omega⟩

theorem St.done {w v : World} {kb g m : Nat} {A : Option Addr} {n cap k k' B : Nat} {x : K} (h : St w v kb g A n cap k' B x) (hk : k' ≤ k + 9000) (hw : Wq m x) :
    cdAns (Wq m) 9000 g A n cap k B w (.returned x.val) (put4 v w.heap.size 0 (.int .i64 x.op) (.string x.nm) (.int .i64 x.day) (.slice x.A x.ps.length x.cap)) ∧ B4 w.heap.size (put4 v w.heap.size 0 (.int .i64 x.op) (.string x.nm) (.int .i64 x.day) (.slice x.A x.ps.length x.cap)) (.int .i64 x.op) (.string x.nm) (.int .i64 x.day) (.slice x.A x.ps.length x.cap) :=
  ⟨cd_pass h.fin hk h.dk (Nat.le_refl _) hw, h.res.put _ _ _ _⟩
theorem wts_head {op op' : Int} {nm nm' : ByteArray} {day day' : Int} {A A' : Option Addr} {c c' : Nat} {ps : List K} {m : Nat} (h : Wq 70 (.mk op nm day A c ps)) (hn : nm'.size ≤ 70) (hm : 140 ≤ m) : Wq m (.mk op' nm' day' A' c' ps) := by
  unfold Wq at h ⊢
  simp only [K.cond, C.wt] at h ⊢
  omega
theorem wts_snoc (ps : List C) (r : C) : wts (ps ++ [r]) = wts ps + 1 + r.wt := by
  induction ps with
  | nil => simp [wts]
  | cons p ps ih => simp only [List.cons_append, wts, ih]; omega
theorem wts_app {op op' : Int} {nm : ByteArray} {day day' : Int} {A A' : Option Addr} {c c' : Nat} {ps : List K} {r : K} {m : Nat} (h : Wq 70 (.mk op nm day A c ps)) (hr : Wq 70 r) (hm : 150 ≤ m) : Wq m (.mk op' nm day' A' c' (ps ++ [r])) := by
  unfold Wq at h hr ⊢
  simp only [K.cond, C.wt, conds_map, List.map_append, List.map_cons, List.map_nil, wts_snoc] at h ⊢
  omega
theorem wq_head {x : K} {op' : Int} {nm' : ByteArray} {day' : Int} {A' : Option Addr} {c' m : Nat} (h : Wq 70 x) (hn : nm'.size ≤ 70) (hm : 140 ≤ m) : Wq m (.mk op' nm' day' A' c' x.ps) := by cases x; exact wts_head h hn hm
theorem wq_keep {x : K} {op' : Int} {day' : Int} {A' : Option Addr} {c' m : Nat} (h : Wq 70 x) (hm : 70 ≤ m) : Wq m (.mk op' x.nm day' A' c' x.ps) := by
  cases x
  unfold Wq at h ⊢
  simp only [K.cond, C.wt, K.nm, K.ps] at h ⊢
  omega
theorem wq_app {x r : K} {op' : Int} {day' : Int} {A' : Option Addr} {c' m : Nat} (h : Wq 70 x) (hr : Wq 70 r) (hm : 150 ≤ m) : Wq m (.mk op' x.nm day' A' c' (x.ps ++ [r])) := by cases x; exact wts_app h hr hm
theorem wq_wrap {x : K} {A' : Option Addr} {c' m : Nat} (h : Wq m x) : Wq (m + 1) (.mk 4 .empty 0 A' c' [x]) := by
  unfold Wq at h ⊢
  simp only [K.cond, C.wt, conds, wts]
  simp; omega
theorem size_wrap {x : K} {A' : Option Addr} {c' : Nat} : (K.mk 4 .empty 0 A' c' [x]).cond.size = x.cond.size + 1 := by
  simp only [K.cond, C.size, conds, sizes]; omega
theorem ps_len {x : K} (h : Wq 70 x) : x.ps.length ≤ 200 := by
  cases x with
  | mk op nm day A c ps =>
    unfold Wq at h
    simp only [K.cond, C.wt, K.ps] at h ⊢
    have := wts_len (conds ps) 0 (Nat.zero_le _)
    rw [conds_len] at this
    omega
theorem Wq.more {m m' : Nat} {x : K} (h : Wq m x) (hm : m ≤ m') : Wq m' x := Nat.le_trans h hm
theorem wq_size {m : Nat} {x : K} (h : Wq m x) : x.cond.size ≤ m + 1 := by have := C.size_le x.cond; unfold Wq at h; omega

set_option maxRecDepth 100000 in
set_option maxHeartbeats 16000000 in
theorem anyCondition (g : Nat) (A : Option Addr) (n cap k B : Nat) (w : World) (h : Ok w g A n cap k B) (hk : k ≤ 900000) :
    Calls Tryz.prog 13 #[.pointer (some ⟨g, 0, none⟩)] w (cdAns (Wq 200) 9000 g A n cap k B w) := by
  obtain ⟨X, hX⟩ : ∃ X, X = w.alloc (.cells #[.int .i64 0, .string ⟨#[]⟩, .int .i64 0, .slice none 0 0] 26) := ⟨_, rfl⟩
  have F0 : Hid (Fin w X g A n cap k B) := Lib.hid (by rw [hX]; exact ⟨h.alloc _, World.grownBy_alloc w _ _, h.lt, by simp⟩)
  have P0 : Hid (B4 w.heap.size X (.int .i64 0) (.string ⟨#[]⟩) (.int .i64 0) (.slice none 0 0)) := Lib.hid (by rw [hX]; exact B4.new _ _ _ _ _ _)
  have HX := Lib.hid hX
  clear hX h
  go_enter Tryz.func13, Tryz.ntmps13
  go_wp2_with (go_at_call 29; (try rw [← HX.out]); refine (condition g A n cap k B X F0.out.ok (by omega)).mono ?_; rintro e w1 ⟨x, k1, rfl, hx, hk1, hok1, hd1, hg1⟩; refine Hid.out ?_)
  refine Lib.hid ?_
  have HW := Lib.hid (Bq.wq hx)
  obtain ⟨W, hW⟩ : ∃ W, W = w1.alloc (.cells #[.int .i64 x.op, .string x.nm, .int .i64 x.day, .slice x.A x.ps.length x.cap] 26) := ⟨_, rfl⟩
  obtain ⟨kb, hkb⟩ : ∃ kb, kb = w1.heap.size := ⟨_, rfl⟩
  have S1 : Hid (St w W kb g A n cap k1 B x) := Lib.hid (by
    have hF := F0.out.step hok1 hg1
    have hD := hd1.more (S' := w.heap.size + 1) (by have := F0.out.z; omega)
    rw [hW, hkb]
    exact ⟨hF.alloc _, (DrD.B4.kept P0.out hg1 (fun e => by injection e with e; have := F0.out.lt; omega)).alloc _, B4.new _ _ _ _ _ _, hD.alloc _, hF.z, fun e => by have := hD.lt _ e; omega, fun e => by have := (own_ge hD.own e).2; omega⟩)
  have HWW := Lib.hid hW
  have HKB := Lib.hid hkb
  clear hx hok1 hd1 hg1 hW hkb P0 F0 HX
  go_wp2_with (go_at_call 30; (try rw [← HWW.out]); refine (pick 20 (by omega) (by omega) g A n cap k1 B W S1.out.fin.ok (by omega)).mono ?_; rintro e w2 ⟨r, k2, rfl, hr2, hk2, hok2, hg2⟩; refine Hid.out ?_)
  refine Lib.hid ?_
  rw [← HKB.out]
  have S2 := Lib.hid (S1.out.step hok2 hg2)
  clear hok2 hg2 S1 HWW HKB

  by_cases h0 : r = 0
  · skip
    have q0 : ((r : Int) == 0) = true := by simp <;> omega
    clear h0
    go_wp2_with (go_at_call 30; refine (pick 8 (by omega) (by omega) g A n cap k2 B w2 S2.out.fin.ok (by omega)).mono ?_; rintro e w3 ⟨z, k3, rfl, hz3, hk3, hok3, hg3⟩; refine Hid.out ?_)
    refine Lib.hid ?_
    have S3 := Lib.hid (S2.out.step hok3 hg3)
    have S4 := Lib.hid (S3.out.put0 (z : Int))
    clear hok3 hg3
    obtain ⟨_, b0, b1, b2, b3, bf⟩ := S3.out.box
    have bf0 := bf 0
    have bf1 := bf 1
    have bf2 := bf 2
    have bf3 := bf 3
    clear bf
    have hkb := S3.out.box.lt
    have hkr := S3.out.kb1
    have hkz := S3.out.fin.z
    try simp only [mk_op, mk_nm, mk_day, mk_A, mk_ps, mk_cap] at b0 b1 b2 b3
    obtain ⟨_, c0, c1, c2, c3, _⟩ := S4.out.box
    try simp only [mk_op, mk_nm, mk_day, mk_A, mk_ps, mk_cap] at c0 c1 c2 c3
    obtain ⟨_, p0, p1, p2, p3, pf⟩ := S4.out.res
    have pf0 := pf 0
    have pf1 := pf 1
    have pf2 := pf 2
    have pf3 := pf 3
    clear pf
    obtain ⟨hf, _, t0, t1, t2, t3, _⟩ := S4.out.done (k := k) (m := 200) (by omega) (wq_keep HW.out (by omega))
    have HF := Lib.hid hf
    clear hf
    simp only [put4, mk_op, mk_nm, mk_day, mk_A, mk_ps, mk_cap, mk_val, List.length_append, List.length_cons, List.length_nil, Nat.zero_add] at t0 t1 t2 t3
    go_wp2_with fail
    have hf := HF.out
    simp only [put4, mk_op, mk_nm, mk_day, mk_A, mk_ps, mk_cap, mk_val, List.length_append, List.length_cons, List.length_nil, Nat.zero_add] at hf
    exact bodyPost_ret (v := .agg #[.int .i64 (z : Int), .string x.nm, .int .i64 x.day, .slice x.A x.ps.length x.cap]) (by simp [results, Tryz.results13, go_sem, t0, t1, t2, t3]) rfl hf
  have q0 : ((r : Int) == 0) = false := by simp <;> omega
  by_cases h1 : r = 1
  · skip
    have q1 : ((r : Int) == 1) = true := by simp <;> omega
    clear h0 h1
    have N2 : Hid (w2.heap.size ≠ g) := Lib.hid (by have := S2.out.fin.ok.lt; omega)
    go_wp2_with (go_at_call 31; refine (ofP (fun s => s.size ≤ 70) w2.heap.size _ 6 rfl (by omega) (by omega) g A n cap k2 B _ (S2.out.fin.ok.alloc _) (by omega) (heap_alloc_new w2 _) N2.out (by intro v hv; simp at hv; rcases hv with h | h | h | h | h | h <;> exact ⟨_, h, by decide⟩)).mono ?_; rintro e w3 ⟨s, k3, rfl, hss, hk3, hok3, hg3⟩; refine Hid.out ?_)
    refine Lib.hid ?_
    have S3 := Lib.hid ((S2.out.alloc _).step hok3 hg3)
    have HS := Lib.hid hss
    have S4 := Lib.hid (S3.out.put1 s (by have := HS.out; unfold maxLen; omega))
    clear hok3 hg3 hss N2
    obtain ⟨_, b0, b1, b2, b3, bf⟩ := S3.out.box
    have bf0 := bf 0
    have bf1 := bf 1
    have bf2 := bf 2
    have bf3 := bf 3
    clear bf
    have hkb := S3.out.box.lt
    have hkr := S3.out.kb1
    have hkz := S3.out.fin.z
    try simp only [mk_op, mk_nm, mk_day, mk_A, mk_ps, mk_cap] at b0 b1 b2 b3
    obtain ⟨_, c0, c1, c2, c3, _⟩ := S4.out.box
    try simp only [mk_op, mk_nm, mk_day, mk_A, mk_ps, mk_cap] at c0 c1 c2 c3
    obtain ⟨_, p0, p1, p2, p3, pf⟩ := S4.out.res
    have pf0 := pf 0
    have pf1 := pf 1
    have pf2 := pf 2
    have pf3 := pf 3
    clear pf
    obtain ⟨hf, _, t0, t1, t2, t3, _⟩ := S4.out.done (k := k) (m := 200) (by omega) (wq_head HW.out HS.out (by omega))
    have HF := Lib.hid hf
    clear hf
    simp only [put4, mk_op, mk_nm, mk_day, mk_A, mk_ps, mk_cap, mk_val, List.length_append, List.length_cons, List.length_nil, Nat.zero_add] at t0 t1 t2 t3
    go_wp2_with fail
    have hf := HF.out
    simp only [put4, mk_op, mk_nm, mk_day, mk_A, mk_ps, mk_cap, mk_val, List.length_append, List.length_cons, List.length_nil, Nat.zero_add] at hf
    exact bodyPost_ret (v := .agg #[.int .i64 x.op, .string s, .int .i64 x.day, .slice x.A x.ps.length x.cap]) (by simp [results, Tryz.results13, go_sem, t0, t1, t2, t3]) rfl hf
  have q1 : ((r : Int) == 1) = false := by simp <;> omega
  by_cases h2 : r = 2
  · skip
    have q2 : ((r : Int) == 2) = true := by simp <;> omega
    clear h0 h1 h2
    go_wp2_with (go_at_call 32; refine (anyDay g A n cap k2 B w2 S2.out.fin.ok (by omega)).mono ?_; rintro e w3 ⟨z, k3, rfl, hz3, hk3, hok3, hg3⟩; refine Hid.out ?_)
    refine Lib.hid ?_
    have S3 := Lib.hid (S2.out.step hok3 hg3)
    have S4 := Lib.hid (S3.out.put2 z)
    clear hok3 hg3 hz3
    obtain ⟨_, b0, b1, b2, b3, bf⟩ := S3.out.box
    have bf0 := bf 0
    have bf1 := bf 1
    have bf2 := bf 2
    have bf3 := bf 3
    clear bf
    have hkb := S3.out.box.lt
    have hkr := S3.out.kb1
    have hkz := S3.out.fin.z
    try simp only [mk_op, mk_nm, mk_day, mk_A, mk_ps, mk_cap] at b0 b1 b2 b3
    obtain ⟨_, c0, c1, c2, c3, _⟩ := S4.out.box
    try simp only [mk_op, mk_nm, mk_day, mk_A, mk_ps, mk_cap] at c0 c1 c2 c3
    obtain ⟨_, p0, p1, p2, p3, pf⟩ := S4.out.res
    have pf0 := pf 0
    have pf1 := pf 1
    have pf2 := pf 2
    have pf3 := pf 3
    clear pf
    obtain ⟨hf, _, t0, t1, t2, t3, _⟩ := S4.out.done (k := k) (m := 200) (by omega) (wq_keep HW.out (by omega))
    have HF := Lib.hid hf
    clear hf
    simp only [put4, mk_op, mk_nm, mk_day, mk_A, mk_ps, mk_cap, mk_val, List.length_append, List.length_cons, List.length_nil, Nat.zero_add] at t0 t1 t2 t3
    go_wp2_with fail
    have hf := HF.out
    simp only [put4, mk_op, mk_nm, mk_day, mk_A, mk_ps, mk_cap, mk_val, List.length_append, List.length_cons, List.length_nil, Nat.zero_add] at hf
    exact bodyPost_ret (v := .agg #[.int .i64 x.op, .string x.nm, .int .i64 z, .slice x.A x.ps.length x.cap]) (by simp [results, Tryz.results13, go_sem, t0, t1, t2, t3]) rfl hf
  have q2 : ((r : Int) == 2) = false := by simp <;> omega
  by_cases h3 : r = 3
  · skip
    have q3 : ((r : Int) == 3) = true := by simp <;> omega
    clear h0 h1 h2 h3
    obtain ⟨_, b0, b1, b2, b3, bf⟩ := S2.out.box
    have bf0 := bf 0
    have bf1 := bf 1
    have bf2 := bf 2
    have bf3 := bf 3
    clear bf
    have hkb := S2.out.box.lt
    have hkr := S2.out.kb1
    have hkz := S2.out.fin.z
    try simp only [mk_op, mk_nm, mk_day, mk_A, mk_ps, mk_cap] at b0 b1 b2 b3
    have HLEN := Lib.hid (ps_len HW.out)
    go_wp2_with fail
    go_region_law (first
      | (refine step_appX rfl _ _ rfl (k := k3) (r := r3) (by (repeat (first | exact S3.out | with_reducible apply St.drew | with_reducible apply St.alloc))) HLEN.out rfl _ _ rfl (by first | exact elLit _ _ _ | (refine ⟨?_, ?_, ?_, ?_⟩ <;> (simp [go_sem]; done))) (by (repeat (first | exact R3.out | with_reducible apply Dk.drew | with_reducible apply Dk.alloc))) N3.out.1 N3.out.2 ?_; intro a3 c3 w5 P5 hb5; obtain ⟨_, y0, y1, y2, y3, yf⟩ := hb5; have yf3 := yf 3; clear yf; have S5 := Lib.hid P5; clear P5)
      | (go_simp; go_at_call 29; refine (condSt (w := w) (k := k2) (x := x) (by (repeat (first | exact S2.out | with_reducible apply St.drew | with_reducible apply St.alloc))) (by omega)).mono ?_; rintro e w3 ⟨r3, k3, rfl, hr3, hk3, P3, hd3, hn3, hn4⟩; have S3 := Lib.hid P3; have R3 := Lib.hid hd3; have N3 := Lib.hid (And.intro hn3 hn4); have Q3 := Lib.hid hr3; clear hr3 P3 hd3 hn3 hn4; obtain ⟨_, x0, x1, x2, x3, xf⟩ := S3.out.box; have xf3 := xf 3; clear xf; have hkb3 := S3.out.box.lt))
    all_goals
      obtain ⟨_, b0, b1, b2, b3, bf⟩ := S5.out.box
      have bf0 := bf 0
      have bf1 := bf 1
      have bf2 := bf 2
      have bf3 := bf 3
      clear bf
      have hkb := S5.out.box.lt
      have hkr := S5.out.kb1
      have hkz := S5.out.fin.z
      try simp only [mk_op, mk_nm, mk_day, mk_A, mk_ps, mk_cap] at b0 b1 b2 b3
      try simp only [List.length_append, List.length_cons, List.length_nil, Nat.zero_add] at b3
      obtain ⟨_, p0, p1, p2, p3, pf⟩ := S5.out.res
      have pf0 := pf 0
      have pf1 := pf 1
      have pf2 := pf 2
      have pf3 := pf 3
      clear pf
      obtain ⟨hf, _, t0, t1, t2, t3, _⟩ := S5.out.done (k := k) (m := 200) (by omega) (wq_app HW.out Q3.out.wq (by omega))
      have HF := Lib.hid hf
      clear hf
      simp only [put4, mk_op, mk_nm, mk_day, mk_A, mk_ps, mk_cap, mk_val, List.length_append, List.length_cons, List.length_nil, Nat.zero_add] at t0 t1 t2 t3
      go_wp2_with fail
      have hf := HF.out
      simp only [put4, mk_op, mk_nm, mk_day, mk_A, mk_ps, mk_cap, mk_val, List.length_append, List.length_cons, List.length_nil, Nat.zero_add] at hf
      exact bodyPost_ret (v := .agg #[.int .i64 x.op, .string x.nm, .int .i64 x.day, .slice a3 (x.ps.length + 1) c3]) (by simp [results, Tryz.results13, go_sem, t0, t1, t2, t3]) rfl hf
  have q3 : ((r : Int) == 3) = false := by simp <;> omega
  by_cases h4 : r = 4
  · skip
    have q4 : ((r : Int) == 4) = true := by simp <;> omega
    clear h0 h1 h2 h3 h4
    go_wp2_with (go_at_call 30; refine (pick 3 (by omega) (by omega) g A n cap k2 B w2 S2.out.fin.ok (by omega)).mono ?_; rintro e w3 ⟨z, k3, rfl, hz3, hk3, hok3, hg3⟩; refine Hid.out ?_)
    refine Lib.hid ?_
    have S3 := Lib.hid (S2.out.step hok3 hg3)
    clear hok3 hg3 S2
    go_wp2_with fail
    go_loopg [] 200 (fun gk wr => ∃ (y : K) (t : Nat), 200 ≤ gk + t ∧ t ≤ 71 ∧ Hid (y.cond.size = t) ∧ Hid (Wq (70 + t) y) ∧ Hid (St w wr kb g A n cap k3 B y))
    case atStart => exact ⟨x, x.cond.size, by omega, wq_size HW.out, Lib.hid rfl, Lib.hid (HW.out.more (by omega)), S3⟩
    case round =>
      clear S3
      obtain ⟨y, t, hg, ht, HT, HY, SY⟩ := hrel
      have HS := l5Size y wr SY.out.dk.lies (by rw [HT.out]; omega)
      rw [HT.out] at HS
      have HSH := Lib.hid HS
      clear HS
      obtain ⟨_, b0, b1, b2, b3, bf⟩ := SY.out.box
      have bf0 := bf 0
      have bf1 := bf 1
      have bf2 := bf 2
      have bf3 := bf 3
      clear bf
      have hkb := SY.out.box.lt
      have hkr := SY.out.kb1
      have hkz := SY.out.fin.z
      try simp only [mk_op, mk_nm, mk_day, mk_A, mk_ps, mk_cap] at b0 b1 b2 b3
      by_cases hlt : t < 14 + z
      · skip
        have hlt2 : (t : Int) < 14 + (z : Int) := by omega
        go_wp2_with (go_at_call 33; refine HSH.out.mono ?_; rintro e w4 ⟨rfl, hb4⟩; refine Hid.out ?_)
        refine Lib.hid ?_
        have S4 := Lib.hid (SY.out.step (DrD.Ok.kept SY.out.fin.ok (below_grown hb4 none) (fun j e => by cases e)) (below_grown hb4 _))
        have S5 := Lib.hid S4.out.wrap
        clear hb4 b0 b1 b2 b3 bf0 bf1 bf2 bf3 hkb
        obtain ⟨_, b0, b1, b2, b3, bf⟩ := S4.out.box
        have bf0 := bf 0
        have bf1 := bf 1
        have bf2 := bf 2
        have bf3 := bf 3
        clear bf
        have hkb := S4.out.box.lt
        have hkr := S4.out.kb1
        have hkz := S4.out.fin.z
        try simp only [mk_op, mk_nm, mk_day, mk_A, mk_ps, mk_cap] at b0 b1 b2 b3
        go_wp2_with fail
        go_roundg (gk - 1)
        case measure => omega
        case rel =>
          have h5 := S5.out
          simp only [put4] at h5
          exact ⟨_, t + 1, by omega, by omega, Lib.hid (by rw [size_wrap, HT.out]), Lib.hid (wq_wrap HY.out), Lib.hid h5⟩
      · skip
        have hlt2 : ¬ (t : Int) < 14 + (z : Int) := by omega
        go_wp2_with (go_at_call 33; refine HSH.out.mono ?_; rintro e w4 ⟨rfl, hb4⟩; refine Hid.out ?_)
        refine Lib.hid ?_
        have S4 := Lib.hid (SY.out.step (DrD.Ok.kept SY.out.fin.ok (below_grown hb4 none) (fun j e => by cases e)) (below_grown hb4 _))
        clear hb4 b0 b1 b2 b3 bf0 bf1 bf2 bf3 hkb
        obtain ⟨_, b0, b1, b2, b3, bf⟩ := S4.out.box
        have bf0 := bf 0
        have bf1 := bf 1
        have bf2 := bf 2
        have bf3 := bf 3
        clear bf
        have hkb := S4.out.box.lt
        have hkr := S4.out.kb1
        have hkz := S4.out.fin.z
        try simp only [mk_op, mk_nm, mk_day, mk_A, mk_ps, mk_cap] at b0 b1 b2 b3
        obtain ⟨_, p0, p1, p2, p3, pf⟩ := S4.out.res
        have pf0 := pf 0
        have pf1 := pf 1
        have pf2 := pf 2
        have pf3 := pf 3
        clear pf
        obtain ⟨hf, _, t0, t1, t2, t3, _⟩ := S4.out.done (k := k) (m := 200) (by omega) (HY.out.more (by omega))
        have HF := Lib.hid hf
        clear hf
        simp only [put4, mk_op, mk_nm, mk_day, mk_A, mk_ps, mk_cap, mk_val, List.length_append, List.length_cons, List.length_nil, Nat.zero_add] at t0 t1 t2 t3
        go_wp2_with fail
        have hf := HF.out
        simp only [put4, mk_op, mk_nm, mk_day, mk_A, mk_ps, mk_cap, mk_val, List.length_append, List.length_cons, List.length_nil, Nat.zero_add] at hf
        exact bodyPost_ret (v := y.val) (by simp [results, Tryz.results13, go_sem, t0, t1, t2, t3]) rfl hf
  have q4 : ((r : Int) == 4) = false := by simp <;> omega
  clear h0 h1 h2 h3 h4
  obtain ⟨_, b0, b1, b2, b3, bf⟩ := S2.out.box
  have bf0 := bf 0
  have bf1 := bf 1
  have bf2 := bf 2
  have bf3 := bf 3
  clear bf
  have hkb := S2.out.box.lt
  have hkr := S2.out.kb1
  have hkz := S2.out.fin.z
  try simp only [mk_op, mk_nm, mk_day, mk_A, mk_ps, mk_cap] at b0 b1 b2 b3
  obtain ⟨_, p0, p1, p2, p3, pf⟩ := S2.out.res
  have pf0 := pf 0
  have pf1 := pf 1
  have pf2 := pf 2
  have pf3 := pf 3
  clear pf
  obtain ⟨hf, _, t0, t1, t2, t3, _⟩ := S2.out.done (k := k) (m := 200) (by omega) (HW.out.more (by omega))
  have HF := Lib.hid hf
  clear hf
  simp only [put4, mk_op, mk_nm, mk_day, mk_A, mk_ps, mk_cap, mk_val, List.length_append, List.length_cons, List.length_nil, Nat.zero_add] at t0 t1 t2 t3
  go_wp2_with fail
  have hf := HF.out
  simp only [put4, mk_op, mk_nm, mk_day, mk_A, mk_ps, mk_cap, mk_val, List.length_append, List.length_cons, List.length_nil, Nat.zero_add] at hf
  exact bodyPost_ret (v := x.val) (by simp [results, Tryz.results13, go_sem, t0, t1, t2, t3]) rfl hf

end Go.Proofs.YtmgjeplbhnfakaaGreatDoor.DrD

namespace Go.Proofs.YtmgjeplbhnfakaaGreatDoor.UniTM
open Go Go.Lib

theorem irr (a : List UInt8) : ¬ a < a := List.lt_irrefl a
theorem ltt {a b c : List UInt8} (h : a < b) (k : b < c) : a < c := List.lt_trans h k
theorem tri {a b : List UInt8} (h : ¬ a < b) (e : a ≠ b) : b < a := Classical.byContradiction fun k => e (List.le_antisymm (List.not_lt.1 k) (List.not_lt.1 h))
theorem le_cases {a b : List UInt8} (h : a ≤ b) : a < b ∨ a = b := Classical.byContradiction fun k => by
  have h1 : ¬ a < b := fun x => k (.inl x)
  exact k (.inr (List.le_antisymm h (List.not_lt.1 h1)))
theorem lt_le {a b : List UInt8} (h : a < b) : a ≤ b := List.not_lt.1 fun k => irr a (ltt h k)
theorem le_tr {a b c : List UInt8} (h : a ≤ b) (k : b ≤ c) : a ≤ c := by
  rcases le_cases h with h | rfl
  · rcases le_cases k with k | rfl
    · exact lt_le (ltt h k)
    · exact lt_le h
  · exact k

/-- n put into its place, if it is not there. -/
def putL : List (List UInt8) → List UInt8 → List (List UInt8)
  | [], n => [n]
  | x :: l, n => if x < n then x :: putL l n else if x = n then x :: l else n :: x :: l

def uni (a b : List (List UInt8)) : List (List UInt8) := b.foldl putL a

theorem mem_putL (l : List (List UInt8)) (n m : List UInt8) : m ∈ putL l n ↔ m = n ∨ m ∈ l := by
  induction l with
  | nil => simp [putL]
  | cons x l ih =>
    unfold putL
    by_cases h : x < n
    · simp only [h, if_true, List.mem_cons, ih]; constructor
      · rintro (h | h | h) <;> simp [h]
      · rintro (h | h | h) <;> simp [h]
    · by_cases e : x = n
      · rw [if_neg h, if_pos e, List.mem_cons]; constructor
        · rintro (h | h) <;> simp [h]
        · rintro (h | h | h)
          · exact Or.inl (h.trans e.symm)
          · exact Or.inl h
          · exact Or.inr h
      · simp only [h, e, if_false, List.mem_cons]

theorem pair_putL {l : List (List UInt8)} (h : l.Pairwise (· < ·)) (n : List UInt8) : (putL l n).Pairwise (· < ·) := by
  induction l with
  | nil => simp [putL]
  | cons x l ih =>
    have h1 := List.pairwise_cons.1 h
    unfold putL
    by_cases hx : x < n
    · simp only [hx, if_true]
      refine List.pairwise_cons.2 ⟨fun m hm => ?_, ih h1.2⟩
      rcases (mem_putL l n m).1 hm with e | e
      · subst e; exact hx
      · exact h1.1 m e
    · by_cases e : x = n
      · rw [if_neg hx, if_pos e]; exact h
      · simp only [hx, e, if_false]
        refine List.pairwise_cons.2 ⟨fun m hm => ?_, h⟩
        rcases List.mem_cons.1 hm with e' | e'
        · subst e'; exact tri hx e
        · exact ltt (tri hx e) (h1.1 m e')

theorem mem_uni (b : List (List UInt8)) : ∀ (a : List (List UInt8)) (m : List UInt8), m ∈ uni a b ↔ m ∈ a ∨ m ∈ b := by
  induction b with
  | nil => intro a m; simp [uni]
  | cons x b ih =>
    intro a m
    have := ih (putL a x) m
    unfold uni at this ⊢
    rw [List.foldl_cons, this, mem_putL, List.mem_cons]
    constructor
    · rintro ((h | h) | h) <;> simp [h]
    · rintro (h | h | h) <;> simp [h]

theorem pair_uni (b : List (List UInt8)) : ∀ {a : List (List UInt8)}, a.Pairwise (· < ·) → (uni a b).Pairwise (· < ·) := by
  induction b with
  | nil => intro a h; exact h
  | cons x b ih => intro a h; exact ih (pair_putL h x)

theorem length_putL (l : List (List UInt8)) (n : List UInt8) : (putL l n).length ≤ l.length + 1 := by
  induction l with
  | nil => simp [putL]
  | cons x l ih =>
    unfold putL
    by_cases h : x < n
    · simp only [h, if_true, List.length_cons]; omega
    · by_cases e : x = n <;> simp [h, e, irr]

theorem length_uni (b : List (List UInt8)) : ∀ (a : List (List UInt8)), (uni a b).length ≤ a.length + b.length := by
  induction b with
  | nil => intro a; simp [uni]
  | cons x b ih =>
    intro a
    have h1 := ih (putL a x)
    have h2 := length_putL a x
    have e : uni a (x :: b) = uni (putL a x) b := rfl
    rw [e, List.length_cons]; omega

theorem uni_snoc (a b : List (List UInt8)) (x : List UInt8) : uni a (b ++ [x]) = putL (uni a b) x := by simp [uni]

/-- Two lists that rise strictly and have the same members are one. -/
theorem eq_of_mem : ∀ {a b : List (List UInt8)}, a.Pairwise (· < ·) → b.Pairwise (· < ·) → (∀ m, m ∈ a ↔ m ∈ b) → a = b := by
  intro a
  induction a with
  | nil =>
    intro b _ _ h
    cases b with
    | nil => rfl
    | cons y b => exact absurd ((h y).2 (by simp)) (by simp)
  | cons x a ih =>
    intro b ha hb h
    cases b with
    | nil => exact absurd ((h x).1 (by simp)) (by simp)
    | cons y b =>
      have h1 := List.pairwise_cons.1 ha
      have h2 := List.pairwise_cons.1 hb
      have e : x = y := by
        rcases List.mem_cons.1 ((h x).1 (by simp)) with e | e
        · exact e
        · rcases List.mem_cons.1 ((h y).2 (by simp)) with e' | e'
          · exact e'.symm
          · exact absurd (ltt (h2.1 x e) (h1.1 y e')) (irr _)
      subst e
      congr 1
      refine ih h1.2 h2.2 (fun m => ?_)
      constructor
      · intro hm
        rcases List.mem_cons.1 ((h m).1 (by simp [hm])) with e | e
        · rw [e] at hm; exact absurd (h1.1 _ hm) (irr _)
        · exact e
      · intro hm
        rcases List.mem_cons.1 ((h m).2 (by simp [hm])) with e | e
        · rw [e] at hm; exact absurd (h2.1 _ hm) (irr _)
        · exact e

/-- n's place in l. -/
theorem putL_at : ∀ (l : List (List UInt8)) (n : List UInt8) (k : Nat), k ≤ l.length → (∀ j, j < k → l.getD j [] < n) → (k < l.length → n ≤ l.getD k []) →
    putL l n = if k < l.length ∧ l.getD k [] = n then l else (l.take k ++ [n]) ++ l.drop k := by
  intro l
  induction l with
  | nil =>
    intro n k hk _ _
    have : k = 0 := by simpa using hk
    subst this
    simp [putL]
  | cons x l ih =>
    intro n k hk hlo hhi
    cases k with
    | zero =>
      have h1 : n ≤ x := by simpa using hhi (by simp)
      unfold putL
      by_cases e : x = n
      · simp [e, irr]
      · have : ¬ x < n := fun k => by
          rcases le_cases h1 with h1 | h1
          · exact irr _ (ltt k h1)
          · exact e h1.symm
        simp [e, this]
    | succ k =>
      have h1 : x < n := by simpa using hlo 0 (by omega)
      have := ih n k (by simpa using hk) (fun j hj => by simpa using hlo (j + 1) (by omega)) (fun hj => by simpa using hhi (by simpa using hj))
      unfold putL
      rw [if_pos h1, this]
      by_cases c : k < l.length ∧ l.getD k [] = n
      · have c' : k + 1 < (x :: l).length ∧ (x :: l).getD (k + 1) [] = n := by simpa using c
        rw [if_pos c, if_pos c']
      · have c' : ¬ (k + 1 < (x :: l).length ∧ (x :: l).getD (k + 1) [] = n) := by simpa using c
        rw [if_neg c, if_neg c']; simp

theorem get_bang (zs : List (List UInt8)) {i : Nat} (h : i < zs.length) : zs.toArray[i]! = zs[i] := by simp [h]

theorem compactUp (zs : List (List UInt8)) (h : zs.Pairwise (· ≤ ·)) : ∀ m, m ≤ zs.length →
    (compactUpTo zs.toArray m).Pairwise (· < ·) ∧ (∀ x, x ∈ compactUpTo zs.toArray m ↔ x ∈ zs.take m) := by
  intro m
  induction m with
  | zero => intro _; simp [compactUpTo]
  | succ m ih =>
    intro hm
    obtain ⟨h1, h2⟩ := ih (by omega)
    rw [compactUpTo_succ]
    have ht : zs.take (m + 1) = zs.take m ++ [zs[m]'(by omega)] := List.take_succ_eq_append_getElem (by omega)
    have hle : ∀ x ∈ zs.take m, x ≤ zs[m]'(by omega) := fun x hx => by
      obtain ⟨i, hi, e⟩ := List.mem_iff_getElem.1 hx
      have hi' : i < m := by simp at hi; omega
      rw [List.getElem_take] at e
      subst e
      exact List.pairwise_iff_getElem.1 h i m (by omega) (by omega) hi'
    rw [ht, get_bang zs (by omega)]
    by_cases c : keeps zs.toArray m = true
    · rw [if_pos c]
      have hlt : ∀ x ∈ zs.take m, x < zs[m]'(by omega) := fun x hx => by
        obtain ⟨i, hi, e⟩ := List.mem_iff_getElem.1 hx
        have hi' : i < m := by simp at hi; omega
        rw [List.getElem_take] at e
        subst e
        have c1 : zs[m]'(by omega) ≠ zs[m - 1]'(by omega) := by
          have c0 := of_decide_eq_true c
          rw [get_bang zs (show m < zs.length by omega), get_bang zs (show m - 1 < zs.length by omega)] at c0
          rcases c0 with c0 | c0
          · omega
          · exact c0
        have c2 := List.pairwise_iff_getElem.1 h (m - 1) m (by omega) (by omega) (by omega)
        have c4 : zs[m - 1]'(by omega) < zs[m]'(by omega) := by
          rcases le_cases c2 with c2 | c2
          · exact c2
          · exact absurd c2.symm c1
        by_cases e : i = m - 1
        · subst e; exact c4
        · have c3 := List.pairwise_iff_getElem.1 h i (m - 1) (by omega) (by omega) (by omega)
          rcases le_cases c3 with c3 | c3
          · exact ltt c3 c4
          · rw [c3]; exact c4
      refine ⟨?_, fun x => by rw [List.mem_append, List.mem_append, h2 x]⟩
      rw [List.pairwise_append]
      exact ⟨h1, by simp, fun x hx y hy => by
        have : y = zs[m]'(by omega) := by simpa using hy
        subst this; exact hlt x ((h2 x).1 hx)⟩
    · have hm0 : m ≠ 0 := fun e => c (by subst e; exact keeps_lt_one _ 0 (by omega))
      have e1 : zs[m]'(by omega) = zs[m - 1]'(by omega) := Classical.byContradiction fun e => c (keeps_pos (by
        rw [get_bang zs (show m < zs.length by omega), get_bang zs (show m - 1 < zs.length by omega)]; exact e))
      rw [if_neg c, List.append_nil]
      refine ⟨h1, fun x => ?_⟩
      rw [h2 x, List.mem_append]
      constructor
      · exact Or.inl
      · rintro (hx | hx)
        · exact hx
        · have : x = zs[m]'(by omega) := by simpa using hx
          rw [this, e1]
          exact List.mem_iff_getElem.2 ⟨m - 1, by simp; omega, by rw [List.getElem_take]⟩

/-- Sorting and striking equal neighbours gives the union. -/
theorem compact_sort (a b : List (List UInt8)) (ha : a.Pairwise (· < ·)) : compact ((a ++ b).mergeSort fun x y => decide (x ≤ y)) = uni a b := by
  have hs : ((a ++ b).mergeSort fun x y => decide (x ≤ y)).Pairwise (· ≤ ·) := by
    have := List.pairwise_mergeSort (le := fun x y : List UInt8 => decide (x ≤ y)) (fun a b c h1 h2 => by simp only [decide_eq_true_eq] at *; exact le_tr h1 h2) (fun a b => by simp only [Bool.or_eq_true, decide_eq_true_eq]; exact List.le_total a b) (a ++ b)
    exact this.imp (fun h => by simpa using h)
  obtain ⟨h1, h2⟩ := compactUp _ hs _ (Nat.le_refl _)
  refine eq_of_mem h1 (pair_uni b ha) (fun m => ?_)
  unfold compact
  rw [h2 m, List.take_length, List.mem_mergeSort, List.mem_append, mem_uni]

end Go.Proofs.YtmgjeplbhnfakaaGreatDoor.UniTM

namespace Go.Proofs.YtmgjeplbhnfakaaGreatDoor.Row
open Go.RowKit Go.Proofs.YtmgjeplbhnfakaaGreatDoor.Plain

theorem block_add (a : Addr) (n : Nat) : (a.add n).block = a.block := by unfold Addr.add; split <;> rfl

/-- The slice that begins at A holds the strings ss, below block B. -/
def Is (w : World) (B : Nat) (A : Option Addr) (ss : List ByteArray) : Prop :=
  0 < ss.length → ∃ ad, A = some ad ∧ ad.block < B ∧ ∀ j, ∀ h : j < ss.length, w.cell? (ad.add j) = some (.string ss[j])

theorem Is.below {w w' : World} {B : Nat} {A : Option Addr} {ss : List ByteArray} (h : Is w B A ss) (hb : Below B w w') : Is w' B A ss := fun hp => by
  obtain ⟨ad, e, hB, hc⟩ := h hp
  exact ⟨ad, e, hB, fun j hj => (hb.cell (by rw [block_add]; exact hB)).trans (hc j hj)⟩

theorem Is.more {w : World} {B B' : Nat} {A : Option Addr} {ss : List ByteArray} (h : Is w B A ss) (hB : B ≤ B') : Is w B' A ss := fun hp => by
  obtain ⟨ad, e, hB', hc⟩ := h hp
  exact ⟨ad, e, by omega, hc⟩

theorem Is.of_own {w : World} {base n cap : Nat} {A : Option Addr} {ss : List ByteArray} (h : w.ownsRow base 9 1 (.slice A n cap) n (ss.map Value.string)) (hn : n = ss.length) : Is w w.heap.size A ss := fun hp => by
  subst hn
  rcases h.2 with ⟨hv, h0⟩ | ⟨g, c, cur, hv, _, hh, _⟩
  · omega
  · injection hv with h1 h2 h3
    subst h1; subst h3
    refine ⟨_, rfl, (Array.getElem?_eq_some_iff.1 hh).1, fun j hj => ?_⟩
    have := h.cells (g := g) rfl j (.string ss[j]) (by simp [hj])
    exact this

/-- The letters and elements of some strings. -/
def sizes (ss : List ByteArray) : Nat := (ss.map (·.size)).sum

theorem sizes_step {ss : List ByteArray} {k : Nat} (hk : k < ss.length) : sizes (ss.take (k + 1)) = sizes (ss.take k) + ss[k].size := by
  unfold sizes
  rw [List.take_succ_eq_append_getElem hk]
  simp only [List.map_append, List.sum_append, List.map_cons, List.map_nil, List.sum_cons, List.sum_nil, Nat.add_zero]

theorem sizes_take_le (ss : List ByteArray) (k : Nat) : sizes (ss.take k) ≤ sizes ss := by
  have e : ss = ss.take k ++ ss.drop k := (List.take_append_drop k ss).symm
  have h : sizes ss = sizes (ss.take k) + sizes (ss.drop k) := by
    conv => lhs; rw [e]
    unfold sizes; simp only [List.map_append, List.sum_append]
  omega

def szAns (ss : List ByteArray) (w : World) (e : Ending) (w' : World) : Prop :=
  w = w' ∧ ((sizes ss + ss.length ≤ 1048576 ∧ e = .returned (.int .i64 (1048576 - (sizes ss + ss.length : Nat)))) ∨ (1048576 < sizes ss + ss.length ∧ e = .returned (.int .i64 (-1))))

theorem infoStr : (Tryz.prog.info? 9).map (fun i => (i.zero, i.size, i.bytes)) = some (some (.string ByteArray.empty), 1, 16) := by kernel_rfl

/-- A row of n strings: the first k are told, the others are empty. -/
def upTo (ss : List ByteArray) (n k : Nat) : List Value := (ss.take k).map Value.string ++ List.replicate (n - k) (.string ByteArray.empty)

theorem upTo_set {ss : List ByteArray} {n k : Nat} (hn : n = ss.length) (hk : k < n) : (upTo ss n k).set k (.string (ss[k]'(by omega))) = upTo ss n (k + 1) := by
  subst hn
  unfold upTo
  have hl : ((ss.take k).map Value.string).length = k := by simp; omega
  rw [List.set_append_right _ _ (by omega), hl, Nat.sub_self, List.take_succ_eq_append_getElem hk, List.map_append,
    show ss.length - k = (ss.length - (k + 1)) + 1 by omega, List.replicate_succ, List.set_cons_zero]
  simp

end Go.Proofs.YtmgjeplbhnfakaaGreatDoor.Row

namespace Go.Proofs.YtmgjeplbhnfakaaGreatDoor.Cond
open Go.RowKit

/-- Strings by their bytes: less. -/
def sl (a b : ByteArray) : Bool := Op.bytesLess a.toList b.toList
/-- Element j of a fact list is a name, greater than the one before. -/
def fAt (ss : List ByteArray) (j : Nat) : Prop := ∀ h : j < ss.length, isNm ss[j] = true ∧ (0 < j → sl (ss[j - 1]'(by omega)) ss[j] = true)
/-- A fact list. -/
def FOk (ss : List ByteArray) : Prop := ss.length ≤ 16 ∧ ∀ j, j < ss.length → fAt ss j

theorem fAt_of {ss : List ByteArray} {k : Nat} (hk : k < ss.length) {p : ByteArray} (hp : p = ss[k]) (h1 : isNm p = true) (h2 : ∀ h : 0 < k, sl (ss[k - 1]'(by omega)) p = true) : fAt ss k := fun h => by
  subst hp
  exact ⟨h1, h2⟩

set_option maxHeartbeats 1000000 in
theorem isFactList (A : Option Addr) (n cap : Nat) (ss : List ByteArray) (B : Nat) (w : World) (hn : n = ss.length) (hm : n ≤ 1048576) (hA : Row.Is w B A ss) (hs : ∀ p ∈ ss, p.size ≤ maxLen) (f : Bool) (hf : f = true ↔ FOk ss) :
    Calls Tryz.prog 17 #[.slice A n cap] w fun e w' => e = .returned (.bool f) ∧ w = w' := by
  have HN := Lib.hid hn
  have HF := Lib.hid hf
  clear hn hf
  have HFN : Hid (∀ j, ∀ h : j < ss.length, ¬ (isNm ss[j] = true ∧ (0 < j → sl (ss[j - 1]'(by omega)) ss[j] = true)) → f = false) := Lib.hid fun j h hno => by
    cases hv : f with
    | false => rfl
    | true => exact absurd ((HF.out.1 hv).2 j h h) hno
  by_cases hbig : n ≤ 16
  · have hb2 : ¬ (16 : Int) < (n : Int) := by omega
    go_enter Tryz.func17, Tryz.ntmps17
    go_wp2_with fail
    go_loopw [10] (fun i wr => ∃ k : Nat, k ≤ n ∧ i = .int .i64 k ∧ Hid (∀ j, j < k → fAt ss j) ∧ w = wr) (fun i _ => n - (intOf i).toNat)
    case atStart => exact ⟨0, Nat.zero_le _, rfl, Lib.hid fun j hj => by omega, rfl⟩
    case round =>
      obtain ⟨k, hk, rfl, HK, rfl⟩ := hrel
      by_cases hlt : k < n
      · have hk' : k < ss.length := by have := HN.out; omega
        obtain ⟨ad, rfl, hB, hc⟩ := hA (by omega)
        obtain ⟨p, hp⟩ : ∃ p, p = ss[k] := ⟨_, rfl⟩
        have hcell : w.cell? (ad.add k) = some (.string p) := by rw [hp]; exact hc k hk'
        have HV := isValidName p (by rw [hp]; exact hs _ (List.getElem_mem hk')) w
        have HP := Lib.hid hp
        obtain ⟨v, hv⟩ : ∃ v, v = isNm p := ⟨_, rfl⟩
        rw [← hv] at HV
        have HVH := Lib.hid HV
        have HVV := Lib.hid hv
        clear hv HV
        cases v
        · have HE : Hid (f = false) := Lib.hid (HFN.out k hk' (fun h => by rw [← HP.out, ← HVV.out] at h; exact absurd h.1 (by simp)))
          clear hp hc
          go_wp2_with (go_at_call 40; refine HVH.out.mono ?_; rintro e w' ⟨rfl, rfl⟩)
          go_ret
          exact ⟨by rw [HE.out]; rfl, rfl⟩
        · by_cases h0 : 0 < k
          · obtain ⟨q, hq⟩ : ∃ q, q = ss[k - 1]'(by omega) := ⟨_, rfl⟩
            have hcell2 : w.cell? (ad.add (k - 1)) = some (.string q) := by rw [hq]; exact hc (k - 1) (by omega)
            have HQ := Lib.hid hq
            obtain ⟨u, hu⟩ : ∃ u, u = Op.bytesLess q.toList p.toList := ⟨_, rfl⟩
            have HU := Lib.hid hu
            have hu' := hu.symm
            have h0' : (0 : Int) < (k : Int) := by omega
            clear hp hq hc hu
            cases u
            · have HE : Hid (f = false) := Lib.hid (HFN.out k hk' (fun h => by
                have := h.2 h0
                unfold sl at this
                rw [← HP.out, ← HQ.out, ← HU.out] at this
                cases this))
              go_wp2_with (go_at_call 40; refine HVH.out.mono ?_; rintro e w' ⟨rfl, rfl⟩)
              go_ret
              exact ⟨by rw [HE.out]; rfl, rfl⟩
            · go_wp2_with (go_at_call 40; refine HVH.out.mono ?_; rintro e w' ⟨rfl, rfl⟩)
              go_roundw
              case rel => exact ⟨k + 1, by omega, by go_num, Lib.hid fun j hj => by
                by_cases e : j = k
                · subst e
                  exact fAt_of hk' HP.out HVV.out.symm (fun _ => by unfold sl; rw [← HQ.out]; exact HU.out.symm)
                · exact HK.out j (by omega), trivial⟩
              case measure => simp [intOf]; omega
          · have h0' : ¬ (0 : Int) < (k : Int) := by omega
            clear hp hc
            go_wp2_with (go_at_call 40; refine HVH.out.mono ?_; rintro e w' ⟨rfl, rfl⟩)
            go_roundw
            case rel => exact ⟨k + 1, by omega, by go_num, Lib.hid fun j hj => by
              by_cases e : j = k
              · subst e
                exact fAt_of hk' HP.out HVV.out.symm (fun h => absurd h h0)
              · exact HK.out j (by omega), trivial⟩
            case measure => simp [intOf]; omega
      · have HE : Hid (f = true) := Lib.hid (HF.out.2 ⟨by have := HN.out; omega, fun j hj => HK.out j (by have := HN.out; omega)⟩)
        go_wp2_with fail
        go_ret
        exact ⟨by rw [HE.out]; rfl, rfl⟩
  · have hb2 : (16 : Int) < (n : Int) := by omega
    have HE : Hid (f = false) := Lib.hid (by
      cases hv : f with
      | false => rfl
      | true => exact absurd (HF.out.1 hv).1 (by have := HN.out; omega))
    rw [HE.out]
    go_enter Tryz.func17, Tryz.ntmps17
    go_wp2_with fail
    go_ret
    exact ⟨rfl, rfl⟩

set_option maxHeartbeats 2000000 in
theorem l5Facts (A : Option Addr) (n cap : Nat) (ss : List ByteArray) (B : Nat) (w : World) (hn : n = ss.length) (hm : n ≤ 1048576) (hA : Row.Is w B A ss) (f : Bool) (hf : f = true ↔ FOk ss) :
    Calls Tryz.prog 24 #[.slice A n cap] w fun e w' => e = .returned (.bool f) ∧ ∃ m, w' = w.drewN m := by
  have HN := Lib.hid hn
  have HF := Lib.hid hf
  clear hn hf
  have HFN : Hid (∀ j, ∀ h : j < ss.length, ¬ (isNm ss[j] = true ∧ (0 < j → sl (ss[j - 1]'(by omega)) ss[j] = true)) → f = false) := Lib.hid fun j h hno => by
    cases hv : f with
    | false => rfl
    | true => exact absurd ((HF.out.1 hv).2 j h h) hno
  go_enter Tryz.func24, Tryz.ntmps24
  go_wp2_with fail
  go_loopw [3] (fun i wr => ∃ k : Nat, k ≤ n ∧ i = .int .i64 k ∧ Hid (∀ j, j < k → fAt ss j) ∧ Hid (∃ m, wr = w.drewN m)) (fun i _ => n - (intOf i).toNat)
  case atStart => exact ⟨0, Nat.zero_le _, rfl, Lib.hid fun j hj => by omega, Lib.hid ⟨0, rfl⟩⟩
  case round =>
    obtain ⟨k, hk, rfl, HK, HW⟩ := hrel
    have HCL : Hid (∀ a, wr.cell? a = w.cell? a) := Lib.hid fun a => by obtain ⟨m, rfl⟩ := HW.out; rfl
    have HDR : Hid (∀ q, ∃ m, wr.drewN q = w.drewN m) := Lib.hid fun q => by obtain ⟨m, hm⟩ := HW.out; exact ⟨m + q, by rw [hm, World.drewN_drewN]⟩
    by_cases hlt : k < n
    · have i0 : (0 : Int) ≤ (k : Int) := by omega
      have i1 : (k : Int) < (n : Int) := by omega
      by_cases h16 : k ≤ 16
      · have h16' : (k : Int) ≤ 16 := by omega
        have hk' : k < ss.length := by have := HN.out; omega
        obtain ⟨ad, rfl, hB, hc⟩ := hA (by omega)
        obtain ⟨p, hp⟩ : ∃ p, p = ss[k] := ⟨_, rfl⟩
        have hcell : wr.cell? (ad.add k) = some (.string p) := by rw [HCL.out, hp]; exact hc k hk'
        have HV : ∀ v, Calls Tryz.prog 46 #[.string p] v fun e w' => e = .returned (.bool (isNm p)) ∧ ∃ m, w' = v.drewN m := fun v => (l5Name p v).mono fun e w' ⟨he, hw⟩ => ⟨he, 0, hw.symm⟩
        have HP := Lib.hid hp
        obtain ⟨v, hv⟩ : ∃ v, v = isNm p := ⟨_, rfl⟩
        rw [← hv] at HV
        have HVH := Lib.hid HV
        have HVV := Lib.hid hv
        clear hv HV
        cases v
        · have HE : Hid (f = false) := Lib.hid (HFN.out k hk' (fun h => by rw [← HP.out, ← HVV.out] at h; exact absurd h.1 (by simp)))
          clear hp hc
          go_wp2_with fail
          go_quiet ((go_at_call 46; with_reducible exact Calls.quiet_of (HVH.out _)))
          go_wp2_with fail
          go_ret
          exact ⟨by rw [HE.out]; rfl, HDR.out _⟩
        · by_cases h0 : 0 < k
          · obtain ⟨q, hq⟩ : ∃ q, q = ss[k - 1]'(by omega) := ⟨_, rfl⟩
            have hcell2 : wr.cell? (ad.add (k - 1)) = some (.string q) := by rw [HCL.out, hq]; exact hc (k - 1) (by omega)
            have HQ := Lib.hid hq
            obtain ⟨u, hu⟩ : ∃ u, u = Op.bytesLess q.toList p.toList := ⟨_, rfl⟩
            have HU := Lib.hid hu
            have hu' := hu.symm
            have h0' : (0 : Int) < (k : Int) := by omega
            have h1' : IntKind.i64.wrap ((k : Int) - 1) = ((k - 1 : Nat) : Int) := by rw [IntKind.wrap_i64]; omega
            have j0 : (0 : Int) ≤ ((k - 1 : Nat) : Int) := by omega
            have j1 : ((k - 1 : Nat) : Int) < (n : Int) := by omega
            clear hp hq hc hu
            cases u
            · have HE : Hid (f = false) := Lib.hid (HFN.out k hk' (fun h => by
                have := h.2 h0
                unfold sl at this
                rw [← HP.out, ← HQ.out, ← HU.out] at this
                cases this))
              go_wp2_with fail
              go_quiet ((go_at_call 46; with_reducible exact Calls.quiet_of (HVH.out _)))
              go_wp2_with fail
              go_ret
              exact ⟨by rw [HE.out]; rfl, HDR.out _⟩
            · go_wp2_with fail
              go_quiet ((go_at_call 46; with_reducible exact Calls.quiet_of (HVH.out _)))
              go_wp2_with fail
              go_roundw
              case rel => exact ⟨k + 1, by omega, by go_num, Lib.hid fun j hj => by
                by_cases e : j = k
                · subst e
                  exact fAt_of hk' HP.out HVV.out.symm (fun _ => by unfold sl; rw [← HQ.out]; exact HU.out.symm)
                · exact HK.out j (by omega), Lib.hid (HDR.out _)⟩
              case measure => simp [intOf]; omega
          · have h0' : ¬ (0 : Int) < (k : Int) := by omega
            clear hp hc
            go_wp2_with fail
            go_quiet ((go_at_call 46; with_reducible exact Calls.quiet_of (HVH.out _)))
            go_wp2_with fail
            go_roundw
            case rel => exact ⟨k + 1, by omega, by go_num, Lib.hid fun j hj => by
              by_cases e : j = k
              · subst e
                exact fAt_of hk' HP.out HVV.out.symm (fun h => absurd h h0)
              · exact HK.out j (by omega), Lib.hid (HDR.out _)⟩
            case measure => simp [intOf]; omega
      · have h16' : ¬ (k : Int) ≤ 16 := by omega
        have HE : Hid (f = false) := Lib.hid (by
          cases hv : f with
          | false => rfl
          | true => exact absurd (HF.out.1 hv).1 (by have := HN.out; omega))
        have hb2 : ¬ (n : Int) ≤ 16 := by omega
        go_wp2_with fail
        go_ret
        exact ⟨by rw [HE.out]; simp, HW.out⟩
    · have HE : Hid (f = decide (n ≤ 16)) := Lib.hid (by
        by_cases h : n ≤ 16
        · rw [decide_eq_true h]
          exact HF.out.2 ⟨by have := HN.out; omega, fun j hj => HK.out j (by have := HN.out; omega)⟩
        · rw [decide_eq_false h]
          cases hv : f with
          | false => rfl
          | true => exact absurd (HF.out.1 hv).1 (by have := HN.out; omega))
      have i1 : ¬ (k : Int) < (n : Int) := by omega
      have e : decide ((n : Int) ≤ 16) = decide (n ≤ 16) := decide_eq_decide.2 (by omega)
      go_wp2_with fail
      go_ret
      exact ⟨by rw [HE.out, ← e]; rfl, HW.out⟩

end Go.Proofs.YtmgjeplbhnfakaaGreatDoor.Cond

namespace Go.Proofs.YtmgjeplbhnfakaaGreatDoor.UniT
open Go.RowKit Go.Sort Go.Proofs.YtmgjeplbhnfakaaGreatDoor.UniTM
set_option linter.unusedVariables false
set_option linter.unusedSimpArgs false

/-- The slice that begins at A holds the strings, below block B. -/
def Is (w : World) (B : Nat) (A : Option Addr) (zs : List (List UInt8)) : Prop :=
  0 < zs.length → ∃ ad, A = some ad ∧ ad.block < B ∧ ∀ j, ∀ h : j < zs.length, w.cell? (ad.add j) = some (encStr zs[j])
theorem Is.below {w w' : World} {B : Nat} {A : Option Addr} {ss : List (List UInt8)} (h : Is w B A ss) (hb : Below B w w') : Is w' B A ss := fun hp => by
  obtain ⟨ad, e, hB, hc⟩ := h hp
  exact ⟨ad, e, hB, fun j hj => (hb.cell (by rw [Row.block_add]; exact hB)).trans (hc j hj)⟩
theorem Is.more {w : World} {B B' : Nat} {A : Option Addr} {ss : List (List UInt8)} (h : Is w B A ss) (hB : B ≤ B') : Is w B' A ss := fun hp => by
  obtain ⟨ad, e, hB', hc⟩ := h hp
  exact ⟨ad, e, by omega, hc⟩
theorem Is.of_own {w : World} {base n cap : Nat} {A : Option Addr} {ss : List (List UInt8)} (h : w.ownsRow base 9 1 (.slice A n cap) n (ss.map encStr)) (hn : n = ss.length) : Is w w.heap.size A ss := fun hp => by
  subst hn
  rcases h.2 with ⟨hv, h0⟩ | ⟨g, c, cur, hv, _, hh, _⟩
  · omega
  · injection hv with h1 h2 h3
    subst h1; subst h3
    refine ⟨_, rfl, (Array.getElem?_eq_some_iff.1 hh).1, fun j hj => ?_⟩
    have := h.cells (g := g) rfl j (encStr ss[j]) (by simp [hj])
    exact this
/-- The strings of a row. -/
abbrev strs (D : List (List UInt8)) : List ByteArray := D.map fun l => ⟨l.toArray⟩
theorem map_strs (D : List (List UInt8)) : D.map encStr = (strs D).map Value.string := by simp [strs, encStr]
theorem getD_get (zs : List (List UInt8)) {k : Nat} (h : k < zs.length) : zs.getD k [] = zs[k] := by simp [List.getD, h]

abbrev Own (w : World) (S : Nat) (v : Value) (D : List (List UInt8)) : Prop := w.ownsRow S 9 1 v D.length (D.map encStr)

theorem one_ints (zs : List (List UInt8)) : ∀ u ∈ zs.map encStr, u.oneCell' = true := fun u hu => by
  obtain ⟨q, _, rfl⟩ := List.mem_map.1 hu
  rfl

theorem own_form {S : Nat} {w : World} {v : Value} {n : Nat} {xs : List Value} (h : w.ownsRow S 9 1 v n xs) : ∃ a c, v = .slice a n c := by
  rcases h.2 with ⟨hv, h0⟩ | ⟨g', c, cur, hv, _⟩
  · exact ⟨none, 0, by rw [hv, h0]⟩
  · exact ⟨_, c, hv⟩

/-- A row of ints that the call owns, and a slice of ints behind it. -/
theorem app_run (u : World) (S : Nat) (ty : TypeId) (v : Value) (D : List (List UInt8)) (h : Own u S v D) (A : Option Addr) (m c B : Nat) (zs : List (List UInt8)) (hm : m = zs.length) (hI : Is u B A zs) (hc : A = none → c = 0) (hl : D.length + m ≤ 1000000) (hS : S ≤ u.heap.size) :
    ∃ a3 c3 w1, (Builtin.append_ #[27, 27] ty #[v, .slice A m c]).run Tryz.prog u = .ok (.slice a3 (D.length + m) c3) w1 ∧ Own w1 S (.slice a3 (D.length + m) c3) (D ++ zs) ∧ u.grownBy w1 v.ownBlock ∧
      ((Value.slice a3 (D.length + m) c3).ownBlock = v.ownBlock ∨ (Value.slice a3 (D.length + m) c3).ownBlock = some u.heap.size) := by
  subst hm
  obtain ⟨i0, hi, hz0, hz1, hz2⟩ := info_parts Row.infoStr
  cases A with
  | none =>
    have hz : zs = [] := Classical.byContradiction fun e => by
      obtain ⟨ad, e', _⟩ := hI (List.length_pos_iff.2 e)
      cases e'
    subst hz
    rw [hc rfl]
    obtain ⟨a3, c3, e⟩ := own_form h
    refine ⟨a3, c3, u, ?_, ?_, ⟨rfl, rfl, rfl, Nat.le_refl _, fun _ _ _ => rfl⟩, Or.inl ?_⟩
    · have := run_append_owned_none (P := Tryz.prog) (w := u) S 27 ty 9 i0 1 Tryz.underlying27 hi v _ _ h
      rw [List.length_nil, this, e, Nat.add_zero]
    · rw [e] at h; unfold Own; simpa using h
    · rw [e]; simp
  | some ad =>
    obtain ⟨v', w', hr, h2, h3, _, h5⟩ := run_append_own_at (P := Tryz.prog) u S 27 ty 9 i0 (.string ByteArray.empty) 1 16 Tryz.underlying27 hi hz0 hz1 hz2 rfl (by decide) v D.length (D.map encStr) h ad zs.length c (zs.map encStr) (by simp)
      (fun j u' hu => by
        have hj : j < zs.length := by
          rcases Nat.lt_or_ge j zs.length with h | h
          · exact h
          · rw [List.getElem?_eq_none (by simpa using h)] at hu; cases hu
        obtain ⟨ad', e', _, hcell⟩ := hI (by omega)
        cases e'
        rw [hcell j hj]
        simpa [hj] using hu) (one_ints zs) (by unfold maxLen; omega) (by omega) hS
    obtain ⟨a3, c3, rfl⟩ := own_form h2
    exact ⟨a3, c3, w', hr, by unfold Own; simpa using h2, h3, h5⟩

theorem step_app {u : World} {ops : Array Oper} {o : Oper} {a : Act} {K : Act → World → Prop} {Q : Exit → Act → World → Prop} {E : Prop} (hgd : o.guard = none) (s x : Operand)
    (ho : o.op = .call { callee := .builtin .append, args := #[s, x], argTypes := #[27, 27] }) (S : Nat) (v : Value) (D : List (List UInt8)) (hs : a.eval s = v) (h : Own u S v D) (A : Option Addr) (m c B : Nat) (zs : List (List UInt8)) (hx : a.eval x = .slice A m c) (hm : m = zs.length) (hI : Is u B A zs) (hc : A = none → c = 0) (hl : D.length + m ≤ 1000000) (hS : S ≤ u.heap.size)
    (hK : ∀ a3 c3 w1, Own w1 S (.slice a3 (D.length + m) c3) (D ++ zs) → u.grownBy w1 v.ownBlock → ((Value.slice a3 (D.length + m) c3).ownBlock = v.ownBlock ∨ (Value.slice a3 (D.length + m) c3).ownBlock = some u.heap.size) → K (a.put o.dst (.slice a3 (D.length + m) c3)) w1) :
    if Region.wanted o (yielded ops a.tmps) = true then Oper.wp Tryz.prog o a u K Q else E := by
  have hw : Region.wanted o (yielded ops a.tmps) = true := by simp [Region.wanted, hgd]
  rw [if_pos hw]
  obtain ⟨a3, c3, w1, hr, h2, h3, h5⟩ := app_run u S o.type v D h A m c B zs hm hI hc hl hS
  unfold Oper.wp execOp
  simp only [ho, resolve, invoke, builtin, Sem.run_bind, Sem.run_pure, Result.andThen_ok, List.map_toArray, List.map_cons, List.map_nil, hs, hx, hr]
  exact hK a3 c3 w1 h2 h3 h5

theorem wp_app {u : World} {ops : Array Oper} {rest : List Oper} {o : Oper} {a : Act} {Q : Exit → Act → World → Prop} (hgd : o.guard = none) (s x : Operand)
    (ho : o.op = .call { callee := .builtin .append, args := #[s, x], argTypes := #[27, 27] }) (S : Nat) (v : Value) (D : List (List UInt8)) (hs : a.eval s = v) (h : Own u S v D) (A : Option Addr) (m c B : Nat) (zs : List (List UInt8)) (hx : a.eval x = .slice A m c) (hm : m = zs.length) (hI : Is u B A zs) (hc : A = none → c = 0) (hl : D.length + m ≤ 1000000) (hS : S ≤ u.heap.size)
    (hK : ∀ a3 c3 w1, Own w1 S (.slice a3 (D.length + m) c3) (D ++ zs) → u.grownBy w1 v.ownBlock → ((Value.slice a3 (D.length + m) c3).ownBlock = v.ownBlock ∨ (Value.slice a3 (D.length + m) c3).ownBlock = some u.heap.size) → wpList Tryz.prog ops Q rest (a.put o.dst (.slice a3 (D.length + m) c3)) w1) :
    wpList Tryz.prog ops Q (o :: rest) a u := by
  refine wpList_plain hgd fun K hK' => ?_
  obtain ⟨a3, c3, w1, hr, h2, h3, h5⟩ := app_run u S o.type v D h A m c B zs hm hI hc hl hS
  unfold Oper.wp execOp
  simp only [ho, resolve, invoke, builtin, Sem.run_bind, Sem.run_pure, Result.andThen_ok, List.map_toArray, List.map_cons, List.map_nil, hs, hx, hr]
  exact hK' _ _ (hK a3 c3 w1 h2 h3 h5)

theorem own_new (w : World) : Own (w.alloc (.cells #[] 9)) w.heap.size (.slice (some ⟨w.heap.size, 0, none⟩) 0 0) [] := by
  have := World.ownsRow_lit (base := w.heap.size) (e := 9) (size := 1) w #[] 0 (Nat.le_refl _) (by decide) (by simp)
  simpa [Own] using this

def PutAns (S : Nat) (zs : List (List UInt8)) (w : World) (e : Ending) (w' : World) : Prop :=
  ∃ g3 n3 c3, n3 = zs.length ∧ e = .returned (.slice (some ⟨g3, 0, none⟩) n3 c3) ∧ Own w' S (.slice (some ⟨g3, 0, none⟩) n3 c3) zs ∧ Below w.heap.size w w'

/-- The first place whose number is not less. -/
def lo (zs : List (List UInt8)) (n : List UInt8) (k : Nat) : Prop := ∀ j, j < k → zs.getD j [] < n

theorem is_take {w : World} {B : Nat} {ad : Addr} {zs : List (List UInt8)} (h : Is w B (some ad) zs) (k : Nat) : Is w B (some ad) (zs.take k) := fun hp => by
  have h1 : 0 < zs.length := by
    have := List.length_take (i := k) (l := zs); omega
  obtain ⟨ad', e, hB, hc⟩ := h h1
  cases e
  refine ⟨ad, rfl, hB, fun j hj => ?_⟩
  have : j < zs.length := by have := List.length_take (i := k) (l := zs); omega
  rw [List.getElem_take]; exact hc j this

theorem is_drop {w : World} {B g : Nat} {zs : List (List UInt8)} (h : Is w B (some ⟨g, 0, none⟩) zs) (k : Nat) : Is w B (some ⟨g, k, none⟩) (zs.drop k) := fun hp => by
  have h1 : k < zs.length := by
    have := List.length_drop (i := k) (l := zs); omega
  obtain ⟨ad', e, hB, hc⟩ := h (by omega)
  cases e
  refine ⟨_, rfl, hB, fun j hj => ?_⟩
  have : k + j < zs.length := by have := List.length_drop (i := k) (l := zs); omega
  rw [List.getElem_drop]
  have := hc (k + j) this
  unfold Addr.add at this ⊢
  by_cases hk : k = 0 <;> by_cases hj0 : j = 0 <;> simp_all

/-- A row of the call's own, in a world that has grown. -/
structure Pt (w : World) (u : World) (v : Value) (D : List (List UInt8)) : Prop where
  own : Own u w.heap.size v D
  bel : Below w.heap.size w u

theorem Pt.new {w u : World} (h : Below w.heap.size w u) : Pt w (u.alloc (.cells #[] 9)) (.slice (some ⟨u.heap.size, 0, none⟩) 0 0) [] := by
  have := World.ownsRow_lit (base := w.heap.size) (e := 9) (size := 1) u #[] 0 h.size (by decide) (by simp)
  exact ⟨by simpa [Own] using this, h.alloc h.size _⟩
theorem Pt.drew {w u : World} {v : Value} {D : List (List UInt8)} (h : Pt w u v D) : Pt w u.drew v D := ⟨h.own, h.bel.drew⟩
theorem Pt.alloc {w u : World} {v : Value} {D : List (List UInt8)} (h : Pt w u v D) (o : Obj) : Pt w (u.alloc o) v D := ⟨h.own.alloc _, h.bel.alloc h.bel.size _⟩

theorem own_block {S : Nat} {w : World} {v : Value} {n : Nat} {xs : List Value} (h : w.ownsRow S 9 1 v n xs) : ∀ k, v.ownBlock = some k → S ≤ k := fun k hk => by
  rcases h.2 with ⟨hv, h0⟩ | ⟨g', c, cur, hv, hS, _⟩
  · subst hv; cases hk
  · subst hv; cases hk; exact hS

theorem Pt.app {w u w1 : World} {v v' : Value} {D D' : List (List UInt8)} (h : Pt w u v D) (hown : Own w1 w.heap.size v' D') (hg : u.grownBy w1 v.ownBlock) : Pt w w1 v' D' :=
  ⟨hown, h.bel.grown hg h.bel.size (own_block h.own)⟩

/-- One int in a block of its own. -/
def Lq (u : World) (b : Nat) (q : List UInt8) : Prop := u.cell? ⟨b, 0, none⟩ = some (encStr q) ∧ b < u.heap.size
theorem Lq.new (u : World) (q : List UInt8) : Lq (u.alloc (.cells #[encStr q] 9)) u.heap.size q := ⟨by simp [go_sem], by simp [go_sem]⟩
theorem Lq.drew {u : World} {b : Nat} {q : List UInt8} (h : Lq u b q) : Lq u.drew b q := h
theorem Lq.alloc {u : World} {b : Nat} {q : List UInt8} (h : Lq u b q) (o : Obj) : Lq (u.alloc o) b q :=
  ⟨(((Below.refl u.heap.size u).alloc (Nat.le_refl _) o).cell (p := ⟨b, 0, none⟩) h.2).trans h.1, by simp [go_sem]; have := h.2; omega⟩
theorem Lq.grown {u w1 : World} {b : Nat} {q : List UInt8} (h : Lq u b q) {row : Option Nat} (hg : u.grownBy w1 row) (hne : some b ≠ row) : Lq w1 b q :=
  ⟨(World.cell?_of_block (w := u) (hg.block b h.2 hne)).trans h.1, Nat.lt_of_lt_of_le h.2 hg.size⟩
theorem Lq.is {u : World} {b : Nat} {q : List UInt8} (h : Lq u b q) : Is u u.heap.size (some ⟨b, 0, none⟩) [q] := fun _ => ⟨_, rfl, h.2, fun j hj => by
  have : j = 0 := by simpa using hj
  subst this
  exact h.1⟩

theorem size_alloc (w : World) (o : Obj) : (w.alloc o).heap.size = w.heap.size + 1 := by simp [go_sem]
theorem ptBA (w : World) (o : Obj) : Pt w ((w.alloc o).alloc (.cells #[] 9)).drew (.slice (some ⟨w.heap.size + 1, 0, none⟩) 0 0) [] := by
  rw [← size_alloc w o]; exact (Pt.new ((Below.refl _ _).alloc (Nat.le_refl _) _)).drew
theorem lqAB (w : World) (o : Obj) (q : List UInt8) : Lq ((w.alloc o).alloc (.cells #[encStr q] 9)).drew (w.heap.size + 1) q := by
  rw [← size_alloc w o]; exact (Lq.new _ _).drew
theorem lqBA (w : World) (o : Obj) (q : List UInt8) : Lq ((w.alloc (.cells #[encStr q] 9)).alloc o).drew w.heap.size q := ((Lq.new w q).alloc o).drew

theorem step_old {w u : World} {ops : Array Oper} {o : Oper} {a : Act} {K : Act → World → Prop} {Q : Exit → Act → World → Prop} {E : Prop} (hgd : o.guard = none) (s x : Operand)
    (ho : o.op = .call { callee := .builtin .append, args := #[s, x], argTypes := #[27, 27] }) (v : Value) (D : List (List UInt8)) (hs : a.eval s = v) (h : Pt w u v D) (A : Option Addr) (m c : Nat) (zs : List (List UInt8)) (hx : a.eval x = .slice A m c) (hm : m = zs.length) (hI : Is w w.heap.size A zs) (hc : A = none → c = 0) (hl : D.length + m ≤ 1000000)
    (N : Nat) (DD : List (List UInt8)) (hN : N = D.length + m) (hD : DD = D ++ zs)
    (hK : ∀ a3 c3 w1, Pt w w1 (.slice a3 N c3) DD → u.grownBy w1 v.ownBlock → ((Value.slice a3 N c3).ownBlock = v.ownBlock ∨ (Value.slice a3 N c3).ownBlock = some u.heap.size) → K (a.put o.dst (.slice a3 N c3)) w1) :
    if Region.wanted o (yielded ops a.tmps) = true then Oper.wp Tryz.prog o a u K Q else E := by
  subst hN hD
  exact step_app hgd s x ho w.heap.size v D hs h.own A m c w.heap.size zs hx hm (hI.below h.bel) hc hl h.bel.size (fun a3 c3 w1 h1 h2 h3 => hK a3 c3 w1 (h.app h1 h2) h2 h3)

theorem step_one {w u : World} {ops : Array Oper} {o : Oper} {a : Act} {K : Act → World → Prop} {Q : Exit → Act → World → Prop} {E : Prop} (hgd : o.guard = none) (s x : Operand)
    (ho : o.op = .call { callee := .builtin .append, args := #[s, x], argTypes := #[27, 27] }) (v : Value) (D : List (List UInt8)) (hs : a.eval s = v) (h : Pt w u v D) (b c : Nat) (q : List UInt8) (hx : a.eval x = .slice (some ⟨b, 0, none⟩) 1 c) (hI : Lq u b q) (hl : D.length + 1 ≤ 1000000)
    (N : Nat) (DD : List (List UInt8)) (hN : N = D.length + 1) (hD : DD = D ++ [q])
    (hK : ∀ a3 c3 w1, Pt w w1 (.slice a3 N c3) DD → u.grownBy w1 v.ownBlock → ((Value.slice a3 N c3).ownBlock = v.ownBlock ∨ (Value.slice a3 N c3).ownBlock = some u.heap.size) → K (a.put o.dst (.slice a3 N c3)) w1) :
    if Region.wanted o (yielded ops a.tmps) = true then Oper.wp Tryz.prog o a u K Q else E := by
  subst hN hD
  exact step_app hgd s x ho w.heap.size v D hs h.own (some ⟨b, 0, none⟩) 1 c u.heap.size [q] hx rfl hI.is (fun e => by cases e) hl h.bel.size (fun a3 c3 w1 h1 h2 h3 => hK a3 c3 w1 (h.app h1 h2) h2 h3)

theorem pt_end {w u : World} {a3 : Option Addr} {N c3 : Nat} {zs : List (List UInt8)} {q : List UInt8} {k S : Nat} (h : Pt w u (.slice a3 N c3) ((zs.take k ++ [q]) ++ zs.drop k)) (hS : S ≤ w.heap.size) (hN : N = ((zs.take k ++ [q]) ++ zs.drop k).length) (e : putL zs q = (zs.take k ++ [q]) ++ zs.drop k) :
    PutAns S (putL zs q) w (.returned (.slice a3 N c3)) u := by
  rw [e]
  have h1 := h.own
  rcases h1.2 with ⟨_, h0⟩ | ⟨g', c, cur, hv, hle, r⟩
  · simp at h0
  · injection hv with e1 e2 e3
    subst e1; subst e3
    exact ⟨g', N, c3, hN, rfl, ⟨h1.1, .inr ⟨g', c3, cur, by rw [hN], by omega, r⟩⟩, h.bel⟩

set_option maxRecDepth 100000 in
set_option maxHeartbeats 4000000 in
theorem l5Put (g n c : Nat) (zs : List (List UInt8)) (q : List UInt8) (w : World) (S : Nat) (hn : n = zs.length) (hm : n ≤ 100000) (hS : S ≤ w.heap.size) (h : Own w S (.slice (some ⟨g, 0, none⟩) n c) zs) :
    Calls Tryz.prog 35 #[.slice (some ⟨g, 0, none⟩) n c, .string ⟨q.toArray⟩] w (PutAns S (putL zs q) w) := by
  have HI := Lib.hid (Is.of_own (by unfold Own at h; rw [← hn] at h; exact h) hn)
  have HN := Lib.hid hn
  have HO := Lib.hid h
  have hnc : n ≤ c := by
    rcases h.2 with ⟨hv, _⟩ | ⟨g', c', cur, hv, _, _, hle, _⟩
    · cases hv
    · cases hv; rw [← hn] at hle; exact hle
  have hcm : c ≤ maxLen := by
    rcases h.2 with ⟨hv, _⟩ | ⟨g', c', cur, hv, _, _, _, hle, _⟩
    · cases hv
    · cases hv; exact hle
  unfold maxLen at hcm
  clear h hn
  go_enter Tryz.func35, Tryz.ntmps35
  go_wp2
  go_loop [5] (fun i => ∃ k : Nat, k ≤ n ∧ i = .int .i64 k ∧ Hid (lo zs q k)) (fun i => n - (intOf i).toNat)
  case atStart => exact ⟨0, Nat.zero_le _, rfl, Lib.hid (fun j hj => absurd hj (by omega))⟩
  case round =>
    obtain ⟨k, hk, rfl, HK⟩ := hrel
    have h0 : (0 : Int) ≤ (k : Int) := by omega
    have hkc : k ≤ c := by omega
    by_cases hlt : k < n
    · have hk' : k < zs.length := by have := HN.out; omega
      obtain ⟨p, hp⟩ : ∃ p, p = zs.getD k [] := ⟨_, rfl⟩
      have hcell : w.cell? ⟨g, k, none⟩ = some (encStr p) := by
        have h := HO.out
        unfold Own at h
        rw [← HN.out] at h
        rw [h.cellAt k (by omega), hp, getD_get zs hk']; simp [hk']
      have HP := Lib.hid hp
      clear hp
      have h1 : (k : Int) < (n : Int) := by omega
      have hbl : Op.bytesLess p q = decide (p < q) := bytesLess_eq p q
      by_cases hpq : p < q
      · rw [decide_eq_true hpq] at hbl
        go_wp2
        go_round
        case rel => exact ⟨k + 1, by omega, by go_num, Lib.hid (fun j hj => by
          by_cases e : j = k
          · subst e; rw [← HP.out]; exact hpq
          · exact HK.out j (by omega))⟩
        case measure => simp [intOf]; omega
      · rw [decide_eq_false hpq] at hbl
        have hle : q ≤ p := List.not_lt.1 hpq
        have heq : (p == q) = decide (p = q) := by rw [Bool.eq_iff_iff]; simp
        by_cases he : p = q
        · have HR : Hid (putL zs q = zs) := Lib.hid (by
            rw [putL_at zs q k (by omega) HK.out (fun _ => by rw [← HP.out]; exact hle), if_pos ⟨hk', by rw [← HP.out]; exact he⟩])
          rw [decide_eq_true he] at heq
          clear he
          go_wp2
          go_ret
          rw [HR.out]
          exact ⟨g, n, c, HN.out, rfl, HO.out, Below.refl _ _⟩
        · have HR : Hid (putL zs q = (zs.take k ++ [q]) ++ zs.drop k) := Lib.hid (by
            rw [putL_at zs q k (by omega) HK.out (fun _ => by rw [← HP.out]; exact hle), if_neg (fun ⟨_, e⟩ => he (by rw [HP.out]; exact e))])
          rw [decide_eq_false he] at heq
          have hck : ¬ c = k := by omega
          have HD : Hid (Is w w.heap.size (some ⟨g, k, none⟩) (zs.drop k)) := Lib.hid (is_drop HI.out k)
          have HT : Hid (Is w w.heap.size (some ⟨g, 0, none⟩) (zs.take k)) := Lib.hid (is_take HI.out k)
          have HLT : Hid (k = (zs.take k).length) := Lib.hid (by have := HN.out; simp; omega)
          have HLD : Hid (n - k = (zs.drop k).length) := Lib.hid (by have := HN.out; simp; omega)
          have HN1 : Hid (n + 1 = (zs.take k ++ [q]).length + (n - k)) := Lib.hid (by have := HLT.out; rw [List.length_append, ← this]; simp; omega)
          have HNF : Hid (n + 1 = ((zs.take k ++ [q]) ++ zs.drop k).length) := Lib.hid (by rw [List.length_append, ← HLD.out]; exact HN1.out)
          have HK1 : Hid (k + 1 = (zs.take k).length + 1) := Lib.hid (by rw [← HLT.out])
          go_wp2_with fail
          go_region_law (first
            | (refine step_old rfl _ _ rfl (w := w) _ (zs.take k ++ [q]) rfl ?_ _ _ _ (zs.drop k) rfl HLD.out HD.out (fun e => by cases e) (by simp; omega) (n + 1) ((zs.take k ++ [q]) ++ zs.drop k) HN1.out rfl ?_
               · exact P2
               intro a5 c5 w5 P5 hg5 hat5)
            | (refine step_one rfl _ _ rfl (w := w) _ (zs.take k) rfl ?_ _ _ q rfl ?_ (by simp; omega) (k + 1) (zs.take k ++ [q]) HK1.out rfl ?_
               · first | exact P1 | exact P1.alloc _ | exact (P1.alloc _).drew
               · first | exact Lq.new _ _ | exact Lq.grown (lqAB w _ q) hg1 (show some (w.heap.size + 1) ≠ some w.heap.size by simp) | exact Lq.grown (lqBA w _ q) hg1 (show some w.heap.size ≠ some (w.heap.size + 1) by simp)
               intro a4 c4 w4 P2 hg2 hat2)
            | (refine step_old rfl _ _ rfl (w := w) _ [] rfl ?_ _ _ _ (zs.take k) rfl HLT.out HT.out (fun e => by cases e) (by simp; omega) k (zs.take k) (by simp) rfl ?_
               · first | exact (Pt.new (Below.refl _ _)).drew | exact ((Pt.new (Below.refl _ _)).alloc _).drew | exact ptBA w _
               intro a3 c3 w1 P1 hg1 hat1)
            | fail)
          all_goals
            have HF := Lib.hid (pt_end P5 hS HNF.out HR.out)
            clear P5 P2 P1 hg5 hg2 hg1 hat5 hat2 hat1
            go_wp2_with fail
            all_goals (go_ret; exact HF.out)
    · have HR : Hid (putL zs q = (zs.take k ++ [q]) ++ zs.drop k) := Lib.hid (by
        have := HN.out
        rw [putL_at zs q k (by omega) HK.out (fun _ => absurd ‹k < zs.length› (by omega)), if_neg (fun ⟨e, _⟩ => by omega)])
      have HD : ∀ X, Hid (Is w w.heap.size X (zs.drop k)) := fun X => Lib.hid (fun hp => by have := HN.out; simp at hp; omega)
      have HC : ∀ p : Prop, ∀ [Decidable p], ((if p then some (⟨g, 0, none⟩ : Addr) else some ⟨g, k, none⟩) = none → c - k = 0) := fun p _ e => by split at e <;> cases e
      have HT : Hid (Is w w.heap.size (some ⟨g, 0, none⟩) (zs.take k)) := Lib.hid (is_take HI.out k)
      have HLT : Hid (k = (zs.take k).length) := Lib.hid (by have := HN.out; simp; omega)
      have HLD : Hid (n - k = (zs.drop k).length) := Lib.hid (by have := HN.out; simp; omega)
      have HN1 : Hid (n + 1 = (zs.take k ++ [q]).length + (n - k)) := Lib.hid (by have := HLT.out; rw [List.length_append, ← this]; simp; omega)
      have HNF : Hid (n + 1 = ((zs.take k ++ [q]) ++ zs.drop k).length) := Lib.hid (by rw [List.length_append, ← HLD.out]; exact HN1.out)
      have HK1 : Hid (k + 1 = (zs.take k).length + 1) := Lib.hid (by rw [← HLT.out])
      go_wp2_with fail
      go_region_law (first
        | (refine step_old rfl _ _ rfl (w := w) _ (zs.take k ++ [q]) rfl ?_ _ _ _ (zs.drop k) rfl HLD.out (HD _).out (HC _) (by simp; omega) (n + 1) ((zs.take k ++ [q]) ++ zs.drop k) HN1.out rfl ?_
           · exact P2
           intro a5 c5 w5 P5 hg5 hat5)
        | (refine step_one rfl _ _ rfl (w := w) _ (zs.take k) rfl ?_ _ _ q rfl ?_ (by simp; omega) (k + 1) (zs.take k ++ [q]) HK1.out rfl ?_
           · first | exact P1 | exact P1.alloc _ | exact (P1.alloc _).drew
           · first | exact Lq.new _ _ | exact Lq.grown (lqAB w _ q) hg1 (show some (w.heap.size + 1) ≠ some w.heap.size by simp) | exact Lq.grown (lqBA w _ q) hg1 (show some w.heap.size ≠ some (w.heap.size + 1) by simp)
           intro a4 c4 w4 P2 hg2 hat2)
        | (refine step_old rfl _ _ rfl (w := w) _ [] rfl ?_ _ _ _ (zs.take k) rfl HLT.out HT.out (fun e => by cases e) (by simp; omega) k (zs.take k) (by simp) rfl ?_
           · first | exact (Pt.new (Below.refl _ _)).drew | exact ((Pt.new (Below.refl _ _)).alloc _).drew | exact ptBA w _
           intro a3 c3 w1 P1 hg1 hat1)
        | fail)
      all_goals
        have HF := Lib.hid (pt_end P5 hS HNF.out HR.out)
        clear P5 P2 P1 hg5 hg2 hg1 hat5 hat2 hat1
        go_wp2_with fail
        all_goals (go_ret; exact HF.out)

end Go.Proofs.YtmgjeplbhnfakaaGreatDoor.UniT

namespace Go.Proofs.YtmgjeplbhnfakaaGreatDoor.Num
open Go.RowKit Go.Proofs.YtmgjeplbhnfakaaGreatDoor.Plain

/-- The text of one digit. -/
def dgt (n : Int) : ByteArray := ⟨#[UInt8.ofNat (48 + n.toNat)]⟩

theorem dgt_eq : ∀ i : Fin 10, (⟨#[48, 49, 50, 51, 52, 53, 54, 55, 56, 57]⟩ : ByteArray).extract i.val (i.val + 1) = ⟨#[UInt8.ofNat (48 + i.val)]⟩ := by decide +kernel

theorem slice_dgt (n : Int) (h0 : 0 ≤ n) (h1 : n < 10) (w : World) :
    (Instr.slice 9 (.string ⟨#[48, 49, 50, 51, 52, 53, 54, 55, 56, 57]⟩) (some (.int .i64 n)) (some (.int .i64 (n + 1))) none).run Tryz.prog w = .ok (.string (dgt n)) w := by
  rw [run_slice_string w 9 _ .i64 .i64 _ _ Tryz.underlying9 h0 (by omega) (by show n + 1 ≤ 10; omega)]
  have := dgt_eq ⟨n.toNat, by omega⟩
  rw [show (n + 1).toNat = n.toNat + 1 by omega]
  simp only at this
  rw [this]; rfl

theorem add_dgt (u : Nat) (h : ¬ u < 10) : (⟨(Lib.decDigits (u / 10)).toArray⟩ : ByteArray) ++ dgt ((u : Int) % 10) = ⟨(Lib.decDigits u).toArray⟩ := by
  rw [Lib.decDigits.eq_def u, dif_neg h]
  apply ByteArray.ext
  simp [dgt, ByteArray.data_append]
  have e : ((u : Int) % 10).toNat = u % 10 := by omega
  rw [e]

theorem decDigits_le (u : Nat) (h : u ≤ 100000000) : (Lib.decDigits u).length ≤ 9 := by
  have step : ∀ k u, u < 10 ^ (k + 1) → (Lib.decDigits u).length ≤ k + 1 := by
    intro k
    induction k with
    | zero => intro u h; rw [Lib.decDigits.eq_def u, dif_pos (by omega)]; simp
    | succ k ih =>
      intro u h
      rw [Lib.decDigits.eq_def u]
      split
      · simp
      · have := ih (u / 10) (by rw [Nat.pow_succ] at h; omega)
        simp; omega
  exact step 8 u (by omega)

theorem dgt_one (n : Int) (h0 : 0 ≤ n) (h : n < 10) : (⟨(Lib.decDigits n.toNat).toArray⟩ : ByteArray) = dgt n := by
  rw [Lib.decDigits.eq_def n.toNat, dif_pos (by omega)]; rfl

set_option maxHeartbeats 400000 in
theorem l1NumPos (k : Nat) : ∀ (n : Int) (w : World), n ≤ k → 0 ≤ n → n ≤ 99999999 →
    Calls Tryz.prog 36 #[.int .i64 n] w fun e w' => e = .returned (.string ⟨(Lib.decDigits n.toNat).toArray⟩) ∧ ∃ m, w' = w.drewN m := by
  induction k with
  | zero =>
    intro n w hk h0 h1
    have hs := slice_dgt n h0 (by omega)
    go_enter Tryz.func36, Tryz.ntmps36
    go_wp2_with fail
    go_ret
    exact ⟨by rw [dgt_one n h0 (by omega)]; rfl, 0, rfl⟩
  | succ k ih =>
    intro n w hk h0 h1
    by_cases hn : n < 10
    · have hs := slice_dgt n h0 hn
      go_enter Tryz.func36, Tryz.ntmps36
      go_wp2_with fail
      go_ret
      exact ⟨by rw [dgt_one n h0 hn]; rfl, 0, rfl⟩
    · have hs := slice_dgt (n % 10) (by omega) (by omega)
      have hq := fun w => ih (n / 10) w (by omega) (by omega) (by omega)
      have ha := Lib.hid (add_dgt n.toNat (by omega))
      rw [show ((n.toNat : Nat) : Int) = n by omega, show n.toNat / 10 = (n / 10).toNat by omega] at ha
      have hadd : ∀ w, (Op.stringOp .add ⟨(Lib.decDigits (n / 10).toNat).toArray⟩ (dgt (n % 10))).run Tryz.prog w = .ok (.string ⟨(Lib.decDigits n.toNat).toArray⟩) w := by
        intro w
        rw [run_string_add_sum w _ _ (by have := decDigits_le (n / 10).toNat (by omega); simp [dgt, ByteArray.size]; omega), ha.out]
      have e1 : n.tdiv 10 = n / 10 := Int.tdiv_eq_ediv_of_nonneg h0
      have e2 : n.tmod 10 = n % 10 := Int.tmod_eq_emod_of_nonneg h0
      have e3 : IntKind.i64.wrap (n % 10 + 1) = n % 10 + 1 := IntWalk.i64_in _ (by omega)
      have e4 : IntKind.i64.wrap (n / 10) = n / 10 := IntWalk.i64_in _ (by omega)
      clear ih
      go_enter Tryz.func36, Tryz.ntmps36
      go_wp2_with fail
      go_quiet ((go_at_call 36; with_reducible exact Calls.quiet_of (hq _)))
      clear e1 e2 e3 e4
      go_wp2_with fail
      go_ret
      exact ⟨rfl, _, rfl⟩

theorem itoa_neg (n : Int) (h : n < 0) : (⟨#[45]⟩ : ByteArray) ++ (⟨(Lib.decDigits (-n).toNat).toArray⟩ : ByteArray) = ⟨(Lib.itoa n).toArray⟩ := by
  unfold Lib.itoa
  rw [if_pos h, show n.natAbs = (-n).toNat by omega]
  apply ByteArray.ext
  simp [ByteArray.data_append]

set_option maxHeartbeats 400000 in
theorem l1Num (n : Int) (w : World) (h0 : -9999999 ≤ n) (h1 : n ≤ 9999999) :
    Calls Tryz.prog 36 #[.int .i64 n] w fun e w' => e = .returned (.string ⟨(Lib.itoa n).toArray⟩) ∧ ∃ m, w' = w.drewN m := by
  by_cases hn : n < 0
  · have hq := fun w => l1NumPos (-n).toNat (-n) w (by omega) (by omega) (by omega)
    have ha := Lib.hid (itoa_neg n hn)
    have hl := decDigits_le (-n).toNat (by omega)
    have hadd : ∀ w, (Op.stringOp .add ⟨#[45]⟩ ⟨(Lib.decDigits (-n).toNat).toArray⟩).run Tryz.prog w = .ok (.string ⟨(Lib.itoa n).toArray⟩) w := by
      intro w
      rw [run_string_add_sum w _ _ (by simp [ByteArray.size]; omega), ha.out]
    clear hl
    go_enter Tryz.func36, Tryz.ntmps36
    go_wp2_with (go_at_call 36; refine (hq _).mono ?_; rintro e w' ⟨rfl, m, rfl⟩)
    go_ret
    exact ⟨rfl, _, rfl⟩
  · have e : Lib.itoa n = Lib.decDigits n.toNat := by unfold Lib.itoa; rw [if_neg hn]
    rw [e]
    exact l1NumPos n.toNat n w (by omega) (by omega) (by omega)

end Go.Proofs.YtmgjeplbhnfakaaGreatDoor.Num

namespace Go.Proofs.YtmgjeplbhnfakaaGreatDoor.IntText
open Go Go.Lib

theorem digitVal_digit (d : Nat) (h : d < 10) : digitVal (UInt8.ofNat (48 + d)) = some d := by
  have hd : ∀ i : Fin 10, digitVal (UInt8.ofNat (48 + i.val)) = some i.val := by decide
  exact hd ⟨d, h⟩

theorem decFrom_append (l : List UInt8) : ∀ (acc : Nat) (b : UInt8), decFrom acc (l ++ [b]) = (decFrom acc l).bind fun n => (digitVal b).map fun d => n * 10 + d := by
  induction l with
  | nil => intro acc b; simp only [List.nil_append, decFrom]; cases digitVal b <;> rfl
  | cons a t ih =>
    intro acc b
    simp only [List.cons_append, decFrom]
    cases digitVal a with
    | none => rfl
    | some d => exact ih _ _

theorem decFrom_digits (u : Nat) : decFrom 0 (decDigits u) = some u := by
  induction u using Nat.strongRecOn with
  | ind u ih =>
    rw [decDigits.eq_def u]
    split
    · rename_i h
      simp only [decFrom, digitVal_digit u h, Nat.zero_mul, Nat.zero_add]
    · rw [decFrom_append, ih (u / 10) (by omega), digitVal_digit (u % 10) (by omega)]
      simp only [Option.bind_some, Option.map_some]
      congr 1; omega

theorem digits_ne (u : Nat) : decDigits u ≠ [] := by
  rw [decDigits.eq_def u]
  split <;> simp

theorem digits_le (u : Nat) (h : u ≤ 999999) : (decDigits u).length ≤ 6 := by
  have step : ∀ k u, u < 10 ^ (k + 1) → (decDigits u).length ≤ k + 1 := by
    intro k
    induction k with
    | zero => intro u h; rw [decDigits.eq_def u, dif_pos (by omega)]; simp
    | succ k ih =>
      intro u h
      rw [decDigits.eq_def u]
      split
      · simp
      · have := ih (u / 10) (by rw [Nat.pow_succ] at h; omega)
        simp; omega
  exact step 5 u (by omega)

theorem decNat_digits (u : Nat) : decNat (decDigits u) = some u := by
  unfold decNat
  rw [if_neg (by simpa using digits_ne u), decFrom_digits]

theorem decFrom_head (a : UInt8) (t : List UInt8) (acc n : Nat) (h : decFrom acc (a :: t) = some n) : 48 ≤ a.toNat ∧ a.toNat ≤ 57 := by
  simp only [decFrom] at h
  unfold digitVal at h
  split at h
  · rename_i d hd
    split at hd
    · assumption
    · cases hd
  · cases h

theorem atoi_itoa (n : Int) : atoi (itoa n) = some n := by
  unfold itoa
  split
  · rename_i h
    simp only [atoi, beq_self_eq_true, if_true, decNat_digits, Option.map_some]
    congr 1; omega
  · rename_i h
    cases hd : decDigits n.toNat with
    | nil => exact absurd hd (digits_ne _)
    | cons a t =>
      have h1 := decFrom_digits n.toNat
      rw [hd] at h1
      obtain ⟨h2, h3⟩ := decFrom_head a t 0 _ h1
      have e1 : (a == 45) = false := by
        apply beq_eq_false_iff_ne.2; intro e; subst e; exact absurd h2 (by decide)
      have e2 : (a == 43) = false := by
        apply beq_eq_false_iff_ne.2; intro e; subst e; exact absurd h2 (by decide)
      simp only [atoi, e1, e2]
      rw [← hd, decNat_digits]
      simp; omega

theorem itoa_le (n : Int) (h0 : -999999 ≤ n) (h1 : n ≤ 999999) : (itoa n).length ≤ 7 := by
  unfold itoa
  split
  · have := digits_le n.natAbs (by omega); simp; omega
  · have := digits_le n.toNat (by omega); omega

theorem atoiAll_itoa (n : Int) (h0 : -999999 ≤ n) (h1 : n ≤ 999999) : atoiAll (itoa n) = .ok n := by
  rw [atoiAll_short _ (by have := itoa_le n h0 h1; omega), atoi_itoa]
  rfl

/-- s is the text of n, an integer of at most six digits. -/
def Is (s : ByteArray) (n : Int) : Prop := -999999 ≤ n ∧ n ≤ 999999 ∧ s = ⟨(itoa n).toArray⟩

theorem Is.atoi {s : ByteArray} {n : Int} (h : Is s n) : atoiAll s.data.toList = .ok n := by
  obtain ⟨h0, h1, rfl⟩ := h
  exact atoiAll_itoa n h0 h1

theorem decFrom_bd (l : List UInt8) : ∀ n, decFrom 0 l = some n → n < 10 ^ l.length := by
  have step : ∀ (l : List UInt8) (acc n : Nat), decFrom acc l = some n → n < (acc + 1) * 10 ^ l.length := by
    intro l
    induction l with
    | nil => intro acc n h; simp only [decFrom, Option.some.injEq] at h; simp; omega
    | cons a t ih =>
      intro acc n h
      simp only [decFrom] at h
      cases hd : digitVal a with
      | none => rw [hd] at h; cases h
      | some d =>
        rw [hd] at h
        have h1 := ih _ _ h
        have h2 : d ≤ 9 := by
          unfold digitVal at hd
          split at hd
          · injection hd with hd; omega
          · cases hd
        calc n < (acc * 10 + d + 1) * 10 ^ t.length := h1
          _ ≤ ((acc + 1) * 10) * 10 ^ t.length := Nat.mul_le_mul_right _ (by omega)
          _ = (acc + 1) * 10 ^ (a :: t).length := by rw [List.length_cons, Nat.pow_succ, Nat.mul_assoc, Nat.mul_comm 10]
  intro n h
  simpa using step l 0 n h

theorem decFrom_six {l : List UInt8} {n : Nat} (h : decFrom 0 l = some n) (hl : l.length ≤ 6) : n ≤ 999999 := by
  have h1 := decFrom_bd l n h
  have h2 : 10 ^ l.length ≤ 10 ^ 6 := Nat.pow_le_pow_right (by omega) hl
  omega

/-- One digit more. -/
theorem decFrom_step {t : ByteArray} {k n : Nat} (hk : k < t.size) (h : decFrom 0 (t.data.toList.take k) = some n) (h1 : 48 ≤ t[k].toNat) (h2 : t[k].toNat ≤ 57) :
    decFrom 0 (t.data.toList.take (k + 1)) = some (n * 10 + (t[k].toNat - 48)) := by
  have e : t.data.toList.take (k + 1) = t.data.toList.take k ++ [t[k]] := by
    rw [List.take_succ_eq_append_getElem (by simpa using hk)]; rfl
  rw [e, decFrom_append, h]
  simp [digitVal, h1, h2]

/-- A byte that is no digit. -/
theorem decFrom_stop {t : ByteArray} {k : Nat} (hk : k < t.size) (h : t[k].toNat < 48 ∨ 57 < t[k].toNat) : decFrom 0 t.data.toList = none := by
  have e : t.data.toList = t.data.toList.take k ++ (t[k] :: t.data.toList.drop (k + 1)) := by
    have := List.getElem_cons_drop (show k < t.data.toList.length by simpa using hk)
    rw [show t[k] = t.data.toList[k]'(by simpa using hk) from rfl, this, List.take_append_drop]
  rw [e]
  have key : ∀ (l r : List UInt8) (b : UInt8) (acc : Nat), digitVal b = none → decFrom acc (l ++ b :: r) = none := by
    intro l
    induction l with
    | nil => intro r b acc hb; simp [decFrom, hb]
    | cons a l ih =>
      intro r b acc hb
      simp only [List.cons_append, decFrom]
      cases digitVal a with
      | none => rfl
      | some d => exact ih _ _ _ hb
  exact key _ _ _ _ (by unfold digitVal; rw [if_neg (by omega)])

end Go.Proofs.YtmgjeplbhnfakaaGreatDoor.IntText

namespace Go.Proofs.YtmgjeplbhnfakaaGreatDoor.DrD
open Go.RowKit Go.Proofs.YtmgjeplbhnfakaaGreatDoor.Cond Go.Proofs.YtmgjeplbhnfakaaGreatDoor.Cur Go.Proofs.YtmgjeplbhnfakaaGreatDoor.CurDay Go.Proofs.YtmgjeplbhnfakaaGreatDoor.UniTM
set_option linter.unusedVariables false
set_option linter.unusedSimpArgs false

def commL : List (List UInt8) := [[112, 97, 105, 100], [115, 101, 110, 116], [108, 97, 116, 101], [97], [98]]
/-- The names that anyFacts adds. -/
def xnum (t : Nat) : List UInt8 := 120 :: Lib.decDigits t
theorem xnum_inj {a b : Nat} (ha : a ≤ 100) (hb : b ≤ 100) (h : xnum a = xnum b) : a = b := by
  have h2 : Lib.decDigits a = Lib.decDigits b := by injection h
  have e1 := IntText.atoiAll_itoa (a : Int) (by omega) (by omega)
  have e2 := IntText.atoiAll_itoa (b : Int) (by omega) (by omega)
  rw [show Lib.itoa (a : Int) = Lib.decDigits a by unfold Lib.itoa; rw [if_neg (by omega)]; rfl] at e1
  rw [show Lib.itoa (b : Int) = Lib.decDigits b by unfold Lib.itoa; rw [if_neg (by omega)]; rfl] at e2
  rw [h2, e2] at e1
  injection e1 with e1
  omega
theorem xnum_comm (t : Nat) : xnum t ∉ commL := by simp [xnum, commL]
theorem xnum_len {t : Nat} (h : t ≤ 100) : (xnum t).length ≤ 10 := by
  have := Num.decDigits_le t (by omega)
  simp only [xnum, List.length_cons]; omega
theorem comm_len : ∀ m ∈ commL, m.length ≤ 10 := by decide
theorem putL_new {l : List (List UInt8)} {n : List UInt8} (h : n ∉ l) : (putL l n).length = l.length + 1 := by
  induction l with
  | nil => rfl
  | cons x l ih =>
    unfold putL
    have h1 : ¬ x = n := fun e => h (by simp [e])
    have h2 : n ∉ l := fun e => h (by simp [e])
    split
    · simp [ih h2]
    · simp [h1]
theorem commS : ∀ v ∈ comm.toList, ∃ s : ByteArray, v = .string s ∧ ∃ m ∈ commL, s = ⟨m.toArray⟩ := by
  intro v hv
  simp at hv
  rcases hv with h | h | h | h | h
  · exact ⟨_, h, [112, 97, 105, 100], by simp [commL], rfl⟩
  · exact ⟨_, h, [115, 101, 110, 116], by simp [commL], rfl⟩
  · exact ⟨_, h, [108, 97, 116, 101], by simp [commL], rfl⟩
  · exact ⟨_, h, [97], by simp [commL], rfl⟩
  · exact ⟨_, h, [98], by simp [commL], rfl⟩

/-- The cursor and a row of strings of one's own. -/
structure Sf (w v : World) (g : Nat) (A : Option Addr) (n cap k B : Nat) (s : Value) (D : List (List UInt8)) : Prop where
  ok : Ok v g A n cap k B
  own : UniT.Own v w.heap.size s D
  gr : w.grownBy v (some g)
  lt : g < w.heap.size
theorem Sf.step {w v v' : World} {g : Nat} {A : Option Addr} {n cap k k' B : Nat} {s : Value} {D : List (List UInt8)} (h : Sf w v g A n cap k B s D) (hok : Ok v' g A n cap k' B) (hg : v.grownBy v' (some g)) : Sf w v' g A n cap k' B s D :=
  ⟨hok, own_kept h.own hg (fun j e e2 => by injection e with e; have := (own_ge h.own e2).1; have := h.lt; omega), grow2 h.gr hg, h.lt⟩
theorem Sf.alloc {w v : World} {g : Nat} {A : Option Addr} {n cap k B : Nat} {s : Value} {D : List (List UInt8)} (h : Sf w v g A n cap k B s D) (o : Obj) : Sf w (v.alloc o) g A n cap k B s D := h.step (h.ok.alloc o) (World.grownBy_alloc v o _)
theorem Sf.quiet {w v v' : World} {g : Nat} {A : Option Addr} {n cap k B : Nat} {s : Value} {D : List (List UInt8)} (h : Sf w v g A n cap k B s D) (hb : Below v.heap.size v v') : Sf w v' g A n cap k B s D :=
  h.step (DrD.Ok.kept h.ok (below_grown hb none) (fun j e => by cases e)) (below_grown hb _)
theorem Sf.put {w v v' : World} {g : Nat} {A : Option Addr} {n cap k B : Nat} {s s' : Value} {D D' : List (List UInt8)} (h : Sf w v g A n cap k B s D) (ho : UniT.Own v' w.heap.size s' D') (hb : Below v.heap.size v v') : Sf w v' g A n cap k B s' D' :=
  have h1 := h.quiet hb
  ⟨h1.ok, ho, h1.gr, h1.lt⟩

def fsAns (P : List (List UInt8) → Prop) (c g : Nat) (A : Option Addr) (n cap k B : Nat) (w : World) (e : Ending) (w' : World) : Prop :=
  ∃ (F : Option Addr) (m cf : Nat) (D : List (List UInt8)) (k' : Nat), e = .returned (.slice F m cf) ∧ m = D.length ∧ P D ∧ k' ≤ k + c ∧ Sf w w' g A n cap k' B (.slice F m cf) D
/-- A row at the start of a block. -/
def fbAns (P : List (List UInt8) → Prop) (c g : Nat) (A : Option Addr) (n cap k B : Nat) (w : World) (e : Ending) (w' : World) : Prop :=
  ∃ (gb m cf : Nat) (D : List (List UInt8)) (k' : Nat), e = .returned (.slice (some ⟨gb, 0, none⟩) m cf) ∧ m = D.length ∧ P D ∧ k' ≤ k + c ∧ Sf w w' g A n cap k' B (.slice (some ⟨gb, 0, none⟩) m cf) D

set_option maxHeartbeats 4000000 in
theorem facts (g : Nat) (A : Option Addr) (n cap k B : Nat) (w : World) (h : Ok w g A n cap k B) (hk : k ≤ 960000) :
    Calls Tryz.prog 34 #[.pointer (some ⟨g, 0, none⟩)] w (fbAns (fun D => D.length ≤ 3 ∧ ∀ m ∈ D, m ∈ commL) 20 g A n cap k B w) := by
  obtain ⟨X, hX⟩ : ∃ X, X = w.alloc (.cells #[] 9) := ⟨_, rfl⟩
  have S0 : Hid (Sf w X g A n cap k B (.slice (some ⟨w.heap.size, 0, none⟩) 0 0) []) := Lib.hid (by rw [hX]; exact ⟨h.alloc _, UniT.own_new w, World.grownBy_alloc w _ _, h.lt⟩)
  have HX := Lib.hid hX
  clear hX h
  go_enter Tryz.func34, Tryz.ntmps34
  go_wp2_with (go_at_call 30; (try rw [← HX.out]); refine (pick 4 (by omega) (by omega) g A n cap k B X S0.out.ok (by omega)).mono ?_; rintro e w1 ⟨r, k1, rfl, hr1, hk1, hok1, hg1⟩; refine Hid.out ?_)
  refine Lib.hid ?_
  have S1 := Lib.hid (S0.out.step hok1 hg1)
  clear hok1 hg1 S0 HX
  go_wp2_with fail
  go_loopw [3, 4] (fun l i wr => ∃ (j gb m cf q : Nat) (D : List (List UInt8)), j ≤ r ∧ i = .int .i64 j ∧ l = .slice (some ⟨gb, 0, none⟩) m cf ∧ m + j ≤ 3 ∧ q + 4 * j ≤ k + 14 ∧ Hid (m = D.length ∧ (∀ x ∈ D, x ∈ commL) ∧ Sf w wr g A n cap q B (.slice (some ⟨gb, 0, none⟩) m cf) D)) (fun _ i _ => (intOf i).toNat)
  case atStart => exact ⟨r, _, 0, 0, k1, [], Nat.le_refl _, rfl, rfl, by omega, by omega, Lib.hid ⟨rfl, by simp, S1.out⟩⟩
  case round =>
    clear S1
    obtain ⟨j, gb, m, cf, q, D, hj, rfl, rfl, hm, hq, HS⟩ := hrel
    by_cases hlt : 0 < j
    · have i1 : (0 : Int) < (j : Int) := by omega
      have NG : Hid (wr.heap.size ≠ g) := Lib.hid (by have := HS.out.2.2.ok.lt; omega)
      go_wp2_with (first
        | (go_at_call 60; refine (l5Common wr).mono ?_; rintro e w6 ⟨rfl, rfl⟩)
        | (go_at_call 31; refine (ofP (fun s => ∃ m ∈ commL, s = ⟨m.toArray⟩) wr.heap.size comm 5 rfl (by omega) (by omega) g A n cap q B _ (HS.out.2.2.ok.alloc _) (by omega) (heap_alloc_new wr _) NG.out commS).mono ?_; rintro e w6 ⟨s, k6, rfl, hss, hk6, hok6, hg6⟩; refine Hid.out ?_))
      refine Lib.hid ?_
      obtain ⟨x, hx, rfl⟩ := hss
      have S6 := Lib.hid ((HS.out.2.2.alloc _).step hok6 hg6)
      have HXC := Lib.hid hx
      have HPT := Lib.hid (UniT.l5Put gb m cf D x w6 w.heap.size HS.out.1 (by omega) (by have := S6.out.gr.size; omega) S6.out.own)
      clear hok6 hg6 hx
      go_wp2_with (go_at_call 35; refine HPT.out.mono ?_; rintro e w7 ⟨g3, n3, c3, hn3, rfl, hown, hb7⟩; have HN3 := Lib.hid hn3; clear hn3; refine Hid.out ?_)
      refine Lib.hid ?_
      have S7 := Lib.hid (S6.out.put hown hb7)
      have hle : n3 ≤ m + 1 := by have := length_putL D x; have := HS.out.1; have := HN3.out; omega
      have HALL : Hid (∀ y ∈ putL D x, y ∈ commL) := Lib.hid fun y hy => by
        rcases (mem_putL D x y).1 hy with rfl | hy
        · exact HXC.out
        · exact HS.out.2.1 y hy
      clear hown hb7
      go_wp2_with fail
      go_roundw
      case rel => exact ⟨j - 1, g3, n3, c3, k6, putL D x, by omega, by go_num, rfl, by omega, by omega, Lib.hid ⟨HN3.out, HALL.out, S7.out⟩⟩
      case measure => simp [intOf]; omega
    · have i1 : ¬ (0 : Int) < (j : Int) := by omega
      go_wp2_with fail
      go_ret
      exact ⟨gb, m, cf, D, q, rfl, HS.out.1, ⟨by have := HS.out.1; omega, HS.out.2.1⟩, by omega, HS.out.2.2⟩

/-- What anyFacts holds in its loop. -/
def Xs (i : Nat) (D : List (List UInt8)) : Prop := i ≤ D.length ∧ ∀ m ∈ D, m ∈ commL ∨ ∃ t, t < i ∧ m = xnum t
theorem Xs.new {i : Nat} {D : List (List UInt8)} (h : Xs i D) (hi : i ≤ 100) : xnum i ∉ D := fun e => by
  rcases h.2 _ e with h | ⟨t, ht, e⟩
  · exact xnum_comm i h
  · have := xnum_inj hi (by omega) e; omega
theorem Xs.succ {i : Nat} {D : List (List UInt8)} (h : Xs i D) (hi : i ≤ 100) : Xs (i + 1) (putL D (xnum i)) := by
  refine ⟨by rw [putL_new (h.new hi)]; have := h.1; omega, fun m hm => ?_⟩
  rcases (mem_putL _ _ _).1 hm with rfl | hm
  · exact .inr ⟨i, by omega, rfl⟩
  · rcases h.2 m hm with h | ⟨t, ht, e⟩
    · exact .inl h
    · exact .inr ⟨t, by omega, e⟩
theorem Xs.len {i : Nat} {D : List (List UInt8)} (h : Xs i D) (hi : i ≤ 100) : ∀ m ∈ D, m.length ≤ 10 := fun m hm => by
  rcases h.2 m hm with h | ⟨t, ht, rfl⟩
  · exact comm_len m h
  · exact xnum_len (by omega)
def Fl (D : List (List UInt8)) : Prop := D.length ≤ 20 ∧ ∀ m ∈ D, m.length ≤ 10
def odd4 : List (List UInt8) := [[97], [122, 122], [], [111, 114]]

set_option maxRecDepth 100000 in
set_option maxHeartbeats 8000000 in
theorem anyFacts (g : Nat) (A : Option Addr) (n cap k B : Nat) (w : World) (h : Ok w g A n cap k B) (hk : k ≤ 950000) :
    Calls Tryz.prog 14 #[.pointer (some ⟨g, 0, none⟩)] w (fsAns Fl 200 g A n cap k B w) := by
  have HF := Lib.hid (facts g A n cap k B w h (by omega))
  clear h
  go_enter Tryz.func14, Tryz.ntmps14
  go_wp2_with (go_at_call 34; refine HF.out.mono ?_; rintro e w1 ⟨gb, m, cf, D, k1, rfl, hm, hD, hk1, hS1⟩; have HM := Lib.hid hm; clear hm; refine Hid.out ?_)
  refine Lib.hid ?_
  have hm3 : m ≤ 3 := by have := hD.1; have := HM.out; omega
  have HD := Lib.hid hD.2
  have S1 := Lib.hid hS1
  clear hD hS1 HF
  go_wp2_with (go_at_call 30; refine (pick 20 (by omega) (by omega) g A n cap k1 B w1 S1.out.ok (by omega)).mono ?_; rintro e w2 ⟨r, k2, rfl, hr2, hk2, hok2, hg2⟩; refine Hid.out ?_)
  refine Lib.hid ?_
  have S2 := Lib.hid (S1.out.step hok2 hg2)
  clear hok2 hg2 S1
  by_cases h0 : r = 0
  · have q0 : ((r : Int) == 0) = true := by simp <;> omega
    have NG : Hid (w2.heap.size ≠ g) := Lib.hid (by have := S2.out.ok.lt; omega)
    clear h0
    go_wp2_with (go_at_call 31; refine (ofP (fun s => ∃ m ∈ odd4, s = ⟨m.toArray⟩) w2.heap.size _ 4 rfl (by omega) (by omega) g A n cap k2 B _ (S2.out.ok.alloc _) (by omega) (heap_alloc_new w2 _) NG.out (by
      intro v hv
      simp at hv
      rcases hv with h | h | h | h
      · exact ⟨_, h, [97], by simp [odd4], rfl⟩
      · exact ⟨_, h, [122, 122], by simp [odd4], rfl⟩
      · exact ⟨_, h, [], by simp [odd4], rfl⟩
      · exact ⟨_, h, [111, 114], by simp [odd4], rfl⟩)).mono ?_; rintro e w6 ⟨s, k6, rfl, hss, hk6, hok6, hg6⟩; refine Hid.out ?_)
    refine Lib.hid ?_
    obtain ⟨x, hx, rfl⟩ := hss
    have HXC := Lib.hid hx
    have S6 := Lib.hid (((S2.out.alloc _).step hok6 hg6).alloc (.cells #[.string ⟨x.toArray⟩] 9))
    have HLI : Hid (UniT.Is (w6.alloc (.cells #[.string ⟨x.toArray⟩] 9)) (w6.heap.size + 1) (some ⟨w6.heap.size, 0, none⟩) [x]) := Lib.hid (by have := (UniT.Lq.new w6 x).is; rw [UniT.size_alloc] at this; exact this)
    have HSZ : Hid (w.heap.size ≤ (w6.alloc (.cells #[.string ⟨x.toArray⟩] 9)).heap.size) := Lib.hid S6.out.gr.size
    have HOW : Hid (UniT.Own (w6.alloc (.cells #[.string ⟨x.toArray⟩] 9)) w.heap.size (.slice (some ⟨gb, 0, none⟩) m cf) D) := Lib.hid S6.out.own
    clear hok6 hg6 hx NG
    go_wp2_with (at_builtin; refine UniT.wp_app rfl _ _ rfl w.heap.size (.slice (some ⟨gb, 0, none⟩) m cf) D rfl HOW.out (some ⟨w6.heap.size, 0, none⟩) 1 1 (w6.heap.size + 1) [x] rfl rfl HLI.out (fun e => by cases e) (by have := HM.out; omega) HSZ.out ?_; intro a3 c3 w7 hown hg hat; refine Hid.out ?_)
    refine Lib.hid ?_
    have S7 : Hid (Sf w w7 g A n cap k6 B (.slice a3 (D.length + 1) c3) (D ++ [x])) := Lib.hid (by
      have hge := fun j e => (own_ge (v := .slice (some ⟨gb, 0, none⟩) m cf) S6.out.own (j := j) e).1
      have hl := S6.out.lt
      exact ⟨DrD.Ok.kept S6.out.ok hg (fun j e => by have := hge j e; omega), hown, grow_row S6.out.gr hg (fun j e => hge j e), hl⟩)
    have HFL : Hid (Fl (D ++ [x])) := Lib.hid ⟨by rw [List.length_append, ← HM.out]; simp; omega, fun y hy => by
      rcases List.mem_append.1 hy with hy | hy
      · exact comm_len y (HD.out y hy)
      · have : y = x := by simpa using hy
        subst this
        have : ∀ m ∈ odd4, m.length ≤ 10 := by decide
        exact this y HXC.out⟩
    clear hown hg hat
    go_wp2_with fail
    go_ret
    exact ⟨a3, _, c3, D ++ [x], k6, rfl, by simp, HFL.out, by omega, S7.out⟩
  · have q0 : ((r : Int) == 0) = false := by simp <;> omega
    by_cases h1 : r = 1
    · have q1 : ((r : Int) == 1) = true := by simp <;> omega
      clear h0 h1
      go_wp2_with fail
      go_loopw [3, 4] (fun l i wr => ∃ (j gb m cf q : Nat) (D : List (List UInt8)), j ≤ 17 ∧ i = .int .i64 j ∧ l = .slice (some ⟨gb, 0, none⟩) m cf ∧ m ≤ 17 ∧ j ≤ m ∧ q ≤ k + 40 + 2 * j ∧ Hid (m = D.length ∧ Xs j D ∧ Sf w wr g A n cap q B (.slice (some ⟨gb, 0, none⟩) m cf) D)) (fun _ i _ => 20 - (intOf i).toNat)
      case atStart => exact ⟨0, _, m, cf, k2, D, by omega, rfl, rfl, by omega, by omega, by omega, Lib.hid ⟨HM.out, ⟨Nat.zero_le _, fun y hy => .inl (HD.out y hy)⟩, S2.out⟩⟩
      case round =>
        clear S2 HM HD hm3
        obtain ⟨j, gb, m, cf, q, D, hj, rfl, rfl, hm, hjm, hq, HS⟩ := hrel
        go_wp2_with (go_at_call 30; refine (pick 2 (by omega) (by omega) g A n cap q B wr HS.out.2.2.ok (by omega)).mono ?_; rintro e w3 ⟨z, k3, rfl, hz3, hk3, hok3, hg3⟩; refine Hid.out ?_)
        refine Lib.hid ?_
        have S3 := Lib.hid (HS.out.2.2.step hok3 hg3)
        clear hok3 hg3
        by_cases hlt : m < 16 + z
        · have i1 : (m : Int) < 16 + (z : Int) := by omega
          have HN := Lib.hid (Num.l1NumPos j (j : Int) w3 (by omega) (by omega) (by omega))
          have ha : ∀ w, (Op.stringOp .add ⟨#[120]⟩ ⟨(Lib.decDigits j).toArray⟩).run Tryz.prog w = .ok (.string ⟨(xnum j).toArray⟩) w := by
            intro w
            have h9 := Num.decDigits_le j (by omega)
            rw [run_string_add_sum w _ _ (by simp [ByteArray.size]; omega)]
            congr 2
          rw [show ((j : Int).toNat) = j by omega] at HN
          go_wp2_with (go_at_call 36; refine HN.out.mono ?_; rintro e w4 ⟨rfl, hdr⟩; refine Hid.out ?_)
          refine Lib.hid ?_
          have S4 : Hid (Sf w w4 g A n cap k3 B (.slice (some ⟨gb, 0, none⟩) m cf) D) := Lib.hid (by
            obtain ⟨t, rfl⟩ := hdr
            exact S3.out.quiet (below_drewN (Below.refl _ _) t))
          have HPT := Lib.hid (UniT.l5Put gb m cf D (xnum j) w4 w.heap.size HS.out.1 (by omega) (by have := S4.out.gr.size; omega) S4.out.own)
          clear hdr HN
          go_wp2_with (go_at_call 35; refine HPT.out.mono ?_; rintro e w7 ⟨g3, n3, c3, hn3, rfl, hown, hb7⟩; have HN3 := Lib.hid hn3; clear hn3; refine Hid.out ?_)
          refine Lib.hid ?_
          have S7 := Lib.hid (S4.out.put hown hb7)
          have HX7 := Lib.hid (HS.out.2.1.succ (by omega))
          have hle : n3 ≤ m + 1 := by have := length_putL D (xnum j); have := HS.out.1; have := HN3.out; omega
          have hge : j + 1 ≤ n3 := by have := HX7.out.1; have := HN3.out; omega
          clear hown hb7 ha
          go_wp2_with fail
          go_roundw
          case rel => exact ⟨j + 1, g3, n3, c3, k3, putL D (xnum j), by omega, by go_num, rfl, by omega, by omega, by omega, Lib.hid ⟨HN3.out, HX7.out, S7.out⟩⟩
          case measure => simp [intOf]; omega
        · have i1 : ¬ (m : Int) < 16 + (z : Int) := by omega
          go_wp2_with fail
          go_ret
          exact ⟨_, m, cf, D, k3, rfl, HS.out.1, ⟨by have := HS.out.1; omega, HS.out.2.1.len (by omega)⟩, by omega, S3.out⟩
    · have q1 : ((r : Int) == 1) = false := by simp <;> omega
      clear h0 h1
      go_wp2_with fail
      go_ret
      exact ⟨_, m, cf, D, k2, rfl, HM.out, ⟨by have := HM.out; omega, fun y hy => comm_len y (HD.out y hy)⟩, by omega, S2.out⟩

/-- What DrawEvaluateCondition draws. -/
def EdAns (w : World) (e : Ending) (w' : World) : Prop :=
  ∃ (x : K) (F : Option Addr) (m cf : Nat) (D : List (List UInt8)) (z : Int), e = .returned (.tuple #[x.val, .slice F m cf, .int .i64 z]) ∧ Wq 200 x ∧ Lies w' w'.heap.size x ∧ m = D.length ∧ Fl D ∧ UniT.Own w' w.heap.size (.slice F m cf) D ∧ (-100000 ≤ z ∧ z ≤ 100000) ∧ Below w.heap.size w w'

set_option maxRecDepth 100000 in
set_option maxHeartbeats 8000000 in
theorem drawEv (A : Option Addr) (n cap : Nat) (w : World) (hn : n ≤ 1000000) (hA : Bytes w w.heap.size A n) :
    Calls Tryz.prog 5 #[.slice A n cap] w (EdAns w) := by
  obtain ⟨X, hX⟩ : ∃ X, X = (w.alloc (.cells #[.int .i64 0, .string ⟨#[]⟩, .int .i64 0, .slice none 0 0] 26)).alloc (.cells #[.slice A n cap, .int .i64 0, .int .u64 0] 42) := ⟨_, rfl⟩
  have B0 : Hid (Below w.heap.size w X) := Lib.hid (by rw [hX]; exact (below1 _ _).alloc (by simp) _)
  have SZ : Hid (X.heap.size = w.heap.size + 2) := Lib.hid (by rw [hX]; simp)
  have P0 : Hid (B4 w.heap.size X (.int .i64 0) (.string ⟨#[]⟩) (.int .i64 0) (.slice none 0 0)) := Lib.hid (by rw [hX]; exact (B4.new _ _ _ _ _ _).alloc _)
  have HO : Hid (Ok X (w.heap.size + 1) A n cap 0 (w.heap.size + 1)) := Lib.hid (by
    have := Ok.new (w.alloc (.cells #[.int .i64 0, .string ⟨#[]⟩, .int .i64 0, .slice none 0 0] 26)) A n cap hn (fun hp => by
      obtain ⟨ad, e, hb, hc⟩ := hA hp
      refine ⟨ad, e, by simp; omega, fun j hj => ?_⟩
      obtain ⟨z, hz, h0, h1⟩ := hc j hj
      exact ⟨z, (World.grownBy_alloc w _ none).cell hz (by simp), h0, h1⟩)
    rw [hX]
    rwa [UniT.size_alloc] at this)
  have HX := Lib.hid hX
  clear hX hA
  go_enter Tryz.func5, Tryz.ntmps5
  go_wp2_with (go_at_call 13; (try rw [← HX.out]); refine (anyCondition (w.heap.size + 1) A n cap 0 (w.heap.size + 1) X HO.out (by omega)).mono ?_; rintro e w1 ⟨x, k1, rfl, hx, hk1, hok1, hd1, hg1⟩; refine Hid.out ?_)
  refine Lib.hid ?_
  have H1 := Lib.hid (And.intro hok1 hg1)
  have D1 := Lib.hid hd1
  have HW := Lib.hid hx
  clear hok1 hg1 hd1 hx
  go_wp2_with (go_at_call 14; refine (anyFacts (w.heap.size + 1) A n cap k1 (w.heap.size + 1) w1 H1.out.1 (by omega)).mono ?_; rintro e w2 ⟨F, m, cf, D, k2, rfl, hm, hD, hk2, hS2⟩; have HM := Lib.hid hm; clear hm; refine Hid.out ?_)
  refine Lib.hid ?_
  have S2 := Lib.hid hS2
  have HD := Lib.hid hD
  have D2 := Lib.hid (D1.out.kept S2.out.gr (fun j e => by injection e with e; have := SZ.out; omega))
  have G2 := Lib.hid (grow2 H1.out.2 S2.out.gr)
  have NG : Hid (w2.heap.size ≠ w.heap.size + 1) := Lib.hid (by have := S2.out.ok.lt; omega)
  clear hS2 hD
  go_wp2_with (go_at_call 15; refine (amongP (fun z => -100000 ≤ z ∧ z ≤ 100000) w2.heap.size _ 11 rfl (by omega) (by omega) (w.heap.size + 1) A n cap k2 (w.heap.size + 1) _ (S2.out.ok.alloc _) (by omega) (heap_alloc_new w2 _) NG.out (by intro v hv; simp at hv; rcases hv with h | h | h | h | h | h | h | h | h | h | h <;> exact ⟨_, h, by decide⟩)).mono ?_; rintro e w3 ⟨z, k3, rfl, hz3, hk3, hok3, hg3⟩; refine Hid.out ?_)
  refine Lib.hid ?_
  have S3 := Lib.hid ((S2.out.alloc _).step hok3 hg3)
  have D3 := Lib.hid ((D2.out.alloc _).kept hg3 (fun j e => by injection e with e; have := SZ.out; omega))
  have G3 := Lib.hid (grow2 (grow2 G2.out (World.grownBy_alloc _ _ _)) hg3)
  have P3 := Lib.hid (DrD.B4.kept P0.out G3.out (fun e => by injection e with e; omega))
  have HZ := Lib.hid hz3
  clear hok3 hg3 S2 D2 hz3
  obtain ⟨_, p0, p1, p2, p3, pf⟩ := P3.out
  have pf0 := pf 0
  have pf1 := pf 1
  have pf2 := pf 2
  have pf3 := pf 3
  clear pf
  have hz : w.heap.size < w3.heap.size := P3.out.lt
  go_wp2_with fail
  obtain ⟨_, t0, t1, t2, t3, _⟩ := P3.out.put (.int .i64 x.op) (.string x.nm) (.int .i64 x.day) (.slice x.A x.ps.length x.cap)
  have hd := D3.out.kept (put4_grown w3 w.heap.size 0 (.int .i64 x.op) (.string x.nm) (.int .i64 x.day) (.slice x.A x.ps.length x.cap)) (fun j e => by injection e with e; have := SZ.out; omega)
  have ho : UniT.Own (put4 w3 w.heap.size 0 (.int .i64 x.op) (.string x.nm) (.int .i64 x.day) (.slice x.A x.ps.length x.cap)) w.heap.size (.slice F m cf) D :=
    own_more (own_kept S3.out.own (put4_grown _ _ _ _ _ _ _) (fun j e e2 => by injection e with e; have := (own_ge S3.out.own e2).1; have := H1.out.2.size; have := SZ.out; omega)) (by have := H1.out.2.size; have := SZ.out; omega)
  have hb : Below w.heap.size w (put4 w3 w.heap.size 0 (.int .i64 x.op) (.string x.nm) (.int .i64 x.day) (.slice x.A x.ps.length x.cap)) :=
    put4_below (B0.out.grown G3.out (by have := SZ.out; omega) (fun k hk => by injection hk with hk; omega)) (Nat.le_refl _)
  simp only [put4] at t0 t1 t2 t3 hd ho hb
  exact bodyPost_ret (v := .tuple #[x.val, .slice F m cf, .int .i64 z]) (by simp [results, Tryz.results5, go_sem, t0, t1, t2, t3]) rfl ⟨x, F, m, cf, D, z, rfl, HW.out, hd.lies, HM.out, HD.out, ho, HZ.out, hb⟩

end Go.Proofs.YtmgjeplbhnfakaaGreatDoor.DrD

namespace Go.Proofs.YtmgjeplbhnfakaaGreatDoor.Cond
open Go.RowKit
set_option linter.unusedVariables false

set_option maxHeartbeats 4000000 in
theorem vSame (k : K) : ∀ (q : K) (w : World), Lies w w.heap.size k → Lies w w.heap.size q →
    Calls Tryz.prog 10 #[k.val, q.val] w fun e w' => e = .returned (.bool (sameC k.cond q.cond)) ∧ Below w.heap.size w w' := by
  induction k using K.ind with
  | h op nm day A cap ps ih =>
    intro q w hk hq
    cases q with
    | mk op' nm' day' A' cap' qs =>
      have hz := hk.sz.2
      have hz' := hq.sz.2
      unfold maxLen at hz hz'
      obtain ⟨X, hX⟩ : ∃ X, X = (w.alloc (.cells #[.int .i64 op, .string nm, .int .i64 day, .slice A ps.length cap] 26)).alloc (.cells #[.int .i64 op', .string nm', .int .i64 day', .slice A' qs.length cap'] 26) := ⟨_, rfl⟩
      have B0 : Hid (Below w.heap.size w X) := Lib.hid (by rw [hX]; exact (below1 _ _).alloc (by simp) _)
      have X0 : Hid (B4 w.heap.size X (.int .i64 op) (.string nm) (.int .i64 day) (.slice A ps.length cap)) := Lib.hid (by rw [hX]; exact (B4.new w _ _ _ _ _).alloc _)
      have Y0 : Hid (B4 (w.heap.size + 1) X (.int .i64 op') (.string nm') (.int .i64 day') (.slice A' qs.length cap')) := Lib.hid (by
        rw [hX]
        have := B4.new (w.alloc (.cells #[.int .i64 op, .string nm, .int .i64 day, .slice A ps.length cap] 26)) (.int .i64 op') (.string nm') (.int .i64 day') (.slice A' qs.length cap') 26
        simpa using this)
      have HX := Lib.hid hX
      have HA := Lib.hid hk.at
      have HA' := Lib.hid hq.at
      have IH : Hid (∀ p ∈ ps, ∀ q ∈ qs, ∀ v, Below w.heap.size w v → Calls Tryz.prog 10 #[p.val, q.val] v fun e w' => e = .returned (.bool (sameC p.cond q.cond)) ∧ Below v.heap.size v w') := Lib.hid fun p hp q hq' v hb => ih p hp q v ((hk.part hp).on hb) ((hq.part hq').on hb)
      show Calls Tryz.prog 10 #[.agg #[.int .i64 op, .string nm, .int .i64 day, .slice A ps.length cap], .agg #[.int .i64 op', .string nm', .int .i64 day', .slice A' qs.length cap']] w fun e w' => e = .returned (.bool (decide (op = op') && decide (nm.toList = nm'.toList) && decide (day = day') && sameL (conds ps) (conds qs))) ∧ Below w.heap.size w w'
      have HL := Lib.hid (And.intro (conds_len ps) (conds_len qs))
      clear ih hk hq hX
      by_cases h1 : op = op'
      · subst h1
        rw [decide_eq_true rfl, Bool.true_and]
        by_cases h2 : nm.toList = nm'.toList
        · rw [decide_eq_true h2, Bool.true_and]
          obtain rfl := toList_inj h2
          clear h2
          by_cases h3 : day = day'
          · subst h3
            rw [decide_eq_true rfl, Bool.true_and]
            by_cases h4 : ps.length = qs.length
            · obtain ⟨n, hn⟩ : ∃ n, n = ps.length := ⟨_, rfl⟩
              have HN := Lib.hid hn
              have HN' : Hid (n = qs.length) := Lib.hid (by rw [hn, h4])
              rw [← h4, ← hn]
              rw [← hn] at hz X0 HX
              rw [← h4, ← hn] at Y0 HX
              clear h4 hn hz'
              go_enter Tryz.func10, Tryz.ntmps10
              go_wp2_with fail
              go_loopw [5] (fun i wr => ∃ j : Nat, j ≤ n ∧ i = .int .i64 j ∧ Hid (∀ t, ∀ h : t < (conds ps).length, t < j → ∀ h2 : t < (conds qs).length, sameC (conds ps)[t] (conds qs)[t] = true) ∧ Hid (Below X.heap.size X wr)) (fun i _ => n - (intOf i).toNat)
              case atStart => exact ⟨0, Nat.zero_le _, rfl, Lib.hid fun t _ h => by omega, by rw [← HX.out]; exact Lib.hid (Below.refl _ _)⟩
              case round =>
                obtain ⟨j, hj, rfl, HJ, HB⟩ := hrel
                obtain ⟨_, x0, x1, x2, x3, _⟩ := (X0.out.on HB.out)
                obtain ⟨_, y0, y1, y2, y3, _⟩ := (Y0.out.on HB.out)
                have HBW := Lib.hid (B0.out.trans (HB.out.mono B0.out.size))
                by_cases hlt : j < n
                · have hj1 : j < ps.length := by have := HN.out; omega
                  have hj2 : j < qs.length := by have := HN'.out; omega
                  obtain ⟨b, o, rfl, hBb, hc⟩ := HA.out (by omega)
                  obtain ⟨b', o', rfl, hBb', hc'⟩ := HA'.out (by omega)
                  obtain ⟨p, hp⟩ : ∃ p, p = ps[j] := ⟨_, rfl⟩
                  obtain ⟨q, hq⟩ : ∃ q, q = qs[j] := ⟨_, rfl⟩
                  have hE := (hc j hj1).alike (HBW.out.block b hBb)
                  have hE' := (hc' j hj2).alike (HBW.out.block b' hBb')
                  rw [← hp] at hE
                  rw [← hq] at hE'
                  obtain ⟨c0, c1, c2, c3⟩ := hE
                  obtain ⟨d0, d1, d2, d3⟩ := hE'
                  have hk1 : j < (conds ps).length := by have := HL.out.1; omega
                  have hk2 : j < (conds qs).length := by have := HL.out.2; omega
                  have HP : Hid ((conds ps)[j] = p.cond ∧ (conds qs)[j] = q.cond) := Lib.hid ⟨by simp [conds_map, hp], by simp [conds_map, hq]⟩
                  have IHp := IH.out p (by rw [hp]; exact List.getElem_mem hj1) q (by rw [hq]; exact List.getElem_mem hj2) wr.drew (HBW.out.trans (drew_below _ _))
                  obtain ⟨r, hr⟩ : ∃ r, r = sameC p.cond q.cond := ⟨_, rfl⟩
                  rw [← hr] at IHp
                  have HR := Lib.hid hr
                  have IHH := Lib.hid IHp
                  clear hp hq hc hc' hr IHp
                  have i0 : (0 : Int) ≤ (j : Int) := by omega
                  have i1 : (j : Int) < (n : Int) := by omega
                  cases r
                  · go_wp2_with fail
                    go_region_with (go_at_call 10; refine IHH.out.mono ?_; rintro e w3 ⟨rfl, hb3'⟩; have hb3 := below_of_drew hb3'; clear hb3')
                    all_goals go_wp2_with fail
                    all_goals go_ret
                    all_goals exact ⟨by rw [sameL_at (by rw [HL.out.1, HL.out.2, ← HN.out, ← HN'.out]) hk1 (by rw [HP.out.1, HP.out.2, ← HR.out])]; rfl, HBW.out.trans (hb3.mono HBW.out.size)⟩
                  · have HJJ : Hid (∀ t, ∀ h : t < (conds ps).length, t < j + 1 → ∀ h2 : t < (conds qs).length, sameC (conds ps)[t] (conds qs)[t] = true) := Lib.hid fun t h htj h2 => by
                      by_cases e : t = j
                      · subst e; rw [HP.out.1, HP.out.2, ← HR.out]
                      · exact HJ.out t h (by omega) h2
                    go_wp2_with fail
                    go_region_with (go_at_call 10; refine IHH.out.mono ?_; rintro e w3 ⟨rfl, hb3'⟩; have hb3 := below_of_drew hb3'; clear hb3')
                    all_goals go_wp2_with fail
                    all_goals go_roundw
                    all_goals first
                      | exact ⟨j + 1, by omega, by go_num, HJJ, Lib.hid (HB.out.trans (hb3.mono HB.out.size))⟩
                      | (simp [intOf]; omega)
                · go_wp2_with fail
                  go_ret
                  exact ⟨by rw [sameL_all (by rw [HL.out.1, HL.out.2, ← HN.out, ← HN'.out]) (fun t h => HJ.out t h (by have := HL.out.1; have := HN.out; omega) _)]; rfl, HBW.out⟩
            · have hne : ¬ (ps.length : Int) = (qs.length : Int) := by omega
              rw [sameL_len (by rw [HL.out.1, HL.out.2]; exact h4)]
              clear h4
              go_enter Tryz.func10, Tryz.ntmps10
              go_wp2_with fail
              go_ret
              exact ⟨rfl, by rw [← HX.out]; exact B0.out⟩
          · rw [decide_eq_false h3, Bool.false_and]
            go_enter Tryz.func10, Tryz.ntmps10
            go_wp2_with fail
            go_ret
            exact ⟨rfl, by rw [← HX.out]; exact B0.out⟩
        · have h2' : (nm.toList == nm'.toList) = false := by simpa using h2
          rw [decide_eq_false h2, Bool.false_and]
          go_enter Tryz.func10, Tryz.ntmps10
          go_wp2_with fail
          go_ret
          exact ⟨rfl, by rw [← HX.out]; exact B0.out⟩
      · rw [decide_eq_false h1, Bool.false_and, Bool.false_and, Bool.false_and]
        go_enter Tryz.func10, Tryz.ntmps10
        go_wp2_with fail
        go_ret
        exact ⟨rfl, by rw [← HX.out]; exact B0.out⟩

end Go.Proofs.YtmgjeplbhnfakaaGreatDoor.Cond

namespace Go.Proofs.YtmgjeplbhnfakaaGreatDoor.FmtPlain

/-- Two digits. -/
def two (k : Nat) : List UInt8 := [UInt8.ofNat (48 + k / 10), UInt8.ofNat (48 + k % 10)]

/-- The text of the amount of N minor units, without its sign. -/
def body (N : Nat) : List UInt8 := Lib.decDigits (N / 100) ++ 46 :: two (N % 100)

/-- The text of an amount. -/
def text (x : Int) : List UInt8 := if x < 0 then 45 :: body x.natAbs else body x.natAbs

theorem dec_one (k : Nat) (h : k < 10) : Lib.decDigits k = [UInt8.ofNat (48 + k)] := by
  rw [Lib.decDigits.eq_def, dif_pos h]

theorem dec_two (k : Nat) (h0 : 10 ≤ k) (h : k < 100) : Lib.decDigits k = two k := by
  rw [Lib.decDigits.eq_def, dif_neg (by omega), dec_one _ (by omega)]; rfl

theorem dec_three (k : Nat) (h : k < 100) : Lib.decDigits (100 + k) = 49 :: two k := by
  rw [Lib.decDigits.eq_def, dif_neg (by omega), dec_two _ (by omega) (by omega)]
  have e1 : (100 + k) / 10 / 10 = 1 := by omega
  have e2 : (100 + k) / 10 % 10 = k / 10 := by omega
  have e3 : (100 + k) % 10 = k % 10 := by omega
  simp only [two, e1, e2, e3]
  rfl

theorem itoa_minor (k : Nat) (h : k < 100) : Lib.itoa (100 + (k : Int)) = 49 :: two k := by
  unfold Lib.itoa
  rw [if_neg (by omega), show (100 + (k : Int)).toNat = 100 + k by omega, dec_three k h]

theorem itoa_nat (n : Nat) : Lib.itoa (n : Int) = Lib.decDigits n := by
  unfold Lib.itoa
  rw [if_neg (by omega)]; rfl

theorem dec_le (u : Nat) (h : u ≤ 100000000) : (Lib.decDigits u).length ≤ 9 := by
  have step : ∀ k u, u < 10 ^ (k + 1) → (Lib.decDigits u).length ≤ k + 1 := by
    intro k
    induction k with
    | zero => intro u h; rw [Lib.decDigits.eq_def u, dif_pos (by omega)]; simp
    | succ k ih =>
      intro u h
      rw [Lib.decDigits.eq_def u]
      split
      · simp
      · have := ih (u / 10) (by rw [Nat.pow_succ] at h; omega)
        simp; omega
  exact step 8 u (by omega)

theorem cat (a b : List UInt8) : (⟨a.toArray⟩ : ByteArray) ++ (⟨b.toArray⟩ : ByteArray) = ⟨(a ++ b).toArray⟩ := by
  apply ByteArray.ext; simp [ByteArray.data_append]

theorem size (a : List UInt8) : (⟨a.toArray⟩ : ByteArray).size = a.length := by simp [ByteArray.size]

end Go.Proofs.YtmgjeplbhnfakaaGreatDoor.FmtPlain

namespace Go.Proofs.YtmgjeplbhnfakaaGreatDoor.DPlain
open Go Go.Lib Go.Proofs.YtmgjeplbhnfakaaGreatDoor.Cal Go.Proofs.YtmgjeplbhnfakaaGreatDoor.FmtPlain Go.Proofs.YtmgjeplbhnfakaaGreatDoor.IntText

/-- The text of a date. -/
def text (y m d : Int) : List UInt8 := Lib.decDigits y.toNat ++ [45] ++ two m.toNat ++ [45] ++ two d.toNat

theorem dec_year (k : Nat) (h : k < 100) : decDigits (2000 + k) = 50 :: 48 :: two k := by
  rw [decDigits.eq_def, dif_neg (by omega), decDigits.eq_def ((2000 + k) / 10), dif_neg (by omega), dec_two ((2000 + k) / 10 / 10) (by omega) (by omega)]
  have e1 : (2000 + k) / 10 / 10 / 10 = 2 := by omega
  have e2 : (2000 + k) / 10 / 10 % 10 = 0 := by omega
  have e3 : (2000 + k) / 10 % 10 = k / 10 := by omega
  have e4 : (2000 + k) % 10 = k % 10 := by omega
  simp only [two, e1, e2, e3, e4]
  rfl

theorem atoi_two : ∀ i : Fin 100, atoiAll (two i.val) = .ok (i.val : Int) := by decide +kernel

theorem atoi_year (y : Int) (h : InY y) : atoiAll (decDigits y.toNat) = .ok y := by
  have h1 := atoiAll_itoa y (by have := h.1; omega) (by have := h.2; omega)
  rwa [show itoa y = decDigits y.toNat by unfold itoa; rw [if_neg (by have := h.1; omega)]] at h1

theorem atoi_small (n : Int) (h0 : 0 ≤ n) (h1 : n < 100) : atoiAll (two n.toNat) = .ok n := by
  have := atoi_two ⟨n.toNat, by omega⟩
  rw [this]; congr 1; simp; omega

theorem text_len {y m d : Int} (h : InY y) : (text y m d).length = 10 := by
  obtain ⟨k, hk, e⟩ : ∃ k : Nat, k < 100 ∧ y.toNat = 2000 + k := ⟨y.toNat - 2000, by have := h.2; omega, by have := h.1; omega⟩
  unfold text; rw [e, dec_year k hk]; rfl

/-- The parts of a text. -/
theorem parts {y m d : Int} {a0 a1 a2 a3 a4 a5 a6 a7 a8 a9 : UInt8} (hy : InY y) (h : [a0, a1, a2, a3, a4, a5, a6, a7, a8, a9] = text y m d) :
    [a0, a1, a2, a3] = decDigits y.toNat ∧ a4 = 45 ∧ [a5, a6] = two m.toNat ∧ a7 = 45 ∧ [a8, a9] = two d.toNat := by
  obtain ⟨k, hk, e⟩ : ∃ k : Nat, k < 100 ∧ y.toNat = 2000 + k := ⟨y.toNat - 2000, by have := hy.2; omega, by have := hy.1; omega⟩
  unfold text at h
  rw [e, dec_year k hk] at h ⊢
  simp only [two, List.cons_append, List.nil_append, List.cons.injEq, and_true] at h ⊢
  obtain ⟨h0, h1, h2, h3, h4, h5, h6, h7, h8, h9⟩ := h
  exact ⟨⟨h0, h1, h2, h3⟩, h4, ⟨h5, h6⟩, h7, ⟨h8, h9⟩⟩

/-- Which day a text names. -/
def Is (l : List UInt8) (n : Int) : Prop := Day n ∧ l = text (yr n) (mo n) (da n)

theorem Is.read {a0 a1 a2 a3 a4 a5 a6 a7 a8 a9 : UInt8} {n : Int} (h : Is [a0, a1, a2, a3, a4, a5, a6, a7, a8, a9] n) :
    atoiAll [a0, a1, a2, a3] = .ok (yr n) ∧ atoiAll [a5, a6] = .ok (mo n) ∧ atoiAll [a8, a9] = .ok (da n) := by
  obtain ⟨hy, hm, d1, d2⟩ := (date_is h.1).1
  obtain ⟨p1, -, p2, -, p3⟩ := parts hy h.2
  have hl := len_bd (yr n) (mo n)
  have := hm.1
  have := hm.2
  rw [p1, p2, p3]
  exact ⟨atoi_year _ hy, atoi_small _ (by omega) (by omega), atoi_small _ (by omega) (by omega)⟩

theorem Is.len {l : List UInt8} {n : Int} (h : Is l n) : l.length = 10 := by rw [h.2]; exact text_len (date_is h.1).1.1

theorem Is.num {y m d : Int} (h : Vld y m d) : Is (text y m d) (num y m d) := by
  obtain ⟨e1, e2, e3⟩ := date_of h
  exact ⟨num_day h, by rw [← e1, ← e2, ← e3]⟩

/-- A text whose parts read as a date that is not valid, or whose date has another text, names no day. -/
theorem none_of {a0 a1 a2 a3 a4 a5 a6 a7 a8 a9 : UInt8} {y m d : Int} (r1 : atoiAll [a0, a1, a2, a3] = .ok y) (r2 : atoiAll [a5, a6] = .ok m) (r3 : atoiAll [a8, a9] = .ok d)
    (h : ¬ Vld y m d ∨ [a0, a1, a2, a3, a4, a5, a6, a7, a8, a9] ≠ text y m d) (n : Int) : ¬ Is [a0, a1, a2, a3, a4, a5, a6, a7, a8, a9] n := by
  intro hi
  obtain ⟨q1, q2, q3⟩ := hi.read
  rw [r1] at q1; rw [r2] at q2; rw [r3] at q3
  injection q1 with q1; injection q2 with q2; injection q3 with q3
  subst q1 q2 q3
  rcases h with h | h
  · exact h (date_is hi.1).1
  · exact h hi.2

theorem none_1 {a0 a1 a2 a3 a4 a5 a6 a7 a8 a9 : UInt8} (r : ∀ v, atoiAll [a0, a1, a2, a3] ≠ .ok v) (n : Int) : ¬ Is [a0, a1, a2, a3, a4, a5, a6, a7, a8, a9] n := fun h => r _ h.read.1
theorem none_2 {a0 a1 a2 a3 a4 a5 a6 a7 a8 a9 : UInt8} (r : ∀ v, atoiAll [a5, a6] ≠ .ok v) (n : Int) : ¬ Is [a0, a1, a2, a3, a4, a5, a6, a7, a8, a9] n := fun h => r _ h.read.2.1
theorem none_3 {a0 a1 a2 a3 a4 a5 a6 a7 a8 a9 : UInt8} (r : ∀ v, atoiAll [a8, a9] ≠ .ok v) (n : Int) : ¬ Is [a0, a1, a2, a3, a4, a5, a6, a7, a8, a9] n := fun h => r _ h.read.2.2

theorem Is.uniq {l : List UInt8} {n k : Int} (h : Is l n) (g : Is l k) : n = k := by
  have hl := h.len
  match l, hl with
  | [a0, a1, a2, a3, a4, a5, a6, a7, a8, a9], _ =>
    obtain ⟨q1, q2, q3⟩ := h.read
    obtain ⟨p1, p2, p3⟩ := g.read
    rw [q1] at p1; rw [q2] at p2; rw [q3] at p3
    injection p1 with p1; injection p2 with p2; injection p3 with p3
    have e1 := (date_is h.1).2
    have e2 := (date_is g.1).2
    rw [p1, p2, p3, e2] at e1
    exact e1.symm

/-- Digits read back. -/
theorem dig_val {a : UInt8} {d : Nat} (h : digitVal a = some d) : a = UInt8.ofNat (48 + d) ∧ d < 10 := by
  unfold digitVal at h
  split at h
  · rename_i hd
    injection h with h
    subst h
    refine ⟨?_, by omega⟩
    have : 48 + (a.toNat - 48) = a.toNat := by omega
    rw [this]; simp
  · cases h

theorem two_of {a b : UInt8} {n : Nat} (h : decFrom 0 [a, b] = some n) : [a, b] = two n := by
  simp only [decFrom] at h
  cases ha : digitVal a with
  | none => rw [ha] at h; cases h
  | some x =>
    cases hb : digitVal b with
    | none => rw [ha, hb] at h; cases h
    | some y =>
      rw [ha, hb] at h
      simp only [Option.some.injEq] at h
      obtain ⟨e1, l1⟩ := dig_val ha
      obtain ⟨e2, l2⟩ := dig_val hb
      subst h
      rw [e1, e2]; unfold two
      rw [show (0 * 10 + x) * 10 + y = x * 10 + y by omega, show (x * 10 + y) / 10 = x by omega, show (x * 10 + y) % 10 = y by omega]

theorem year_of {a b c d : UInt8} {n : Nat} (h : decFrom 0 [a, b, c, d] = some n) (h1 : 2000 ≤ n) (h2 : n ≤ 2099) : [a, b, c, d] = decDigits n := by
  simp only [decFrom] at h
  cases ha : digitVal a with
  | none => rw [ha] at h; cases h
  | some x =>
    cases hb : digitVal b with
    | none => rw [ha, hb] at h; cases h
    | some y =>
      cases hc : digitVal c with
      | none => rw [ha, hb, hc] at h; cases h
      | some z =>
        cases hd : digitVal d with
        | none => rw [ha, hb, hc, hd] at h; cases h
        | some u =>
          rw [ha, hb, hc, hd] at h
          simp only [Option.some.injEq] at h
          obtain ⟨e1, l1⟩ := dig_val ha
          obtain ⟨e2, l2⟩ := dig_val hb
          obtain ⟨e3, l3⟩ := dig_val hc
          obtain ⟨e4, l4⟩ := dig_val hd
          have hx : x = 2 := by omega
          have hy : y = 0 := by omega
          have e := dec_year (n - 2000) (by omega)
          rw [show 2000 + (n - 2000) = n by omega] at e
          rw [e, e1, e2, e3, e4]
          unfold two
          rw [show (n - 2000) / 10 = z by omega, show (n - 2000) % 10 = u by omega, hx, hy]
          rfl

/-- What the model reads: the number, or -1. -/
def dig (l : List UInt8) : Int := match decFrom 0 l with | some n => n | none => -1

theorem dig_nat {l : List UInt8} {n : Int} (h : dig l = n) (h0 : 0 ≤ n) : decFrom 0 l = some n.toNat := by
  unfold dig at h
  cases e : decFrom 0 l with
  | none => rw [e] at h; simp at h; omega
  | some k => rw [e] at h; simp at h; subst h; simp

theorem text_of {a0 a1 a2 a3 a5 a6 a8 a9 : UInt8} (h : Vld (dig [a0, a1, a2, a3]) (dig [a5, a6]) (dig [a8, a9])) :
    [a0, a1, a2, a3, 45, a5, a6, 45, a8, a9] = text (dig [a0, a1, a2, a3]) (dig [a5, a6]) (dig [a8, a9]) := by
  obtain ⟨hy, hm, d1, d2⟩ := h
  have e1 := year_of (dig_nat (l := [a0, a1, a2, a3]) rfl (by have := hy.1; omega)) (by have := hy.1; omega) (by have := hy.2; omega)
  have e2 := two_of (dig_nat (l := [a5, a6]) rfl (by have := hm.1; omega))
  have e3 := two_of (dig_nat (l := [a8, a9]) rfl (by omega))
  unfold text
  rw [← e1, ← e2, ← e3]; rfl

theorem dig_text {y m d : Int} {a0 a1 a2 a3 a4 a5 a6 a7 a8 a9 : UInt8} (h : Vld y m d) (e : [a0, a1, a2, a3, a4, a5, a6, a7, a8, a9] = text y m d) :
    dig [a0, a1, a2, a3] = y ∧ dig [a5, a6] = m ∧ dig [a8, a9] = d ∧ a4 = 45 ∧ a7 = 45 := by
  obtain ⟨hy, hm, d1, d2⟩ := h
  obtain ⟨p1, p2, p3, p4, p5⟩ := parts hy e
  have hl := len_bd y m
  have tw : ∀ i : Fin 100, dig (two i.val) = i.val := by decide +kernel
  have m1 := hm.1
  have m2 := hm.2
  have y1 := hy.1
  refine ⟨?_, ?_, ?_, p2, p4⟩
  · rw [p1]; unfold dig; rw [decFrom_digits]; simp; omega
  · rw [p3]; have := tw ⟨m.toNat, by omega⟩; rw [this]; simp; omega
  · rw [p5]; have := tw ⟨d.toNat, by omega⟩; rw [this]; simp; omega

end Go.Proofs.YtmgjeplbhnfakaaGreatDoor.DPlain

namespace Go.Proofs.YtmgjeplbhnfakaaGreatDoor.Cond
open Go.RowKit
set_option linter.unusedVariables false

/-- l begins with p. -/
def st (p l : List UInt8) : Bool := decide (l.take p.length = p)
theorem st_len {p l : List UInt8} (h : st p l = true) : p.length ≤ l.length := by
  have h1 : l.take p.length = p := by simpa [st] using h
  have := congrArg List.length h1
  rw [List.length_take] at this
  omega
def wNot : List UInt8 := [110, 111, 116, 32]
def wFrom : List UInt8 := [102, 114, 111, 109, 32]
def wPar : List UInt8 := [40]
def wOr : List UInt8 := [32, 111, 114, 32]
def wAnd : List UInt8 := [32, 97, 110, 100, 32]
def wEnd : List UInt8 := [41]
def wTrue : List UInt8 := [116, 114, 117, 101]
def word (l : List UInt8) : List UInt8 := l.takeWhile fun b => sgn b.toNat
abbrev ba (l : List UInt8) : ByteArray := ⟨l.toArray⟩

def rd (dt : List UInt8 → Option Int) : Nat → List UInt8 → Option (Q × List UInt8)
  | 0, _ => none
  | n + 1, l =>
    if st wNot l then (match rd dt n (l.drop 4) with | some (q, r) => some (.neg q, r) | none => none)
    else if st wFrom l then (match dt ((l.drop 5).take 10) with | some x => some (.frm x, l.drop 15) | none => none)
    else if st wPar l then
      (match rd dt n (l.drop 1) with
       | none => none
       | some (a, r) =>
         if st wOr r then (match rd dt n (r.drop 4) with | none => none | some (b, r2) => if st wEnd r2 then some (.or a b, r2.drop 1) else none)
         else if st wAnd r then (match rd dt n (r.drop 5) with | none => none | some (b, r2) => if st wEnd r2 then some (.and a b, r2.drop 1) else none)
         else none)
    else if word l = wTrue then some (.tru, l.drop 4)
    else if isNm (ba (word l)) then some (.fact (ba (word l)), l.drop (word l).length)
    else none

/-- What is known of dt. -/
def Dt (dt : List UInt8 → Option Int) : Prop := ∀ l x, dt l = some x ↔ DPlain.Is l x
theorem dt_is : ∃ dt, Dt dt := by
  classical
  refine ⟨fun l => if h : ∃ x, DPlain.Is l x then some h.choose else none, fun l x => ?_⟩
  by_cases h : ∃ x, DPlain.Is l x
  · simp only [h, dif_pos, Option.some.injEq]
    constructor
    · intro e; rw [← e]; exact h.choose_spec
    · intro e; exact h.choose_spec.uniq e
  · simp only [h, dif_neg, not_false_eq_true]
    constructor
    · intro e; cases e
    · intro e; exact absurd ⟨x, e⟩ h

theorem word_len (l : List UInt8) : (word l).length ≤ l.length := by
  unfold word
  exact (List.takeWhile_prefix _).length_le
theorem Q.size_pos (q : Q) : 1 ≤ q.size := by cases q <;> simp [Q.size] <;> omega

/-- What a reading gives. -/
structure RdIs (l : List UInt8) (q : Q) (r : List UInt8) : Prop where
  ok : q.ok
  len : r.length < l.length
  wt : q.c.wt + r.length ≤ l.length
  up : l.length ≤ r.length + 15 * q.size
  dr : r = l.drop (l.length - r.length)
theorem drop_dr {l : List UInt8} (k : Nat) (hk : k ≤ l.length) : l.drop k = l.drop (l.length - (l.drop k).length) := by
  congr 1; simp; omega
theorem RdIs.after {l : List UInt8} {k : Nat} {q : Q} {r : List UInt8} (h : RdIs (l.drop k) q r) (hk : k ≤ l.length) : r = l.drop (l.length - r.length) := by
  have h1 := h.dr
  have h2 := h.len
  rw [List.drop_drop] at h1
  rw [List.length_drop] at h1 h2
  have e : k + (l.length - k - r.length) = l.length - r.length := by omega
  rw [e] at h1
  exact h1
theorem isNm_len {l : List UInt8} (h : isNm (ba l) = true) : 1 ≤ l.length ∧ l.length ≤ 8 := by
  simp only [isNm, Bool.and_eq_true, decide_eq_true_eq] at h
  have h1 := h.1.1.1.1.1
  have h2 := h.1.1.1.1.2
  simp only [ByteArray.size, List.size_toArray] at h1 h2
  exact ⟨h1, h2⟩

theorem rd_is {dt : List UInt8 → Option Int} (hdt : Dt dt) : ∀ (n : Nat) (l : List UInt8) (q : Q) (r : List UInt8), rd dt n l = some (q, r) → RdIs l q r := by
  intro n
  induction n with
  | zero => intro l q r h; cases h
  | succ n ih =>
    intro l q r h
    unfold rd at h
    split at h
    · rename_i hs
      have hl := st_len hs
      cases hr : rd dt n (l.drop 4) with
      | none => rw [hr] at h; cases h
      | some p =>
        obtain ⟨a, r'⟩ := p
        rw [hr] at h
        simp only [Option.some.injEq, Prod.mk.injEq] at h
        obtain ⟨rfl, rfl⟩ := h
        have hi := ih _ _ _ hr
        have h1 := hi.len
        have h2 := hi.wt
        have h3 := hi.up
        rw [List.length_drop] at h1 h2 h3
        simp only [wNot, List.length_cons, List.length_nil] at hl
        refine ⟨hi.ok, by omega, ?_, ?_, hi.after (by omega)⟩
        · simp only [Q.c, C.wt, wts]; simp; omega
        · simp only [Q.size]; omega
    split at h
    · rename_i _ hs
      have hl := st_len hs
      cases hd : dt ((l.drop 5).take 10) with
      | none => rw [hd] at h; cases h
      | some x =>
        rw [hd] at h
        simp only [Option.some.injEq, Prod.mk.injEq] at h
        obtain ⟨rfl, rfl⟩ := h
        have hI := (hdt _ _).1 hd
        have h10 := hI.len
        rw [List.length_take, List.length_drop] at h10
        have hD := hI.1
        refine ⟨?_, ?_, ?_, ?_, drop_dr _ (by omega)⟩
        · simp only [Q.ok, isDy, Bool.and_eq_true, decide_eq_true_eq]
          exact ⟨hD.1, hD.2⟩
        · rw [List.length_drop]; omega
        · simp only [Q.c, C.wt, wts, List.length_drop]; simp
        · simp only [Q.size, List.length_drop]; omega
    split at h
    · rename_i _ _ hs
      have hl := st_len hs
      simp only [wPar, List.length_cons, List.length_nil] at hl
      cases hr : rd dt n (l.drop 1) with
      | none => rw [hr] at h; cases h
      | some p =>
        obtain ⟨a, r1⟩ := p
        rw [hr] at h
        have hi := ih _ _ _ hr
        have a1 := hi.len
        have a2 := hi.wt
        have a3 := hi.up
        have a4 := hi.after (by omega)
        rw [List.length_drop] at a1 a2 a3
        have key : ∀ (k : Nat) (b : Q) (r2 : List UInt8), 1 ≤ k → k ≤ 5 → 4 ≤ k → k ≤ r1.length → RdIs (r1.drop k) b r2 → st wEnd r2 = true → (r2.drop 1).length < l.length ∧ a.c.wt + b.c.wt + 2 + (r2.drop 1).length ≤ l.length ∧ l.length ≤ (r2.drop 1).length + 15 * (1 + (a.size + b.size)) ∧ r2.drop 1 = l.drop (l.length - (r2.drop 1).length) := by
          intro k b r2 k1 k5 k4 kl hb he
          have e := st_len he
          simp only [wEnd, List.length_cons, List.length_nil] at e
          have b1 := hb.len
          have b2 := hb.wt
          have b3 := hb.up
          have b4 := hb.after kl
          rw [List.length_drop] at b1 b2 b3
          refine ⟨by rw [List.length_drop]; omega, by rw [List.length_drop]; omega, by rw [List.length_drop]; omega, ?_⟩
          have c1 : r2 = l.drop (l.length - r2.length) := by
            rw [a4, List.drop_drop] at b4
            rw [List.length_drop] at b4
            have e2 : l.length - r1.length + (l.length - (l.length - r1.length) - r2.length) = l.length - r2.length := by omega
            rw [e2] at b4
            exact b4
          have c2 : r2.drop 1 = l.drop (l.length - r2.length + 1) := by
            conv => lhs; rw [c1]
            rw [List.drop_drop]
          rw [c2, List.length_drop]
          congr 1; omega
        simp only at h
        split at h
        · rename_i ho
          have hol := st_len ho
          simp only [wOr, List.length_cons, List.length_nil] at hol
          cases hb : rd dt n (r1.drop 4) with
          | none => rw [hb] at h; cases h
          | some p =>
            obtain ⟨b, r2⟩ := p
            rw [hb] at h
            simp only at h
            split at h
            · rename_i he
              simp only [Option.some.injEq, Prod.mk.injEq] at h
              obtain ⟨rfl, rfl⟩ := h
              have hbi := ih _ _ _ hb
              obtain ⟨k1, k2, k3, k4⟩ := key 4 b r2 (by omega) (by omega) (by omega) (by omega) hbi he
              exact ⟨⟨hi.ok, hbi.ok⟩, k1, by rw [List.length_drop] at k2; simp only [Q.c, C.wt, wts]; simp; omega, by simp only [Q.size]; omega, k4⟩
            · cases h
        split at h
        · rename_i _ ho
          have hol := st_len ho
          simp only [wAnd, List.length_cons, List.length_nil] at hol
          cases hb : rd dt n (r1.drop 5) with
          | none => rw [hb] at h; cases h
          | some p =>
            obtain ⟨b, r2⟩ := p
            rw [hb] at h
            simp only at h
            split at h
            · rename_i he
              simp only [Option.some.injEq, Prod.mk.injEq] at h
              obtain ⟨rfl, rfl⟩ := h
              have hbi := ih _ _ _ hb
              obtain ⟨k1, k2, k3, k4⟩ := key 5 b r2 (by omega) (by omega) (by omega) (by omega) hbi he
              exact ⟨⟨hi.ok, hbi.ok⟩, k1, by rw [List.length_drop] at k2; simp only [Q.c, C.wt, wts]; simp; omega, by simp only [Q.size]; omega, k4⟩
            · cases h
        · cases h
    have hwl := word_len l
    split at h
    · rename_i hw
      simp only [Option.some.injEq, Prod.mk.injEq] at h
      obtain ⟨rfl, rfl⟩ := h
      rw [hw] at hwl
      simp only [wTrue, List.length_cons, List.length_nil] at hwl
      exact ⟨trivial, by rw [List.length_drop]; omega, by simp only [Q.c, C.wt, wts, List.length_drop]; simp, by simp only [Q.size, List.length_drop]; omega, drop_dr _ (by omega)⟩
    split at h
    · rename_i _ hw
      simp only [Option.some.injEq, Prod.mk.injEq] at h
      obtain ⟨rfl, rfl⟩ := h
      obtain ⟨h1, h8⟩ := isNm_len hw
      refine ⟨hw, by rw [List.length_drop]; omega, ?_, by simp only [Q.size, List.length_drop]; omega, drop_dr _ hwl⟩
      simp only [Q.c, C.wt, wts, List.length_drop, ByteArray.size, List.size_toArray]; omega
    · cases h

end Go.Proofs.YtmgjeplbhnfakaaGreatDoor.Cond

namespace Go.Proofs.YtmgjeplbhnfakaaGreatDoor.Cond
open Go.RowKit
set_option linter.unusedVariables false
set_option linter.unusedSimpArgs false

theorem ext_list (s : ByteArray) (a b : Nat) : (s.extract a b).toList = (s.data.toList.drop a).take (b - a) := by
  rw [Go.ByteArray.toList_eq, ByteArray.data_extract, Array.toList_extract, List.extract_eq_take_drop]
theorem ext_of {s : ByteArray} {a b : Nat} {l : List UInt8} (h : (s.data.toList.drop a).take (b - a) = l) : s.extract a b = ba l := by
  have h1 := ext_list s a b
  rw [h, Go.ByteArray.toList_eq] at h1
  cases hx : s.extract a b with
  | mk d => rw [hx] at h1; simp only at h1; rw [← h1]

end Go.Proofs.YtmgjeplbhnfakaaGreatDoor.Cond

namespace Go.Proofs.YtmgjeplbhnfakaaGreatDoor.Laid
open Go.RowKit

theorem gTab : Tryz.prog.globalNamed "internal/strconv.uint64pow10" = some 1 := by kernel_rfl
theorem gTabType : (Tryz.prog.globals[1]?).map (·.type) = some 113 := by kernel_rfl
theorem cellsArr : Tryz.prog.cellsOf 113 = 20 := by kernel_rfl
theorem cellsU64 : Tryz.prog.cellsOf 40 = 1 := by kernel_rfl

theorem table {W : World} {d1 d2 : String × DataW Unit} {rest : List (String × DataW Unit)}
    (h : laidMet Tryz.prog (d1 :: d2 :: ("internal/strconv.uint64pow10", Rows.laid_internal_strconv_uint64pow10) :: rest) W) :
    Lib.TabIs Tryz.prog W "internal/strconv.uint64pow10" .u64 Lib.pow10Tab :=
  Lib.tabIs_of_head (rest := rest) gTab gTabType Tryz.underlying113 Tryz.underlying40 cellsU64 cellsArr h.tail.tail

theorem table_below {W W' : World} (hb : Below W.heap.size W W')
    (h : Lib.TabIs Tryz.prog W "internal/strconv.uint64pow10" .u64 Lib.pow10Tab) : Lib.TabIs Tryz.prog W' "internal/strconv.uint64pow10" .u64 Lib.pow10Tab := by
  unfold Lib.TabIs World.var? at *
  rw [gTab] at *
  simp only [Option.bind_some] at *
  have hg : 1 < W.heap.size := by
    rcases Nat.lt_or_ge 1 W.heap.size with h' | h'
    · exact h'
    · rw [Array.getElem?_eq_none h'] at h; cases h
  rw [hb.block _ hg]; exact h

end Go.Proofs.YtmgjeplbhnfakaaGreatDoor.Laid

namespace Go.Proofs.YtmgjeplbhnfakaaGreatDoor.LiesD
open Go.RowKit

structure Lies (w : World) : Prop where
  tab : Lib.TabIs Tryz.prog w "internal/strconv.uint64pow10" .u64 Lib.pow10Tab
  syn : ∃ tp p, w.var? Tryz.prog "strconv.ErrSyntax" = some #[.iface tp p]
  rng : ∃ tp p, w.var? Tryz.prog "strconv.ErrRange" = some #[.iface tp p]

theorem var_below {W W' : World} {name : String} {g : Nat} {cs : Array Value} (hg : Tryz.prog.globalNamed name = some g) (hb : Below W.heap.size W W')
    (h : W.var? Tryz.prog name = some cs) : W'.var? Tryz.prog name = some cs := by
  unfold World.var? at *
  rw [hg] at *
  simp only [Option.bind_some] at *
  have hl : g < W.heap.size := by
    rcases Nat.lt_or_ge g W.heap.size with h' | h'
    · exact h'
    · rw [Array.getElem?_eq_none h'] at h; cases h
  rw [hb.block _ hl]; exact h

theorem gSyn : Tryz.prog.globalNamed "strconv.ErrSyntax" = some 2 := by kernel_rfl
theorem gRng : Tryz.prog.globalNamed "strconv.ErrRange" = some 3 := by kernel_rfl

theorem Lies.below {W W' : World} (h : Lies W) (hb : Below W.heap.size W W') : Lies W' := by
  obtain ⟨t, ⟨tp, p, hs⟩, ⟨tq, q, hr⟩⟩ := h
  exact ⟨Laid.table_below hb t, ⟨tp, p, var_below gSyn hb hs⟩, ⟨tq, q, var_below gRng hb hr⟩⟩

theorem atoiOk (s : ByteArray) (hs : s.size ≤ 2000000) (v : Int) (h : Lib.atoiAll s.data.toList = .ok v) (w : World) :
    Calls Tryz.prog 74 #[.string s] w fun e w' => e = .returned (.tuple #[.int .i64 v, .nilIface]) ∧ Below w.heap.size w w' := by
  refine (Tryz.strconv_Atoi_ok s (by omega) v h w).mono ?_
  rintro e w' ⟨rfl, rfl | ⟨t, rfl⟩⟩
  · exact ⟨rfl, Below.refl _ _⟩
  · exact ⟨rfl, Lib.bytesWorld_below _ _ _⟩

theorem atoiBad (s : ByteArray) (hs : s.size ≤ 2000000) (h : ∀ v, Lib.atoiAll s.data.toList ≠ .ok v) (w : World) (hL : Lies w) :
    Calls Tryz.prog 74 #[.string s] w fun e w' => ∃ v t q, e = .returned (.tuple #[.int .i64 v, .iface t q]) ∧ Below w.heap.size w w' := by
  obtain ⟨_, ⟨tp, p, hv⟩, ⟨tq, q, hr⟩⟩ := hL
  cases e : Lib.atoiAll s.data.toList with
  | ok v => exact absurd e (h v)
  | «syntax» =>
    refine (Tryz.strconv_Atoi_syntax_var s (by omega) e tp p w hv).mono ?_
    rintro e w' ⟨N, rfl, _, _, hb⟩
    exact ⟨_, _, _, rfl, hb⟩
  | range =>
    refine (Tryz.strconv_Atoi_range_var s (by omega) e tq q w hr).mono ?_
    rintro e w' ⟨N, rfl, _, _, hb⟩
    exact ⟨_, _, _, rfl, hb⟩

theorem gSynType : (Tryz.prog.globals[2]?).map (·.type) = some 91 := by kernel_rfl
theorem gRngType : (Tryz.prog.globals[3]?).map (·.type) = some 91 := by kernel_rfl
theorem cellsErr : Tryz.prog.cellsOf 128 = 1 := by kernel_rfl
theorem cellsStr : Tryz.prog.cellsOf 9 = 1 := by kernel_rfl
theorem star : "*" ++ "errors.errorString" = "*errors.errorString" := by decide
theorem errRow (u : TypeId) (h : Tryz.prog.typeName? 3 u = some "*errors.errorString") : u = 126 :=
  typeName_ptr_named (nm := "errors.errorString") (by rw [star]; kernel_rfl) (by kernel_rfl) (by decide) u (by rw [star]; exact h)

/-- What the row's list gives. -/
theorem lies {W : World} {d1 d2 : String × DataW Unit} {rest : List (String × DataW Unit)}
    (h : laidMet Tryz.prog (d1 :: d2 :: ("internal/strconv.uint64pow10", Rows.laid_internal_strconv_uint64pow10) :: ("strconv.ErrRange", Rows.laid_strconv_ErrRange) :: ("strconv.ErrSyntax", Rows.laid_strconv_ErrSyntax) :: rest) W) : Lies W := by
  obtain ⟨a0, s0, hv0, -, -, -⟩ := laid_sentinel h.tail.tail.tail gRng gRngType Tryz.underlying91 errRow Tryz.underlying126 Tryz.underlying128 rfl rfl Tryz.underlying9 cellsErr cellsStr
  obtain ⟨a1, s1, hv1, -, -, -⟩ := laid_sentinel h.tail.tail.tail.tail gSyn gSynType Tryz.underlying91 errRow Tryz.underlying126 Tryz.underlying128 rfl rfl Tryz.underlying9 cellsErr cellsStr
  exact ⟨Laid.table h, ⟨_, _, hv1⟩, ⟨_, _, hv0⟩⟩

end Go.Proofs.YtmgjeplbhnfakaaGreatDoor.LiesD

namespace Go.Proofs.YtmgjeplbhnfakaaGreatDoor.Tab
open Go.RowKit Go.ChangeShapes Go.Proofs.YtmgjeplbhnfakaaGreatDoor.Cal

/-- The variable's own cells hold the table. -/
def Tab (w : World) : Prop := Lib.TabIs Tryz.prog w "loop.example/g00902/impl.daysBefore" .i64 Cal.tab

theorem gDays : Tryz.prog.globalNamed "loop.example/g00902/impl.daysBefore" = some 0 := by kernel_rfl
theorem gDaysType : (Tryz.prog.globals[0]?).map (·.type) = some 95 := by kernel_rfl
theorem cellsArr : Tryz.prog.cellsOf 95 = 13 := by kernel_rfl
theorem cellsInt : Tryz.prog.cellsOf 3 = 1 := by kernel_rfl

theorem first {W : World} {rest : List (String × DataW Unit)} (h : laidMet Tryz.prog (("loop.example/g00902/impl.daysBefore", Rows.laid_loop_example_g00902_impl_daysBefore) :: rest) W) : Tab W :=
  Lib.tabIs_of_head (rest := rest) gDays gDaysType Tryz.underlying95 Tryz.underlying3 cellsInt cellsArr h

theorem Tab.below {w w' : World} (h : Tab w) (hb : Below w.heap.size w w') : Tab w' := by
  unfold Tab Lib.TabIs at *
  have hg : 0 < w.heap.size := by
    have h2 := h
    unfold World.var? at h2
    rw [gDays] at h2
    simp only [Option.bind_some] at h2
    rcases Nat.lt_or_ge 0 w.heap.size with h' | h'
    · exact h'
    · rw [Array.getElem?_eq_none h'] at h2; cases h2
  exact var?_below hb gDays hg h

theorem Tab.alloc {w : World} (h : Tab w) (o : Obj) : Tab (w.alloc o) := Tab.below h ((Below.refl _ _).alloc (Nat.le_refl _) _)
theorem Tab.drew {w : World} (h : Tab w) (n : Nat) : Tab (w.drewN n) := Tab.below h (below_drewN (Below.refl _ _) n)

theorem Tab.cell {w : World} (h : Tab w) (m : Int) (h1 : 1 ≤ m) (h2 : m ≤ 13) : w.cell? ⟨0, m.toNat - 1, none⟩ = some (.int .i64 (cumM m)) := by
  have hc := Lib.TabIs.cell h gDays (m - 1).toNat (by show _ < 13; omega)
  rw [show (m - 1).toNat = m.toNat - 1 by omega] at hc
  unfold cumM
  rw [show (m - 1).toNat = m.toNat - 1 by omega]
  exact hc

/-- The table, as data. -/
def datum {H : Type} : DataW H := .agg [.lit (.int .i64 0), .lit (.int .i64 31), .lit (.int .i64 59), .lit (.int .i64 90), .lit (.int .i64 120), .lit (.int .i64 151), .lit (.int .i64 181), .lit (.int .i64 212), .lit (.int .i64 243), .lit (.int .i64 273), .lit (.int .i64 304), .lit (.int .i64 334), .lit (.int .i64 365)]

theorem reads {H : Type} (enc : TypeId × Value → H) (w : World) (sp : Nat → Bool) :
    DataW.trod enc Tryz.prog w 0 sp true 3 95 ((Cal.tab.map fun z => Value.int .i64 z).toArray).toList = some (datum, []) := by kernel_rfl

theorem vars {H : Type} (enc : TypeId × Value → H) {w : World} (h : Tab w) (sp : Nat → Bool) :
    DataW.TrodVars enc Tryz.prog w sp ["loop.example/g00902/impl.daysBefore"] [datum] (MemPlace.row ⟨0, 0, none⟩ 13 ++ []) :=
  trodVars_mk1 gDays gDaysType h (reads enc w sp)

end Go.Proofs.YtmgjeplbhnfakaaGreatDoor.Tab

namespace Go.Proofs.YtmgjeplbhnfakaaGreatDoor.Wd
open Go.RowKit Go.Proofs.YtmgjeplbhnfakaaGreatDoor.Cal

theorem l1In_true (x a b : Int) (h1 : a ≤ x) (h2 : x ≤ b) (w : World) :
    Calls Tryz.prog 47 #[.int .i64 x, .int .i64 a, .int .i64 b] w fun e w' => e = .returned (.bool true) ∧ w = w' := by
  go_enter Tryz.func47, Tryz.ntmps47
  go_wp2
  go_ret
  exact ⟨by simp, rfl⟩

theorem l1In_false (x a b : Int) (h : x < a ∨ b < x) (w : World) :
    Calls Tryz.prog 47 #[.int .i64 x, .int .i64 a, .int .i64 b] w fun e w' => e = .returned (.bool false) ∧ w = w' := by
  by_cases ha : x < a
  · go_enter Tryz.func47, Tryz.ntmps47
    go_wp2
    go_ret
    exact ⟨rfl, rfl⟩
  · have hb : b < x := by omega
    have ha' : a ≤ x := by omega
    clear ha h
    go_enter Tryz.func47, Tryz.ntmps47
    go_wp2
    go_ret
    exact ⟨by simp [hb], rfl⟩

theorem goodYes (x : Int) (h : Day x) (w : World) :
    Calls Tryz.prog 25 #[.int .i64 x] w fun e w' => e = .returned (.bool true) ∧ w = w' := by
  obtain ⟨h0, h1⟩ := h
  go_enter Tryz.func25, Tryz.ntmps25
  go_wp2_with (go_at_call 47; refine (l1In_true _ _ _ (by omega) (by omega) _).mono ?_; rintro e w' ⟨rfl, rfl⟩)
  go_ret
  exact ⟨rfl, rfl⟩

theorem goodNo (x : Int) (h : ¬ Day x) (w : World) :
    Calls Tryz.prog 25 #[.int .i64 x] w fun e w' => e = .returned (.bool false) ∧ w = w' := by
  have h' : x < 0 ∨ 36524 < x := by unfold Day at h; omega
  clear h
  go_enter Tryz.func25, Tryz.ntmps25
  go_wp2_with (go_at_call 47; refine (l1In_false _ _ _ h' _).mono ?_; rintro e w' ⟨rfl, rfl⟩)
  go_ret
  exact ⟨rfl, rfl⟩

theorem isDayYes (x : Int) (h : Day x) (w : World) :
    Calls Tryz.prog 18 #[.int .i64 x] w fun e w' => e = .returned (.bool true) ∧ w = w' := by
  obtain ⟨h0, h1⟩ := h
  go_enter Tryz.func18, Tryz.ntmps18
  go_wp2
  go_ret
  exact ⟨by simp, rfl⟩

theorem isDayNo (x : Int) (h : ¬ Day x) (w : World) :
    Calls Tryz.prog 18 #[.int .i64 x] w fun e w' => e = .returned (.bool false) ∧ w = w' := by
  by_cases ha : x < 0
  · clear h
    go_enter Tryz.func18, Tryz.ntmps18
    go_wp2
    go_ret
    exact ⟨rfl, rfl⟩
  · have hb : 36524 < x := by unfold Day at h; omega
    have ha' : 0 ≤ x := by omega
    clear ha h
    go_enter Tryz.func18, Tryz.ntmps18
    go_wp2
    go_ret
    exact ⟨by simp [hb], rfl⟩

end Go.Proofs.YtmgjeplbhnfakaaGreatDoor.Wd

namespace Go.Proofs.YtmgjeplbhnfakaaGreatDoor.Len
open Go.RowKit Go.Proofs.YtmgjeplbhnfakaaGreatDoor.Cal Go.Proofs.YtmgjeplbhnfakaaGreatDoor.Tab Go.Proofs.YtmgjeplbhnfakaaGreatDoor.Wd

theorem ret_int {k : IntKind} {a b : Int} (h : a = b) : Ending.returned (.int k a) = .returned (.int k b) := by rw [h]
theorem ret_two {a b : Int} {c : Value} (h : a = b) : Ending.returned (.tuple #[.int .i64 a, c]) = .returned (.tuple #[.int .i64 b, c]) := by rw [h]

theorem leapYes (y : Int) (h0 : 0 ≤ y) (h : y % 4 = 0) (w : World) :
    Calls Tryz.prog 76 #[.int .i64 y] w fun e w' => e = .returned (.bool true) ∧ w = w' := by
  have h1 : (y % 4 == 0) = true := by simpa using h
  clear h
  go_enter Tryz.func76, Tryz.ntmps76
  go_wp2
  go_ret
  exact ⟨by simp_all, rfl⟩

theorem leapNo (y : Int) (h0 : 0 ≤ y) (h : ¬ y % 4 = 0) (w : World) :
    Calls Tryz.prog 76 #[.int .i64 y] w fun e w' => e = .returned (.bool false) ∧ w = w' := by
  have h1 : (y % 4 == 0) = false := by simpa using h
  clear h
  go_enter Tryz.func76, Tryz.ntmps76
  go_wp2
  go_ret
  exact ⟨by simp_all, rfl⟩

theorem cum13 {m : Int} (h1 : 1 ≤ m) (h2 : m ≤ 13) : 0 ≤ cumM m ∧ cumM m ≤ 365 := by
  by_cases h : m = 13
  · subst h; decide
  · have := cum_bd (m := m) ⟨h1, by omega⟩; omega

theorem befM (y m : Int) (hy : InY y) (h1 : 1 ≤ m) (h2 : m ≤ 13) (w : World) (hT : Tab w) :
    Calls Tryz.prog 71 #[.int .i64 y, .int .i64 m] w fun e w' => e = .returned (.int .i64 (bef y m)) ∧ w = w' := by
  have hc := hT.cell m h1 h2
  obtain ⟨b1, b2⟩ := cum13 h1 h2
  obtain ⟨y1, y2⟩ := hy
  have i0 : 0 ≤ m - 1 := by omega
  have i1 : m - 1 < 13 := by omega
  clear hT
  by_cases hm : 2 < m
  · by_cases hl : y % 4 = 0
    · have e : Hid (cumM m + 1 = bef y m) := Lib.hid (by unfold bef; rw [if_pos ⟨hm, hl⟩])
      have HL := Lib.hid hl
      clear hl
      generalize cumM m = c at *
      go_enter Tryz.func71, Tryz.ntmps71
      go_wp2_with (go_at_call 76; refine (leapYes y (by omega) HL.out _).mono ?_; rintro e w' ⟨rfl, rfl⟩)
      go_ret
      exact ⟨ret_int e.out, rfl⟩
    · have e : Hid (cumM m = bef y m) := Lib.hid (by unfold bef; rw [if_neg (fun h => hl h.2)]; omega)
      have HL := Lib.hid hl
      clear hl
      generalize cumM m = c at *
      go_enter Tryz.func71, Tryz.ntmps71
      go_wp2_with (go_at_call 76; refine (leapNo y (by omega) HL.out _).mono ?_; rintro e w' ⟨rfl, rfl⟩)
      go_ret
      exact ⟨ret_int e.out, rfl⟩
  · have e : Hid (cumM m = bef y m) := Lib.hid (by unfold bef; rw [if_neg (fun h => hm h.1)]; omega)
    generalize cumM m = c at *
    go_enter Tryz.func71, Tryz.ntmps71
    go_wp2_with fail
    go_ret
    exact ⟨ret_int e.out, rfl⟩

theorem befY (y : Int) (hy : InY y) (w : World) :
    Calls Tryz.prog 70 #[.int .i64 y] w fun e w' => e = .returned (.int .i64 (dby y)) ∧ w = w' := by
  have e : Hid ((y - 2000) * 365 + (y - 2000 + 3) / 4 = dby y) := Lib.hid rfl
  obtain ⟨y1, y2⟩ := hy
  go_enter Tryz.func70, Tryz.ntmps70
  go_wp2
  go_ret
  exact ⟨ret_int e.out, rfl⟩

theorem lenYes (y m : Int) (hy : InY y) (hm : InM m) (w : World) (hT : Tab w) :
    Calls Tryz.prog 91 #[.int .i64 y, .int .i64 m] w fun e w' => e = .returned (.tuple #[.int .i64 (lenM y m), .bool true]) ∧ w = w' := by
  have HT := Lib.hid hT
  have HY := Lib.hid hy
  have e : Hid (bef y (m + 1) - bef y m = lenM y m) := Lib.hid (by have := bef_succ y hm; omega)
  obtain ⟨b1, b2, b3, b4⟩ := bef_bd y hm
  obtain ⟨y1, y2⟩ := hy
  obtain ⟨m1, m2⟩ := hm
  clear hT
  go_enter Tryz.func91, Tryz.ntmps91
  go_wp2_with (go_at_call 71; refine (befM y _ HY.out (by omega) (by omega) _ HT.out).mono ?_; rintro e w' ⟨rfl, rfl⟩)
  go_ret2
  exact ⟨ret_two e.out, rfl⟩

theorem lenNo (y m : Int) (h : ¬ (InY y ∧ InM m)) (w : World) :
    Calls Tryz.prog 91 #[.int .i64 y, .int .i64 m] w fun e w' => e = .returned (.tuple #[.int .i64 0, .bool false]) ∧ w = w' := by
  unfold InY InM at h
  by_cases h1 : y < 2000
  · clear h
    go_enter Tryz.func91, Tryz.ntmps91
    go_wp2_with fail
    go_ret2
    exact ⟨rfl, rfl⟩
  · by_cases h2 : 2099 < y
    · clear h
      go_enter Tryz.func91, Tryz.ntmps91
      go_wp2_with fail
      go_ret2
      exact ⟨rfl, rfl⟩
    · by_cases h3 : m < 1
      · clear h
        go_enter Tryz.func91, Tryz.ntmps91
        go_wp2_with fail
        go_ret2
        exact ⟨rfl, rfl⟩
      · have h4 : 12 < m := by omega
        clear h
        go_enter Tryz.func91, Tryz.ntmps91
        go_wp2_with fail
        go_ret2
        exact ⟨rfl, rfl⟩

end Go.Proofs.YtmgjeplbhnfakaaGreatDoor.Len

namespace Go.Proofs.YtmgjeplbhnfakaaGreatDoor.Valid
open Go.RowKit Go.Proofs.YtmgjeplbhnfakaaGreatDoor.Cal Go.Proofs.YtmgjeplbhnfakaaGreatDoor.Tab Go.Proofs.YtmgjeplbhnfakaaGreatDoor.Wd Go.Proofs.YtmgjeplbhnfakaaGreatDoor.Len

theorem quiet_eq {P : Program} {f : FuncId} {args : Array Value} {w : World} {n : Nat} {v : Value}
    (h : Calls P f args (w.drewN n) fun e w' => e = .returned v ∧ w.drewN n = w') : Calls P f args (w.drewN n) fun e w'' => e = .returned v ∧ ∃ m, w'' = w.drewN m :=
  h.mono fun _ _ ⟨he, hm⟩ => ⟨he, n, hm.symm⟩

theorem vld_parts {y m d : Int} (h : ¬ Vld y m d) : ¬ (InY y ∧ InM m) ∨ ((InY y ∧ InM m) ∧ (d < 1 ∨ lenM y m < d)) := by
  by_cases h1 : InY y ∧ InM m
  · right
    refine ⟨h1, ?_⟩
    unfold Vld at h
    simp only [h1, true_and] at h
    omega
  · exact .inl h1

set_option maxHeartbeats 400000 in
theorem validYes (y m d : Int) (h : Vld y m d) (w : World) (hT : Tab w) :
    Calls Tryz.prog 81 #[.agg #[.int .i64 y, .int .i64 m, .int .i64 d]] w fun e w' => e = .returned (.bool true) ∧ w.alloc (.cells #[.int .i64 y, .int .i64 m, .int .i64 d] 74) = w' := by
  have HT := Lib.hid hT
  obtain ⟨hy, hm, h1, h2⟩ := h
  have HY := Lib.hid hy
  have HM := Lib.hid hm
  have HL := Lib.hid (fun w hw => lenYes y m HY.out HM.out w hw)
  have hb := len_bd y m
  clear hT hy hm
  generalize lenM y m = L at *
  go_enter Tryz.func81, Tryz.ntmps81
  go_wp2_with (go_at_call 91; refine (HL.out _ (HT.out.alloc _)).mono ?_; rintro e w' ⟨rfl, rfl⟩)
  go_ret
  exact ⟨by simp, rfl⟩

set_option maxHeartbeats 400000 in
theorem validNo (y m d : Int) (h : ¬ Vld y m d) (w : World) (hT : Tab w) :
    Calls Tryz.prog 81 #[.agg #[.int .i64 y, .int .i64 m, .int .i64 d]] w fun e w' => e = .returned (.bool false) ∧ w.alloc (.cells #[.int .i64 y, .int .i64 m, .int .i64 d] 74) = w' := by
  have HT := Lib.hid hT
  rcases vld_parts h with h1 | ⟨⟨hy, hm⟩, h1⟩
  · have H1 := Lib.hid h1
    clear hT h h1
    go_enter Tryz.func81, Tryz.ntmps81
    go_wp2_with (go_at_call 91; refine (lenNo y m H1.out _).mono ?_; rintro e w' ⟨rfl, rfl⟩)
    go_ret
    exact ⟨rfl, rfl⟩
  · have HY := Lib.hid hy
    have HM := Lib.hid hm
    have HL := Lib.hid (fun w hw => lenYes y m HY.out HM.out w hw)
    have hb := len_bd y m
    clear hT hy hm h
    generalize lenM y m = L at *
    by_cases h2 : d < 1
    · clear h1
      go_enter Tryz.func81, Tryz.ntmps81
      go_wp2_with (go_at_call 91; refine (HL.out _ (HT.out.alloc _)).mono ?_; rintro e w' ⟨rfl, rfl⟩)
      go_ret
      exact ⟨rfl, rfl⟩
    · have h3 : L < d := by omega
      clear h1
      go_enter Tryz.func81, Tryz.ntmps81
      go_wp2_with (go_at_call 91; refine (HL.out _ (HT.out.alloc _)).mono ?_; rintro e w' ⟨rfl, rfl⟩)
      go_ret
      exact ⟨by simp [h3], rfl⟩

end Go.Proofs.YtmgjeplbhnfakaaGreatDoor.Valid

namespace Go.Proofs.YtmgjeplbhnfakaaGreatDoor.DayOf
open Go.RowKit Go.Proofs.YtmgjeplbhnfakaaGreatDoor.Cal Go.Proofs.YtmgjeplbhnfakaaGreatDoor.Tab Go.Proofs.YtmgjeplbhnfakaaGreatDoor.Wd Go.Proofs.YtmgjeplbhnfakaaGreatDoor.Len Go.Proofs.YtmgjeplbhnfakaaGreatDoor.Valid

/-- Block k holds a date that may be written. -/
structure Box (k : Nat) (w : World) (a b c : Int) : Prop where
  lt : k < w.heap.size
  c0 : w.cell? ⟨k, 0, none⟩ = some (.int .i64 a)
  c1 : w.cell? ⟨k, 1, none⟩ = some (.int .i64 b)
  c2 : w.cell? ⟨k, 2, none⟩ = some (.int .i64 c)
  f0 : w.frozen? ⟨k, 0, none⟩ = false
  f1 : w.frozen? ⟨k, 1, none⟩ = false
  f2 : w.frozen? ⟨k, 2, none⟩ = false

theorem Box.below {k : Nat} {w w' : World} {a b c : Int} (h : Box k w a b c) (hb : Below w.heap.size w w') : Box k w' a b c :=
  ⟨Nat.lt_of_lt_of_le h.lt hb.size, (hb.cell (p := ⟨k, 0, none⟩) h.lt).trans h.c0, (hb.cell (p := ⟨k, 1, none⟩) h.lt).trans h.c1, (hb.cell (p := ⟨k, 2, none⟩) h.lt).trans h.c2,
    (hb.frozen (p := ⟨k, 0, none⟩) h.lt).trans h.f0, (hb.frozen (p := ⟨k, 1, none⟩) h.lt).trans h.f1, (hb.frozen (p := ⟨k, 2, none⟩) h.lt).trans h.f2⟩

theorem Box.new (w : World) (a b c : Int) (T : TypeId) : Box w.heap.size (w.alloc (.cells #[.int .i64 a, .int .i64 b, .int .i64 c] T)) a b c :=
  ⟨by simp, by simp, by simp, by simp, by simp, by simp, by simp⟩

theorem Box.alloc {k : Nat} {w : World} {a b c : Int} (h : Box k w a b c) (o : Obj) : Box k (w.alloc o) a b c :=
  h.below ((Below.refl _ _).alloc (Nat.le_refl _) _)

theorem below1 (w : World) (o : Obj) : Below w.heap.size w (w.alloc o) := (Below.refl _ _).alloc (Nat.le_refl _) _
theorem below2 (w : World) (o o' : Obj) : Below w.heap.size w ((w.alloc o).alloc o') := ((Below.refl _ _).alloc (Nat.le_refl _) _).alloc (by simp) _
theorem below3 (w : World) (a b c : Obj) : Below w.heap.size w (((w.alloc a).alloc b).alloc c) := (((Below.refl _ _).alloc (Nat.le_refl _) _).alloc (by simp) _).alloc (by simp; omega) _

set_option maxHeartbeats 1000000 in
theorem implYes (y m d : Int) (h : Vld y m d) (w : World) (hT : Tab w) :
    Calls Tryz.prog 75 #[.agg #[.int .i64 y, .int .i64 m, .int .i64 d]] w fun e w' => e = .returned (.tuple #[.int .i64 (num y m d), .bool true]) ∧ Below w.heap.size w w' := by
  have HT := Lib.hid hT
  have HV := Lib.hid h
  obtain ⟨hy, hm, h1, h2⟩ := h
  have HY := Lib.hid hy
  have HE : Hid (dby y + bef y m + d - 1 = num y m d) := Lib.hid rfl
  have hD := dby_bd hy
  have hB := bef_bd y hm
  have hL := len_bd y m
  obtain ⟨m1, m2⟩ := hm
  have HD := Lib.hid (fun w => befY y HY.out w)
  have HB := Lib.hid (fun w hw => befM y m HY.out (by omega) (by omega) w hw)
  clear hT hy
  generalize dby y = D at *
  generalize bef y m = B at *
  have e1 : IntKind.i64.wrap (D + B) = D + B := IntWalk.i64_in _ (by omega)
  have e2 : IntKind.i64.wrap (D + B + d) = D + B + d := IntWalk.i64_in _ (by omega)
  have e3 : IntKind.i64.wrap (D + B + d - 1) = D + B + d - 1 := IntWalk.i64_in _ (by omega)
  go_enter Tryz.func75, Tryz.ntmps75
  go_wp2_with (go_at_call 81; refine (validYes y m d HV.out _ (HT.out.alloc _)).mono ?_; rintro e w' ⟨rfl, rfl⟩)
  go_quiet ((first
    | (go_at_call 70; with_reducible exact quiet_eq (HD.out _))
    | (go_at_call 71; with_reducible exact quiet_eq (HB.out _ (((HT.out.alloc _).alloc _).drew _)))))
  clear e1 e2 e3
  go_wp2_with fail
  go_ret2
  exact ⟨ret_two HE.out, below_drewN (below2 _ _ _) _⟩

theorem implNo (y m d : Int) (h : ¬ Vld y m d) (w : World) (hT : Tab w) :
    Calls Tryz.prog 75 #[.agg #[.int .i64 y, .int .i64 m, .int .i64 d]] w fun e w' => e = .returned (.tuple #[.int .i64 0, .bool false]) ∧ Below w.heap.size w w' := by
  have HT := Lib.hid hT
  have HV := Lib.hid h
  clear hT h
  go_enter Tryz.func75, Tryz.ntmps75
  go_wp2_with (go_at_call 81; refine (validNo y m d HV.out _ (HT.out.alloc _)).mono ?_; rintro e w' ⟨rfl, rfl⟩)
  go_ret2
  exact ⟨rfl, below2 _ _ _⟩

end Go.Proofs.YtmgjeplbhnfakaaGreatDoor.DayOf

namespace Go.Proofs.YtmgjeplbhnfakaaGreatDoor.DateOf
open Go.RowKit Go.Proofs.YtmgjeplbhnfakaaGreatDoor.Cal Go.Proofs.YtmgjeplbhnfakaaGreatDoor.Tab Go.Proofs.YtmgjeplbhnfakaaGreatDoor.Wd Go.Proofs.YtmgjeplbhnfakaaGreatDoor.Len Go.Proofs.YtmgjeplbhnfakaaGreatDoor.Valid Go.Proofs.YtmgjeplbhnfakaaGreatDoor.DayOf

/-- A date and a flag are returned. -/
def dateRet (y m d : Int) (b : Bool) : Ending := .returned (.tuple #[.agg #[.int .i64 y, .int .i64 m, .int .i64 d], .bool b])

theorem Box.set0 {k : Nat} {w : World} {a b c : Int} (h : Box k w a b c) (x : Int) : Box k (w.setCell ⟨k, 0, none⟩ (.int .i64 x)) x b c :=
  ⟨by rw [World.size_setCell]; exact h.lt, World.cell?_setCell_same w _ _ h.c0, (World.cell?_setCell_other w _ _ _ (by simp)).trans h.c1, (World.cell?_setCell_other w _ _ _ (by simp)).trans h.c2, by simp [h.f0], by simp [h.f1], by simp [h.f2]⟩
theorem Box.set1 {k : Nat} {w : World} {a b c : Int} (h : Box k w a b c) (x : Int) : Box k (w.setCell ⟨k, 1, none⟩ (.int .i64 x)) a x c :=
  ⟨by rw [World.size_setCell]; exact h.lt, (World.cell?_setCell_other w _ _ _ (by simp)).trans h.c0, World.cell?_setCell_same w _ _ h.c1, (World.cell?_setCell_other w _ _ _ (by simp)).trans h.c2, by simp [h.f0], by simp [h.f1], by simp [h.f2]⟩
theorem Box.set2 {k : Nat} {w : World} {a b c : Int} (h : Box k w a b c) (x : Int) : Box k (w.setCell ⟨k, 2, none⟩ (.int .i64 x)) a b x :=
  ⟨by rw [World.size_setCell]; exact h.lt, (World.cell?_setCell_other w _ _ _ (by simp)).trans h.c0, (World.cell?_setCell_other w _ _ _ (by simp)).trans h.c1, World.cell?_setCell_same w _ _ h.c2, by simp [h.f0], by simp [h.f1], by simp [h.f2]⟩

set_option maxHeartbeats 1000000 in
theorem implAux (n Y M DA D : Int) (w : World) (n1 : 0 ≤ n) (n2 : n ≤ 36524) (HD : Hid (Day n)) (hT : Tab w) (hY : 2000 ≤ Y ∧ Y ≤ 2099) (hD : 0 ≤ D ∧ D ≤ n) (HE : Hid (2000 + n * 4 / 1461 = Y)) (HDY : Hid (dby Y = D))
    (HEND : Hid (∀ m, InM m → D + bef Y m ≤ n → n < D + bef Y (m + 1) → m = M)) (HDA : Hid (DA = n - D - bef Y M + 1)) (HL : Hid (n - D < bef Y 13)) :
    Calls Tryz.prog 65 #[.int .i64 n] w fun e w' => e = dateRet Y M DA true ∧ Below w.heap.size w w' := by
  have HT := Lib.hid hT
  have HBD := Lib.hid (fun (m : Int) (hm : InM m) => bef_bd Y hm)
  have HB1 := Lib.hid (bef_one Y)
  have HB : Hid (∀ m w, 1 ≤ m → m ≤ 13 → Tab w → Calls Tryz.prog 71 #[.int .i64 Y, .int .i64 m] w fun e w' => e = .returned (.int .i64 (bef Y m)) ∧ w = w') := Lib.hid (fun m w a b c => befM Y m hY a b w c)
  have HYC : Hid (∀ w, Calls Tryz.prog 70 #[.int .i64 (2000 + n * 4 / 1461)] w fun e w' => e = .returned (.int .i64 D) ∧ w = w') := Lib.hid (fun w => by rw [HE.out, ← HDY.out]; exact befY Y hY w)
  clear hT HDY
  go_enter Tryz.func65, Tryz.ntmps65
  go_wp2_with (first
    | (go_at_call 18; refine (isDayYes n HD.out _).mono ?_; rintro e w' ⟨rfl, rfl⟩)
    | (go_at_call 70; refine (HYC.out _).mono ?_; rintro e w' ⟨rfl, rfl⟩))
  rw [HE.out]
  clear HE HYC
  go_loop [6] (fun i => ∃ k : Int, 1 ≤ k ∧ k ≤ 12 ∧ bef Y k ≤ n - D ∧ i = .int .i64 k) (fun i => (12 - intOf i).toNat)
  case atStart => exact ⟨1, by omega, by omega, by rw [HB1.out]; omega, rfl⟩
  case round =>
    obtain ⟨k, k1, k2, k3, rfl⟩ := hrel
    have hk := HBD.out k ⟨k1, k2⟩
    by_cases hlt : bef Y (k + 1) ≤ n - D
    · have k4 : k ≠ 12 := by rintro rfl; have := HL.out; exact absurd hlt (by show ¬ bef Y 13 ≤ _; omega)
      have k5 : k < 12 := by omega
      clear k4
      have HLT := Lib.hid hlt
      go_wp2_with (go_at_call 71; refine (HB.out _ _ (by omega) (by omega) (HT.out.alloc _)).mono ?_; rintro e w' ⟨rfl, rfl⟩)
      go_round
      case rel => exact ⟨k + 1, by omega, by omega, HLT.out, rfl⟩
      case measure => simp [intOf]; omega
    · have hk2 : k = M := HEND.out k ⟨k1, k2⟩ (by omega) (by omega)
      subst hk2
      have HR : Hid (n - D - bef Y k + 1 = DA) := Lib.hid HDA.out.symm
      go_wp2_with (go_at_call 71; refine (HB.out _ _ (by omega) (by omega) (HT.out.alloc _)).mono ?_; rintro e w' ⟨rfl, rfl⟩)
      rw [HR.out]
      exact bodyPost_ret (v := .tuple #[.agg #[.int .i64 Y, .int .i64 k, .int .i64 DA], .bool true]) (by simp [results, Tryz.results65, go_sem]) rfl ⟨rfl, below1 _ _⟩

theorem implYes (n : Int) (h : Day n) (w : World) (hT : Tab w) :
    Calls Tryz.prog 65 #[.int .i64 n] w fun e w' => e = dateRet (yr n) (mo n) (da n) true ∧ Below w.heap.size w w' := by
  obtain ⟨hY, hy1, hy2⟩ := yr_bd h
  have hdb := dby_bd hY
  have hs := dby_succ _ hY.1
  exact implAux n (yr n) (mo n) (da n) (dby (yr n)) w h.1 h.2 (Lib.hid h) hT hY ⟨hdb.1, hy1⟩ (Lib.hid rfl) (Lib.hid rfl) (Lib.hid (fun m a b c => mo_end h a b (.inr c))) (Lib.hid rfl) (Lib.hid (by omega))

theorem implNo (n : Int) (h : ¬ Day n) (w : World) :
    Calls Tryz.prog 65 #[.int .i64 n] w fun e w' => e = dateRet 0 0 0 false ∧ Below w.heap.size w w' := by
  have HD := Lib.hid h
  clear h
  go_enter Tryz.func65, Tryz.ntmps65
  go_wp2_with (go_at_call 18; refine (isDayNo n HD.out _).mono ?_; rintro e w' ⟨rfl, rfl⟩)
  exact bodyPost_ret (v := .tuple #[.agg #[.int .i64 0, .int .i64 0, .int .i64 0], .bool false]) (by simp [results, Tryz.results65, go_sem]) rfl ⟨rfl, below1 _ _⟩

theorem num_small {y m : Int} (hy : InY y) (hm : InM m) : 0 ≤ num y m 1 ∧ num y m 1 ≤ 40000 := by
  have a := dby_bd hy
  have b := bef_bd y hm
  unfold num; omega

theorem Box.far {k : Nat} {w : World} {a b c : Int} (h : Box k w a b c) {p : Addr} (hp : p.block ≠ k) (v : Value) : Box k (w.setCell p v) a b c :=
  have hne : ∀ i : Nat, p ≠ ⟨k, i, none⟩ := fun i e => hp (by rw [e])
  ⟨by rw [World.size_setCell]; exact h.lt, (World.cell?_setCell_other w _ _ _ (hne 0)).trans h.c0, (World.cell?_setCell_other w _ _ _ (hne 1)).trans h.c1, (World.cell?_setCell_other w _ _ _ (hne 2)).trans h.c2, by simp [h.f0], by simp [h.f1], by simp [h.f2]⟩

/-- A result's block and a local date's. -/
structure Pair (S : Nat) (w wr : World) (y m d : Int) : Prop where
  res : Box S wr 0 0 0
  loc : Box (S + 1) wr y m d
  bel : Below S w wr
  le : S ≤ wr.heap.size

theorem Pair.start (w : World) (y m d : Int) (T T' : TypeId) : Pair w.heap.size w ((w.alloc (.cells #[.int .i64 0, .int .i64 0, .int .i64 0] T)).alloc (.cells #[.int .i64 y, .int .i64 m, .int .i64 d] T')) y m d :=
  ⟨(Box.new w 0 0 0 T).alloc _, by have := Box.new (w.alloc (.cells #[.int .i64 0, .int .i64 0, .int .i64 0] T)) y m d T'; simpa using this, below2 _ _ _, by simp; omega⟩
theorem Pair.alloc {S : Nat} {w wr : World} {y m d : Int} (h : Pair S w wr y m d) (o : Obj) : Pair S w (wr.alloc o) y m d :=
  ⟨h.res.alloc _, h.loc.alloc _, h.bel.alloc h.le _, by have := h.le; simp; omega⟩
theorem Pair.set0 {S : Nat} {w wr : World} {y m d : Int} (h : Pair S w wr y m d) (x : Int) : Pair S w (wr.setCell ⟨S + 1, 0, none⟩ (.int .i64 x)) x m d :=
  ⟨Box.far h.res (by simp) _, Box.set0 h.loc x, h.bel.setCell (by simp) _, by rw [World.size_setCell]; exact h.le⟩
theorem Pair.set1 {S : Nat} {w wr : World} {y m d : Int} (h : Pair S w wr y m d) (x : Int) : Pair S w (wr.setCell ⟨S + 1, 1, none⟩ (.int .i64 x)) y x d :=
  ⟨Box.far h.res (by simp) _, Box.set1 h.loc x, h.bel.setCell (by simp) _, by rw [World.size_setCell]; exact h.le⟩
theorem Pair.set2 {S : Nat} {w wr : World} {y m d : Int} (h : Pair S w wr y m d) (x : Int) : Pair S w (wr.setCell ⟨S + 1, 2, none⟩ (.int .i64 x)) y m x :=
  ⟨Box.far h.res (by simp) _, Box.set2 h.loc x, h.bel.setCell (by simp) _, by rw [World.size_setCell]; exact h.le⟩

/-- The local date, its day set, stored into the result. -/
def fin (S : Nat) (wr : World) (y m x : Int) : World := (((wr.setCell ⟨S + 1, 2, none⟩ (.int .i64 x)).setCell ⟨S, 0, none⟩ (.int .i64 y)).setCell ⟨S, 1, none⟩ (.int .i64 m)).setCell ⟨S, 2, none⟩ (.int .i64 x)
theorem Pair.fin {S : Nat} {w wr : World} {y m d : Int} (h : Pair S w wr y m d) (x : Int) : Pair S w (wr.setCell ⟨S + 1, 2, none⟩ (.int .i64 x)) y m x ∧ Box S (fin S wr y m x) y m x ∧ Below S w (fin S wr y m x) ∧ S ≤ (fin S wr y m x).heap.size := by
  have h1 := Pair.set2 h x
  have h2 := Box.set2 (Box.set1 (Box.set0 h1.res y) m) x
  refine ⟨h1, h2, ((h1.bel.setCell (by simp) _).setCell (by simp) _).setCell (by simp) _, ?_⟩
  simp only [DateOf.fin, World.size_setCell]; exact h.le

end Go.Proofs.YtmgjeplbhnfakaaGreatDoor.DateOf

namespace Go.Proofs.YtmgjeplbhnfakaaGreatDoor.DateLaw
open Go.RowKit Go.Proofs.YtmgjeplbhnfakaaGreatDoor.Cal Go.Proofs.YtmgjeplbhnfakaaGreatDoor.Tab Go.Proofs.YtmgjeplbhnfakaaGreatDoor.Wd Go.Proofs.YtmgjeplbhnfakaaGreatDoor.Len Go.Proofs.YtmgjeplbhnfakaaGreatDoor.Valid Go.Proofs.YtmgjeplbhnfakaaGreatDoor.DayOf Go.Proofs.YtmgjeplbhnfakaaGreatDoor.DateOf

theorem beqDec (a b : Int) : (a == b) = decide (a = b) := by by_cases h : a = b <;> simp [h]

theorem implYes (n : Int) (h : Day n) (w : World) (hT : Tab w) :
    Calls Tryz.prog 65 #[.int .i64 n] w fun e w' => e = .returned (.tuple #[.agg #[.int .i64 ((yr n)), .int .i64 ((mo n)), .int .i64 ((da n))], .bool true]) ∧ Below w.heap.size w w' := DateOf.implYes n h w hT
theorem implNo (n : Int) (h : ¬ Day n) (w : World) :
    Calls Tryz.prog 65 #[.int .i64 n] w fun e w' => e = .returned (.tuple #[.agg #[.int .i64 0, .int .i64 0, .int .i64 0], .bool false]) ∧ Below w.heap.size w w' := DateOf.implNo n h w

end Go.Proofs.YtmgjeplbhnfakaaGreatDoor.DateLaw

namespace Go.Proofs.YtmgjeplbhnfakaaGreatDoor.FmtDate
open Go.RowKit Go.Proofs.YtmgjeplbhnfakaaGreatDoor.Cal Go.Proofs.YtmgjeplbhnfakaaGreatDoor.Tab Go.Proofs.YtmgjeplbhnfakaaGreatDoor.Wd Go.Proofs.YtmgjeplbhnfakaaGreatDoor.Len Go.Proofs.YtmgjeplbhnfakaaGreatDoor.Valid Go.Proofs.YtmgjeplbhnfakaaGreatDoor.DayOf Go.Proofs.YtmgjeplbhnfakaaGreatDoor.DateOf Go.Proofs.YtmgjeplbhnfakaaGreatDoor.FmtPlain Go.Proofs.YtmgjeplbhnfakaaGreatDoor.Num
set_option linter.unusedSimpArgs false
set_option linter.unusedVariables false

def Pow (w : World) : Prop := Lib.TabIs Tryz.prog w "internal/strconv.uint64pow10" .u64 Lib.pow10Tab
theorem Pow.below {w w' : World} (h : Pow w) (hb : Below w.heap.size w w') : Pow w' := Laid.table_below hb h

/-- The text of a date. -/
def text (y m d : Int) : List UInt8 := Lib.decDigits y.toNat ++ [45] ++ two m.toNat ++ [45] ++ two d.toNat

theorem addIs (a b : List UInt8) (h : a.length + b.length ≤ 100) (w : World) :
    (Op.stringOp .add ⟨a.toArray⟩ ⟨b.toArray⟩).run Tryz.prog w = .ok (.string ⟨(a ++ b).toArray⟩) w := by
  rw [run_string_add_sum w _ _ (by rw [size, size]; omega), cat]

theorem twoDigits (n : Int) (h0 : 0 ≤ n) (h1 : n ≤ 99) (w : World) (hP : Pow w) :
    Calls Tryz.prog 67 #[.int .i64 n] w fun e w' => e = .returned (.string ⟨(two n.toNat).toArray⟩) ∧ Below w.heap.size w w' := by
  have HP := Lib.hid hP
  have HQ : Hid (∀ w, Pow w → Calls Tryz.prog 66 #[.int .i64 (100 + n)] w fun e w' => e = .returned (.string ⟨(49 :: two n.toNat).toArray⟩) ∧ Below w.heap.size w w') := Lib.hid fun w hw => by
    have h := Tryz.strconv_Itoa (100 + n) (by omega) (by omega) w hw
    rw [show (100 + n) = 100 + ((n.toNat : Nat) : Int) by omega, itoa_minor _ (by omega)] at h
    rw [show (100 + n) = 100 + ((n.toNat : Nat) : Int) by omega]
    exact h.mono fun _ _ ⟨he, k, os, hw⟩ => ⟨he, by rw [hw]; exact Lib.below_grow _ _ (Nat.le_refl _) _ _⟩
  obtain ⟨x, y, hxy⟩ : ∃ x y, two n.toNat = [x, y] := ⟨_, _, rfl⟩
  rw [hxy] at HQ ⊢
  have sl : ∀ w, (Instr.slice 9 (.string ⟨#[49, x, y]⟩) (some (.int .i64 1)) none none).run Tryz.prog w = .ok (.string ⟨#[x, y]⟩) w := fun w => by
    simp [go_sem, ByteArray.size]
    rfl
  clear hxy hP
  go_enter Tryz.func67, Tryz.ntmps67
  go_wp2_with (go_at_call 66; refine (HQ.out _ HP.out).mono ?_; rintro e w1 ⟨rfl, hb1⟩)
  go_ret
  exact ⟨rfl, hb1⟩

set_option maxHeartbeats 1000000 in
theorem implAux (n Y M D : Int) (a b c : List UInt8) (w : World) (hT : Tab w) (hP : Pow w) (ha : a.length ≤ 9) (hb : b.length = 2) (hc : c.length = 2)
    (HI : Hid (∀ w, Tab w → Calls Tryz.prog 65 #[.int .i64 n] w fun e w' => e = .returned (.tuple #[.agg #[.int .i64 Y, .int .i64 M, .int .i64 D], .bool true]) ∧ Below w.heap.size w w'))
    (HA : Hid (∀ w, Pow w → Calls Tryz.prog 66 #[.int .i64 Y] w fun e w' => e = .returned (.string ⟨a.toArray⟩) ∧ Below w.heap.size w w'))
    (HB : Hid (∀ w, Pow w → Calls Tryz.prog 67 #[.int .i64 M] w fun e w' => e = .returned (.string ⟨b.toArray⟩) ∧ Below w.heap.size w w'))
    (HC : Hid (∀ w, Pow w → Calls Tryz.prog 67 #[.int .i64 D] w fun e w' => e = .returned (.string ⟨c.toArray⟩) ∧ Below w.heap.size w w')) :
    Calls Tryz.prog 49 #[.int .i64 n] w fun e w' => e = .returned (.tuple #[.string ⟨(a ++ [45] ++ b ++ [45] ++ c).toArray⟩, .bool true]) ∧ Below w.heap.size w w' := by
  have HT := Lib.hid hT
  have HP := Lib.hid hP
  have a1 := addIs a [45] (by simp; omega)
  have a2 := addIs (a ++ [45]) b (by simp; omega)
  have a3 := addIs (a ++ [45] ++ b) [45] (by simp; omega)
  have a4 := addIs (a ++ [45] ++ b ++ [45]) c (by simp; omega)
  clear ha hb hc hT hP
  generalize a ++ [45] ++ b ++ [45] ++ c = E4 at *
  generalize a ++ [45] ++ b ++ [45] = E3 at *
  generalize a ++ [45] ++ b = E2 at *
  generalize a ++ [45] = E1 at *
  go_enter Tryz.func49, Tryz.ntmps49
  go_wp2_with (go_at_call 65; refine (HI.out _ HT.out).mono ?_; rintro e w1 ⟨rfl, hb1⟩; refine Hid.out ?_)
  refine Lib.hid ?_
  have HW2 : Hid (Below w.heap.size w (w1.alloc (.cells #[.int .i64 Y, .int .i64 M, .int .i64 D] 74))) := Lib.hid (hb1.trans ((below1 w1 _).mono hb1.size))
  have B2 := Lib.hid (Box.new w1 Y M D 74)
  clear hb1
  go_wp2_with fail
  have HPX : Hid (∀ v, Below (w1.alloc (.cells #[.int .i64 Y, .int .i64 M, .int .i64 D] 74)).heap.size (w1.alloc (.cells #[.int .i64 Y, .int .i64 M, .int .i64 D] 74)) v → Pow v) := Lib.hid fun v hv => HP.out.below (HW2.out.trans (hv.mono HW2.out.size))
  have KX : Hid (∀ v, Below (w1.alloc (.cells #[.int .i64 Y, .int .i64 M, .int .i64 D] 74)).heap.size (w1.alloc (.cells #[.int .i64 Y, .int .i64 M, .int .i64 D] 74)) v → v.cell? ⟨w1.heap.size, 0, none⟩ = some (.int .i64 Y) ∧ v.cell? ⟨w1.heap.size, 1, none⟩ = some (.int .i64 M) ∧ v.cell? ⟨w1.heap.size, 2, none⟩ = some (.int .i64 D)) := Lib.hid fun v hv => by
    have := B2.out.below hv
    exact ⟨this.c0, this.c1, this.c2⟩
  clear B2
  generalize w1.alloc (.cells #[.int .i64 Y, .int .i64 M, .int .i64 D] 74) = X at *
  generalize w1.heap.size = k at *
  go_region_held3 (fun w' => w'.cell? ⟨k, 0, none⟩ = some (.int .i64 Y) ∧ w'.cell? ⟨k, 1, none⟩ = some (.int .i64 M) ∧ w'.cell? ⟨k, 2, none⟩ = some (.int .i64 D)) (first | (refine KX.out _ ?_; (repeat (first | exact Below.refl _ _ | exact b3 | exact b2 | exact b1 | apply Below.drew)); done))
    (first
      | (go_at_call 66; (with_reducible refine (HA.out _ (HPX.out _ (by (repeat (first | exact Below.refl _ _ | exact b3 | exact b2 | exact b1 | apply Below.drew))))).mono ?_); rintro e wa ⟨rfl, hb⟩; have b1 : Below X.heap.size X wa := (Below.trans (by (repeat (first | exact Below.refl _ _ | exact b3 | exact b2 | exact b1 | apply Below.drew))) (hb.mono (by first | omega | (simp; done) | (simp; omega) | exact b1.size | exact b2.size | (have := b1.size; simp; omega) | (have := b2.size; simp; omega)))); clear hb)
      | (go_at_call 67; (with_reducible refine (HB.out _ (HPX.out _ (by (repeat (first | exact Below.refl _ _ | exact b3 | exact b2 | exact b1 | apply Below.drew))))).mono ?_); rintro e wb ⟨rfl, hb⟩; have b2 : Below X.heap.size X wb := (Below.trans (by (repeat (first | exact Below.refl _ _ | exact b3 | exact b2 | exact b1 | apply Below.drew))) (hb.mono (by first | omega | (simp; done) | (simp; omega) | exact b1.size | exact b2.size | (have := b1.size; simp; omega) | (have := b2.size; simp; omega)))); clear hb)
      | (go_at_call 67; (with_reducible refine (HC.out _ (HPX.out _ (by (repeat (first | exact Below.refl _ _ | exact b3 | exact b2 | exact b1 | apply Below.drew))))).mono ?_); rintro e wc ⟨rfl, hb⟩; have b3 : Below X.heap.size X wc := (Below.trans (by (repeat (first | exact Below.refl _ _ | exact b3 | exact b2 | exact b1 | apply Below.drew))) (hb.mono (by first | omega | (simp; done) | (simp; omega) | exact b1.size | exact b2.size | (have := b1.size; simp; omega) | (have := b2.size; simp; omega)))); clear hb))
  all_goals
    go_wp2_with fail
    go_ret2
    exact ⟨rfl, HW2.out.trans (b3.mono HW2.out.size)⟩

theorem implYes (n : Int) (h : Day n) (w : World) (hT : Tab w) (hP : Pow w) :
    Calls Tryz.prog 49 #[.int .i64 n] w fun e w' => e = .returned (.tuple #[.string ⟨(text (yr n) (mo n) (da n)).toArray⟩, .bool true]) ∧ Below w.heap.size w w' := by
  obtain ⟨⟨y1, y2⟩, ⟨m1, m2⟩, d1, d2⟩ := (date_is h).1
  have hl := len_bd (yr n) (mo n)
  refine implAux n (yr n) (mo n) (da n) (Lib.decDigits (yr n).toNat) (two (mo n).toNat) (two (da n).toNat) w hT hP (dec_le _ (by omega)) rfl rfl (Lib.hid fun w hw => DateLaw.implYes n h w hw)
    (Lib.hid fun w hw => ?_) (Lib.hid fun w hw => twoDigits _ (by omega) (by omega) w hw) (Lib.hid fun w hw => twoDigits _ (by omega) (by omega) w hw)
  have h := Tryz.strconv_Itoa (yr n) (by omega) (by omega) w hw
  rw [show (yr n) = (((yr n).toNat : Nat) : Int) by omega, itoa_nat] at h
  rw [show (yr n) = (((yr n).toNat : Nat) : Int) by omega]
  simp only [Int.toNat_natCast] at h ⊢
  exact h.mono fun _ _ ⟨he, k, os, hw⟩ => ⟨he, by rw [hw]; exact Lib.below_grow _ _ (Nat.le_refl _) _ _⟩

theorem implNo (n : Int) (h : ¬ Day n) (w : World) :
    Calls Tryz.prog 49 #[.int .i64 n] w fun e w' => e = .returned (.tuple #[.string ⟨#[]⟩, .bool false]) ∧ Below w.heap.size w w' := by
  have HD := Lib.hid h
  clear h
  go_enter Tryz.func49, Tryz.ntmps49
  go_wp2_with (go_at_call 65; refine (DateLaw.implNo n HD.out _).mono ?_; rintro e w1 ⟨rfl, hb1⟩; refine Hid.out ?_)
  refine Lib.hid ?_
  have HW2 : Hid (Below w.heap.size w (w1.alloc (.cells #[.int .i64 0, .int .i64 0, .int .i64 0] 74))) := Lib.hid (hb1.trans ((below1 w1 _).mono hb1.size))
  clear hb1
  go_wp2_with fail
  go_ret2
  exact ⟨rfl, HW2.out⟩

end Go.Proofs.YtmgjeplbhnfakaaGreatDoor.FmtDate

namespace Go.Proofs.YtmgjeplbhnfakaaGreatDoor.PImpl
open Go.RowKit Go.Proofs.YtmgjeplbhnfakaaGreatDoor.Cal Go.Proofs.YtmgjeplbhnfakaaGreatDoor.Tab Go.Proofs.YtmgjeplbhnfakaaGreatDoor.Wd Go.Proofs.YtmgjeplbhnfakaaGreatDoor.Len Go.Proofs.YtmgjeplbhnfakaaGreatDoor.Valid Go.Proofs.YtmgjeplbhnfakaaGreatDoor.DayOf Go.Proofs.YtmgjeplbhnfakaaGreatDoor.DateOf Go.Proofs.YtmgjeplbhnfakaaGreatDoor.FmtPlain Go.Proofs.YtmgjeplbhnfakaaGreatDoor.LiesD Go.Proofs.YtmgjeplbhnfakaaGreatDoor.DPlain
set_option linter.unusedVariables false
set_option linter.unusedSimpArgs false

/-- The answer. -/
def Ans (s : ByteArray) (e : Ending) : Prop :=
  (∃ x, Is s.data.toList x ∧ e = .returned (.tuple #[.int .i64 x, .bool true])) ∨ ((∀ x, ¬ Is s.data.toList x) ∧ e = .returned (.tuple #[.int .i64 0, .bool false]))

theorem size_len (s : ByteArray) : s.size = s.data.toList.length := (Array.length_toList (xs := s.data)).symm

theorem short (s : ByteArray) (h : s.size ≠ 10) (hs : s.size ≤ 2000000) (w : World) :
    Calls Tryz.prog 69 #[.string s] w fun e w' => Ans s e ∧ Below w.heap.size w w' := by
  have h1 : ((s.size : Int) == 10) = false := by simp; omega
  have h2 : ((s.size : Int) != 10) = true := by simp; omega
  have HN : Hid (∀ x, ¬ Is s.data.toList x) := Lib.hid fun x hx => h (by rw [size_len]; exact hx.len)
  clear h
  go_enter Tryz.func69, Tryz.ntmps69
  go_wp2_with fail
  go_ret2
  exact ⟨.inr ⟨HN.out, rfl⟩, Below.refl _ _⟩

theorem ix0 (p1 p2 p3 : ByteArray) (w : World) : (Instr.index 89 (.agg #[.string p1, .string p2, .string p3]) (.int .i64 0)).run Tryz.prog w = .ok (.string p1) w := by
  simp [Instr.index, run_underlying Tryz.underlying89, asIntOf, go_sem]
theorem ix1 (p1 p2 p3 : ByteArray) (w : World) : (Instr.index 89 (.agg #[.string p1, .string p2, .string p3]) (.int .i64 1)).run Tryz.prog w = .ok (.string p2) w := by
  simp [Instr.index, run_underlying Tryz.underlying89, asIntOf, go_sem]
theorem ix2 (p1 p2 p3 : ByteArray) (w : World) : (Instr.index 89 (.agg #[.string p1, .string p2, .string p3]) (.int .i64 2)).run Tryz.prog w = .ok (.string p3) w := by
  simp [Instr.index, run_underlying Tryz.underlying89, asIntOf, go_sem]

/-- What has been read behind k rounds. -/
def St (S : Nat) (l1 l2 l3 : List UInt8) (k : Nat) (w : World) : Prop :=
  (k = 0 ∧ Box S w 0 0 0) ∨ (k = 1 ∧ ∃ y, Lib.atoiAll l1 = .ok y ∧ Box S w y 0 0) ∨ (k = 2 ∧ ∃ y m, Lib.atoiAll l1 = .ok y ∧ Lib.atoiAll l2 = .ok m ∧ Box S w y m 0) ∨
    (k = 3 ∧ ∃ y m d, Lib.atoiAll l1 = .ok y ∧ Lib.atoiAll l2 = .ok m ∧ Lib.atoiAll l3 = .ok d ∧ Box S w y m d)

set_option maxHeartbeats 4000000 in
theorem tenAux (s p1 p2 p3 : ByteArray) (w : World) (hT : Tab w) (hL : Lies w) (hsz : s.size = 10) (z1 : p1.size ≤ 10) (z2 : p2.size ≤ 10) (z3 : p3.size ≤ 10)
    (s1 : ∀ w, (Instr.slice 9 (.string s) none (some (.int .i64 4)) none).run Tryz.prog w = .ok (.string p1) w)
    (s2 : ∀ w, (Instr.slice 9 (.string s) (some (.int .i64 5)) (some (.int .i64 7)) none).run Tryz.prog w = .ok (.string p2) w)
    (s3 : ∀ w, (Instr.slice 9 (.string s) (some (.int .i64 8)) none none).run Tryz.prog w = .ok (.string p3) w)
    (HN1 : Hid ((∀ v, Lib.atoiAll p1.data.toList ≠ .ok v) → ∀ x, ¬ Is s.data.toList x)) (HN2 : Hid ((∀ v, Lib.atoiAll p2.data.toList ≠ .ok v) → ∀ x, ¬ Is s.data.toList x)) (HN3 : Hid ((∀ v, Lib.atoiAll p3.data.toList ≠ .ok v) → ∀ x, ¬ Is s.data.toList x))
    (HNV : Hid (∀ y m d, Lib.atoiAll p1.data.toList = .ok y → Lib.atoiAll p2.data.toList = .ok m → Lib.atoiAll p3.data.toList = .ok d → (¬ Vld y m d ∨ s.data.toList ≠ DPlain.text y m d) → ∀ x, ¬ Is s.data.toList x)) :
    Calls Tryz.prog 69 #[.string s] w fun e w' => Ans s e ∧ Below w.heap.size w w' := by
  have HTb : Hid (∀ v, Below w.heap.size w v → Tab v) := Lib.hid fun v hv => hT.below hv
  have HLb : Hid (∀ v, Below w.heap.size w v → Lies v) := Lib.hid fun v hv => hL.below hv
  have B0 := Lib.hid (Box.new w 0 0 0 88)
  have i0 := ix0 p1 p2 p3
  have i1 := ix1 p1 p2 p3
  have i2 := ix2 p1 p2 p3
  clear hT hL
  go_enter Tryz.func69, Tryz.ntmps69
  go_wp2_with fail
  go_quiet (fail)
  clear s1 s2 s3
  go_wp2_with fail
  go_loopg [22] 4 (fun g i wr => ∃ k : Nat, g + k = 4 ∧ i = .int .i64 k ∧ Hid (St w.heap.size p1.data.toList p2.data.toList p3.data.toList k wr) ∧ Hid (Below w.heap.size w wr))
  case atStart => exact ⟨0, rfl, rfl, Lib.hid (.inl ⟨rfl, B0.out.below (below_drewN (Below.refl _ _) _)⟩), Lib.hid (below_drewN (below1 _ _) _)⟩
  case round =>
    obtain ⟨k, g1, rfl, HS, HW⟩ := hrel
    clear B0
    rcases HS.out with ⟨hk, hB⟩ | ⟨hk, y, r1, hB⟩ | ⟨hk, y, m, r1, r2, hB⟩ | ⟨hk, y, m, d, r1, r2, r3, hB⟩
    · subst hk
      obtain ⟨b1, b2, b3, b4, b5, b6, b7⟩ := id hB
      have HB := Lib.hid hB
      clear hB HS
      by_cases h : ∃ v, Lib.atoiAll p1.data.toList = .ok v
      · obtain ⟨v, hv⟩ := h
        have HV := Lib.hid hv
        clear hv
        go_wp2_with (go_at_call 74; refine (atoiOk p1 (by omega) v HV.out wr).mono ?_; rintro e w1 ⟨rfl, hb1⟩; refine Hid.out ?_)
        refine Lib.hid ?_
        have HB1 := Lib.hid (HB.out.below hb1)
        have HW1 : Hid (Below w.heap.size w w1) := Lib.hid (HW.out.trans (hb1.mono HW.out.size))
        obtain ⟨c1, c2, c3, c4, c5, c6, c7⟩ := HB1.out
        clear hb1 b1 b2 b3 b4 b5 b6 b7 HB
        go_wp2_with fail
        go_roundg (gk - 1)
        case measure => omega
        case rel => exact ⟨1, by omega, rfl, Lib.hid (.inr (.inl ⟨rfl, v, HV.out, Box.set0 HB1.out v⟩)), Lib.hid (HW1.out.setCell (by simp) _)⟩
      · have HX := Lib.hid (HN1.out fun v hv => h ⟨v, hv⟩)
        have HY : Hid (∀ v, Lib.atoiAll p1.data.toList ≠ .ok v) := Lib.hid fun v hv => h ⟨v, hv⟩
        have HLw : Hid (Lies wr) := Lib.hid (HLb.out _ HW.out)
        clear h
        go_wp2_with (go_at_call 74; refine (atoiBad p1 (by omega) HY.out wr HLw.out).mono ?_; rintro e w1 ⟨v, t, q, rfl, hb1⟩; refine Hid.out ?_)
        refine Lib.hid ?_
        have HW1 : Hid (Below w.heap.size w w1) := Lib.hid (HW.out.trans (hb1.mono HW.out.size))
        clear hb1 b1 b2 b3 b4 b5 b6 b7 HB
        go_wp2_with fail
        go_ret2
        exact ⟨.inr ⟨HX.out, rfl⟩, HW1.out⟩
    · subst hk
      obtain ⟨b1, b2, b3, b4, b5, b6, b7⟩ := id hB
      have HB := Lib.hid hB
      clear hB HS
      have R1 := Lib.hid r1
      clear r1
      by_cases h : ∃ v, Lib.atoiAll p2.data.toList = .ok v
      · obtain ⟨v, hv⟩ := h
        have HV := Lib.hid hv
        clear hv
        go_wp2_with (go_at_call 74; refine (atoiOk p2 (by omega) v HV.out wr).mono ?_; rintro e w1 ⟨rfl, hb1⟩; refine Hid.out ?_)
        refine Lib.hid ?_
        have HB1 := Lib.hid (HB.out.below hb1)
        have HW1 : Hid (Below w.heap.size w w1) := Lib.hid (HW.out.trans (hb1.mono HW.out.size))
        obtain ⟨c1, c2, c3, c4, c5, c6, c7⟩ := HB1.out
        clear hb1 b1 b2 b3 b4 b5 b6 b7 HB
        go_wp2_with fail
        go_roundg (gk - 1)
        case measure => omega
        case rel => exact ⟨2, by omega, rfl, Lib.hid (.inr (.inr (.inl ⟨rfl, y, v, R1.out, HV.out, Box.set1 HB1.out v⟩))), Lib.hid (HW1.out.setCell (by simp) _)⟩
      · have HX := Lib.hid (HN2.out fun v hv => h ⟨v, hv⟩)
        have HY : Hid (∀ v, Lib.atoiAll p2.data.toList ≠ .ok v) := Lib.hid fun v hv => h ⟨v, hv⟩
        have HLw : Hid (Lies wr) := Lib.hid (HLb.out _ HW.out)
        clear h
        go_wp2_with (go_at_call 74; refine (atoiBad p2 (by omega) HY.out wr HLw.out).mono ?_; rintro e w1 ⟨v, t, q, rfl, hb1⟩; refine Hid.out ?_)
        refine Lib.hid ?_
        have HW1 : Hid (Below w.heap.size w w1) := Lib.hid (HW.out.trans (hb1.mono HW.out.size))
        clear hb1 b1 b2 b3 b4 b5 b6 b7 HB
        go_wp2_with fail
        go_ret2
        exact ⟨.inr ⟨HX.out, rfl⟩, HW1.out⟩
    · subst hk
      obtain ⟨b1, b2, b3, b4, b5, b6, b7⟩ := id hB
      have HB := Lib.hid hB
      clear hB HS
      have R1 := Lib.hid r1
      have R2 := Lib.hid r2
      clear r1 r2
      by_cases h : ∃ v, Lib.atoiAll p3.data.toList = .ok v
      · obtain ⟨v, hv⟩ := h
        have HV := Lib.hid hv
        clear hv
        go_wp2_with (go_at_call 74; refine (atoiOk p3 (by omega) v HV.out wr).mono ?_; rintro e w1 ⟨rfl, hb1⟩; refine Hid.out ?_)
        refine Lib.hid ?_
        have HB1 := Lib.hid (HB.out.below hb1)
        have HW1 : Hid (Below w.heap.size w w1) := Lib.hid (HW.out.trans (hb1.mono HW.out.size))
        obtain ⟨c1, c2, c3, c4, c5, c6, c7⟩ := HB1.out
        clear hb1 b1 b2 b3 b4 b5 b6 b7 HB
        go_wp2_with fail
        go_roundg (gk - 1)
        case measure => omega
        case rel => exact ⟨3, by omega, rfl, Lib.hid (.inr (.inr (.inr ⟨rfl, y, m, v, R1.out, R2.out, HV.out, Box.set2 HB1.out v⟩))), Lib.hid (HW1.out.setCell (by simp) _)⟩
      · have HX := Lib.hid (HN3.out fun v hv => h ⟨v, hv⟩)
        have HY : Hid (∀ v, Lib.atoiAll p3.data.toList ≠ .ok v) := Lib.hid fun v hv => h ⟨v, hv⟩
        have HLw : Hid (Lies wr) := Lib.hid (HLb.out _ HW.out)
        clear h
        go_wp2_with (go_at_call 74; refine (atoiBad p3 (by omega) HY.out wr HLw.out).mono ?_; rintro e w1 ⟨v, t, q, rfl, hb1⟩; refine Hid.out ?_)
        refine Lib.hid ?_
        have HW1 : Hid (Below w.heap.size w w1) := Lib.hid (HW.out.trans (hb1.mono HW.out.size))
        clear hb1 b1 b2 b3 b4 b5 b6 b7 HB
        go_wp2_with fail
        go_ret2
        exact ⟨.inr ⟨HX.out, rfl⟩, HW1.out⟩
    · subst hk
      obtain ⟨b1, b2, b3, b4, b5, b6, b7⟩ := id hB
      have HB := Lib.hid hB
      have R1 := Lib.hid r1
      have R2 := Lib.hid r2
      have R3 := Lib.hid r3
      have HTw : Hid (Tab wr) := Lib.hid (HTb.out _ HW.out)
      clear hB HS r1 r2 r3
      by_cases h : Vld y m d
      · have HV := Lib.hid h
        have HX := Lib.hid (HNV.out y m d R1.out R2.out R3.out)
        have HI := Lib.hid (Is.num h)
        have HC : Hid (∀ w, Tab w → Calls Tryz.prog 75 #[.agg #[.int .i64 y, .int .i64 m, .int .i64 d]] w fun e w' => e = .returned (.tuple #[.int .i64 (num y m d), .bool true]) ∧ Below w.heap.size w w') := Lib.hid fun w hw => DayOf.implYes y m d HV.out w hw
        have HF : Hid (∀ w, Tab w → FmtDate.Pow w → Calls Tryz.prog 49 #[.int .i64 (num y m d)] w fun e w' => e = .returned (.tuple #[.string ⟨(DPlain.text y m d).toArray⟩, .bool true]) ∧ Below w.heap.size w w') := Lib.hid fun w hw hp => by
          have := FmtDate.implYes (num y m d) (num_day HV.out) w hw hp
          obtain ⟨e1, e2, e3⟩ := date_of HV.out
          rw [← e1, ← e2, ← e3] at this
          exact this
        clear h
        generalize num y m d = N at *
        generalize DPlain.text y m d = T at *
        go_wp2_with (go_at_call 75; refine (HC.out wr HTw.out).mono ?_; rintro e w1 ⟨rfl, hb1⟩; refine Hid.out ?_)
        refine Lib.hid ?_
        have HW1 : Hid (Below w.heap.size w w1) := Lib.hid (HW.out.trans (hb1.mono HW.out.size))
        have HT1 : Hid (Tab w1) := Lib.hid (HTb.out _ HW1.out)
        have HP1 : Hid (FmtDate.Pow w1) := Lib.hid (HLb.out _ HW1.out).tab
        clear hb1 b1 b2 b3 b4 b5 b6 b7 HB
        go_wp2_with (go_at_call 49; refine (HF.out w1 HT1.out HP1.out).mono ?_; rintro e w2 ⟨rfl, hb2⟩; refine Hid.out ?_)
        refine Lib.hid ?_
        have HW2 : Hid (Below w.heap.size w w2) := Lib.hid (HW1.out.trans (hb2.mono HW1.out.size))
        clear hb2
        by_cases ht : s.data.toList = T
        · have q1 : (!T == s.toList) = false := by rw [← ht, ← ByteArray.toList_eq]; simp
          have HE : Hid (Is s.data.toList N) := Lib.hid (by rw [ht]; exact HI.out)
          clear ht
          go_wp2_with fail
          go_ret2
          exact ⟨.inl ⟨N, HE.out, rfl⟩, HW2.out⟩
        · have q1 : (!T == s.toList) = true := by rw [Bool.not_eq_true', beq_eq_false_iff_ne]; intro e; exact ht (by rw [e, ByteArray.toList_eq])
          have HE := Lib.hid (HX.out (.inr ht))
          clear ht
          go_wp2_with fail
          go_ret2
          exact ⟨.inr ⟨HE.out, rfl⟩, HW2.out⟩
      · have HX := Lib.hid (HNV.out y m d R1.out R2.out R3.out (.inl h))
        have HC := Lib.hid (fun w hw => DayOf.implNo y m d h w hw)
        clear h
        go_wp2_with (go_at_call 75; refine (HC.out wr HTw.out).mono ?_; rintro e w1 ⟨rfl, hb1⟩; refine Hid.out ?_)
        refine Lib.hid ?_
        have HW1 : Hid (Below w.heap.size w w1) := Lib.hid (HW.out.trans (hb1.mono HW.out.size))
        clear hb1 b1 b2 b3 b4 b5 b6 b7 HB
        go_wp2_with fail
        go_ret2
        exact ⟨.inr ⟨HX.out, rfl⟩, HW1.out⟩

theorem ten (a0 a1 a2 a3 a4 a5 a6 a7 a8 a9 : UInt8) (w : World) (hT : Tab w) (hL : Lies w) :
    Calls Tryz.prog 69 #[.string ⟨#[a0, a1, a2, a3, a4, a5, a6, a7, a8, a9]⟩] w fun e w' => Ans ⟨#[a0, a1, a2, a3, a4, a5, a6, a7, a8, a9]⟩ e ∧ Below w.heap.size w w' := by
  refine tenAux ⟨#[a0, a1, a2, a3, a4, a5, a6, a7, a8, a9]⟩ ⟨#[a0, a1, a2, a3]⟩ ⟨#[a5, a6]⟩ ⟨#[a8, a9]⟩ w hT hL rfl (by simp [ByteArray.size]) (by simp [ByteArray.size]) (by simp [ByteArray.size]) (fun w => ?_) (fun w => ?_) (fun w => ?_)
    (Lib.hid fun r => none_1 r) (Lib.hid fun r => none_2 r) (Lib.hid fun r => none_3 r) (Lib.hid fun y m d r1 r2 r3 h => none_of r1 r2 r3 h)
  all_goals
    simp [go_sem, ByteArray.size]
    rfl

theorem impl (s : ByteArray) (hs : s.size ≤ 2000000) (w : World) (hT : Tab w) (hL : Lies w) :
    Calls Tryz.prog 69 #[.string s] w fun e w' => Ans s e ∧ Below w.heap.size w w' := by
  by_cases h : s.size = 10
  · have hl : s.data.toList.length = 10 := by rw [← size_len]; exact h
    obtain ⟨a0, a1, a2, a3, a4, a5, a6, a7, a8, a9, e⟩ : ∃ a0 a1 a2 a3 a4 a5 a6 a7 a8 a9, s.data.toList = [a0, a1, a2, a3, a4, a5, a6, a7, a8, a9] := by
      match s.data.toList, hl with
      | [a0, a1, a2, a3, a4, a5, a6, a7, a8, a9], _ => exact ⟨_, _, _, _, _, _, _, _, _, _, rfl⟩
    obtain rfl : s = ⟨#[a0, a1, a2, a3, a4, a5, a6, a7, a8, a9]⟩ := by
      apply ByteArray.ext
      apply Array.toList_inj.1
      rw [e]
    exact ten a0 a1 a2 a3 a4 a5 a6 a7 a8 a9 w hT hL
  · exact short s h hs w

end Go.Proofs.YtmgjeplbhnfakaaGreatDoor.PImpl

namespace Go.Proofs.YtmgjeplbhnfakaaGreatDoor.PSpec
open Go.RowKit Go.Proofs.YtmgjeplbhnfakaaGreatDoor.Cal Go.Proofs.YtmgjeplbhnfakaaGreatDoor.Tab Go.Proofs.YtmgjeplbhnfakaaGreatDoor.Wd Go.Proofs.YtmgjeplbhnfakaaGreatDoor.Len Go.Proofs.YtmgjeplbhnfakaaGreatDoor.Valid Go.Proofs.YtmgjeplbhnfakaaGreatDoor.DayOf Go.Proofs.YtmgjeplbhnfakaaGreatDoor.DateOf Go.Proofs.YtmgjeplbhnfakaaGreatDoor.FmtPlain Go.Proofs.YtmgjeplbhnfakaaGreatDoor.LiesD Go.Proofs.YtmgjeplbhnfakaaGreatDoor.DPlain Go.Proofs.YtmgjeplbhnfakaaGreatDoor.PImpl Go.Proofs.YtmgjeplbhnfakaaGreatDoor.IntText Go.Proofs.YtmgjeplbhnfakaaGreatDoor.Plain
set_option linter.unusedVariables false
set_option linter.unusedSimpArgs false

theorem Ans.det {s : ByteArray} : ∃ (v : Int) (b : Bool), ∀ e, Ans s e → e = .returned (.tuple #[.int .i64 v, .bool b]) := by
  by_cases h : ∃ x, Is s.data.toList x
  · obtain ⟨x, hx⟩ := h
    refine ⟨x, true, fun e he => ?_⟩
    rcases he with ⟨y, hy, rfl⟩ | ⟨hn, rfl⟩
    · rw [hx.uniq hy]
    · exact absurd hx (hn x)
  · refine ⟨0, false, fun e he => ?_⟩
    rcases he with ⟨y, hy, rfl⟩ | ⟨hn, rfl⟩
    · exact absurd ⟨y, hy⟩ h
    · rfl

end Go.Proofs.YtmgjeplbhnfakaaGreatDoor.PSpec
