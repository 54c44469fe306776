/-
  Clauses and contracts: in plain facts, and as they lie in memory.
-/
import Derived.Test.YtomloodakabcbaaGx
import Derived.Test.YtomloodakabcbaaRow
namespace Go.Proofs.Ytomloodakabcbaa.Cl
open Go.RowKit Go.Proofs.Ytomloodakabcbaa.Cond Go.Proofs.Ytomloodakabcbaa.Gx
set_option linter.unusedVariables false

/-- A clause. -/
structure L where
  id : ByteArray
  kind : Int
  party : Int
  act : ByteArray
  other : Int
  amt : Int
  c : C
  within : Int
  rep : ByteArray
/-- A clause as it lies in memory. -/
structure M where
  id : ByteArray
  kind : Int
  party : Int
  act : ByteArray
  other : Int
  amt : Int
  k : K
  within : Int
  rep : ByteArray
def M.cl (m : M) : L := ⟨m.id, m.kind, m.party, m.act, m.other, m.amt, m.k.cond, m.within, m.rep⟩
def M.cells (m : M) : List Value := [.string m.id, .int .i64 m.kind, .int .i64 m.party, .string m.act, .int .i64 m.other, .int .i64 m.amt, .int .i64 m.k.op, .string m.k.nm, .int .i64 m.k.day, .slice m.k.A m.k.ps.length m.k.cap, .int .i64 m.within, .string m.rep]
theorem M.len (m : M) : m.cells.length = 12 := rfl
abbrev M.val (m : M) : Value := .agg #[.string m.id, .int .i64 m.kind, .int .i64 m.party, .string m.act, .int .i64 m.other, .int .i64 m.amt, .int .i64 m.k.op, .string m.k.nm, .int .i64 m.k.day, .slice m.k.A m.k.ps.length m.k.cap, .int .i64 m.within, .string m.rep]
/-- What szClause takes away. -/
def L.wt (x : L) : Nat := x.id.size + x.act.size + x.c.wt + x.rep.size
def wtL : List L → Nat
  | [] => 0
  | x :: xs => x.wt + wtL xs
theorem wtL_step {xs : List L} {i : Nat} (hi : i < xs.length) : wtL (xs.take (i + 1)) = wtL (xs.take i) + xs[i].wt := by
  induction xs generalizing i with
  | nil => simp at hi
  | cons x xs ih =>
    cases i with
    | zero => simp [wtL]
    | succ i =>
      have := ih (i := i) (by simpa using hi)
      simp only [List.take_succ_cons, wtL, List.getElem_cons_succ]
      omega
theorem wtL_take_le (xs : List L) (i : Nat) : wtL (xs.take i) ≤ wtL xs := by
  induction xs generalizing i with
  | nil => simp [wtL]
  | cons x xs ih =>
    cases i with
    | zero => simp [wtL]
    | succ i => have := ih i; simp only [List.take_succ_cons, wtL]; omega
theorem wtL_mem {xs : List L} {x : L} (h : x ∈ xs) : x.wt ≤ wtL xs := by
  induction xs with
  | nil => simp at h
  | cons y ys ih =>
    rcases List.mem_cons.1 h with rfl | h
    · simp only [wtL]; omega
    · have := ih h; simp only [wtL]; omega

/-- The twelve cells of a clause. -/
theorem e12 {w : World} {b o : Nat} {m : M} (h : El w b o m.cells) :
    w.cell? ⟨b, o, none⟩ = some (.string m.id) ∧ w.cell? ⟨b, o + 1, none⟩ = some (.int .i64 m.kind) ∧ w.cell? ⟨b, o + 2, none⟩ = some (.int .i64 m.party) ∧ w.cell? ⟨b, o + 3, none⟩ = some (.string m.act) ∧
    w.cell? ⟨b, o + 4, none⟩ = some (.int .i64 m.other) ∧ w.cell? ⟨b, o + 5, none⟩ = some (.int .i64 m.amt) ∧ w.cell? ⟨b, o + 6, none⟩ = some (.int .i64 m.k.op) ∧ w.cell? ⟨b, o + 7, none⟩ = some (.string m.k.nm) ∧
    w.cell? ⟨b, o + 8, none⟩ = some (.int .i64 m.k.day) ∧ w.cell? ⟨b, o + 9, none⟩ = some (.slice m.k.A m.k.ps.length m.k.cap) ∧ w.cell? ⟨b, o + 10, none⟩ = some (.int .i64 m.within) ∧ w.cell? ⟨b, o + 11, none⟩ = some (.string m.rep) :=
  have hl := M.len m
  ⟨h 0 (by omega), h 1 (by omega), h 2 (by omega), h 3 (by omega), h 4 (by omega), h 5 (by omega), h 6 (by omega), h 7 (by omega), h 8 (by omega), h 9 (by omega), h 10 (by omega), h 11 (by omega)⟩
/-- The twelve cells of a box. -/
theorem b12 {w : World} {k : Nat} {m : M} (h : Bk k w m.cells) :
    w.cell? ⟨k, 0, none⟩ = some (.string m.id) ∧ w.cell? ⟨k, 1, none⟩ = some (.int .i64 m.kind) ∧ w.cell? ⟨k, 2, none⟩ = some (.int .i64 m.party) ∧ w.cell? ⟨k, 3, none⟩ = some (.string m.act) ∧
    w.cell? ⟨k, 4, none⟩ = some (.int .i64 m.other) ∧ w.cell? ⟨k, 5, none⟩ = some (.int .i64 m.amt) ∧ w.cell? ⟨k, 6, none⟩ = some (.int .i64 m.k.op) ∧ w.cell? ⟨k, 7, none⟩ = some (.string m.k.nm) ∧
    w.cell? ⟨k, 8, none⟩ = some (.int .i64 m.k.day) ∧ w.cell? ⟨k, 9, none⟩ = some (.slice m.k.A m.k.ps.length m.k.cap) ∧ w.cell? ⟨k, 10, none⟩ = some (.int .i64 m.within) ∧ w.cell? ⟨k, 11, none⟩ = some (.string m.rep) := by
  have := e12 h.el
  simpa only [Nat.zero_add] using this

/-- A clause lies below block B. -/
structure LiM (w : World) (B : Nat) (m : M) : Prop where
  k : Lies w B m.k
  si : m.id.size ≤ maxLen
  sa : m.act.size ≤ maxLen
  sr : m.rep.size ≤ maxLen
theorem LiM.below {w w' : World} {B : Nat} {m : M} (h : LiM w B m) (hb : Below B w w') : LiM w' B m := ⟨h.k.below hb, h.si, h.sa, h.sr⟩
theorem LiM.more {w : World} {B B' : Nat} {m : M} (h : LiM w B m) (hB : B ≤ B') : LiM w B' m := ⟨h.k.more hB, h.si, h.sa, h.sr⟩
theorem LiM.on {w w' : World} {m : M} (h : LiM w w.heap.size m) (hb : Below w.heap.size w w') : LiM w' w'.heap.size m := (h.below hb).more hb.size
/-- A row of clauses lies below block B. -/
structure LiR (w : World) (B : Nat) (A : Option Addr) (n cap : Nat) (ms : List M) : Prop where
  at_ : AtR M.cells 12 w B A ms
  all : ∀ m ∈ ms, LiM w B m
  len : n = ms.length
  nc : n ≤ cap
  cm : cap ≤ maxLen
theorem LiR.below {w w' : World} {B : Nat} {A : Option Addr} {n cap : Nat} {ms : List M} (h : LiR w B A n cap ms) (hb : Below B w w') : LiR w' B A n cap ms := ⟨h.at_.below hb, fun m hm => (h.all m hm).below hb, h.len, h.nc, h.cm⟩
theorem LiR.more {w : World} {B B' : Nat} {A : Option Addr} {n cap : Nat} {ms : List M} (h : LiR w B A n cap ms) (hB : B ≤ B') : LiR w B' A n cap ms := ⟨h.at_.more hB, fun m hm => (h.all m hm).more hB, h.len, h.nc, h.cm⟩
theorem LiR.on {w w' : World} {A : Option Addr} {n cap : Nat} {ms : List M} (h : LiR w w.heap.size A n cap ms) (hb : Below w.heap.size w w') : LiR w' w'.heap.size A n cap ms := (h.below hb).more hb.size

/-- A contract: its parties' row and its clauses' row. -/
structure Kt where
  A1 : Option Addr
  n1 : Nat
  c1 : Nat
  ss : List ByteArray
  A2 : Option Addr
  n2 : Nat
  c2 : Nat
  ms : List M
/-- The contract itself. -/
structure Ct where
  ss : List ByteArray
  ls : List L
def Kt.ct (x : Kt) : Ct := ⟨x.ss, x.ms.map M.cl⟩
abbrev Kt.val (x : Kt) : Value := .agg #[.slice x.A1 x.n1 x.c1, .slice x.A2 x.n2 x.c2]
def Kt.cells (x : Kt) : List Value := [.slice x.A1 x.n1 x.c1, .slice x.A2 x.n2 x.c2]
/-- What szContract takes away. -/
def Ct.wt (x : Ct) : Nat := (Row.sizes x.ss + x.ss.length) + (x.ls.length + wtL x.ls)
/-- A row of names lies below block B. -/
structure LiN (w : World) (B : Nat) (A : Option Addr) (n cap : Nat) (ss : List ByteArray) : Prop where
  is : Row.Is w B A ss
  len : n = ss.length
  nc : n ≤ cap
  cm : cap ≤ maxLen
  szs : ∀ p ∈ ss, p.size ≤ maxLen
  sp : ∀ ad, A = some ad → 0 < n → ad = ⟨ad.block, ad.off, none⟩
theorem LiN.below {w w' : World} {B : Nat} {A : Option Addr} {n cap : Nat} {ss : List ByteArray} (h : LiN w B A n cap ss) (hb : Below B w w') : LiN w' B A n cap ss := ⟨h.is.below hb, h.len, h.nc, h.cm, h.szs, h.sp⟩
theorem LiN.more {w : World} {B B' : Nat} {A : Option Addr} {n cap : Nat} {ss : List ByteArray} (h : LiN w B A n cap ss) (hB : B ≤ B') : LiN w B' A n cap ss := ⟨h.is.more hB, h.len, h.nc, h.cm, h.szs, h.sp⟩
structure LiC (w : World) (B : Nat) (x : Kt) : Prop where
  p : LiN w B x.A1 x.n1 x.c1 x.ss
  c : LiR w B x.A2 x.n2 x.c2 x.ms
theorem LiC.below {w w' : World} {B : Nat} {x : Kt} (h : LiC w B x) (hb : Below B w w') : LiC w' B x := ⟨h.p.below hb, h.c.below hb⟩
theorem LiC.more {w : World} {B B' : Nat} {x : Kt} (h : LiC w B x) (hB : B ≤ B') : LiC w B' x := ⟨h.p.more hB, h.c.more hB⟩
theorem LiC.on {w w' : World} {x : Kt} (h : LiC w w.heap.size x) (hb : Below w.heap.size w w') : LiC w' w'.heap.size x := (h.below hb).more hb.size

end Go.Proofs.Ytomloodakabcbaa.Cl
