/-
  DayOf and DateOf: what the program's and the model's functions return.
-/
import Derived.Test.YtlaogladhadliaaGreatDoorValid
namespace Go.Proofs.YtlaogladhadliaaGreatDoor.DayOf
open Go.RowKit Go.Proofs.YtlaogladhadliaaGreatDoor.Cal Go.Proofs.YtlaogladhadliaaGreatDoor.Tab Go.Proofs.YtlaogladhadliaaGreatDoor.Wd Go.Proofs.YtlaogladhadliaaGreatDoor.Len Go.Proofs.YtlaogladhadliaaGreatDoor.Valid

/-- Block k holds a date that may be written. -/
structure Box (k : Nat) (w : World) (a b c : Int) : Prop where
  lt : k < w.heap.size
  c0 : w.cell? ⟨k, 0, none⟩ = some (.int .i64 a)
  c1 : w.cell? ⟨k, 1, none⟩ = some (.int .i64 b)
  c2 : w.cell? ⟨k, 2, none⟩ = some (.int .i64 c)
  f0 : w.frozen? ⟨k, 0, none⟩ = false
  f1 : w.frozen? ⟨k, 1, none⟩ = false
  f2 : w.frozen? ⟨k, 2, none⟩ = false

theorem Box.below {k : Nat} {w w' : World} {a b c : Int} (h : Box k w a b c) (hb : Below w.heap.size w w') : Box k w' a b c :=
  ⟨Nat.lt_of_lt_of_le h.lt hb.size, (hb.cell (p := ⟨k, 0, none⟩) h.lt).trans h.c0, (hb.cell (p := ⟨k, 1, none⟩) h.lt).trans h.c1, (hb.cell (p := ⟨k, 2, none⟩) h.lt).trans h.c2,
    (hb.frozen (p := ⟨k, 0, none⟩) h.lt).trans h.f0, (hb.frozen (p := ⟨k, 1, none⟩) h.lt).trans h.f1, (hb.frozen (p := ⟨k, 2, none⟩) h.lt).trans h.f2⟩

theorem Box.new (w : World) (a b c : Int) (T : TypeId) : Box w.heap.size (w.alloc (.cells #[.int .i64 a, .int .i64 b, .int .i64 c] T)) a b c :=
  ⟨by simp, by simp, by simp, by simp, by simp, by simp, by simp⟩

theorem Box.alloc {k : Nat} {w : World} {a b c : Int} (h : Box k w a b c) (o : Obj) : Box k (w.alloc o) a b c :=
  h.below ((Below.refl _ _).alloc (Nat.le_refl _) _)

theorem below1 (w : World) (o : Obj) : Below w.heap.size w (w.alloc o) := (Below.refl _ _).alloc (Nat.le_refl _) _
theorem below2 (w : World) (o o' : Obj) : Below w.heap.size w ((w.alloc o).alloc o') := ((Below.refl _ _).alloc (Nat.le_refl _) _).alloc (by simp) _
theorem below3 (w : World) (a b c : Obj) : Below w.heap.size w (((w.alloc a).alloc b).alloc c) := (((Below.refl _ _).alloc (Nat.le_refl _) _).alloc (by simp) _).alloc (by simp; omega) _

set_option maxHeartbeats 1000000 in
theorem implYes (y m d : Int) (h : Vld y m d) (w : World) (hT : Tab w) :
    Calls Tryz.prog 76 #[.agg #[.int .i64 y, .int .i64 m, .int .i64 d]] w fun e w' => e = .returned (.tuple #[.int .i64 (num y m d), .bool true]) ∧ Below w.heap.size w w' := by
  have HT := Lib.hid hT
  have HV := Lib.hid h
  obtain ⟨hy, hm, h1, h2⟩ := h
  have HY := Lib.hid hy
  have HE : Hid (dby y + bef y m + d - 1 = num y m d) := Lib.hid rfl
  have hD := dby_bd hy
  have hB := bef_bd y hm
  have hL := len_bd y m
  obtain ⟨m1, m2⟩ := hm
  have HD := Lib.hid (fun w => befY y HY.out w)
  have HB := Lib.hid (fun w hw => befM y m HY.out (by omega) (by omega) w hw)
  clear hT hy
  generalize dby y = D at *
  generalize bef y m = B at *
  have e1 : IntKind.i64.wrap (D + B) = D + B := IntWalk.i64_in _ (by omega)
  have e2 : IntKind.i64.wrap (D + B + d) = D + B + d := IntWalk.i64_in _ (by omega)
  have e3 : IntKind.i64.wrap (D + B + d - 1) = D + B + d - 1 := IntWalk.i64_in _ (by omega)
  go_enter Tryz.func76, Tryz.ntmps76
  go_wp2_with (go_at_call 82; refine (validYes y m d HV.out _ (HT.out.alloc _)).mono ?_; rintro e w' ⟨rfl, rfl⟩)
  go_quiet ((first
    | (go_at_call 71; with_reducible exact quiet_eq (HD.out _))
    | (go_at_call 72; with_reducible exact quiet_eq (HB.out _ (((HT.out.alloc _).alloc _).drew _)))))
  clear e1 e2 e3
  go_wp2_with fail
  go_ret2
  exact ⟨ret_two HE.out, below_drewN (below2 _ _ _) _⟩

theorem implNo (y m d : Int) (h : ¬ Vld y m d) (w : World) (hT : Tab w) :
    Calls Tryz.prog 76 #[.agg #[.int .i64 y, .int .i64 m, .int .i64 d]] w fun e w' => e = .returned (.tuple #[.int .i64 0, .bool false]) ∧ Below w.heap.size w w' := by
  have HT := Lib.hid hT
  have HV := Lib.hid h
  clear hT h
  go_enter Tryz.func76, Tryz.ntmps76
  go_wp2_with (go_at_call 82; refine (validNo y m d HV.out _ (HT.out.alloc _)).mono ?_; rintro e w' ⟨rfl, rfl⟩)
  go_ret2
  exact ⟨rfl, below2 _ _ _⟩

end Go.Proofs.YtlaogladhadliaaGreatDoor.DayOf
