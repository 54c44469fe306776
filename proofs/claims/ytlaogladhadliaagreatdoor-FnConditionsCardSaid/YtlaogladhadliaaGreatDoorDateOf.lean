/-
  DateOf: what the program's and the model's functions return.
-/
import Derived.Test.YtlaogladhadliaaGreatDoorDayOf
import Derived.Deep.LoopGhost
namespace Go.Proofs.YtlaogladhadliaaGreatDoor.DateOf
open Go.RowKit Go.Proofs.YtlaogladhadliaaGreatDoor.Cal Go.Proofs.YtlaogladhadliaaGreatDoor.Tab Go.Proofs.YtlaogladhadliaaGreatDoor.Wd Go.Proofs.YtlaogladhadliaaGreatDoor.Len Go.Proofs.YtlaogladhadliaaGreatDoor.Valid Go.Proofs.YtlaogladhadliaaGreatDoor.DayOf

/-- A date and a flag are returned. -/
def dateRet (y m d : Int) (b : Bool) : Ending := .returned (.tuple #[.agg #[.int .i64 y, .int .i64 m, .int .i64 d], .bool b])

theorem Box.set0 {k : Nat} {w : World} {a b c : Int} (h : Box k w a b c) (x : Int) : Box k (w.setCell ⟨k, 0, none⟩ (.int .i64 x)) x b c :=
  ⟨by rw [World.size_setCell]; exact h.lt, World.cell?_setCell_same w _ _ h.c0, (World.cell?_setCell_other w _ _ _ (by simp)).trans h.c1, (World.cell?_setCell_other w _ _ _ (by simp)).trans h.c2, by simp [h.f0], by simp [h.f1], by simp [h.f2]⟩
theorem Box.set1 {k : Nat} {w : World} {a b c : Int} (h : Box k w a b c) (x : Int) : Box k (w.setCell ⟨k, 1, none⟩ (.int .i64 x)) a x c :=
  ⟨by rw [World.size_setCell]; exact h.lt, (World.cell?_setCell_other w _ _ _ (by simp)).trans h.c0, World.cell?_setCell_same w _ _ h.c1, (World.cell?_setCell_other w _ _ _ (by simp)).trans h.c2, by simp [h.f0], by simp [h.f1], by simp [h.f2]⟩
theorem Box.set2 {k : Nat} {w : World} {a b c : Int} (h : Box k w a b c) (x : Int) : Box k (w.setCell ⟨k, 2, none⟩ (.int .i64 x)) a b x :=
  ⟨by rw [World.size_setCell]; exact h.lt, (World.cell?_setCell_other w _ _ _ (by simp)).trans h.c0, (World.cell?_setCell_other w _ _ _ (by simp)).trans h.c1, World.cell?_setCell_same w _ _ h.c2, by simp [h.f0], by simp [h.f1], by simp [h.f2]⟩

set_option maxHeartbeats 1000000 in
theorem implAux (n Y M DA D : Int) (w : World) (n1 : 0 ≤ n) (n2 : n ≤ 36524) (HD : Hid (Day n)) (hT : Tab w) (hY : 2000 ≤ Y ∧ Y ≤ 2099) (hD : 0 ≤ D ∧ D ≤ n) (HE : Hid (2000 + n * 4 / 1461 = Y)) (HDY : Hid (dby Y = D))
    (HEND : Hid (∀ m, InM m → D + bef Y m ≤ n → n < D + bef Y (m + 1) → m = M)) (HDA : Hid (DA = n - D - bef Y M + 1)) (HL : Hid (n - D < bef Y 13)) :
    Calls Tryz.prog 65 #[.int .i64 n] w fun e w' => e = dateRet Y M DA true ∧ Below w.heap.size w w' := by
  have HT := Lib.hid hT
  have HBD := Lib.hid (fun (m : Int) (hm : InM m) => bef_bd Y hm)
  have HB1 := Lib.hid (bef_one Y)
  have HB : Hid (∀ m w, 1 ≤ m → m ≤ 13 → Tab w → Calls Tryz.prog 72 #[.int .i64 Y, .int .i64 m] w fun e w' => e = .returned (.int .i64 (bef Y m)) ∧ w = w') := Lib.hid (fun m w a b c => befM Y m hY a b w c)
  have HYC : Hid (∀ w, Calls Tryz.prog 71 #[.int .i64 (2000 + n * 4 / 1461)] w fun e w' => e = .returned (.int .i64 D) ∧ w = w') := Lib.hid (fun w => by rw [HE.out, ← HDY.out]; exact befY Y hY w)
  clear hT HDY
  go_enter Tryz.func65, Tryz.ntmps65
  go_wp2_with (first
    | (go_at_call 18; refine (isDayYes n HD.out _).mono ?_; rintro e w' ⟨rfl, rfl⟩)
    | (go_at_call 71; refine (HYC.out _).mono ?_; rintro e w' ⟨rfl, rfl⟩))
  rw [HE.out]
  clear HE HYC
  go_loop [6] (fun i => ∃ k : Int, 1 ≤ k ∧ k ≤ 12 ∧ bef Y k ≤ n - D ∧ i = .int .i64 k) (fun i => (12 - intOf i).toNat)
  case atStart => exact ⟨1, by omega, by omega, by rw [HB1.out]; omega, rfl⟩
  case round =>
    obtain ⟨k, k1, k2, k3, rfl⟩ := hrel
    have hk := HBD.out k ⟨k1, k2⟩
    by_cases hlt : bef Y (k + 1) ≤ n - D
    · have k4 : k ≠ 12 := by rintro rfl; have := HL.out; exact absurd hlt (by show ¬ bef Y 13 ≤ _; omega)
      have k5 : k < 12 := by omega
      clear k4
      have HLT := Lib.hid hlt
      go_wp2_with (go_at_call 72; refine (HB.out _ _ (by omega) (by omega) (HT.out.alloc _)).mono ?_; rintro e w' ⟨rfl, rfl⟩)
      go_round
      case rel => exact ⟨k + 1, by omega, by omega, HLT.out, rfl⟩
      case measure => simp [intOf]; omega
    · have hk2 : k = M := HEND.out k ⟨k1, k2⟩ (by omega) (by omega)
      subst hk2
      have HR : Hid (n - D - bef Y k + 1 = DA) := Lib.hid HDA.out.symm
      go_wp2_with (go_at_call 72; refine (HB.out _ _ (by omega) (by omega) (HT.out.alloc _)).mono ?_; rintro e w' ⟨rfl, rfl⟩)
      rw [HR.out]
      exact bodyPost_ret (v := .tuple #[.agg #[.int .i64 Y, .int .i64 k, .int .i64 DA], .bool true]) (by simp [results, Tryz.results65, go_sem]) rfl ⟨rfl, below1 _ _⟩

theorem implYes (n : Int) (h : Day n) (w : World) (hT : Tab w) :
    Calls Tryz.prog 65 #[.int .i64 n] w fun e w' => e = dateRet (yr n) (mo n) (da n) true ∧ Below w.heap.size w w' := by
  obtain ⟨hY, hy1, hy2⟩ := yr_bd h
  have hdb := dby_bd hY
  have hs := dby_succ _ hY.1
  exact implAux n (yr n) (mo n) (da n) (dby (yr n)) w h.1 h.2 (Lib.hid h) hT hY ⟨hdb.1, hy1⟩ (Lib.hid rfl) (Lib.hid rfl) (Lib.hid (fun m a b c => mo_end h a b (.inr c))) (Lib.hid rfl) (Lib.hid (by omega))

theorem implNo (n : Int) (h : ¬ Day n) (w : World) :
    Calls Tryz.prog 65 #[.int .i64 n] w fun e w' => e = dateRet 0 0 0 false ∧ Below w.heap.size w w' := by
  have HD := Lib.hid h
  clear h
  go_enter Tryz.func65, Tryz.ntmps65
  go_wp2_with (go_at_call 18; refine (isDayNo n HD.out _).mono ?_; rintro e w' ⟨rfl, rfl⟩)
  exact bodyPost_ret (v := .tuple #[.agg #[.int .i64 0, .int .i64 0, .int .i64 0], .bool false]) (by simp [results, Tryz.results65, go_sem]) rfl ⟨rfl, below1 _ _⟩

theorem num_small {y m : Int} (hy : InY y) (hm : InM m) : 0 ≤ num y m 1 ∧ num y m 1 ≤ 40000 := by
  have a := dby_bd hy
  have b := bef_bd y hm
  unfold num; omega

theorem Box.far {k : Nat} {w : World} {a b c : Int} (h : Box k w a b c) {p : Addr} (hp : p.block ≠ k) (v : Value) : Box k (w.setCell p v) a b c :=
  have hne : ∀ i : Nat, p ≠ ⟨k, i, none⟩ := fun i e => hp (by rw [e])
  ⟨by rw [World.size_setCell]; exact h.lt, (World.cell?_setCell_other w _ _ _ (hne 0)).trans h.c0, (World.cell?_setCell_other w _ _ _ (hne 1)).trans h.c1, (World.cell?_setCell_other w _ _ _ (hne 2)).trans h.c2, by simp [h.f0], by simp [h.f1], by simp [h.f2]⟩

/-- A result's block and a local date's. -/
structure Pair (S : Nat) (w wr : World) (y m d : Int) : Prop where
  res : Box S wr 0 0 0
  loc : Box (S + 1) wr y m d
  bel : Below S w wr
  le : S ≤ wr.heap.size

theorem Pair.start (w : World) (y m d : Int) (T T' : TypeId) : Pair w.heap.size w ((w.alloc (.cells #[.int .i64 0, .int .i64 0, .int .i64 0] T)).alloc (.cells #[.int .i64 y, .int .i64 m, .int .i64 d] T')) y m d :=
  ⟨(Box.new w 0 0 0 T).alloc _, by have := Box.new (w.alloc (.cells #[.int .i64 0, .int .i64 0, .int .i64 0] T)) y m d T'; simpa using this, below2 _ _ _, by simp; omega⟩
theorem Pair.alloc {S : Nat} {w wr : World} {y m d : Int} (h : Pair S w wr y m d) (o : Obj) : Pair S w (wr.alloc o) y m d :=
  ⟨h.res.alloc _, h.loc.alloc _, h.bel.alloc h.le _, by have := h.le; simp; omega⟩
theorem Pair.set0 {S : Nat} {w wr : World} {y m d : Int} (h : Pair S w wr y m d) (x : Int) : Pair S w (wr.setCell ⟨S + 1, 0, none⟩ (.int .i64 x)) x m d :=
  ⟨Box.far h.res (by simp) _, Box.set0 h.loc x, h.bel.setCell (by simp) _, by rw [World.size_setCell]; exact h.le⟩
theorem Pair.set1 {S : Nat} {w wr : World} {y m d : Int} (h : Pair S w wr y m d) (x : Int) : Pair S w (wr.setCell ⟨S + 1, 1, none⟩ (.int .i64 x)) y x d :=
  ⟨Box.far h.res (by simp) _, Box.set1 h.loc x, h.bel.setCell (by simp) _, by rw [World.size_setCell]; exact h.le⟩
theorem Pair.set2 {S : Nat} {w wr : World} {y m d : Int} (h : Pair S w wr y m d) (x : Int) : Pair S w (wr.setCell ⟨S + 1, 2, none⟩ (.int .i64 x)) y m x :=
  ⟨Box.far h.res (by simp) _, Box.set2 h.loc x, h.bel.setCell (by simp) _, by rw [World.size_setCell]; exact h.le⟩

/-- The local date, its day set, stored into the result. -/
def fin (S : Nat) (wr : World) (y m x : Int) : World := (((wr.setCell ⟨S + 1, 2, none⟩ (.int .i64 x)).setCell ⟨S, 0, none⟩ (.int .i64 y)).setCell ⟨S, 1, none⟩ (.int .i64 m)).setCell ⟨S, 2, none⟩ (.int .i64 x)
theorem Pair.fin {S : Nat} {w wr : World} {y m d : Int} (h : Pair S w wr y m d) (x : Int) : Pair S w (wr.setCell ⟨S + 1, 2, none⟩ (.int .i64 x)) y m x ∧ Box S (fin S wr y m x) y m x ∧ Below S w (fin S wr y m x) ∧ S ≤ (fin S wr y m x).heap.size := by
  have h1 := Pair.set2 h x
  have h2 := Box.set2 (Box.set1 (Box.set0 h1.res y) m) x
  refine ⟨h1, h2, ((h1.bel.setCell (by simp) _).setCell (by simp) _).setCell (by simp) _, ?_⟩
  simp only [DateOf.fin, World.size_setCell]; exact h.le

end Go.Proofs.YtlaogladhadliaaGreatDoor.DateOf
