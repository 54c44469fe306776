/-
  DateOf: what the program's and the model's functions return.
-/
import Derived.Test.YtgjihejneadadaaDoorDayOf
import Derived.Deep.LoopGhost
namespace Go.Proofs.YtgjihejneadadaaDoor.DateOf
open Go.RowKit Go.Proofs.YtgjihejneadadaaDoor.Cal Go.Proofs.YtgjihejneadadaaDoor.Tab Go.Proofs.YtgjihejneadadaaDoor.Wd Go.Proofs.YtgjihejneadadaaDoor.Len Go.Proofs.YtgjihejneadadaaDoor.Valid Go.Proofs.YtgjihejneadadaaDoor.DayOf

/-- A date and a flag are returned. -/
def dateRet (y m d : Int) (b : Bool) : Ending := .returned (.tuple #[.agg #[.int .i64 y, .int .i64 m, .int .i64 d], .bool b])

theorem Box.set0 {k : Nat} {w : World} {a b c : Int} (h : Box k w a b c) (x : Int) : Box k (w.setCell ⟨k, 0, none⟩ (.int .i64 x)) x b c :=
  ⟨by rw [World.size_setCell]; exact h.lt, World.cell?_setCell_same w _ _ h.c0, (World.cell?_setCell_other w _ _ _ (by simp)).trans h.c1, (World.cell?_setCell_other w _ _ _ (by simp)).trans h.c2, by simp [h.f0], by simp [h.f1], by simp [h.f2]⟩
theorem Box.set1 {k : Nat} {w : World} {a b c : Int} (h : Box k w a b c) (x : Int) : Box k (w.setCell ⟨k, 1, none⟩ (.int .i64 x)) a x c :=
  ⟨by rw [World.size_setCell]; exact h.lt, (World.cell?_setCell_other w _ _ _ (by simp)).trans h.c0, World.cell?_setCell_same w _ _ h.c1, (World.cell?_setCell_other w _ _ _ (by simp)).trans h.c2, by simp [h.f0], by simp [h.f1], by simp [h.f2]⟩
theorem Box.set2 {k : Nat} {w : World} {a b c : Int} (h : Box k w a b c) (x : Int) : Box k (w.setCell ⟨k, 2, none⟩ (.int .i64 x)) a b x :=
  ⟨by rw [World.size_setCell]; exact h.lt, (World.cell?_setCell_other w _ _ _ (by simp)).trans h.c0, (World.cell?_setCell_other w _ _ _ (by simp)).trans h.c1, World.cell?_setCell_same w _ _ h.c2, by simp [h.f0], by simp [h.f1], by simp [h.f2]⟩

set_option maxHeartbeats 1000000 in
theorem implAux (n Y M DA D : Int) (w : World) (n1 : 0 ≤ n) (n2 : n ≤ 36524) (HD : Hid (Day n)) (hT : Tab w) (hY : 2000 ≤ Y ∧ Y ≤ 2099) (hD : 0 ≤ D ∧ D ≤ n) (HE : Hid (2000 + n * 4 / 1461 = Y)) (HDY : Hid (dby Y = D))
    (HEND : Hid (∀ m, InM m → D + bef Y m ≤ n → n < D + bef Y (m + 1) → m = M)) (HDA : Hid (DA = n - D - bef Y M + 1)) (HL : Hid (n - D < bef Y 13)) :
    Calls Tryd.prog 55 #[.int .i64 n] w fun e w' => e = dateRet Y M DA true ∧ Below w.heap.size w w' := by
  have HT := Lib.hid hT
  have HBD := Lib.hid (fun (m : Int) (hm : InM m) => bef_bd Y hm)
  have HB1 := Lib.hid (bef_one Y)
  have HB : Hid (∀ m w, 1 ≤ m → m ≤ 13 → Tab w → Calls Tryd.prog 64 #[.int .i64 Y, .int .i64 m] w fun e w' => e = .returned (.int .i64 (bef Y m)) ∧ w = w') := Lib.hid (fun m w a b c => befM Y m hY a b w c)
  have HYC : Hid (∀ w, Calls Tryd.prog 63 #[.int .i64 (2000 + n * 4 / 1461)] w fun e w' => e = .returned (.int .i64 D) ∧ w = w') := Lib.hid (fun w => by rw [HE.out, ← HDY.out]; exact befY Y hY w)
  clear hT HDY
  go_enter Tryd.func55, Tryd.ntmps55
  go_wp2_with (first
    | (go_at_call 38; refine (isDayYes n HD.out _).mono ?_; rintro e w' ⟨rfl, rfl⟩)
    | (go_at_call 63; refine (HYC.out _).mono ?_; rintro e w' ⟨rfl, rfl⟩))
  rw [HE.out]
  clear HE HYC
  go_loop [6] (fun i => ∃ k : Int, 1 ≤ k ∧ k ≤ 12 ∧ bef Y k ≤ n - D ∧ i = .int .i64 k) (fun i => (12 - intOf i).toNat)
  case atStart => exact ⟨1, by omega, by omega, by rw [HB1.out]; omega, rfl⟩
  case round =>
    obtain ⟨k, k1, k2, k3, rfl⟩ := hrel
    have hk := HBD.out k ⟨k1, k2⟩
    by_cases hlt : bef Y (k + 1) ≤ n - D
    · have k4 : k ≠ 12 := by rintro rfl; have := HL.out; exact absurd hlt (by show ¬ bef Y 13 ≤ _; omega)
      have k5 : k < 12 := by omega
      clear k4
      have HLT := Lib.hid hlt
      go_wp2_with (go_at_call 64; refine (HB.out _ _ (by omega) (by omega) (HT.out.alloc _)).mono ?_; rintro e w' ⟨rfl, rfl⟩)
      go_round
      case rel => exact ⟨k + 1, by omega, by omega, HLT.out, rfl⟩
      case measure => simp [intOf]; omega
    · have hk2 : k = M := HEND.out k ⟨k1, k2⟩ (by omega) (by omega)
      subst hk2
      have HR : Hid (n - D - bef Y k + 1 = DA) := Lib.hid HDA.out.symm
      go_wp2_with (go_at_call 64; refine (HB.out _ _ (by omega) (by omega) (HT.out.alloc _)).mono ?_; rintro e w' ⟨rfl, rfl⟩)
      rw [HR.out]
      exact bodyPost_ret (v := .tuple #[.agg #[.int .i64 Y, .int .i64 k, .int .i64 DA], .bool true]) (by simp [results, Tryd.results55, go_sem]) rfl ⟨rfl, below1 _ _⟩

theorem implYes (n : Int) (h : Day n) (w : World) (hT : Tab w) :
    Calls Tryd.prog 55 #[.int .i64 n] w fun e w' => e = dateRet (yr n) (mo n) (da n) true ∧ Below w.heap.size w w' := by
  obtain ⟨hY, hy1, hy2⟩ := yr_bd h
  have hdb := dby_bd hY
  have hs := dby_succ _ hY.1
  exact implAux n (yr n) (mo n) (da n) (dby (yr n)) w h.1 h.2 (Lib.hid h) hT hY ⟨hdb.1, hy1⟩ (Lib.hid rfl) (Lib.hid rfl) (Lib.hid (fun m a b c => mo_end h a b (.inr c))) (Lib.hid rfl) (Lib.hid (by omega))

theorem implNo (n : Int) (h : ¬ Day n) (w : World) :
    Calls Tryd.prog 55 #[.int .i64 n] w fun e w' => e = dateRet 0 0 0 false ∧ Below w.heap.size w w' := by
  have HD := Lib.hid h
  clear h
  go_enter Tryd.func55, Tryd.ntmps55
  go_wp2_with (go_at_call 38; refine (isDayNo n HD.out _).mono ?_; rintro e w' ⟨rfl, rfl⟩)
  exact bodyPost_ret (v := .tuple #[.agg #[.int .i64 0, .int .i64 0, .int .i64 0], .bool false]) (by simp [results, Tryd.results55, go_sem]) rfl ⟨rfl, below1 _ _⟩

theorem num_small {y m : Int} (hy : InY y) (hm : InM m) : 0 ≤ num y m 1 ∧ num y m 1 ≤ 40000 := by
  have a := dby_bd hy
  have b := bef_bd y hm
  unfold num; omega

theorem Box.far {k : Nat} {w : World} {a b c : Int} (h : Box k w a b c) {p : Addr} (hp : p.block ≠ k) (v : Value) : Box k (w.setCell p v) a b c :=
  have hne : ∀ i : Nat, p ≠ ⟨k, i, none⟩ := fun i e => hp (by rw [e])
  ⟨by rw [World.size_setCell]; exact h.lt, (World.cell?_setCell_other w _ _ _ (hne 0)).trans h.c0, (World.cell?_setCell_other w _ _ _ (hne 1)).trans h.c1, (World.cell?_setCell_other w _ _ _ (hne 2)).trans h.c2, by simp [h.f0], by simp [h.f1], by simp [h.f2]⟩

/-- A result's block and a local date's. -/
structure Pair (S : Nat) (w wr : World) (y m d : Int) : Prop where
  res : Box S wr 0 0 0
  loc : Box (S + 1) wr y m d
  bel : Below S w wr
  le : S ≤ wr.heap.size

theorem Pair.start (w : World) (y m d : Int) (T T' : TypeId) : Pair w.heap.size w ((w.alloc (.cells #[.int .i64 0, .int .i64 0, .int .i64 0] T)).alloc (.cells #[.int .i64 y, .int .i64 m, .int .i64 d] T')) y m d :=
  ⟨(Box.new w 0 0 0 T).alloc _, by have := Box.new (w.alloc (.cells #[.int .i64 0, .int .i64 0, .int .i64 0] T)) y m d T'; simpa using this, below2 _ _ _, by simp; omega⟩
theorem Pair.alloc {S : Nat} {w wr : World} {y m d : Int} (h : Pair S w wr y m d) (o : Obj) : Pair S w (wr.alloc o) y m d :=
  ⟨h.res.alloc _, h.loc.alloc _, h.bel.alloc h.le _, by have := h.le; simp; omega⟩
theorem Pair.set0 {S : Nat} {w wr : World} {y m d : Int} (h : Pair S w wr y m d) (x : Int) : Pair S w (wr.setCell ⟨S + 1, 0, none⟩ (.int .i64 x)) x m d :=
  ⟨Box.far h.res (by simp) _, Box.set0 h.loc x, h.bel.setCell (by simp) _, by rw [World.size_setCell]; exact h.le⟩
theorem Pair.set1 {S : Nat} {w wr : World} {y m d : Int} (h : Pair S w wr y m d) (x : Int) : Pair S w (wr.setCell ⟨S + 1, 1, none⟩ (.int .i64 x)) y x d :=
  ⟨Box.far h.res (by simp) _, Box.set1 h.loc x, h.bel.setCell (by simp) _, by rw [World.size_setCell]; exact h.le⟩
theorem Pair.set2 {S : Nat} {w wr : World} {y m d : Int} (h : Pair S w wr y m d) (x : Int) : Pair S w (wr.setCell ⟨S + 1, 2, none⟩ (.int .i64 x)) y m x :=
  ⟨Box.far h.res (by simp) _, Box.set2 h.loc x, h.bel.setCell (by simp) _, by rw [World.size_setCell]; exact h.le⟩

/-- The local date, its day set, stored into the result. -/
def fin (S : Nat) (wr : World) (y m x : Int) : World := (((wr.setCell ⟨S + 1, 2, none⟩ (.int .i64 x)).setCell ⟨S, 0, none⟩ (.int .i64 y)).setCell ⟨S, 1, none⟩ (.int .i64 m)).setCell ⟨S, 2, none⟩ (.int .i64 x)
theorem Pair.fin {S : Nat} {w wr : World} {y m d : Int} (h : Pair S w wr y m d) (x : Int) : Pair S w (wr.setCell ⟨S + 1, 2, none⟩ (.int .i64 x)) y m x ∧ Box S (fin S wr y m x) y m x ∧ Below S w (fin S wr y m x) ∧ S ≤ (fin S wr y m x).heap.size := by
  have h1 := Pair.set2 h x
  have h2 := Box.set2 (Box.set1 (Box.set0 h1.res y) m) x
  refine ⟨h1, h2, ((h1.bel.setCell (by simp) _).setCell (by simp) _).setCell (by simp) _, ?_⟩
  simp only [DateOf.fin, World.size_setCell]; exact h.le

set_option maxHeartbeats 4000000 in
theorem l3DateAux (n Y M DA : Int) (n1 : 0 ≤ n) (n2 : n ≤ 36524) (Y1 : 2000 ≤ Y) (Y2 : Y ≤ 2099) (w : World)
    (HY : Hid (∀ k, InY k → dby k ≤ n → k = 2099 ∨ n < dby (k + 1) → k = Y)) (HS : Hid (dby Y + bef Y 1 ≤ n))
    (HM : Hid (∀ m, InM m → dby Y + bef Y m ≤ n → m = 12 ∨ n < dby Y + bef Y (m + 1) → m = M)) (HN : Hid (n - num Y M 1 + 1 = DA)) :
    Calls Tryd.prog 49 #[.int .i64 n] w fun e w' => e = .returned (.agg #[.int .i64 Y, .int .i64 M, .int .i64 DA]) ∧ Below w.heap.size w w' := by
  go_enter Tryd.func49, Tryd.ntmps49
  go_wp2_with fail
  go_loopg [] 100 (fun g wr => ∃ k : Int, 2099 - k ≤ g ∧ 2000 ≤ k ∧ k ≤ 2099 ∧ Hid (dby k ≤ n) ∧ Hid (Pair w.heap.size w wr k 1 1))
  case atStart => exact ⟨2000, by omega, by omega, by omega, Lib.hid n1, Lib.hid (Pair.start _ _ _ _ _ _)⟩
  case round =>
    obtain ⟨k, g1, k1, k2, HK, HB⟩ := hrel
    obtain ⟨-, ⟨_, b2, b3, b4, b5, b6, b7⟩, -, -⟩ := HB.out
    by_cases hd : k < 2099 ∧ dby (k + 1) ≤ n
    · obtain ⟨hk, hd⟩ := hd
      have HC := Lib.hid (fun w => l3Day (k + 1) 1 1 ⟨by omega, by omega⟩ ⟨by omega, by omega⟩ (by omega) (by omega) w)
      rw [num_first] at HC
      have HDK := Lib.hid hd
      have HB1 : Hid (Pair w.heap.size w (wr.alloc (.cells #[.int .i64 ((k + 1)), .int .i64 1, .int .i64 1] 75)) k 1 1) := Lib.hid (HB.out.alloc _)
      obtain ⟨-, ⟨_, c2, c3, c4, c5, c6, c7⟩, -, -⟩ := HB1.out
      go_wp2_with (go_at_call 62; refine (HC.out _).mono ?_; rintro e w' ⟨rfl, rfl⟩)
      go_roundg (gk - 1)
      case measure => omega
      case rel => exact ⟨k + 1, by omega, by omega, by omega, HDK, Lib.hid ((Pair.set0 HB.out _).alloc _)⟩
    · have hend : Hid (k = Y) := Lib.hid (HY.out k ⟨k1, k2⟩ HK.out (by omega))
      have HX : Hid (k = 2099 ∨ (k < 2099 ∧ ¬ dby (k + 1) ≤ n)) := Lib.hid (by omega)
      clear hd
      rcases HX.out with hk | ⟨hk, hd⟩
      · subst hk
        go_wp2_with fail
        have HPZ : Hid (Pair w.heap.size w wr Y 1 1) := Lib.hid (by rw [← hend.out]; exact HB.out)
        clear HB b2 b3 b4 b5 b6 b7 g1 HK k1 k2 HX hend
        go_loopg [] 20 (fun g wz => ∃ m : Int, 12 - m ≤ g ∧ 1 ≤ m ∧ m ≤ 12 ∧ Hid (dby Y + bef Y m ≤ n) ∧ Hid (Pair w.heap.size w wz Y m 1))
        case atStart => exact ⟨1, by omega, by omega, by omega, HS, HPZ⟩
        case round =>
          clear HPZ
          obtain ⟨m, g1, m1, m2, HK, HP⟩ := hrel
          obtain ⟨⟨_, q1, q2, q3, q4, q5, q6⟩, ⟨_, b2, b3, b4, b5, b6, b7⟩, -, -⟩ := HP.out
          by_cases hd : m < 12 ∧ dby Y + bef Y (m + 1) ≤ n
          · obtain ⟨hk, hd⟩ := hd
            have HC := Lib.hid (fun w => l3Day Y (m + 1) 1 ⟨by omega, by omega⟩ ⟨by omega, by omega⟩ (by omega) (by omega) w)
            rw [num_month] at HC
            have HDK := Lib.hid hd
            have HP1 : Hid (Pair w.heap.size w (wr.alloc (.cells #[.int .i64 Y, .int .i64 ((m + 1)), .int .i64 1] 75)) Y m 1) := Lib.hid (HP.out.alloc _)
            obtain ⟨-, ⟨_, c2, c3, c4, c5, c6, c7⟩, -, -⟩ := HP1.out
            go_wp2_with (go_at_call 62; refine (HC.out _).mono ?_; rintro e w' ⟨rfl, rfl⟩)
            go_roundg (gk - 1)
            case measure => omega
            case rel => exact ⟨m + 1, by omega, by omega, by omega, HDK, Lib.hid ((Pair.set1 HP.out _).alloc _)⟩
          · have hm : Hid (m = M) := Lib.hid (HM.out m ⟨m1, m2⟩ HK.out (by omega))
            have HX : Hid (m = 12 ∨ (m < 12 ∧ ¬ dby Y + bef Y (m + 1) ≤ n)) := Lib.hid (by omega)
            have HZ := Lib.hid (fun w => l3Day Y m 1 ⟨by omega, by omega⟩ ⟨by omega, by omega⟩ (by omega) (by omega) w)
            have hz := num_small (y := Y) (m := m) ⟨Y1, Y2⟩ ⟨m1, m2⟩
            have HNm : Hid (n - num Y m 1 + 1 = DA) := Lib.hid (by rw [hm.out]; exact HN.out)
            clear hd HK g1
            rcases HX.out with hk | ⟨hk, hd⟩
            · subst hk
              generalize num Y 12 1 = NN at *
              have HP1 : Hid (Pair w.heap.size w ((wr).alloc (.cells #[.int .i64 Y, .int .i64 12, .int .i64 1] 75)) Y 12 1) := Lib.hid (HP.out.alloc _)
              obtain ⟨⟨_, p1, p2, p3, p4, p5, p6⟩, ⟨_, c2, c3, c4, c5, c6, c7⟩, -, -⟩ := HP1.out
              have HP2 : Hid (Pair w.heap.size w ((wr.setCell ⟨w.heap.size + 1, 2, none⟩ (.int .i64 (n - NN + 1))).alloc (.cells #[.int .i64 Y, .int .i64 12, .int .i64 1] 75)) Y 12 (n - NN + 1)) := Lib.hid ((Pair.set2 HP.out _).alloc _)
              obtain ⟨⟨_, r1, r2, r3, r4, r5, r6⟩, ⟨_, d2, d3, d4, d5, d6, d7⟩, -, -⟩ := HP2.out
              have HF : Hid (Box w.heap.size ((fin w.heap.size wr Y 12 (n - NN + 1)).alloc (.cells #[.int .i64 Y, .int .i64 12, .int .i64 1] 75)) Y 12 (n - NN + 1)) := Lib.hid ((Pair.fin HP.out _).2.1.alloc _)
              have HB : Hid (Below w.heap.size w ((fin w.heap.size wr Y 12 (n - NN + 1)).alloc (.cells #[.int .i64 Y, .int .i64 12, .int .i64 1] 75))) := Lib.hid ((Pair.fin HP.out _).2.2.1.alloc (Pair.fin HP.out _).2.2.2 _)
              go_wp2_with (first
                | (go_at_call 62; (with_reducible refine (HZ.out _).mono ?_); rintro e w' ⟨rfl, rfl⟩))
              obtain ⟨_, s1, s2, s3, _, _, _⟩ := HF.out
              unfold fin at s1 s2 s3
              have hv : Hid ((.agg #[.int .i64 Y, .int .i64 12, .int .i64 ((n - NN + 1))] : Value) = .agg #[.int .i64 Y, .int .i64 M, .int .i64 DA]) := Lib.hid (by rw [HNm.out, hm.out])
              exact bodyPost_ret (v := .agg #[.int .i64 Y, .int .i64 12, .int .i64 ((n - NN + 1))]) (by simp [results, Tryd.results49, go_sem, s1, s2, s3]) rfl ⟨congrArg Ending.returned hv.out, HB.out⟩
            · have HC := Lib.hid (fun w => l3Day Y (m + 1) 1 ⟨by omega, by omega⟩ ⟨by omega, by omega⟩ (by omega) (by omega) w)
              rw [num_month] at HC
              generalize num Y m 1 = NN at *
              have HP1 : Hid (Pair w.heap.size w (((wr).alloc (.cells #[.int .i64 Y, .int .i64 ((m + 1)), .int .i64 1] 75)).alloc (.cells #[.int .i64 Y, .int .i64 m, .int .i64 1] 75)) Y m 1) := Lib.hid ((HP.out.alloc _).alloc _)
              obtain ⟨⟨_, p1, p2, p3, p4, p5, p6⟩, ⟨_, c2, c3, c4, c5, c6, c7⟩, -, -⟩ := HP1.out
              have HP2 : Hid (Pair w.heap.size w (((wr.setCell ⟨w.heap.size + 1, 2, none⟩ (.int .i64 (n - NN + 1))).alloc (.cells #[.int .i64 Y, .int .i64 ((m + 1)), .int .i64 1] 75)).alloc (.cells #[.int .i64 Y, .int .i64 m, .int .i64 1] 75)) Y m (n - NN + 1)) := Lib.hid (((Pair.set2 HP.out _).alloc _).alloc _)
              obtain ⟨⟨_, r1, r2, r3, r4, r5, r6⟩, ⟨_, d2, d3, d4, d5, d6, d7⟩, -, -⟩ := HP2.out
              have HF : Hid (Box w.heap.size (((fin w.heap.size wr Y m (n - NN + 1)).alloc (.cells #[.int .i64 Y, .int .i64 ((m + 1)), .int .i64 1] 75)).alloc (.cells #[.int .i64 Y, .int .i64 m, .int .i64 1] 75)) Y m (n - NN + 1)) := Lib.hid (((Pair.fin HP.out _).2.1.alloc _).alloc _)
              have HB : Hid (Below w.heap.size w (((fin w.heap.size wr Y m (n - NN + 1)).alloc (.cells #[.int .i64 Y, .int .i64 ((m + 1)), .int .i64 1] 75)).alloc (.cells #[.int .i64 Y, .int .i64 m, .int .i64 1] 75))) := Lib.hid (((Pair.fin HP.out _).2.2.1.alloc (Pair.fin HP.out _).2.2.2 _).alloc (by have := (Pair.fin HP.out (n - NN + 1)).2.2.2; simp only [World.size_alloc]; omega) _)
              go_wp2_with (first
                | (go_at_call 62; (with_reducible refine (HZ.out _).mono ?_); rintro e w' ⟨rfl, rfl⟩)
                | (go_at_call 62; (with_reducible refine (HC.out _).mono ?_); rintro e w' ⟨rfl, rfl⟩))
              obtain ⟨_, s1, s2, s3, _, _, _⟩ := HF.out
              unfold fin at s1 s2 s3
              have hv : Hid ((.agg #[.int .i64 Y, .int .i64 m, .int .i64 ((n - NN + 1))] : Value) = .agg #[.int .i64 Y, .int .i64 M, .int .i64 DA]) := Lib.hid (by rw [HNm.out, hm.out])
              exact bodyPost_ret (v := .agg #[.int .i64 Y, .int .i64 m, .int .i64 ((n - NN + 1))]) (by simp [results, Tryd.results49, go_sem, s1, s2, s3]) rfl ⟨congrArg Ending.returned hv.out, HB.out⟩
      · have HC := Lib.hid (fun w => l3Day (k + 1) 1 1 ⟨by omega, by omega⟩ ⟨by omega, by omega⟩ (by omega) (by omega) w)
        rw [num_first] at HC
        go_wp2_with (go_at_call 62; refine (HC.out _).mono ?_; rintro e w' ⟨rfl, rfl⟩)
        have HPZ : Hid (Pair w.heap.size w (wr.alloc (.cells #[.int .i64 ((k + 1)), .int .i64 1, .int .i64 1] 75)) Y 1 1) := Lib.hid (by rw [← hend.out]; exact HB.out.alloc _)
        clear HB b2 b3 b4 b5 b6 b7 g1 HK HX hend HC hd
        go_loopg [] 20 (fun g wz => ∃ m : Int, 12 - m ≤ g ∧ 1 ≤ m ∧ m ≤ 12 ∧ Hid (dby Y + bef Y m ≤ n) ∧ Hid (Pair w.heap.size w wz Y m 1))
        case atStart => exact ⟨1, by omega, by omega, by omega, HS, HPZ⟩
        case round =>
          clear HPZ
          obtain ⟨m, g1, m1, m2, HK, HP⟩ := hrel
          obtain ⟨⟨_, q1, q2, q3, q4, q5, q6⟩, ⟨_, b2, b3, b4, b5, b6, b7⟩, -, -⟩ := HP.out
          by_cases hd : m < 12 ∧ dby Y + bef Y (m + 1) ≤ n
          · obtain ⟨hk, hd⟩ := hd
            have HC := Lib.hid (fun w => l3Day Y (m + 1) 1 ⟨by omega, by omega⟩ ⟨by omega, by omega⟩ (by omega) (by omega) w)
            rw [num_month] at HC
            have HDK := Lib.hid hd
            have HP1 : Hid (Pair w.heap.size w (wr.alloc (.cells #[.int .i64 Y, .int .i64 ((m + 1)), .int .i64 1] 75)) Y m 1) := Lib.hid (HP.out.alloc _)
            obtain ⟨-, ⟨_, c2, c3, c4, c5, c6, c7⟩, -, -⟩ := HP1.out
            go_wp2_with (go_at_call 62; refine (HC.out _).mono ?_; rintro e w' ⟨rfl, rfl⟩)
            go_roundg (gk - 1)
            case measure => omega
            case rel => exact ⟨m + 1, by omega, by omega, by omega, HDK, Lib.hid ((Pair.set1 HP.out _).alloc _)⟩
          · have hm : Hid (m = M) := Lib.hid (HM.out m ⟨m1, m2⟩ HK.out (by omega))
            have HX : Hid (m = 12 ∨ (m < 12 ∧ ¬ dby Y + bef Y (m + 1) ≤ n)) := Lib.hid (by omega)
            have HZ := Lib.hid (fun w => l3Day Y m 1 ⟨by omega, by omega⟩ ⟨by omega, by omega⟩ (by omega) (by omega) w)
            have hz := num_small (y := Y) (m := m) ⟨Y1, Y2⟩ ⟨m1, m2⟩
            have HNm : Hid (n - num Y m 1 + 1 = DA) := Lib.hid (by rw [hm.out]; exact HN.out)
            clear hd HK g1
            rcases HX.out with hk | ⟨hk, hd⟩
            · subst hk
              generalize num Y 12 1 = NN at *
              have HP1 : Hid (Pair w.heap.size w ((wr).alloc (.cells #[.int .i64 Y, .int .i64 12, .int .i64 1] 75)) Y 12 1) := Lib.hid (HP.out.alloc _)
              obtain ⟨⟨_, p1, p2, p3, p4, p5, p6⟩, ⟨_, c2, c3, c4, c5, c6, c7⟩, -, -⟩ := HP1.out
              have HP2 : Hid (Pair w.heap.size w ((wr.setCell ⟨w.heap.size + 1, 2, none⟩ (.int .i64 (n - NN + 1))).alloc (.cells #[.int .i64 Y, .int .i64 12, .int .i64 1] 75)) Y 12 (n - NN + 1)) := Lib.hid ((Pair.set2 HP.out _).alloc _)
              obtain ⟨⟨_, r1, r2, r3, r4, r5, r6⟩, ⟨_, d2, d3, d4, d5, d6, d7⟩, -, -⟩ := HP2.out
              have HF : Hid (Box w.heap.size ((fin w.heap.size wr Y 12 (n - NN + 1)).alloc (.cells #[.int .i64 Y, .int .i64 12, .int .i64 1] 75)) Y 12 (n - NN + 1)) := Lib.hid ((Pair.fin HP.out _).2.1.alloc _)
              have HB : Hid (Below w.heap.size w ((fin w.heap.size wr Y 12 (n - NN + 1)).alloc (.cells #[.int .i64 Y, .int .i64 12, .int .i64 1] 75))) := Lib.hid ((Pair.fin HP.out _).2.2.1.alloc (Pair.fin HP.out _).2.2.2 _)
              go_wp2_with (first
                | (go_at_call 62; (with_reducible refine (HZ.out _).mono ?_); rintro e w' ⟨rfl, rfl⟩))
              obtain ⟨_, s1, s2, s3, _, _, _⟩ := HF.out
              unfold fin at s1 s2 s3
              have hv : Hid ((.agg #[.int .i64 Y, .int .i64 12, .int .i64 ((n - NN + 1))] : Value) = .agg #[.int .i64 Y, .int .i64 M, .int .i64 DA]) := Lib.hid (by rw [HNm.out, hm.out])
              exact bodyPost_ret (v := .agg #[.int .i64 Y, .int .i64 12, .int .i64 ((n - NN + 1))]) (by simp [results, Tryd.results49, go_sem, s1, s2, s3]) rfl ⟨congrArg Ending.returned hv.out, HB.out⟩
            · have HC := Lib.hid (fun w => l3Day Y (m + 1) 1 ⟨by omega, by omega⟩ ⟨by omega, by omega⟩ (by omega) (by omega) w)
              rw [num_month] at HC
              generalize num Y m 1 = NN at *
              have HP1 : Hid (Pair w.heap.size w (((wr).alloc (.cells #[.int .i64 Y, .int .i64 ((m + 1)), .int .i64 1] 75)).alloc (.cells #[.int .i64 Y, .int .i64 m, .int .i64 1] 75)) Y m 1) := Lib.hid ((HP.out.alloc _).alloc _)
              obtain ⟨⟨_, p1, p2, p3, p4, p5, p6⟩, ⟨_, c2, c3, c4, c5, c6, c7⟩, -, -⟩ := HP1.out
              have HP2 : Hid (Pair w.heap.size w (((wr.setCell ⟨w.heap.size + 1, 2, none⟩ (.int .i64 (n - NN + 1))).alloc (.cells #[.int .i64 Y, .int .i64 ((m + 1)), .int .i64 1] 75)).alloc (.cells #[.int .i64 Y, .int .i64 m, .int .i64 1] 75)) Y m (n - NN + 1)) := Lib.hid (((Pair.set2 HP.out _).alloc _).alloc _)
              obtain ⟨⟨_, r1, r2, r3, r4, r5, r6⟩, ⟨_, d2, d3, d4, d5, d6, d7⟩, -, -⟩ := HP2.out
              have HF : Hid (Box w.heap.size (((fin w.heap.size wr Y m (n - NN + 1)).alloc (.cells #[.int .i64 Y, .int .i64 ((m + 1)), .int .i64 1] 75)).alloc (.cells #[.int .i64 Y, .int .i64 m, .int .i64 1] 75)) Y m (n - NN + 1)) := Lib.hid (((Pair.fin HP.out _).2.1.alloc _).alloc _)
              have HB : Hid (Below w.heap.size w (((fin w.heap.size wr Y m (n - NN + 1)).alloc (.cells #[.int .i64 Y, .int .i64 ((m + 1)), .int .i64 1] 75)).alloc (.cells #[.int .i64 Y, .int .i64 m, .int .i64 1] 75))) := Lib.hid (((Pair.fin HP.out _).2.2.1.alloc (Pair.fin HP.out _).2.2.2 _).alloc (by have := (Pair.fin HP.out (n - NN + 1)).2.2.2; simp only [World.size_alloc]; omega) _)
              go_wp2_with (first
                | (go_at_call 62; (with_reducible refine (HZ.out _).mono ?_); rintro e w' ⟨rfl, rfl⟩)
                | (go_at_call 62; (with_reducible refine (HC.out _).mono ?_); rintro e w' ⟨rfl, rfl⟩))
              obtain ⟨_, s1, s2, s3, _, _, _⟩ := HF.out
              unfold fin at s1 s2 s3
              have hv : Hid ((.agg #[.int .i64 Y, .int .i64 m, .int .i64 ((n - NN + 1))] : Value) = .agg #[.int .i64 Y, .int .i64 M, .int .i64 DA]) := Lib.hid (by rw [HNm.out, hm.out])
              exact bodyPost_ret (v := .agg #[.int .i64 Y, .int .i64 m, .int .i64 ((n - NN + 1))]) (by simp [results, Tryd.results49, go_sem, s1, s2, s3]) rfl ⟨congrArg Ending.returned hv.out, HB.out⟩

theorem l3Date (n : Int) (h : Day n) (w : World) :
    Calls Tryd.prog 49 #[.int .i64 n] w fun e w' => e = .returned (.agg #[.int .i64 ((yr n)), .int .i64 ((mo n)), .int .i64 ((da n))]) ∧ Below w.heap.size w w' := by
  obtain ⟨hY, hy1, hy2⟩ := yr_bd h
  refine l3DateAux n (yr n) (mo n) (da n) h.1 h.2 hY.1 hY.2 w (Lib.hid fun k a b c => yr_end h a b c) (Lib.hid (by rw [bef_one]; omega)) (Lib.hid fun m a b c => mo_end h a b c) (Lib.hid ?_)
  unfold da; rw [num_month]; omega

end Go.Proofs.YtgjihejneadadaaDoor.DateOf
