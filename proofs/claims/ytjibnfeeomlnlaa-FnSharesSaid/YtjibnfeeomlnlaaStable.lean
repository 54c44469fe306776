/-
  SortStableFunc at most 20 places, by their values: the insertion sort.
-/
import Derived.Test.YtjibnfeeomlnlaaLargest
namespace Go.Proofs.Ytjibnfeeomlnlaa.Stable
open Go.RowKit Go.Sort Go.Proofs.Ytjibnfeeomlnlaa.IRow Go.Proofs.Ytjibnfeeomlnlaa.ShareMath Go.Proofs.Ytjibnfeeomlnlaa.Largest

/-- A place as the program has it. -/
def enc {m : Nat} (x : Fin (m + 1)) : Value := .int .i64 x.val
def cf {m : Nat} (rs : List Int) (x y : Fin (m + 1)) : Int := Lib.compareInt rs[y.val]! rs[x.val]!
def key {m : Nat} (rs : List Int) (x : Fin (m + 1)) : Int := rs[x.val]!

theorem lt_eq {m : Nat} (rs : List Int) : ltOf (cf (m := m) rs) = big (key rs) := by
  funext x y
  unfold ltOf big cf key Lib.compareInt
  generalize rs[x.val]! = u
  generalize rs[y.val]! = v
  congr 1
  apply propext
  split
  · simp; omega
  · split
    · simp; omega
    · simp; omega

/-- The values and the box that the comparison reads lie aside from the row that is sorted. -/
structure Rd (w : World) (A : Option Addr) (n cap : Nat) (rs : List Int) (bx : Addr) (blk : Nat) : Prop where
  box : w.cell? bx = some (.slice A n cap)
  bne : bx.block ≠ blk
  blt : bx.block < w.heap.size
  row : Is w w.heap.size A rs
  rne : ∀ ad, A = some ad → ad.block ≠ blk

theorem Rd.to {w w' : World} {A : Option Addr} {n cap : Nat} {rs : List Int} {bx : Addr} {blk : Nat} (h : Rd w A n cap rs bx blk) (hs : w.heap.size ≤ w'.heap.size)
    (hc : ∀ a : Addr, a.block ≠ blk → a.block < w.heap.size → w'.cell? a = w.cell? a) : Rd w' A n cap rs bx blk where
  box := (hc bx h.bne h.blt).trans h.box
  bne := h.bne
  blt := Nat.lt_of_lt_of_le h.blt hs
  row := fun hp => by
    obtain ⟨ad, e, hB, hr⟩ := h.row hp
    exact ⟨ad, e, by omega, fun j hj => (hc _ (by rw [block_add]; exact h.rne ad e) (by rw [block_add]; exact hB)).trans (hr j hj)⟩
  rne := h.rne

theorem Rd.sortWorld {m : Nat} {w : World} {A : Option Addr} {n cap : Nat} {rs : List Int} {bx : Addr} {blk : Nat} (h : Rd w A n cap rs bx blk) (off q : Nat) (dk : Array (Fin (m + 1))) (os : Array Obj) :
    Rd (sortWorld enc w blk off q dk os) A n cap rs bx blk := by
  refine h.to (by unfold Go.Proofs.sortWorld; simp) ?_
  intro a h1 h2
  unfold Go.Proofs.sortWorld
  rw [cell?_grow _ _ _ (by simpa using h2), cell?_putRow_other _ _ _ _ _ _ (.inl h1), cell?_ahead]

theorem reads {m : Nat} {w : World} {A : Option Addr} {n cap : Nat} {rs : List Int} {bx : Addr} {blk : Nat} (h : Rd w A n cap rs bx blk) (hn : n = rs.length) (hm : n = m + 1) (h20 : n ≤ 20) (off size : Nat) :
    CmpReads Try.prog 26 #[.pointer (some bx)] (enc (m := m)) (cf rs) blk off size w := by
  intro q os dk hs x y
  have R := h.sortWorld off q dk os
  exact cmpWalk A n cap rs _ x.val y.val bx _ hn h20 R.row R.box (by rw [hm]; exact x.isLt) (by rw [hm]; exact y.isLt) _ _ rfl rfl

theorem ins {m : Nat} {w : World} {A : Option Addr} {n cap : Nat} {rs : List Int} {bx : Addr} {blk : Nat} (h : Rd w A n cap rs bx blk) (hn : n = rs.length) (hm : n = m + 1) (h20 : n ≤ 20) (c2 a b : Nat) (d : Array (Fin (m + 1))) (hd : d.size = n) (hH : Holds enc w blk 0 d) (hab : a ≤ b) (hb : b ≤ n) :
    Calls Try.prog 31 #[.slice (some ⟨blk, 0, none⟩) n c2, .int .i64 a, .int .i64 b, .func (.func 26) #[] #[.pointer (some bx)]] w fun e w' =>
      e = .returned (.tuple #[]) ∧ ∃ q, w' = (putRow enc w blk 0 (insertionSort (big (key rs)) d a b)).drewN q := by
  have := Try.insertionSortCmpFunc_one (enc (m := m)) (fun _ => rfl) (cf rs) 26 #[.pointer (some bx)] blk 0 c2 a b d w (fun _ _ => rfl) (reads h hn hm h20 0 d.size) hH hab (by omega) (by omega)
  rw [lt_eq, hd] at this
  exact this

theorem ins_empty {α : Type} [Inhabited α] (lt : α → α → Bool) (d : Array α) (a : Nat) : insertionSort lt d a a = d := by
  unfold insertionSort
  rw [insOuter, if_neg (by omega)]

theorem ins_size {α : Type} [Inhabited α] (lt : α → α → Bool) : ∀ (n b i : Nat) (d : Array α), b - i = n → (insOuter lt 0 b i d).size = d.size
  | 0, b, i, d, h => by rw [insOuter, if_neg (by omega)]
  | n + 1, b, i, d, h => by
    rw [insOuter, if_pos (by omega), ins_size lt n b (i + 1) _ (by omega)]
    have : ∀ (j : Nat) (d : Array α), (insInner lt 0 j d).size = d.size := by
      intro j
      induction j with
      | zero => intro d; rfl
      | succ j ih => intro d; unfold insInner; split
                     · rw [ih, swp_size]
                     · rfl
    exact this i d

/-- What holds ahead of each round: nothing is sorted yet, or all is. -/
def Inv (n : Nat) (w w1 : World) (a b : Value) (wr : World) : Prop := (a = .int .i64 0 ∧ b = .int .i64 20 ∧ wr = w) ∨ (n = 20 ∧ a = .int .i64 20 ∧ b = .int .i64 40 ∧ ∃ q, wr = w1.drewN q)

set_option maxHeartbeats 1000000 in
theorem stableCmp {m : Nat} {w : World} {A : Option Addr} {n cap : Nat} {rs : List Int} {bx : Addr} {blk : Nat} (h : Rd w A n cap rs bx blk) (hn : n = rs.length) (hm : n = m + 1) (h20 : n ≤ 20) (c2 : Nat) (d : Array (Fin (m + 1))) (hd : d.size = n) (hH : Holds enc w blk 0 d) :
    Calls Try.prog 29 #[.slice (some ⟨blk, 0, none⟩) n c2, .int .i64 n, .func (.func 26) #[] #[.pointer (some bx)]] w fun e w' =>
      e = .returned (.tuple #[]) ∧ ∃ q, w' = (putRow enc w blk 0 (insertionSort (big (key rs)) d 0 n)).drewN q := by
  have H1 := Lib.hid (ins h hn hm h20 c2 0 n d hd hH (Nat.zero_le _) (Nat.le_refl _))
  have HN0 : Hid ((0 : Nat) < n) := Lib.hid (by omega)
  -- the sorted row, sorted once more at (n, n): nothing
  have hs2 : (insertionSort (big (key rs)) d 0 n).size = n := by unfold insertionSort; rw [ins_size _ _ _ _ _ rfl, hd]
  have H2 : Hid (∀ q, Calls Try.prog 31 #[.slice (some ⟨blk, 0, none⟩) n c2, .int .i64 n, .int .i64 n, .func (.func 26) #[] #[.pointer (some bx)]] ((putRow enc w blk 0 (insertionSort (big (key rs)) d 0 n)).drewN q) fun e w' =>
      e = .returned (.tuple #[]) ∧ ∃ q, w' = (putRow enc w blk 0 (insertionSort (big (key rs)) d 0 n)).drewN q) := Lib.hid (by
    intro q
    have R : Rd ((putRow enc w blk 0 (insertionSort (big (key rs)) d 0 n)).drewN q) A n cap rs bx blk := by
      refine h.to (by show w.heap.size ≤ (putRow enc w blk 0 _).heap.size; simp) ?_
      intro a h1 _
      exact cell?_putRow_other enc w blk 0 _ a (.inl h1)
    have HH : Holds enc ((putRow enc w blk 0 (insertionSort (big (key rs)) d 0 n)).drewN q) blk 0 (insertionSort (big (key rs)) d 0 n) := holds_putRow enc w blk 0 d _ hH (by rw [hs2, hd])
    refine (ins R hn hm h20 c2 n n _ hs2 HH (Nat.le_refl _) (Nat.le_refl _)).mono ?_
    rintro e w' ⟨he, p, hw⟩
    refine ⟨he, q + p, ?_⟩
    rw [ins_empty, putRow_self enc _ blk 0 _ HH] at hw
    rw [hw, World.drewN_drewN])
  have H1' : Hid (n = 20 → Calls Try.prog 31 #[.slice (some ⟨blk, 0, none⟩) n c2, .int .i64 0, .int .i64 20, .func (.func 26) #[] #[.pointer (some bx)]] w fun e w' =>
      e = .returned (.tuple #[]) ∧ ∃ q, w' = (putRow enc w blk 0 (insertionSort (big (key rs)) d 0 n)).drewN q) := Lib.hid (fun e => by
    have e2 : (20 : Int) = (n : Int) := by omega
    rw [e2]; exact H1.out)
  have H2' : Hid (n = 20 → ∀ q, Calls Try.prog 31 #[.slice (some ⟨blk, 0, none⟩) n c2, .int .i64 20, .int .i64 n, .func (.func 26) #[] #[.pointer (some bx)]] ((putRow enc w blk 0 (insertionSort (big (key rs)) d 0 n)).drewN q) fun e w' =>
      e = .returned (.tuple #[]) ∧ ∃ q, w' = (putRow enc w blk 0 (insertionSort (big (key rs)) d 0 n)).drewN q) := Lib.hid (fun e => by
    have e2 : (20 : Int) = (n : Int) := by omega
    rw [e2]; exact H2.out)
  clear h hn hm hd hH hs2 H2
  generalize putRow enc w blk 0 (insertionSort (big (key rs)) d 0 n) = w1 at *
  go_enter Try.func29, Try.ntmps29
  go_wp2_with fail
  go_loopw [7, 8] (fun a b wr => Inv n w w1 a b wr) (fun _ b _ => 60 - (intOf b).toNat)
  case atStart => exact .inl ⟨rfl, rfl, rfl⟩
  case round =>
    rcases hrel with ⟨rfl, rfl, rfl⟩ | ⟨h3, rfl, rfl, q, rfl⟩
    · by_cases h2 : n < 20
      · go_wp2_with (go_at_call 31; refine H1.out.mono ?_; rintro e w' ⟨rfl, q, rfl⟩)
        go_loopw [6] (fun b wr => b = .int .i64 20 ∧ wr = w1.drewN q) (fun _ _ => 0)
        case atStart => exact ⟨rfl, rfl⟩
        case round =>
          obtain ⟨rfl, rfl⟩ := hrel
          go_wp2_with fail
          go_end0
          exact ⟨rfl, _, rfl⟩
      · have H3 : Hid (n = 20) := Lib.hid (by omega)
        go_wp2_with (go_at_call 31; refine (H1'.out H3.out).mono ?_; rintro e w' ⟨rfl, q, rfl⟩)
        go_roundw
        case rel => exact .inr ⟨H3.out, rfl, rfl, _, rfl⟩
        case measure => simp [intOf]
    · have H3 : Hid (n = 20) := Lib.hid h3
      clear h3
      go_wp2_with (go_at_call 31; refine (H2'.out H3.out q).mono ?_; rintro e w' ⟨rfl, q, rfl⟩)
      go_loopw [6] (fun b wr => b = .int .i64 20 ∧ wr = w1.drewN q) (fun _ _ => 0)
      case atStart => exact ⟨rfl, rfl⟩
      case round =>
        obtain ⟨rfl, rfl⟩ := hrel
        go_wp2_with fail
        go_end0
        exact ⟨rfl, _, rfl⟩

set_option maxHeartbeats 1000000 in
theorem sortStable {m : Nat} {w : World} {A : Option Addr} {n cap : Nat} {rs : List Int} {bx : Addr} {blk : Nat} (h : Rd w A n cap rs bx blk) (hn : n = rs.length) (hm : n = m + 1) (h20 : n ≤ 20) (c2 : Nat) (d : Array (Fin (m + 1))) (hd : d.size = n) (hH : Holds enc w blk 0 d) :
    Calls Try.prog 25 #[.slice (some ⟨blk, 0, none⟩) n c2, .func (.func 26) #[] #[.pointer (some bx)]] w fun e w' =>
      e = .returned (.tuple #[]) ∧ ∃ q, w' = (putRow enc w blk 0 (insertionSort (big (key rs)) d 0 n)).drewN q := by
  have H1 := Lib.hid (stableCmp h hn hm h20 c2 d hd hH)
  clear h hn hm hd hH
  generalize putRow enc w blk 0 (insertionSort (big (key rs)) d 0 n) = w1 at *
  go_enter Try.func25, Try.ntmps25
  go_wp2_with (go_at_call 29; refine H1.out.mono ?_; rintro e w' ⟨rfl, q, rfl⟩)
  go_end0
  exact ⟨rfl, _, rfl⟩

end Go.Proofs.Ytjibnfeeomlnlaa.Stable
