/-
  What the laws' vCut returns: a row of bytes in new memory.
-/
import Derived.Test.YthobejaiapdanaaDoorCurInt
import Derived.Laws.AppendOwnNone
import Derived.Maps.AppendAt
namespace Go.Proofs.YthobejaiapdanaaDoor.VCut
open Go.RowKit Go.Proofs.YthobejaiapdanaaDoor.Cur

theorem infoU8 : (Tryd.prog.info? 5).map (fun i => (i.zero, i.size, i.bytes)) = some (some (.int .u8 0), 1, 1) := by kernel_rfl

/-- A row of bytes. -/
def row (m : Nat) (f : Nat → Int) : List Value := (List.range m).map fun j => .int .u8 (f j)

theorem row_len (m : Nat) (f : Nat → Int) : (row m f).length = m := by simp [row]
theorem row_at {m : Nat} {f : Nat → Int} {j : Nat} {u : Value} (h : (row m f)[j]? = some u) : j < m ∧ u = .int .u8 (f j) := by
  unfold row at h
  rw [List.getElem?_map] at h
  cases hj : (List.range m)[j]? with
  | none => rw [hj] at h; cases h
  | some x =>
    rw [hj] at h
    obtain ⟨hl, e⟩ := List.getElem?_eq_some_iff.1 hj
    simp at hl e
    subst e
    injection h with h
    exact ⟨hl, h.symm⟩
theorem row_one (m : Nat) (f : Nat → Int) : ∀ u ∈ row m f, u.oneCell' = true := by
  intro u hu
  unfold row at hu
  obtain ⟨j, _, rfl⟩ := List.mem_map.1 hu
  rfl

theorem pickBytes {w : World} {B n : Nat} {ad : Addr} (h : Bytes w B (some ad) n) : ∃ f : Nat → Int, ∀ j, j < n → w.cell? (ad.add j) = some (.int .u8 (f j)) ∧ 0 ≤ f j ∧ f j ≤ 255 := by
  by_cases hp : 0 < n
  · obtain ⟨ad', e, _, hc⟩ := h hp
    injection e with e
    subst e
    refine ⟨fun j => if h : j < n then Classical.choose (hc j h) else 0, fun j hj => ?_⟩
    simp only [hj, dif_pos]
    exact Classical.choose_spec (hc j hj)
  · exact ⟨fun _ => 0, fun j hj => by omega⟩

/-- A row of bytes that a call owns reads as bytes. -/
theorem bytesOfOwn {w : World} {base n cap : Nat} {A : Option Addr} {xs : List Value} (h : w.ownsRow base 5 1 (.slice A n cap) n xs) (hl : xs.length = n)
    (hx : ∀ u ∈ xs, ∃ z : Int, u = .int .u8 z ∧ 0 ≤ z ∧ z ≤ 255) : Bytes w w.heap.size A n := fun hp => by
  rcases h.2 with ⟨hv, h0⟩ | ⟨g, c, cur, hv, _, hh, _⟩
  · omega
  · injection hv with h1 h2 h3
    subst h1; subst h3
    refine ⟨_, rfl, (Array.getElem?_eq_some_iff.1 hh).1, fun j hj => ?_⟩
    obtain ⟨z, hz, h0, h1⟩ := hx (xs[j]'(by omega)) (List.getElem_mem _)
    refine ⟨z, ?_, h0, h1⟩
    have := h.cells (g := g) rfl j (.int .u8 z) (by rw [List.getElem?_eq_getElem (by omega), hz])
    exact this

theorem sliceOfOwn {w : World} {base n : Nat} {v : Value} {xs : List Value} (h : w.ownsRow base 5 1 v n xs) : ∃ A cap, v = .slice A n cap := by
  rcases h.2 with ⟨hv, h0⟩ | ⟨g, c, cur, hv, _⟩
  · exact ⟨none, 0, by rw [hv, h0]⟩
  · exact ⟨_, _, hv⟩

theorem head1 (x : Value) (r : Array Value) : (#[x] ++ r)[0]? = some x := by
  rw [Array.getElem?_append_left (by simp)]; rfl

def cutAns (w : World) (e : Ending) (w' : World) : Prop := ∃ A' n' cap', e = .returned (.slice A' n' cap') ∧ n' ≤ 70000 ∧ Bytes w' w'.heap.size A' n' ∧ Below w.heap.size w w'

set_option maxRecDepth 100000 in
set_option maxHeartbeats 2000000 in
theorem far (ad : Addr) (n cap : Nat) (w : World) (hn : n ≤ 65536) (h9 : 9 < n) (hc : n ≤ cap) (hA : Bytes w w.heap.size (some ad) n) :
    Calls Tryd.prog 21 #[.slice (some ad) n cap, .int .i64 9] w (cutAns w) := by
  have hce : ¬ (cap = 9) := by omega
  obtain ⟨i0, hi, hz0, hz1, hz2⟩ := info_parts infoU8
  obtain ⟨f, hf⟩ := pickBytes hA
  obtain ⟨ad', e', hlt, _⟩ := hA (by omega)
  injection e' with e'
  subst e'
  have hown0 : (w.alloc (.cells #[] 5)).ownsRow w.heap.size 5 1 (.slice (some ⟨w.heap.size, 0, none⟩) 0 0) 0 [] := World.ownsRow_made w #[] 0 (Nat.le_refl _) (by unfold maxLen; omega) rfl
  have ea : (⟨ad.block, ad.off + 9, none⟩ : Addr) = ad.add 9 := by simp [Addr.add]
  have hnews : ∀ j u, (row (n - 9) (fun j => f (9 + j)))[j]? = some u → (w.alloc (.cells #[] 5)).cell? ((⟨ad.block, ad.off + 9, none⟩ : Addr).add j) = some u := fun j u h => by
    obtain ⟨hj, rfl⟩ := row_at h
    rw [ea, Addr.add_add, World.cell?_alloc_lt (h := by rw [Cur.block_add]; exact hlt)]
    exact (hf (9 + j) (by omega)).1
  have HO := Lib.hid hown0
  have HNW := Lib.hid hnews
  have HF := Lib.hid hf
  have HZ2 := Lib.hid hz2
  clear hown0 hnews hf ea hlt hA hz2
  go_enter Tryd.func21, Tryd.ntmps21
  go_wp2_with (at_builtin; refine wpList_append_own _ rfl _ _ 22 rfl w.heap.size 5 i0 (.int .u8 0) 1 1 Tryd.underlying22 hi hz0 hz1 HZ2.out rfl (by decide) _ 0 [] rfl HO.out ⟨ad.block, ad.off + 9, none⟩ (n - 9) (cap - 9) (row (n - 9) (fun j => f (9 + j))) rfl (by rw [row_len]; omega) HNW.out (row_one _ _) (by unfold maxLen; omega) (by omega) (by simp) ?_; intro v1 w1 hown1 hg1 _; refine Hid.out ?_)
  refine Lib.hid ?_
  have hb1 : Below w.heap.size w w1 := ((Below.refl _ _).alloc (Nat.le_refl _) _).grown hg1 (by simp) (fun k hk => (HO.out.lt k hk).1)
  have HO1 := Lib.hid hown1
  have HB1 := Lib.hid hb1
  clear hown1 hg1 hb1
  go_wp2_with (at_builtin; refine wpList_append_own _ rfl _ _ 22 rfl w.heap.size 5 i0 (.int .u8 0) 1 1 Tryd.underlying22 hi hz0 hz1 HZ2.out rfl (by decide) _ _ _ rfl (HO1.out.alloc _) ⟨w1.heap.size, 0, none⟩ 1 1 [.int .u8 9] rfl rfl (cell_one_new _ _ _) (by intro u hu; rw [List.mem_singleton] at hu; subst hu; rfl) (by unfold maxLen; omega) (by omega) (by have := HB1.out.size; simp; omega) ?_; intro v2 w2 hown2 hg2 _; refine Hid.out ?_)
  refine Lib.hid ?_
  have hb2 : Below w.heap.size w w2 := (HB1.out.alloc HB1.out.size _).grown hg2 (by have := HB1.out.size; simp; omega) (fun k hk => (HO1.out.lt k hk).1)
  have hby : ∃ A' cap', v2 = .slice A' (0 + (n - 9) + 1) cap' ∧ Bytes w2 w2.heap.size A' (0 + (n - 9) + 1) := by
    obtain ⟨A', cap', rfl⟩ := sliceOfOwn hown2
    exact ⟨A', cap', rfl, bytesOfOwn hown2 (by simp [row_len]) (fun u hu => by
      rw [List.nil_append, List.mem_append, List.mem_singleton] at hu
      rcases hu with hu | rfl
      · unfold row at hu
        obtain ⟨j, hj, rfl⟩ := List.mem_map.1 hu
        rw [List.mem_range] at hj
        exact ⟨_, rfl, (HF.out (9 + j) (by omega)).2⟩
      · exact ⟨9, rfl, by omega, by omega⟩)⟩
  obtain ⟨A', cap', rfl, hby⟩ := hby
  have HBy := Lib.hid hby
  have HB2 := Lib.hid hb2
  clear hby hb2 hown2 hg2
  go_wp2_with fail
  go_ret
  exact ⟨A', _, cap', rfl, by omega, HBy.out, HB2.out⟩

set_option maxRecDepth 100000 in
set_option maxHeartbeats 2000000 in
theorem nearSame (ad : Addr) (n : Nat) (h9 : n < 9) (w : World) :
    Calls Tryd.prog 21 #[.slice (some ad) n n, .int .i64 9] w (cutAns w) := by
  obtain ⟨i0, hi, hz0, hz1, hz2⟩ := info_parts infoU8
  go_enter Tryd.func21, Tryd.ntmps21
  go_wp2
  go_ret
  refine ⟨_, 1, _, rfl, by omega, fun _ => ⟨_, rfl, by simp, fun j hj => ?_⟩, ?_⟩
  · obtain rfl : j = 0 := by omega
    exact ⟨(n : Int), by simp [go_sem]; exact head1 _ _, by omega, by omega⟩
  · exact ((((Below.refl _ _).alloc (Nat.le_refl _) _).alloc (by simp) _).alloc (by simp; omega) _).drew

set_option maxRecDepth 100000 in
set_option maxHeartbeats 2000000 in
theorem nearMore (ad : Addr) (n cap : Nat) (h9 : n < 9) (hc : n < cap) (w : World) :
    Calls Tryd.prog 21 #[.slice (some ad) n cap, .int .i64 9] w (cutAns w) := by
  have hce : ¬ (cap = n) := by omega
  obtain ⟨i0, hi, hz0, hz1, hz2⟩ := info_parts infoU8
  go_enter Tryd.func21, Tryd.ntmps21
  go_wp2
  go_ret
  refine ⟨_, 1, _, rfl, by omega, fun _ => ⟨_, rfl, by simp, fun j hj => ?_⟩, ?_⟩
  · obtain rfl : j = 0 := by omega
    exact ⟨(n : Int), by simp [go_sem]; exact head1 _ _, by omega, by omega⟩
  · exact ((((Below.refl _ _).alloc (Nat.le_refl _) _).alloc (by simp) _).alloc (by simp; omega) _).drew

set_option maxRecDepth 100000 in
set_option maxHeartbeats 2000000 in
theorem nineSame (ad : Addr) (w : World) :
    Calls Tryd.prog 21 #[.slice (some ad) 9 9, .int .i64 9] w (cutAns w) := by
  obtain ⟨i0, hi, hz0, hz1, hz2⟩ := info_parts infoU8
  go_enter Tryd.func21, Tryd.ntmps21
  go_wp2
  go_ret
  refine ⟨_, 1, _, rfl, by omega, fun _ => ⟨_, rfl, by simp, fun j hj => ?_⟩, ?_⟩
  · obtain rfl : j = 0 := by omega
    exact ⟨9, by simp [go_sem]; exact head1 _ _, by omega, by omega⟩
  · exact ((((Below.refl _ _).alloc (Nat.le_refl _) _).alloc (by simp) _).alloc (by simp; omega) _).drew

set_option maxRecDepth 100000 in
set_option maxHeartbeats 2000000 in
theorem nineMore (ad : Addr) (cap : Nat) (hc : 9 < cap) (w : World) :
    Calls Tryd.prog 21 #[.slice (some ad) 9 cap, .int .i64 9] w (cutAns w) := by
  have hce : ¬ (cap = 9) := by omega
  obtain ⟨i0, hi, hz0, hz1, hz2⟩ := info_parts infoU8
  go_enter Tryd.func21, Tryd.ntmps21
  go_wp2
  go_ret
  refine ⟨_, 1, _, rfl, by omega, fun _ => ⟨_, rfl, by simp, fun j hj => ?_⟩, ?_⟩
  · obtain rfl : j = 0 := by omega
    exact ⟨9, by simp [go_sem]; exact head1 _ _, by omega, by omega⟩
  · exact ((((Below.refl _ _).alloc (Nat.le_refl _) _).alloc (by simp) _).alloc (by simp; omega) _).drew

set_option maxRecDepth 100000 in
set_option maxHeartbeats 2000000 in
theorem nil  (w : World) :
    Calls Tryd.prog 21 #[.slice none 0 0, .int .i64 9] w (cutAns w) := by
  obtain ⟨i0, hi, hz0, hz1, hz2⟩ := info_parts infoU8
  go_enter Tryd.func21, Tryd.ntmps21
  go_wp2
  go_ret
  refine ⟨_, 1, _, rfl, by omega, fun _ => ⟨_, rfl, by simp, fun j hj => ?_⟩, ?_⟩
  · obtain rfl : j = 0 := by omega
    exact ⟨0, by simp [go_sem]; exact head1 _ _, by omega, by omega⟩
  · exact ((((Below.refl _ _).alloc (Nat.le_refl _) _).alloc (by simp) _).alloc (by simp; omega) _).drew

theorem vCut (A : Option Addr) (n cap : Nat) (w : World) (hn : n ≤ 65536) (hc : n ≤ cap) (h0 : A = none → n = 0 ∧ cap = 0) (hA : Bytes w w.heap.size A n) :
    Calls Tryd.prog 21 #[.slice A n cap, .int .i64 9] w (cutAns w) := by
  cases A with
  | none => obtain ⟨rfl, rfl⟩ := h0 rfl; exact nil w
  | some ad =>
    rcases Nat.lt_or_ge n 9 with h | h
    · rcases Nat.eq_or_lt_of_le hc with rfl | h'
      · exact nearSame ad n h w
      · exact nearMore ad n cap h h' w
    · rcases Nat.eq_or_lt_of_le h with rfl | h'
      · rcases Nat.eq_or_lt_of_le hc with rfl | h''
        · exact nineSame ad w
        · exact nineMore ad cap h'' w
      · exact far ad n cap w hn h' hc hA

end Go.Proofs.YthobejaiapdanaaDoor.VCut
