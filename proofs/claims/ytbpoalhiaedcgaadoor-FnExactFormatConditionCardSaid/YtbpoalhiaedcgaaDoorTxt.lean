/-
  The text of a condition: l5Text of the model, text of the program.
-/
import Derived.Test.YtbpoalhiaedcgaaDoorGoodI
import Derived.Test.YtbpoalhiaedcgaaDoorFmtDate
import Derived.Deep.RegionHeld3
namespace Go.Proofs.YtbpoalhiaedcgaaDoor.Txt
open Go.RowKit Go.Proofs.YtbpoalhiaedcgaaDoor.Cond Go.Proofs.YtbpoalhiaedcgaaDoor.Cal Go.Proofs.YtbpoalhiaedcgaaDoor.FmtDate Go.Proofs.YtbpoalhiaedcgaaDoor.FmtPlain Go.Proofs.YtbpoalhiaedcgaaDoor.Tab
set_option linter.unusedVariables false

def txt : Q → List UInt8
  | .tru => [116, 114, 117, 101]
  | .fact s => s.toList
  | .frm d => [102, 114, 111, 109, 32] ++ text (yr d) (mo d) (da d)
  | .neg a => [110, 111, 116, 32] ++ txt a
  | .and a b => [40] ++ txt a ++ [32, 97, 110, 100, 32] ++ txt b ++ [41]
  | .or a b => [40] ++ txt a ++ [32, 111, 114, 32] ++ txt b ++ [41]

theorem isDy_day {d : Int} (h : isDy d = true) : Day d := by
  unfold isDy at h
  simp at h
  exact ⟨h.1, h.2⟩
theorem date_len {d : Int} (h : Day d) : (text (yr d) (mo d) (da d)).length ≤ 15 := by
  obtain ⟨⟨y1, y2⟩, _⟩ := (date_is h).1
  have h1 := dec_le (yr d).toNat (by omega)
  unfold FmtDate.text
  simp [two]; omega
theorem txt_len : ∀ q : Q, q.ok → (txt q).length ≤ 25 * q.size
  | .tru, _ => by simp [txt, Q.size]
  | .fact s, h => by
    have h2 : isNm s = true := h
    unfold isNm at h2
    simp only [Bool.and_eq_true, decide_eq_true_eq] at h2
    have h3 : s.toList.length = s.size := by rw [Go.ByteArray.toList_eq]; simp
    simp only [txt, Q.size, h3]
    omega
  | .frm d, h => by
    have := date_len (isDy_day h)
    simp only [txt, Q.size, List.length_append, List.length_cons, List.length_nil]; omega
  | .neg a, h => by
    have := txt_len a h
    simp only [txt, Q.size, List.length_append, List.length_cons, List.length_nil]; omega
  | .and a b, h => by
    have := txt_len a h.1; have := txt_len b h.2
    simp only [txt, Q.size, List.length_append, List.length_cons, List.length_nil]; omega
  | .or a b, h => by
    have := txt_len a h.1; have := txt_len b h.2
    simp only [txt, Q.size, List.length_append, List.length_cons, List.length_nil]; omega

theorem catIs (a b : List UInt8) (h : a.length + b.length ≤ 100000) (w : World) :
    (Op.stringOp .add ⟨a.toArray⟩ ⟨b.toArray⟩).run Tryd.prog w = .ok (.string ⟨(a ++ b).toArray⟩) w := by
  rw [run_string_add_sum w _ _ (by rw [size, size]; omega), cat]
theorem str_eta (s : ByteArray) : (⟨s.toList.toArray⟩ : ByteArray) = s := by
  rw [Go.ByteArray.toList_eq]

theorem One {w : World} {B : Nat} {op : Int} {nm : ByteArray} {day : Int} {A : Option Addr} {cap : Nat} {p : K} (h : Lies w B (.mk op nm day A cap [p])) : ∃ b o, A = some ⟨b, o, none⟩ ∧ b < B ∧ El w b o p := by
  obtain ⟨b, o, rfl, hb, he⟩ := h.at (by simp)
  exact ⟨b, o, rfl, hb, by simpa using he 0 (by simp)⟩
theorem Two {w : World} {B : Nat} {op : Int} {nm : ByteArray} {day : Int} {A : Option Addr} {cap : Nat} {p q : K} (h : Lies w B (.mk op nm day A cap [p, q])) : ∃ b o, A = some ⟨b, o, none⟩ ∧ b < B ∧ El w b o p ∧ El w b (o + 4) q := by
  obtain ⟨b, o, rfl, hb, he⟩ := h.at (by simp)
  exact ⟨b, o, rfl, hb, by simpa using he 0 (by simp), by simpa using he 1 (by simp)⟩

set_option maxHeartbeats 8000000 in
theorem l5Text (w : World) (q : Q) : q.ok → q.size ≤ 1000 → ∀ (k : K) (v : World), Below w.heap.size w v → k.cond = q.c → Lies v v.heap.size k →
    Calls Tryd.prog 16 #[k.val] v fun e w' => e = .returned (.string ⟨(txt q).toArray⟩) ∧ Below v.heap.size v w' := by
  have HL : Hid (∀ x, Day x → ∀ v, Below w.heap.size w v → Calls Tryd.prog 27 #[.int .i64 x] v fun e w' => e = .returned (.string ⟨(text (yr x) (mo x) (da x)).toArray⟩) ∧ Below v.heap.size v w') := Lib.hid fun x hx v _ => l3Text x hx v
  induction q with
  | tru =>
    intro hok hsz k v hbv hk hin
    obtain ⟨A, cap, rfl⟩ := K.leaf hk
    clear hk hin
    have B0 := Lib.hid (below1 v (.cells #[.int .i64 1, .string .empty, .int .i64 0, .slice A 0 cap] 30))
    show Calls Tryd.prog 16 #[.agg #[.int .i64 1, .string .empty, .int .i64 0, .slice A 0 cap]] v fun e w' => e = .returned (.string ⟨(txt (.tru)).toArray⟩) ∧ Below v.heap.size v w'
    clear hbv
    go_enter Tryd.func16, Tryd.ntmps16
    go_wp2_with fail
    go_ret
    exact ⟨rfl, B0.out⟩
  | fact s =>
    intro hok hsz k v hbv hk hin
    obtain ⟨A, cap, rfl⟩ := K.leaf hk
    clear hk hin
    have B0 := Lib.hid (below1 v (.cells #[.int .i64 2, .string s, .int .i64 0, .slice A 0 cap] 30))
    show Calls Tryd.prog 16 #[.agg #[.int .i64 2, .string s, .int .i64 0, .slice A 0 cap]] v fun e w' => e = .returned (.string ⟨(txt (.fact s)).toArray⟩) ∧ Below v.heap.size v w'
    show Calls Tryd.prog 16 #[.agg #[.int .i64 2, .string s, .int .i64 0, .slice A 0 cap]] v fun e w' => e = .returned (.string ⟨s.toList.toArray⟩) ∧ Below v.heap.size v w'
    rw [str_eta]
    clear hbv
    go_enter Tryd.func16, Tryd.ntmps16
    go_wp2_with fail
    go_ret
    exact ⟨rfl, B0.out⟩
  | frm x =>
    intro hok hsz k v hbv hk hin
    obtain ⟨A, cap, rfl⟩ := K.leaf hk
    clear hk hin
    have B0 := Lib.hid (below1 v (.cells #[.int .i64 3, .string .empty, .int .i64 x, .slice A 0 cap] 30))
    show Calls Tryd.prog 16 #[.agg #[.int .i64 3, .string .empty, .int .i64 x, .slice A 0 cap]] v fun e w' => e = .returned (.string ⟨(txt (.frm x)).toArray⟩) ∧ Below v.heap.size v w'
    have hd : Day x := isDy_day hok
    have HLL := Lib.hid (HL.out x hd _ (hbv.trans (B0.out.mono hbv.size)))
    have hl := date_len hd
    show Calls Tryd.prog 16 #[.agg #[.int .i64 3, .string .empty, .int .i64 x, .slice A 0 cap]] v fun e w' => e = .returned (.string ⟨([102, 114, 111, 109, 32] ++ text (yr x) (mo x) (da x)).toArray⟩) ∧ Below v.heap.size v w'
    have a1 := catIs [102, 114, 111, 109, 32] (text (yr x) (mo x) (da x)) (by simp; omega)
    clear hbv hd hok hl
    generalize hE : [102, 114, 111, 109, 32] ++ text (yr x) (mo x) (da x) = E at *
    clear hE
    generalize text (yr x) (mo x) (da x) = T at *
    go_enter Tryd.func16, Tryd.ntmps16
    go_wp2_with (go_at_call 27; refine HLL.out.mono ?_; rintro e w2 ⟨rfl, hb2⟩)
    go_ret
    exact ⟨rfl, B0.out.trans (hb2.mono B0.out.size)⟩
  | neg a ih =>
    intro hok hsz k v hbv hk hin
    obtain ⟨A, cap, p, rfl, hp⟩ := K.one hk
    obtain ⟨b, o, rfl, hb, hE⟩ := One hin
    simp only [Q.size] at hsz
    have B0 := Lib.hid (below1 v (.cells #[.int .i64 4, .string .empty, .int .i64 0, .slice (some ⟨b, o, none⟩) 1 cap] 30))
    have HI := Lib.hid (ih hok (by omega) p _ (hbv.trans (B0.out.mono hbv.size)) hp ((hin.part (by simp)).on B0.out))
    obtain ⟨c0, c1, c2, c3⟩ := hE.alike (B0.out.block b hb)
    have hl := txt_len a hok
    have a1 := catIs [110, 111, 116, 32] (txt a) (by simp; omega)
    show Calls Tryd.prog 16 #[.agg #[.int .i64 4, .string .empty, .int .i64 0, .slice (some ⟨b, o, none⟩) 1 cap]] v fun e w' => e = .returned (.string ⟨([110, 111, 116, 32] ++ txt a).toArray⟩) ∧ Below v.heap.size v w'
    clear hk hin ih hbv hE hp hok hl
    generalize hE : [110, 111, 116, 32] ++ txt a = E at *
    clear hE
    generalize txt a = T at *
    go_enter Tryd.func16, Tryd.ntmps16
    go_wp2_with (go_at_call 16; refine HI.out.mono ?_; rintro e w2 ⟨rfl, hb2⟩)
    go_ret
    exact ⟨rfl, B0.out.trans (hb2.mono B0.out.size)⟩
  | and a b iha ihb =>
    intro hok hsz k v hbv hk hin
    obtain ⟨A, cap, p1, p2, rfl, hp1, hp2⟩ := K.two hk
    obtain ⟨b', o, rfl, hb, hE1, hE2⟩ := Two hin
    simp only [Q.size] at hsz
    obtain ⟨X, hX⟩ : ∃ X, X = v.alloc (.cells #[.int .i64 5, .string .empty, .int .i64 0, .slice (some ⟨b', o, none⟩) 2 cap] 30) := ⟨_, rfl⟩
    have B0 : Hid (Below v.heap.size v X) := Lib.hid (by rw [hX]; exact below1 _ _)
    have X0 : Hid (B4 v.heap.size X (.int .i64 5) (.string .empty) (.int .i64 0) (.slice (some ⟨b', o, none⟩) 2 cap)) := Lib.hid (by rw [hX]; exact B4.new _ _ _ _ _ _)
    have HI1 : Hid (∀ u, Below X.heap.size X u → Calls Tryd.prog 16 #[p1.val] u fun e w' => e = .returned (.string ⟨(txt a).toArray⟩) ∧ Below u.heap.size u w') := Lib.hid fun u hu => iha hok.1 (by omega) p1 u ((hbv.trans (B0.out.mono hbv.size)).trans (hu.mono (Nat.le_trans hbv.size B0.out.size))) hp1 (((hin.part (by simp)).on B0.out).on hu)
    have HI2 : Hid (∀ u, Below X.heap.size X u → Calls Tryd.prog 16 #[p2.val] u fun e w' => e = .returned (.string ⟨(txt b).toArray⟩) ∧ Below u.heap.size u w') := Lib.hid fun u hu => ihb hok.2 (by omega) p2 u ((hbv.trans (B0.out.mono hbv.size)).trans (hu.mono (Nat.le_trans hbv.size B0.out.size))) hp2 (((hin.part (by simp)).on B0.out).on hu)
    have KX : Hid (∀ v', Below X.heap.size X v' → v'.cell? ⟨v.heap.size, 3, none⟩ = some (.slice (some ⟨b', o, none⟩) 2 cap) ∧ (v'.cell? ⟨b', o, none⟩ = some (.int .i64 p1.op) ∧ v'.cell? ⟨b', o + 1, none⟩ = some (.string p1.nm) ∧ v'.cell? ⟨b', o + 2, none⟩ = some (.int .i64 p1.day) ∧ v'.cell? ⟨b', o + 3, none⟩ = some (.slice p1.A p1.ps.length p1.cap)) ∧ v'.cell? ⟨b', o + 4, none⟩ = some (.int .i64 p2.op) ∧ v'.cell? ⟨b', o + 4 + 1, none⟩ = some (.string p2.nm) ∧ v'.cell? ⟨b', o + 4 + 2, none⟩ = some (.int .i64 p2.day) ∧ v'.cell? ⟨b', o + 4 + 3, none⟩ = some (.slice p2.A p2.ps.length p2.cap)) := Lib.hid fun v' hv => by
      have e := X0.out.on hv
      have hb2 : v'.heap[b']? = v.heap[b']? := (hv.block b' (by have := B0.out.size; omega)).trans (B0.out.block b' hb)
      have f1 := hE1.alike hb2
      have f2 := hE2.alike hb2
      exact ⟨e.c3, ⟨f1.c0, f1.c1, f1.c2, f1.c3⟩, f2.c0, f2.c1, f2.c2, f2.c3⟩
    have hl1 := txt_len a hok.1
    have hl2 := txt_len b hok.2
    have a1 := catIs [40] (txt a) (by simp; omega)
    have a2 := catIs ([40] ++ txt a) [32, 97, 110, 100, 32] (by simp; omega)
    have a3 := catIs ([40] ++ txt a ++ [32, 97, 110, 100, 32]) (txt b) (by simp; omega)
    have a4 := catIs ([40] ++ txt a ++ [32, 97, 110, 100, 32] ++ txt b) [41] (by simp; omega)
    show Calls Tryd.prog 16 #[.agg #[.int .i64 5, .string .empty, .int .i64 0, .slice (some ⟨b', o, none⟩) 2 cap]] v fun e w' => e = .returned (.string ⟨([40] ++ txt a ++ [32, 97, 110, 100, 32] ++ txt b ++ [41]).toArray⟩) ∧ Below v.heap.size v w'
    have HXX := Lib.hid hX
    clear hk hin iha ihb hbv hE1 hE2 hp1 hp2 hok hl1 hl2 hX
    generalize h4 : [40] ++ txt a ++ [32, 97, 110, 100, 32] ++ txt b ++ [41] = E4 at *
    generalize h3 : [40] ++ txt a ++ [32, 97, 110, 100, 32] ++ txt b = E3 at *
    generalize h2 : [40] ++ txt a ++ [32, 97, 110, 100, 32] = E2 at *
    generalize h1 : [40] ++ txt a = E1 at *
    clear h4 h3 h2 h1
    generalize txt a = T1 at *
    generalize txt b = T2 at *
    go_enter Tryd.func16, Tryd.ntmps16
    go_wp2_with fail
    rw [← HXX.out]
    have hc0 := KX.out X (Below.refl _ _)
    clear X0 HXX
    go_region_held3 (fun u => u.cell? ⟨v.heap.size, 3, none⟩ = some (.slice (some ⟨b', o, none⟩) 2 cap) ∧ (u.cell? ⟨b', o, none⟩ = some (.int .i64 p1.op) ∧ u.cell? ⟨b', o + 1, none⟩ = some (.string p1.nm) ∧ u.cell? ⟨b', o + 2, none⟩ = some (.int .i64 p1.day) ∧ u.cell? ⟨b', o + 3, none⟩ = some (.slice p1.A p1.ps.length p1.cap)) ∧ u.cell? ⟨b', o + 4, none⟩ = some (.int .i64 p2.op) ∧ u.cell? ⟨b', o + 4 + 1, none⟩ = some (.string p2.nm) ∧ u.cell? ⟨b', o + 4 + 2, none⟩ = some (.int .i64 p2.day) ∧ u.cell? ⟨b', o + 4 + 3, none⟩ = some (.slice p2.A p2.ps.length p2.cap)) (first | (refine KX.out _ ?_; (repeat (first | exact Below.refl _ _ | exact b2 | exact b1 | apply Below.drew)); done))
      (first
        | (go_at_call 16; (with_reducible refine (HI1.out _ (by (repeat (first | exact Below.refl _ _ | exact b2 | exact b1 | apply Below.drew)))).mono ?_); rintro e wa ⟨rfl, hb⟩; have b1 : Below X.heap.size X wa := (Below.trans (by (repeat (first | exact Below.refl _ _ | exact b2 | exact b1 | apply Below.drew))) (hb.mono (by first | omega | (simp; done) | (simp; omega) | exact b1.size | (have := b1.size; simp; omega)))); clear hb)
        | (go_at_call 16; (with_reducible refine (HI2.out _ (by (repeat (first | exact Below.refl _ _ | exact b2 | exact b1 | apply Below.drew)))).mono ?_); rintro e wb ⟨rfl, hb⟩; have b2 : Below X.heap.size X wb := (Below.trans (by (repeat (first | exact Below.refl _ _ | exact b2 | exact b1 | apply Below.drew))) (hb.mono (by first | omega | (simp; done) | (simp; omega) | exact b1.size | (have := b1.size; simp; omega)))); clear hb))
    all_goals
      go_wp2_with fail
      go_ret
      exact ⟨rfl, B0.out.trans (b2.mono B0.out.size)⟩
  | or a b iha ihb =>
    intro hok hsz k v hbv hk hin
    obtain ⟨A, cap, p1, p2, rfl, hp1, hp2⟩ := K.two hk
    obtain ⟨b', o, rfl, hb, hE1, hE2⟩ := Two hin
    simp only [Q.size] at hsz
    obtain ⟨X, hX⟩ : ∃ X, X = v.alloc (.cells #[.int .i64 6, .string .empty, .int .i64 0, .slice (some ⟨b', o, none⟩) 2 cap] 30) := ⟨_, rfl⟩
    have B0 : Hid (Below v.heap.size v X) := Lib.hid (by rw [hX]; exact below1 _ _)
    have X0 : Hid (B4 v.heap.size X (.int .i64 6) (.string .empty) (.int .i64 0) (.slice (some ⟨b', o, none⟩) 2 cap)) := Lib.hid (by rw [hX]; exact B4.new _ _ _ _ _ _)
    have HI1 : Hid (∀ u, Below X.heap.size X u → Calls Tryd.prog 16 #[p1.val] u fun e w' => e = .returned (.string ⟨(txt a).toArray⟩) ∧ Below u.heap.size u w') := Lib.hid fun u hu => iha hok.1 (by omega) p1 u ((hbv.trans (B0.out.mono hbv.size)).trans (hu.mono (Nat.le_trans hbv.size B0.out.size))) hp1 (((hin.part (by simp)).on B0.out).on hu)
    have HI2 : Hid (∀ u, Below X.heap.size X u → Calls Tryd.prog 16 #[p2.val] u fun e w' => e = .returned (.string ⟨(txt b).toArray⟩) ∧ Below u.heap.size u w') := Lib.hid fun u hu => ihb hok.2 (by omega) p2 u ((hbv.trans (B0.out.mono hbv.size)).trans (hu.mono (Nat.le_trans hbv.size B0.out.size))) hp2 (((hin.part (by simp)).on B0.out).on hu)
    have KX : Hid (∀ v', Below X.heap.size X v' → v'.cell? ⟨v.heap.size, 3, none⟩ = some (.slice (some ⟨b', o, none⟩) 2 cap) ∧ (v'.cell? ⟨b', o, none⟩ = some (.int .i64 p1.op) ∧ v'.cell? ⟨b', o + 1, none⟩ = some (.string p1.nm) ∧ v'.cell? ⟨b', o + 2, none⟩ = some (.int .i64 p1.day) ∧ v'.cell? ⟨b', o + 3, none⟩ = some (.slice p1.A p1.ps.length p1.cap)) ∧ v'.cell? ⟨b', o + 4, none⟩ = some (.int .i64 p2.op) ∧ v'.cell? ⟨b', o + 4 + 1, none⟩ = some (.string p2.nm) ∧ v'.cell? ⟨b', o + 4 + 2, none⟩ = some (.int .i64 p2.day) ∧ v'.cell? ⟨b', o + 4 + 3, none⟩ = some (.slice p2.A p2.ps.length p2.cap)) := Lib.hid fun v' hv => by
      have e := X0.out.on hv
      have hb2 : v'.heap[b']? = v.heap[b']? := (hv.block b' (by have := B0.out.size; omega)).trans (B0.out.block b' hb)
      have f1 := hE1.alike hb2
      have f2 := hE2.alike hb2
      exact ⟨e.c3, ⟨f1.c0, f1.c1, f1.c2, f1.c3⟩, f2.c0, f2.c1, f2.c2, f2.c3⟩
    have hl1 := txt_len a hok.1
    have hl2 := txt_len b hok.2
    have a1 := catIs [40] (txt a) (by simp; omega)
    have a2 := catIs ([40] ++ txt a) [32, 111, 114, 32] (by simp; omega)
    have a3 := catIs ([40] ++ txt a ++ [32, 111, 114, 32]) (txt b) (by simp; omega)
    have a4 := catIs ([40] ++ txt a ++ [32, 111, 114, 32] ++ txt b) [41] (by simp; omega)
    show Calls Tryd.prog 16 #[.agg #[.int .i64 6, .string .empty, .int .i64 0, .slice (some ⟨b', o, none⟩) 2 cap]] v fun e w' => e = .returned (.string ⟨([40] ++ txt a ++ [32, 111, 114, 32] ++ txt b ++ [41]).toArray⟩) ∧ Below v.heap.size v w'
    have HXX := Lib.hid hX
    clear hk hin iha ihb hbv hE1 hE2 hp1 hp2 hok hl1 hl2 hX
    generalize h4 : [40] ++ txt a ++ [32, 111, 114, 32] ++ txt b ++ [41] = E4 at *
    generalize h3 : [40] ++ txt a ++ [32, 111, 114, 32] ++ txt b = E3 at *
    generalize h2 : [40] ++ txt a ++ [32, 111, 114, 32] = E2 at *
    generalize h1 : [40] ++ txt a = E1 at *
    clear h4 h3 h2 h1
    generalize txt a = T1 at *
    generalize txt b = T2 at *
    go_enter Tryd.func16, Tryd.ntmps16
    go_wp2_with fail
    rw [← HXX.out]
    have hc0 := KX.out X (Below.refl _ _)
    clear X0 HXX
    go_region_held3 (fun u => u.cell? ⟨v.heap.size, 3, none⟩ = some (.slice (some ⟨b', o, none⟩) 2 cap) ∧ (u.cell? ⟨b', o, none⟩ = some (.int .i64 p1.op) ∧ u.cell? ⟨b', o + 1, none⟩ = some (.string p1.nm) ∧ u.cell? ⟨b', o + 2, none⟩ = some (.int .i64 p1.day) ∧ u.cell? ⟨b', o + 3, none⟩ = some (.slice p1.A p1.ps.length p1.cap)) ∧ u.cell? ⟨b', o + 4, none⟩ = some (.int .i64 p2.op) ∧ u.cell? ⟨b', o + 4 + 1, none⟩ = some (.string p2.nm) ∧ u.cell? ⟨b', o + 4 + 2, none⟩ = some (.int .i64 p2.day) ∧ u.cell? ⟨b', o + 4 + 3, none⟩ = some (.slice p2.A p2.ps.length p2.cap)) (first | (refine KX.out _ ?_; (repeat (first | exact Below.refl _ _ | exact b2 | exact b1 | apply Below.drew)); done))
      (first
        | (go_at_call 16; (with_reducible refine (HI1.out _ (by (repeat (first | exact Below.refl _ _ | exact b2 | exact b1 | apply Below.drew)))).mono ?_); rintro e wa ⟨rfl, hb⟩; have b1 : Below X.heap.size X wa := (Below.trans (by (repeat (first | exact Below.refl _ _ | exact b2 | exact b1 | apply Below.drew))) (hb.mono (by first | omega | (simp; done) | (simp; omega) | exact b1.size | (have := b1.size; simp; omega)))); clear hb)
        | (go_at_call 16; (with_reducible refine (HI2.out _ (by (repeat (first | exact Below.refl _ _ | exact b2 | exact b1 | apply Below.drew)))).mono ?_); rintro e wb ⟨rfl, hb⟩; have b2 : Below X.heap.size X wb := (Below.trans (by (repeat (first | exact Below.refl _ _ | exact b2 | exact b1 | apply Below.drew))) (hb.mono (by first | omega | (simp; done) | (simp; omega) | exact b1.size | (have := b1.size; simp; omega)))); clear hb))
    all_goals
      go_wp2_with fail
      go_ret
      exact ⟨rfl, B0.out.trans (b2.mono B0.out.size)⟩

set_option maxHeartbeats 8000000 in
theorem implText (w : World) (hT : Tab w) (hP : Pow w) (q : Q) : q.ok → q.size ≤ 1000 → ∀ (k : K) (v : World), Below w.heap.size w v → k.cond = q.c → Lies v v.heap.size k →
    Calls Tryd.prog 19 #[k.val] v fun e w' => e = .returned (.string ⟨(txt q).toArray⟩) ∧ Below v.heap.size v w' := by
  have HL : Hid (∀ x, Day x → ∀ v, Below w.heap.size w v → Calls Tryd.prog 31 #[.int .i64 x] v fun e w' => e = .returned (.tuple #[.string ⟨(text (yr x) (mo x) (da x)).toArray⟩, .bool true]) ∧ Below v.heap.size v w') := Lib.hid fun x hx v hb => implYes x hx v (hT.below hb) (hP.below hb)
  clear hT hP
  induction q with
  | tru =>
    intro hok hsz k v hbv hk hin
    obtain ⟨A, cap, rfl⟩ := K.leaf hk
    clear hk hin
    have B0 := Lib.hid (below1 v (.cells #[.int .i64 1, .string .empty, .int .i64 0, .slice A 0 cap] 30))
    show Calls Tryd.prog 19 #[.agg #[.int .i64 1, .string .empty, .int .i64 0, .slice A 0 cap]] v fun e w' => e = .returned (.string ⟨(txt (.tru)).toArray⟩) ∧ Below v.heap.size v w'
    clear hbv
    go_enter Tryd.func19, Tryd.ntmps19
    go_wp2_with fail
    go_ret
    exact ⟨rfl, B0.out⟩
  | fact s =>
    intro hok hsz k v hbv hk hin
    obtain ⟨A, cap, rfl⟩ := K.leaf hk
    clear hk hin
    have B0 := Lib.hid (below1 v (.cells #[.int .i64 2, .string s, .int .i64 0, .slice A 0 cap] 30))
    show Calls Tryd.prog 19 #[.agg #[.int .i64 2, .string s, .int .i64 0, .slice A 0 cap]] v fun e w' => e = .returned (.string ⟨(txt (.fact s)).toArray⟩) ∧ Below v.heap.size v w'
    show Calls Tryd.prog 19 #[.agg #[.int .i64 2, .string s, .int .i64 0, .slice A 0 cap]] v fun e w' => e = .returned (.string ⟨s.toList.toArray⟩) ∧ Below v.heap.size v w'
    rw [str_eta]
    clear hbv
    go_enter Tryd.func19, Tryd.ntmps19
    go_wp2_with fail
    go_ret
    exact ⟨rfl, B0.out⟩
  | frm x =>
    intro hok hsz k v hbv hk hin
    obtain ⟨A, cap, rfl⟩ := K.leaf hk
    clear hk hin
    have B0 := Lib.hid (below1 v (.cells #[.int .i64 3, .string .empty, .int .i64 x, .slice A 0 cap] 30))
    show Calls Tryd.prog 19 #[.agg #[.int .i64 3, .string .empty, .int .i64 x, .slice A 0 cap]] v fun e w' => e = .returned (.string ⟨(txt (.frm x)).toArray⟩) ∧ Below v.heap.size v w'
    have hd : Day x := isDy_day hok
    have HLL := Lib.hid (HL.out x hd _ (hbv.trans (B0.out.mono hbv.size)))
    have hl := date_len hd
    show Calls Tryd.prog 19 #[.agg #[.int .i64 3, .string .empty, .int .i64 x, .slice A 0 cap]] v fun e w' => e = .returned (.string ⟨([102, 114, 111, 109, 32] ++ text (yr x) (mo x) (da x)).toArray⟩) ∧ Below v.heap.size v w'
    have a1 := catIs [102, 114, 111, 109, 32] (text (yr x) (mo x) (da x)) (by simp; omega)
    clear hbv hd hok hl
    generalize hE : [102, 114, 111, 109, 32] ++ text (yr x) (mo x) (da x) = E at *
    clear hE
    generalize text (yr x) (mo x) (da x) = T at *
    go_enter Tryd.func19, Tryd.ntmps19
    go_wp2_with (go_at_call 31; refine HLL.out.mono ?_; rintro e w2 ⟨rfl, hb2⟩)
    go_ret
    exact ⟨rfl, B0.out.trans (hb2.mono B0.out.size)⟩
  | neg a ih =>
    intro hok hsz k v hbv hk hin
    obtain ⟨A, cap, p, rfl, hp⟩ := K.one hk
    obtain ⟨b, o, rfl, hb, hE⟩ := One hin
    simp only [Q.size] at hsz
    have B0 := Lib.hid (below1 v (.cells #[.int .i64 4, .string .empty, .int .i64 0, .slice (some ⟨b, o, none⟩) 1 cap] 30))
    have HI := Lib.hid (ih hok (by omega) p _ (hbv.trans (B0.out.mono hbv.size)) hp ((hin.part (by simp)).on B0.out))
    obtain ⟨c0, c1, c2, c3⟩ := hE.alike (B0.out.block b hb)
    have hl := txt_len a hok
    have a1 := catIs [110, 111, 116, 32] (txt a) (by simp; omega)
    show Calls Tryd.prog 19 #[.agg #[.int .i64 4, .string .empty, .int .i64 0, .slice (some ⟨b, o, none⟩) 1 cap]] v fun e w' => e = .returned (.string ⟨([110, 111, 116, 32] ++ txt a).toArray⟩) ∧ Below v.heap.size v w'
    clear hk hin ih hbv hE hp hok hl
    generalize hE : [110, 111, 116, 32] ++ txt a = E at *
    clear hE
    generalize txt a = T at *
    go_enter Tryd.func19, Tryd.ntmps19
    go_wp2_with (go_at_call 19; refine HI.out.mono ?_; rintro e w2 ⟨rfl, hb2⟩)
    go_ret
    exact ⟨rfl, B0.out.trans (hb2.mono B0.out.size)⟩
  | and a b iha ihb =>
    intro hok hsz k v hbv hk hin
    obtain ⟨A, cap, p1, p2, rfl, hp1, hp2⟩ := K.two hk
    obtain ⟨b', o, rfl, hb, hE1, hE2⟩ := Two hin
    simp only [Q.size] at hsz
    obtain ⟨X, hX⟩ : ∃ X, X = v.alloc (.cells #[.int .i64 5, .string .empty, .int .i64 0, .slice (some ⟨b', o, none⟩) 2 cap] 30) := ⟨_, rfl⟩
    have B0 : Hid (Below v.heap.size v X) := Lib.hid (by rw [hX]; exact below1 _ _)
    have X0 : Hid (B4 v.heap.size X (.int .i64 5) (.string .empty) (.int .i64 0) (.slice (some ⟨b', o, none⟩) 2 cap)) := Lib.hid (by rw [hX]; exact B4.new _ _ _ _ _ _)
    have HI1 : Hid (∀ u, Below X.heap.size X u → Calls Tryd.prog 19 #[p1.val] u fun e w' => e = .returned (.string ⟨(txt a).toArray⟩) ∧ Below u.heap.size u w') := Lib.hid fun u hu => iha hok.1 (by omega) p1 u ((hbv.trans (B0.out.mono hbv.size)).trans (hu.mono (Nat.le_trans hbv.size B0.out.size))) hp1 (((hin.part (by simp)).on B0.out).on hu)
    have HI2 : Hid (∀ u, Below X.heap.size X u → Calls Tryd.prog 19 #[p2.val] u fun e w' => e = .returned (.string ⟨(txt b).toArray⟩) ∧ Below u.heap.size u w') := Lib.hid fun u hu => ihb hok.2 (by omega) p2 u ((hbv.trans (B0.out.mono hbv.size)).trans (hu.mono (Nat.le_trans hbv.size B0.out.size))) hp2 (((hin.part (by simp)).on B0.out).on hu)
    have KX : Hid (∀ v', Below X.heap.size X v' → v'.cell? ⟨v.heap.size, 3, none⟩ = some (.slice (some ⟨b', o, none⟩) 2 cap) ∧ (v'.cell? ⟨b', o, none⟩ = some (.int .i64 p1.op) ∧ v'.cell? ⟨b', o + 1, none⟩ = some (.string p1.nm) ∧ v'.cell? ⟨b', o + 2, none⟩ = some (.int .i64 p1.day) ∧ v'.cell? ⟨b', o + 3, none⟩ = some (.slice p1.A p1.ps.length p1.cap)) ∧ v'.cell? ⟨b', o + 4, none⟩ = some (.int .i64 p2.op) ∧ v'.cell? ⟨b', o + 4 + 1, none⟩ = some (.string p2.nm) ∧ v'.cell? ⟨b', o + 4 + 2, none⟩ = some (.int .i64 p2.day) ∧ v'.cell? ⟨b', o + 4 + 3, none⟩ = some (.slice p2.A p2.ps.length p2.cap)) := Lib.hid fun v' hv => by
      have e := X0.out.on hv
      have hb2 : v'.heap[b']? = v.heap[b']? := (hv.block b' (by have := B0.out.size; omega)).trans (B0.out.block b' hb)
      have f1 := hE1.alike hb2
      have f2 := hE2.alike hb2
      exact ⟨e.c3, ⟨f1.c0, f1.c1, f1.c2, f1.c3⟩, f2.c0, f2.c1, f2.c2, f2.c3⟩
    have hl1 := txt_len a hok.1
    have hl2 := txt_len b hok.2
    have a1 := catIs [40] (txt a) (by simp; omega)
    have a2 := catIs ([40] ++ txt a) [32, 97, 110, 100, 32] (by simp; omega)
    have a3 := catIs ([40] ++ txt a ++ [32, 97, 110, 100, 32]) (txt b) (by simp; omega)
    have a4 := catIs ([40] ++ txt a ++ [32, 97, 110, 100, 32] ++ txt b) [41] (by simp; omega)
    show Calls Tryd.prog 19 #[.agg #[.int .i64 5, .string .empty, .int .i64 0, .slice (some ⟨b', o, none⟩) 2 cap]] v fun e w' => e = .returned (.string ⟨([40] ++ txt a ++ [32, 97, 110, 100, 32] ++ txt b ++ [41]).toArray⟩) ∧ Below v.heap.size v w'
    have HXX := Lib.hid hX
    clear hk hin iha ihb hbv hE1 hE2 hp1 hp2 hok hl1 hl2 hX
    generalize h4 : [40] ++ txt a ++ [32, 97, 110, 100, 32] ++ txt b ++ [41] = E4 at *
    generalize h3 : [40] ++ txt a ++ [32, 97, 110, 100, 32] ++ txt b = E3 at *
    generalize h2 : [40] ++ txt a ++ [32, 97, 110, 100, 32] = E2 at *
    generalize h1 : [40] ++ txt a = E1 at *
    clear h4 h3 h2 h1
    generalize txt a = T1 at *
    generalize txt b = T2 at *
    go_enter Tryd.func19, Tryd.ntmps19
    go_wp2_with fail
    rw [← HXX.out]
    have hc0 := KX.out X (Below.refl _ _)
    clear X0 HXX
    go_region_held3 (fun u => u.cell? ⟨v.heap.size, 3, none⟩ = some (.slice (some ⟨b', o, none⟩) 2 cap) ∧ (u.cell? ⟨b', o, none⟩ = some (.int .i64 p1.op) ∧ u.cell? ⟨b', o + 1, none⟩ = some (.string p1.nm) ∧ u.cell? ⟨b', o + 2, none⟩ = some (.int .i64 p1.day) ∧ u.cell? ⟨b', o + 3, none⟩ = some (.slice p1.A p1.ps.length p1.cap)) ∧ u.cell? ⟨b', o + 4, none⟩ = some (.int .i64 p2.op) ∧ u.cell? ⟨b', o + 4 + 1, none⟩ = some (.string p2.nm) ∧ u.cell? ⟨b', o + 4 + 2, none⟩ = some (.int .i64 p2.day) ∧ u.cell? ⟨b', o + 4 + 3, none⟩ = some (.slice p2.A p2.ps.length p2.cap)) (first | (refine KX.out _ ?_; (repeat (first | exact Below.refl _ _ | exact b2 | exact b1 | apply Below.drew)); done))
      (first
        | (go_at_call 19; (with_reducible refine (HI1.out _ (by (repeat (first | exact Below.refl _ _ | exact b2 | exact b1 | apply Below.drew)))).mono ?_); rintro e wa ⟨rfl, hb⟩; have b1 : Below X.heap.size X wa := (Below.trans (by (repeat (first | exact Below.refl _ _ | exact b2 | exact b1 | apply Below.drew))) (hb.mono (by first | omega | (simp; done) | (simp; omega) | exact b1.size | (have := b1.size; simp; omega)))); clear hb)
        | (go_at_call 19; (with_reducible refine (HI2.out _ (by (repeat (first | exact Below.refl _ _ | exact b2 | exact b1 | apply Below.drew)))).mono ?_); rintro e wb ⟨rfl, hb⟩; have b2 : Below X.heap.size X wb := (Below.trans (by (repeat (first | exact Below.refl _ _ | exact b2 | exact b1 | apply Below.drew))) (hb.mono (by first | omega | (simp; done) | (simp; omega) | exact b1.size | (have := b1.size; simp; omega)))); clear hb))
    all_goals
      go_wp2_with fail
      go_ret
      exact ⟨rfl, B0.out.trans (b2.mono B0.out.size)⟩
  | or a b iha ihb =>
    intro hok hsz k v hbv hk hin
    obtain ⟨A, cap, p1, p2, rfl, hp1, hp2⟩ := K.two hk
    obtain ⟨b', o, rfl, hb, hE1, hE2⟩ := Two hin
    simp only [Q.size] at hsz
    obtain ⟨X, hX⟩ : ∃ X, X = v.alloc (.cells #[.int .i64 6, .string .empty, .int .i64 0, .slice (some ⟨b', o, none⟩) 2 cap] 30) := ⟨_, rfl⟩
    have B0 : Hid (Below v.heap.size v X) := Lib.hid (by rw [hX]; exact below1 _ _)
    have X0 : Hid (B4 v.heap.size X (.int .i64 6) (.string .empty) (.int .i64 0) (.slice (some ⟨b', o, none⟩) 2 cap)) := Lib.hid (by rw [hX]; exact B4.new _ _ _ _ _ _)
    have HI1 : Hid (∀ u, Below X.heap.size X u → Calls Tryd.prog 19 #[p1.val] u fun e w' => e = .returned (.string ⟨(txt a).toArray⟩) ∧ Below u.heap.size u w') := Lib.hid fun u hu => iha hok.1 (by omega) p1 u ((hbv.trans (B0.out.mono hbv.size)).trans (hu.mono (Nat.le_trans hbv.size B0.out.size))) hp1 (((hin.part (by simp)).on B0.out).on hu)
    have HI2 : Hid (∀ u, Below X.heap.size X u → Calls Tryd.prog 19 #[p2.val] u fun e w' => e = .returned (.string ⟨(txt b).toArray⟩) ∧ Below u.heap.size u w') := Lib.hid fun u hu => ihb hok.2 (by omega) p2 u ((hbv.trans (B0.out.mono hbv.size)).trans (hu.mono (Nat.le_trans hbv.size B0.out.size))) hp2 (((hin.part (by simp)).on B0.out).on hu)
    have KX : Hid (∀ v', Below X.heap.size X v' → v'.cell? ⟨v.heap.size, 3, none⟩ = some (.slice (some ⟨b', o, none⟩) 2 cap) ∧ (v'.cell? ⟨b', o, none⟩ = some (.int .i64 p1.op) ∧ v'.cell? ⟨b', o + 1, none⟩ = some (.string p1.nm) ∧ v'.cell? ⟨b', o + 2, none⟩ = some (.int .i64 p1.day) ∧ v'.cell? ⟨b', o + 3, none⟩ = some (.slice p1.A p1.ps.length p1.cap)) ∧ v'.cell? ⟨b', o + 4, none⟩ = some (.int .i64 p2.op) ∧ v'.cell? ⟨b', o + 4 + 1, none⟩ = some (.string p2.nm) ∧ v'.cell? ⟨b', o + 4 + 2, none⟩ = some (.int .i64 p2.day) ∧ v'.cell? ⟨b', o + 4 + 3, none⟩ = some (.slice p2.A p2.ps.length p2.cap)) := Lib.hid fun v' hv => by
      have e := X0.out.on hv
      have hb2 : v'.heap[b']? = v.heap[b']? := (hv.block b' (by have := B0.out.size; omega)).trans (B0.out.block b' hb)
      have f1 := hE1.alike hb2
      have f2 := hE2.alike hb2
      exact ⟨e.c3, ⟨f1.c0, f1.c1, f1.c2, f1.c3⟩, f2.c0, f2.c1, f2.c2, f2.c3⟩
    have hl1 := txt_len a hok.1
    have hl2 := txt_len b hok.2
    have a1 := catIs [40] (txt a) (by simp; omega)
    have a2 := catIs ([40] ++ txt a) [32, 111, 114, 32] (by simp; omega)
    have a3 := catIs ([40] ++ txt a ++ [32, 111, 114, 32]) (txt b) (by simp; omega)
    have a4 := catIs ([40] ++ txt a ++ [32, 111, 114, 32] ++ txt b) [41] (by simp; omega)
    show Calls Tryd.prog 19 #[.agg #[.int .i64 6, .string .empty, .int .i64 0, .slice (some ⟨b', o, none⟩) 2 cap]] v fun e w' => e = .returned (.string ⟨([40] ++ txt a ++ [32, 111, 114, 32] ++ txt b ++ [41]).toArray⟩) ∧ Below v.heap.size v w'
    have HXX := Lib.hid hX
    clear hk hin iha ihb hbv hE1 hE2 hp1 hp2 hok hl1 hl2 hX
    generalize h4 : [40] ++ txt a ++ [32, 111, 114, 32] ++ txt b ++ [41] = E4 at *
    generalize h3 : [40] ++ txt a ++ [32, 111, 114, 32] ++ txt b = E3 at *
    generalize h2 : [40] ++ txt a ++ [32, 111, 114, 32] = E2 at *
    generalize h1 : [40] ++ txt a = E1 at *
    clear h4 h3 h2 h1
    generalize txt a = T1 at *
    generalize txt b = T2 at *
    go_enter Tryd.func19, Tryd.ntmps19
    go_wp2_with fail
    rw [← HXX.out]
    have hc0 := KX.out X (Below.refl _ _)
    clear X0 HXX
    go_region_held3 (fun u => u.cell? ⟨v.heap.size, 3, none⟩ = some (.slice (some ⟨b', o, none⟩) 2 cap) ∧ (u.cell? ⟨b', o, none⟩ = some (.int .i64 p1.op) ∧ u.cell? ⟨b', o + 1, none⟩ = some (.string p1.nm) ∧ u.cell? ⟨b', o + 2, none⟩ = some (.int .i64 p1.day) ∧ u.cell? ⟨b', o + 3, none⟩ = some (.slice p1.A p1.ps.length p1.cap)) ∧ u.cell? ⟨b', o + 4, none⟩ = some (.int .i64 p2.op) ∧ u.cell? ⟨b', o + 4 + 1, none⟩ = some (.string p2.nm) ∧ u.cell? ⟨b', o + 4 + 2, none⟩ = some (.int .i64 p2.day) ∧ u.cell? ⟨b', o + 4 + 3, none⟩ = some (.slice p2.A p2.ps.length p2.cap)) (first | (refine KX.out _ ?_; (repeat (first | exact Below.refl _ _ | exact b2 | exact b1 | apply Below.drew)); done))
      (first
        | (go_at_call 19; (with_reducible refine (HI1.out _ (by (repeat (first | exact Below.refl _ _ | exact b2 | exact b1 | apply Below.drew)))).mono ?_); rintro e wa ⟨rfl, hb⟩; have b1 : Below X.heap.size X wa := (Below.trans (by (repeat (first | exact Below.refl _ _ | exact b2 | exact b1 | apply Below.drew))) (hb.mono (by first | omega | (simp; done) | (simp; omega) | exact b1.size | (have := b1.size; simp; omega)))); clear hb)
        | (go_at_call 19; (with_reducible refine (HI2.out _ (by (repeat (first | exact Below.refl _ _ | exact b2 | exact b1 | apply Below.drew)))).mono ?_); rintro e wb ⟨rfl, hb⟩; have b2 : Below X.heap.size X wb := (Below.trans (by (repeat (first | exact Below.refl _ _ | exact b2 | exact b1 | apply Below.drew))) (hb.mono (by first | omega | (simp; done) | (simp; omega) | exact b1.size | (have := b1.size; simp; omega)))); clear hb))
    all_goals
      go_wp2_with fail
      go_ret
      exact ⟨rfl, B0.out.trans (b2.mono B0.out.size)⟩

end Go.Proofs.YtbpoalhiaedcgaaDoor.Txt
