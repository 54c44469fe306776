/-
  l5Read of the model.
-/
import Derived.Test.YthdiiocgemomoaaDoorPcS
import Derived.Test.YthdiiocgemomoaaDoorPSpec
import Derived.Test.YthdiiocgemomoaaDoorSmS
namespace Go.Proofs.YthdiiocgemomoaaDoor.Cond
open Go.RowKit
set_option linter.unusedVariables false
set_option linter.unusedSimpArgs false

/-- What l5Read answers. -/
def RdAns (s : ByteArray) (o : Option (Q × List UInt8)) (w : World) (e : Ending) (w' : World) : Prop :=
  Below w.heap.size w w' ∧ (match o with
    | some (q, r) => ∃ k : K, e = .returned (.tuple #[k.val, .int .i64 ((s.size - r.length : Nat) : Int)]) ∧ k.cond = q.c ∧ Wr w' k ∧ ∀ x ∈ k.blocks, w.heap.size ≤ x
    | none => ∃ k : K, e = .returned (.tuple #[k.val, .int .i64 (-1)]))
theorem rd_bad {s : ByteArray} {w v : World} {kb : Nat} {k : K} {x0 x1 x2 x3 : Value} (hb : Below w.heap.size w v) (hk : w.heap.size ≤ kb) : RdAns s none w (.returned (.tuple #[k.val, .int .i64 (-1)])) (put4 v kb 0 x0 x1 x2 x3) :=
  ⟨put4_below hb hk, k, rfl⟩
theorem rd_good {s : ByteArray} {w v : World} {kb : Nat} {k : K} {q : Q} {r : List UInt8} {x0 x1 x2 x3 : Value} {t : Int} (ht : t = ((s.size - r.length : Nat) : Int)) (hb : Below w.heap.size w v) (hq : k.cond = q.c) (hw : Wr v k) (hge : ∀ x ∈ k.blocks, w.heap.size ≤ x) (hn : kb ∉ k.blocks) (hk : w.heap.size ≤ kb) : RdAns s (some (q, r)) w (.returned (.tuple #[k.val, .int .i64 t])) (put4 v kb 0 x0 x1 x2 x3) := by
  subst ht
  exact ⟨put4_below hb hk, k, rfl, hq, put_wr hw hn, hge⟩

theorem blk_new (w : World) (arr : Array Value) (T : TypeId) : Blk (w.alloc (.cells arr T)) w.heap.size arr.size := ⟨arr, T, heap_alloc_new w _, rfl⟩
theorem el_new (w : World) (k : K) (T : TypeId) : El (w.alloc (.cells #[.int .i64 k.op, .string k.nm, .int .i64 k.day, .slice k.A k.ps.length k.cap] T)) w.heap.size 0 k := by
  obtain ⟨_, h0, h1, h2, h3, _⟩ := B4.new w (.int .i64 k.op) (.string k.nm) (.int .i64 k.day) (.slice k.A k.ps.length k.cap) T
  exact ⟨h0, h1, h2, h3⟩
theorem neg_end {s : ByteArray} {w w2 : World} {kb S : Nat} {k : K} {q : Q} {r : List UInt8} {x0 x1 x2 x3 : Value} {T : TypeId} {t : Int} (ht : t = ((s.size - r.length : Nat) : Int)) (hb : Below w.heap.size w w2) (hq : k.cond = q.c) (hw : Wr w2 k) (hge : ∀ x ∈ k.blocks, S ≤ x) (hS : w.heap.size ≤ S) (hk : w.heap.size ≤ kb) (hkS : kb < S) :
    RdAns s (some (.neg q, r)) w (.returned (.tuple #[(K.mk 4 .empty 0 (some ⟨w2.heap.size + 1, 0, none⟩) 1 [k]).val, .int .i64 t])) (((put4 w2 kb 0 x0 x1 x2 x3).alloc (.cells #[.int .i64 k.op, .string k.nm, .int .i64 k.day, .slice k.A k.ps.length k.cap] T)).alloc (.cells #[.int .i64 k.op, .string k.nm, .int .i64 k.day, .slice k.A k.ps.length k.cap] T)) := by
  subst ht
  obtain ⟨V, hV⟩ : ∃ V, V = put4 w2 kb 0 x0 x1 x2 x3 := ⟨_, rfl⟩
  have hVs : V.heap.size = w2.heap.size := by rw [hV, put4_size]
  have hVb : Below w.heap.size w V := by rw [hV]; exact put4_below hb hk
  have hVw : Wr V k := by rw [hV]; exact put_wr hw (fun h => by have := hge _ h; omega)
  rw [← hV]
  obtain ⟨U, hU⟩ : ∃ U, U = V.alloc (.cells #[.int .i64 k.op, .string k.nm, .int .i64 k.day, .slice k.A k.ps.length k.cap] T) := ⟨_, rfl⟩
  have hUs : U.heap.size = w2.heap.size + 1 := by rw [hU]; simp [hVs]
  rw [← hU, ← hUs]
  have hUb : Below V.heap.size V U := by rw [hU]; exact below1 _ _
  have h2 : Wr (U.alloc (.cells #[.int .i64 k.op, .string k.nm, .int .i64 k.day, .slice k.A k.ps.length k.cap] T)) k := (hVw.on hUb).on (below1 _ _)
  have hnot : U.heap.size ∉ k.blocks := fun h => by have := hVw.lt _ h; omega
  have hlt := hb.size
  refine ⟨(hVb.trans (hUb.mono hVb.size)).trans ((below1 _ _).mono (by omega)), _, rfl, ?_, wr_one h2 (blk_new _ _ _) (el_new _ _ _) hnot, fun x hx => ?_⟩
  · simp only [K.cond, conds, Q.c, hq]
  · simp only [K.blocks, blocks, List.append_nil, List.mem_append, List.mem_singleton] at hx
    rcases hx with rfl | hx
    · omega
    · have := hge x hx; omega
theorem neg_bad {s : ByteArray} {w w2 : World} {kb : Nat} {k : K} {x0 x1 x2 x3 : Value} {T : TypeId} (hb : Below w.heap.size w w2) (hk : w.heap.size ≤ kb) :
    RdAns s none w (.returned (.tuple #[(K.mk 4 .empty 0 (some ⟨w2.heap.size + 1, 0, none⟩) 1 [k]).val, .int .i64 (-1)])) (((put4 w2 kb 0 x0 x1 x2 x3).alloc (.cells #[.int .i64 k.op, .string k.nm, .int .i64 k.day, .slice k.A k.ps.length k.cap] T)).alloc (.cells #[.int .i64 k.op, .string k.nm, .int .i64 k.day, .slice k.A k.ps.length k.cap] T)) :=
  ⟨((put4_below hb hk).alloc (by rw [put4_size]; exact hb.size) _).alloc (by simp [put4_size]; have := hb.size; omega) _, _, rfl⟩
theorem pair_end {s : ByteArray} {w v : World} {kb S : Nat} {ka kc : K} {qa qb q : Q} {op : Int} {r : List UInt8} {x0 x1 x2 x3 : Value} {T : TypeId} {t : Int} (hop : q = .and qa qb ∧ op = 5 ∨ q = .or qa qb ∧ op = 6) (ht : t = ((s.size - r.length : Nat) : Int)) (hb : Below w.heap.size w v) (ha : ka.cond = qa.c) (hc : kc.cond = qb.c) (hwa : Wr v ka) (hwc : Wr v kc) (hd : Dj ka kc) (hga : ∀ x ∈ ka.blocks, S ≤ x) (hgc : ∀ x ∈ kc.blocks, S ≤ x) (hS : w.heap.size ≤ S) (hk : w.heap.size ≤ kb) (hkS : kb < S) :
    RdAns s (some (q, r)) w (.returned (.tuple #[(K.mk op .empty 0 (some ⟨v.heap.size, 0, none⟩) 2 [ka, kc]).val, .int .i64 t])) ((put4 v kb 0 x0 x1 x2 x3).alloc (.cells #[.int .i64 ka.op, .string ka.nm, .int .i64 ka.day, .slice ka.A ka.ps.length ka.cap, .int .i64 kc.op, .string kc.nm, .int .i64 kc.day, .slice kc.A kc.ps.length kc.cap] T)) := by
  subst ht
  obtain ⟨V, hV⟩ : ∃ V, V = put4 v kb 0 x0 x1 x2 x3 := ⟨_, rfl⟩
  have hVs : V.heap.size = v.heap.size := by rw [hV, put4_size]
  have hVb : Below w.heap.size w V := by rw [hV]; exact put4_below hb hk
  have hVa : Wr V ka := by rw [hV]; exact put_wr hwa (fun h => by have := hga _ h; omega)
  have hVc : Wr V kc := by rw [hV]; exact put_wr hwc (fun h => by have := hgc _ h; omega)
  rw [← hV, ← hVs]
  have hlt := hb.size
  have e1 : El (V.alloc (.cells #[.int .i64 ka.op, .string ka.nm, .int .i64 ka.day, .slice ka.A ka.ps.length ka.cap, .int .i64 kc.op, .string kc.nm, .int .i64 kc.day, .slice kc.A kc.ps.length kc.cap] T)) V.heap.size 0 ka := ⟨by simp [go_sem], by simp [go_sem], by simp [go_sem], by simp [go_sem]⟩
  have e2 : El (V.alloc (.cells #[.int .i64 ka.op, .string ka.nm, .int .i64 ka.day, .slice ka.A ka.ps.length ka.cap, .int .i64 kc.op, .string kc.nm, .int .i64 kc.day, .slice kc.A kc.ps.length kc.cap] T)) V.heap.size 4 kc := ⟨by simp [go_sem], by simp [go_sem], by simp [go_sem], by simp [go_sem]⟩
  refine ⟨hVb.trans ((below1 _ _).mono hVb.size), _, rfl, ?_, wr_two (hVa.on (below1 _ _)) (hVc.on (below1 _ _)) hd (blk_new _ _ _) e1 e2 (fun h => by have := hVa.lt _ h; omega) (fun h => by have := hVc.lt _ h; omega), fun x hx => ?_⟩
  · rcases hop with ⟨rfl, rfl⟩ | ⟨rfl, rfl⟩ <;> simp only [K.cond, conds, Q.c, ha, hc]
  · simp only [K.blocks, blocks, List.append_nil, List.mem_append, List.mem_singleton] at hx
    rcases hx with rfl | hx | hx
    · omega
    · have := hga x hx; omega
    · have := hgc x hx; omega

theorem rd_not {dt : List UInt8 → Option Int} {n : Nat} {l : List UInt8} (h : st wNot l = true) : rd dt (n + 1) l = match rd dt n (l.drop 4) with | some (q, r) => some (.neg q, r) | none => none := by
  rw [rd, if_pos h]
  first | rfl | (cases rd dt n (l.drop 4) <;> rfl)
theorem rd_from {dt : List UInt8 → Option Int} {n : Nat} {l : List UInt8} (h1 : st wNot l = false) (h : st wFrom l = true) : rd dt (n + 1) l = match dt ((l.drop 5).take 10) with | some x => some (.frm x, l.drop 15) | none => none := by
  rw [rd, if_neg (by rw [h1]; decide), if_pos h]
  first | rfl | (cases dt ((l.drop 5).take 10) <;> rfl)
theorem rd_par {dt : List UInt8 → Option Int} {n : Nat} {l : List UInt8} (h1 : st wNot l = false) (h2 : st wFrom l = false) (h : st wPar l = true) : rd dt (n + 1) l = match rd dt n (l.drop 1) with
       | none => none
       | some (a, r) =>
         if st wOr r then (match rd dt n (r.drop 4) with | none => none | some (b, r2) => if st wEnd r2 then some (.or a b, r2.drop 1) else none)
         else if st wAnd r then (match rd dt n (r.drop 5) with | none => none | some (b, r2) => if st wEnd r2 then some (.and a b, r2.drop 1) else none)
         else none := by
  rw [rd, if_neg (by rw [h1]; decide), if_neg (by rw [h2]; decide), if_pos h]
  first | rfl | (cases rd dt n (l.drop 1) with
    | none => rfl
    | some p => rfl)
theorem rd_word {dt : List UInt8 → Option Int} {n : Nat} {l : List UInt8} (h1 : st wNot l = false) (h2 : st wFrom l = false) (h3 : st wPar l = false) : rd dt (n + 1) l = if word l = wTrue then some (.tru, l.drop 4) else if isNm (ba (word l)) then some (.fact (ba (word l)), l.drop (word l).length) else none := by
  rw [rd, if_neg (by rw [h1]; decide), if_neg (by rw [h2]; decide), if_neg (by rw [h3]; decide)]

set_option maxRecDepth 100000 in
set_option maxHeartbeats 16000000 in
theorem l5Read (dt : List UInt8 → Option Int) (hdt : Dt dt) (s : ByteArray) (hs : s.size ≤ 400) : ∀ (n a : Nat) (w : World), s.size - a < n → a ≤ s.size →
    Calls Tryd.prog 9 #[.string s, .int .i64 (a : Int)] w (RdAns s (rd dt n (s.data.toList.drop a)) w) := by
  intro n
  induction n with
  | zero => intro a w h; omega
  | succ n ih =>
    intro a w hn ha
    have hlen : s.data.toList.length = s.size := Array.length_toList
    obtain ⟨l, hl⟩ : ∃ l, l = s.data.toList.drop a := ⟨_, rfl⟩
    have hll : l.length = s.size - a := by rw [hl, List.length_drop, hlen]
    have hld : ∀ k, l.drop k = s.data.toList.drop (a + k) := fun k => by rw [hl, List.drop_drop]
    rw [← hl]
    have IH : Hid (∀ b v, s.size - b < n → b ≤ s.size → Calls Tryd.prog 9 #[.string s, .int .i64 (b : Int)] v (RdAns s (rd dt n (s.data.toList.drop b)) v)) := Lib.hid fun b v h1 h2 => ih b v h1 h2
    have HST : Hid (∀ (p : ByteArray) (b : Nat) v, b ≤ s.size → p.size ≤ 10 → Calls Tryd.prog 15 #[.string s, .int .i64 (b : Int), .string p] v fun e w' => e = .returned (.bool (st p.data.toList (s.data.toList.drop b))) ∧ v = w') := Lib.hid fun p b v h1 h2 => l5Starts s p b v h1 (by omega) h2
    obtain ⟨X, hX⟩ : ∃ X, X = (w.alloc (.cells #[.int .i64 0, .string ⟨#[]⟩, .int .i64 0, .slice none 0 0] 24)).alloc (.cells #[.int .i64 0, .string ⟨#[]⟩, .int .i64 0, .slice none 0 0] 24) := ⟨_, rfl⟩
    have B0 : Hid (Below w.heap.size w X) := Lib.hid (by rw [hX]; exact (below1 _ _).alloc (by simp) _)
    have HZ : Hid (X.heap.size = w.heap.size + 1 + 1) := Lib.hid (by rw [hX]; simp)
    have P0 : Hid (B4 w.heap.size X (.int .i64 0) (.string ⟨#[]⟩) (.int .i64 0) (.slice none 0 0)) := Lib.hid (by rw [hX]; exact (B4.new _ _ _ _ _ _).alloc _)
    have N0 : Hid (B4 (w.heap.size + 1) X (.int .i64 0) (.string ⟨#[]⟩) (.int .i64 0) (.slice none 0 0)) := Lib.hid (by rw [hX]; have := B4.new (w.alloc (.cells #[.int .i64 0, .string ⟨#[]⟩, .int .i64 0, .slice none 0 0] 24)) (.int .i64 0) (.string ⟨#[]⟩) (.int .i64 0) (.slice none 0 0) 24; simpa using this)
    have HXX := Lib.hid hX
    have HLD := Lib.hid hld
    have HL := Lib.hid hll
    have HLL := Lib.hid hl
    clear hX ih hld hll hl hlen
    obtain ⟨b1, hb1⟩ : ∃ b, b = st wNot l := ⟨_, rfl⟩
    have HS1 : Hid (∀ v, Calls Tryd.prog 15 #[.string s, .int .i64 (a : Int), .string ⟨#[110, 111, 116, 32]⟩] v fun e w' => e = .returned (.bool b1) ∧ v = w') := Lib.hid fun v => by rw [hb1, HLL.out]; exact HST.out ⟨#[110, 111, 116, 32]⟩ a v ha (by decide)
    have H1 := Lib.hid hb1
    clear hb1
    cases b1
    · obtain ⟨b2, hb2⟩ : ∃ b, b = st wFrom l := ⟨_, rfl⟩
      have HS2 : Hid (∀ v, Calls Tryd.prog 15 #[.string s, .int .i64 (a : Int), .string ⟨#[102, 114, 111, 109, 32]⟩] v fun e w' => e = .returned (.bool b2) ∧ v = w') := Lib.hid fun v => by rw [hb2, HLL.out]; exact HST.out ⟨#[102, 114, 111, 109, 32]⟩ a v ha (by decide)
      have H2 := Lib.hid hb2
      clear hb2
      cases b2
      · obtain ⟨b3, hb3⟩ : ∃ b, b = st wPar l := ⟨_, rfl⟩
        have HS3 : Hid (∀ v, Calls Tryd.prog 15 #[.string s, .int .i64 (a : Int), .string ⟨#[40]⟩] v fun e w' => e = .returned (.bool b3) ∧ v = w') := Lib.hid fun v => by rw [hb3, HLL.out]; exact HST.out ⟨#[40]⟩ a v ha (by decide)
        have H3 := Lib.hid hb3
        clear hb3
        cases b3
        · have HU : Hid (rd dt (n + 1) l = if word l = wTrue then some (.tru, l.drop 4) else if isNm (ba (word l)) then some (.fact (ba (word l)), l.drop (word l).length) else none) := Lib.hid (rd_word H1.out.symm H2.out.symm H3.out.symm)
          have HBY : Hid (∀ i, ∀ h : i < l.length, ∀ h2 : a + i < s.size, l[i].toNat = s[a + i].toNat) := Lib.hid fun i h h2 => by
            have hl := HLL.out
            subst hl
            rw [ByteArray.getElem_eq_getElem_data]
            simp
          go_enter Tryd.func9, Tryd.ntmps9
          go_wp2_with (go_at_call 15; (try rw [← HXX.out]); (first | (with_reducible refine (HS1.out _).mono ?_) | (with_reducible refine (HS2.out _).mono ?_) | (with_reducible refine (HS3.out _).mono ?_)); rintro e w' ⟨rfl, rfl⟩)
          go_loopw [17] (fun t wr => ∃ j : Nat, a + j ≤ s.size ∧ t = .int .i64 ((a + j : Nat) : Int) ∧ Hid (∀ i, ∀ h : i < l.length, i < j → sgn l[i].toNat = true) ∧ X = wr) (fun t _ => s.size - (intOf t).toNat)
          case atStart => exact ⟨0, by omega, rfl, Lib.hid fun i _ hi => by omega, rfl⟩
          case round =>
            obtain ⟨j, hj, rfl, HJ, rfl⟩ := hrel
            have hjl : (a + j < s.size) ↔ j < l.length := by have := HL.out; omega
            obtain ⟨_, p0, p1, p2, p3, pf⟩ := P0.out
            have pf0 := pf 0
            have pf1 := pf 1
            have pf2 := pf 2
            have pf3 := pf 3
            obtain ⟨_, n0, n1, n2, n3, _⟩ := N0.out
            clear pf
            have HEND : Hid ((∀ h : j < l.length, sgn l[j].toNat = false) → (word l).length = j ∧ word l = l.take j) := Lib.hid fun h => by
              have hw : (word l).length = j := wl_list (by have := HL.out; omega) HJ.out h
              exact ⟨hw, by rw [← hw]; exact List.prefix_iff_eq_take.1 (List.takeWhile_prefix _)⟩
            by_cases hlt : a + j < s.size
            · have hj1 : j < l.length := hjl.1 hlt
              have i0 : (0 : Int) ≤ ((a + j : Nat) : Int) := by omega
              have i1 : ((a + j : Nat) : Int) < (s.size : Int) := by omega
              obtain ⟨v, hv⟩ : ∃ v, v = sgn s[a + j].toNat := ⟨_, rfl⟩
              have HS := Lib.hid (l5Sign s[a + j].toNat X)
              rw [← hv] at HS
              have HV : Hid (v = sgn l[j].toNat) := Lib.hid (by rw [hv, HBY.out j hj1 hlt])
              clear hv hjl
              cases v
              · have HW := Lib.hid (HEND.out (fun _ => HV.out.symm))
                clear HEND
                go_wp2_with (go_at_call 17; refine HS.out.mono ?_; rintro e w' ⟨rfl, rfl⟩; refine Hid.out ?_)
                refine Lib.hid ?_
                clear i0 i1
                have hsl : ∀ w, (Instr.slice 9 (.string s) (some (.int .i64 (a : Int))) (some (.int .i64 ((a + j : Nat) : Int))) none).run Tryd.prog w = .ok (.string (ba (word l))) w := fun w => by
                  rw [run_slice_string _ _ _ _ _ _ _ Tryd.underlying9 (by omega) (by omega) (by omega)]
                  congr 2
                  refine ext_of ?_
                  rw [HW.out.2, HLL.out]
                  congr 1
                  omega
                have hz8 : (0 : Int) ≤ ((a + j : Nat) : Int) := by omega
                have HTT : Hid (((a + j : Nat) : Int) = ((s.size - (l.drop (word l).length).length : Nat) : Int)) := Lib.hid (by have := HL.out; rw [List.length_drop, HW.out.1]; omega)
                obtain ⟨x, hx⟩ : ∃ x, x = word l := ⟨_, rfl⟩
                rw [← hx] at hsl HTT HU
                have HNM := Lib.hid fun v => l5Name (ba x) v
                have HXS : Hid (x.length = j) := Lib.hid (by rw [hx]; exact HW.out.1)
                have ec : ((a + j : Nat) : Int) = (a : Int) + (j : Int) := by omega
                rw [ec] at HTT hsl
                clear ec
                clear hx HW
                by_cases h4 : x = wTrue
                · have HE : Hid (rd dt (n + 1) l = some (.tru, l.drop 4)) := Lib.hid (by rw [HU.out, if_pos h4])
                  subst h4
                  clear HU HNM
                  go_wp2_with fail
                  obtain ⟨_, t0, t1, t2, t3, _⟩ := P0.out.put (.int .i64 1) (.string ⟨#[]⟩) (.int .i64 0) (.slice none 0 0)
                  have hf := rd_good (s := s) (r := l.drop 4) (kb := w.heap.size) (k := .mk 1 .empty 0 none 0 []) (q := .tru) (x0 := .int .i64 1) (x1 := .string ⟨#[]⟩) (x2 := .int .i64 0) (x3 := .slice none 0 0) HTT.out B0.out rfl (wr_none 1 .empty 0 (by simp [maxLen])) (by simp [K.blocks, blocks]) (by simp [K.blocks, blocks]) (Nat.le_refl _)
                  simp only [put4] at t0 t1 t2 t3 hf
                  exact bodyPost_ret (v := .tuple #[.agg #[.int .i64 1, .string ⟨#[]⟩, .int .i64 0, .slice none 0 0], .int .i64 ((a : Int) + (j : Int))]) (by simp [results, Tryd.results9, go_sem, t0, t1, t2, t3]) rfl (by rw [HE.out]; exact hf)
                have h4' : (x == [116, 114, 117, 101]) = false := by
                  rw [beq_eq_false_iff_ne]; exact h4
                have h4b : ((ba x).toList == [116, 114, 117, 101]) = false := by rw [Go.ByteArray.toList_eq]; exact h4'
                have h4c : ¬ (ba x).toList = [116, 114, 117, 101] := by rw [Go.ByteArray.toList_eq]; exact h4
                obtain ⟨g, hg⟩ : ∃ g, g = isNm (ba x) := ⟨_, rfl⟩
                rw [← hg] at HNM
                have HXS2 : Hid ((ba x).size ≤ 400) := Lib.hid (by simp only [ByteArray.size, List.size_toArray]; have := HXS.out; omega)
                have HU2 : Hid (rd dt (n + 1) l = if g then some (.fact (ba x), l.drop x.length) else none) := Lib.hid (by rw [HU.out, if_neg h4, hg])
                obtain ⟨y, hy⟩ : ∃ y, y = ba x := ⟨_, rfl⟩
                rw [← hy] at h4b h4c HNM HXS2 HU2 hsl
                clear hy hg HU h4'
                cases g
                · have HE : Hid (rd dt (n + 1) l = none) := HU2
                  go_wp2_with (go_at_call 18; refine (HNM.out _).mono ?_; rintro e w' ⟨rfl, rfl⟩)
                  have BW := B0
                  have P2 := P0
                  obtain ⟨_, t0, t1, t2, t3, _⟩ := P2.out.put (.int .i64 0) (.string ⟨#[]⟩) (.int .i64 0) (.slice none 0 0)
                  have hf := rd_bad (s := s) (kb := w.heap.size) (k := .mk 0 .empty 0 none 0 []) (x0 := .int .i64 0) (x1 := .string ⟨#[]⟩) (x2 := .int .i64 0) (x3 := .slice none 0 0) BW.out (Nat.le_refl _)
                  simp only [put4] at t0 t1 t2 t3 hf
                  exact bodyPost_ret (v := .tuple #[.agg #[.int .i64 0, .string ⟨#[]⟩, .int .i64 0, .slice none 0 0], .int .i64 (-1)]) (by simp [results, Tryd.results9, go_sem, t0, t1, t2, t3]) rfl (by rw [HE.out]; exact hf)
                · have HE : Hid (rd dt (n + 1) l = some (.fact y, l.drop x.length)) := HU2
                  go_wp2_with (go_at_call 18; refine (HNM.out _).mono ?_; rintro e w' ⟨rfl, rfl⟩)
                  obtain ⟨_, t0, t1, t2, t3, _⟩ := P0.out.put (.int .i64 2) (.string y) (.int .i64 0) (.slice none 0 0)
                  have hf := rd_good (s := s) (r := l.drop x.length) (kb := w.heap.size) (k := .mk 2 y 0 none 0 []) (q := .fact y) (x0 := .int .i64 2) (x1 := .string y) (x2 := .int .i64 0) (x3 := .slice none 0 0) HTT.out B0.out rfl (wr_none 2 y 0 (by have := HXS2.out; unfold maxLen; omega)) (by simp [K.blocks, blocks]) (by simp [K.blocks, blocks]) (Nat.le_refl _)
                  simp only [put4] at t0 t1 t2 t3 hf
                  exact bodyPost_ret (v := .tuple #[.agg #[.int .i64 2, .string y, .int .i64 0, .slice none 0 0], .int .i64 ((a : Int) + (j : Int))]) (by simp [results, Tryd.results9, go_sem, t0, t1, t2, t3]) rfl (by rw [HE.out]; exact hf)
              · go_wp2_with (go_at_call 17; refine HS.out.mono ?_; rintro e w' ⟨rfl, rfl⟩)
                go_roundw
                case rel => exact ⟨j + 1, by omega, by go_num, Lib.hid fun i hi hij => by
                  by_cases e : i = j
                  · subst e; rw [← HV.out]
                  · exact HJ.out i hi (by omega), trivial⟩
                case measure => simp [intOf]; omega
            · have HW := Lib.hid (HEND.out (fun h => absurd (hjl.2 h) hlt))
              have hdec : decide (((a + j : Nat) : Int) < (s.size : Int)) = false := decide_eq_false (by omega)
              clear HEND hjl
              have hsl : ∀ w, (Instr.slice 9 (.string s) (some (.int .i64 (a : Int))) (some (.int .i64 ((a + j : Nat) : Int))) none).run Tryd.prog w = .ok (.string (ba (word l))) w := fun w => by
                rw [run_slice_string _ _ _ _ _ _ _ Tryd.underlying9 (by omega) (by omega) (by omega)]
                congr 2
                refine ext_of ?_
                rw [HW.out.2, HLL.out]
                congr 1
                omega
              have hz8 : (0 : Int) ≤ ((a + j : Nat) : Int) := by omega
              have HTT : Hid (((a + j : Nat) : Int) = ((s.size - (l.drop (word l).length).length : Nat) : Int)) := Lib.hid (by have := HL.out; rw [List.length_drop, HW.out.1]; omega)
              obtain ⟨x, hx⟩ : ∃ x, x = word l := ⟨_, rfl⟩
              rw [← hx] at hsl HTT HU
              have HNM := Lib.hid fun v => l5Name (ba x) v
              have HXS : Hid (x.length = j) := Lib.hid (by rw [hx]; exact HW.out.1)
              obtain ⟨E, hE⟩ : ∃ E : Int, E = ((a + j : Nat) : Int) := ⟨_, rfl⟩
              rw [← hE] at HTT hsl hdec ⊢
              clear hx HW hE
              by_cases h4 : x = wTrue
              · have HE : Hid (rd dt (n + 1) l = some (.tru, l.drop 4)) := Lib.hid (by rw [HU.out, if_pos h4])
                subst h4
                clear HU HNM
                go_wp2_with fail
                obtain ⟨_, t0, t1, t2, t3, _⟩ := P0.out.put (.int .i64 1) (.string ⟨#[]⟩) (.int .i64 0) (.slice none 0 0)
                have hf := rd_good (s := s) (r := l.drop 4) (kb := w.heap.size) (k := .mk 1 .empty 0 none 0 []) (q := .tru) (x0 := .int .i64 1) (x1 := .string ⟨#[]⟩) (x2 := .int .i64 0) (x3 := .slice none 0 0) HTT.out B0.out rfl (wr_none 1 .empty 0 (by simp [maxLen])) (by simp [K.blocks, blocks]) (by simp [K.blocks, blocks]) (Nat.le_refl _)
                simp only [put4] at t0 t1 t2 t3 hf
                exact bodyPost_ret (v := .tuple #[.agg #[.int .i64 1, .string ⟨#[]⟩, .int .i64 0, .slice none 0 0], .int .i64 E]) (by simp [results, Tryd.results9, go_sem, t0, t1, t2, t3]) rfl (by rw [HE.out]; exact hf)
              have h4' : (x == [116, 114, 117, 101]) = false := by
                rw [beq_eq_false_iff_ne]; exact h4
              have h4b : ((ba x).toList == [116, 114, 117, 101]) = false := by rw [Go.ByteArray.toList_eq]; exact h4'
              have h4c : ¬ (ba x).toList = [116, 114, 117, 101] := by rw [Go.ByteArray.toList_eq]; exact h4
              obtain ⟨g, hg⟩ : ∃ g, g = isNm (ba x) := ⟨_, rfl⟩
              rw [← hg] at HNM
              have HXS2 : Hid ((ba x).size ≤ 400) := Lib.hid (by simp only [ByteArray.size, List.size_toArray]; have := HXS.out; omega)
              have HU2 : Hid (rd dt (n + 1) l = if g then some (.fact (ba x), l.drop x.length) else none) := Lib.hid (by rw [HU.out, if_neg h4, hg])
              obtain ⟨y, hy⟩ : ∃ y, y = ba x := ⟨_, rfl⟩
              rw [← hy] at h4b h4c HNM HXS2 HU2 hsl
              clear hy hg HU h4'
              cases g
              · have HE : Hid (rd dt (n + 1) l = none) := HU2
                go_wp2_with (go_at_call 18; refine (HNM.out _).mono ?_; rintro e w' ⟨rfl, rfl⟩)
                have BW := B0
                have P2 := P0
                obtain ⟨_, t0, t1, t2, t3, _⟩ := P2.out.put (.int .i64 0) (.string ⟨#[]⟩) (.int .i64 0) (.slice none 0 0)
                have hf := rd_bad (s := s) (kb := w.heap.size) (k := .mk 0 .empty 0 none 0 []) (x0 := .int .i64 0) (x1 := .string ⟨#[]⟩) (x2 := .int .i64 0) (x3 := .slice none 0 0) BW.out (Nat.le_refl _)
                simp only [put4] at t0 t1 t2 t3 hf
                exact bodyPost_ret (v := .tuple #[.agg #[.int .i64 0, .string ⟨#[]⟩, .int .i64 0, .slice none 0 0], .int .i64 (-1)]) (by simp [results, Tryd.results9, go_sem, t0, t1, t2, t3]) rfl (by rw [HE.out]; exact hf)
              · have HE : Hid (rd dt (n + 1) l = some (.fact y, l.drop x.length)) := HU2
                go_wp2_with (go_at_call 18; refine (HNM.out _).mono ?_; rintro e w' ⟨rfl, rfl⟩)
                obtain ⟨_, t0, t1, t2, t3, _⟩ := P0.out.put (.int .i64 2) (.string y) (.int .i64 0) (.slice none 0 0)
                have hf := rd_good (s := s) (r := l.drop x.length) (kb := w.heap.size) (k := .mk 2 y 0 none 0 []) (q := .fact y) (x0 := .int .i64 2) (x1 := .string y) (x2 := .int .i64 0) (x3 := .slice none 0 0) HTT.out B0.out rfl (wr_none 2 y 0 (by have := HXS2.out; unfold maxLen; omega)) (by simp [K.blocks, blocks]) (by simp [K.blocks, blocks]) (Nat.le_refl _)
                simp only [put4] at t0 t1 t2 t3 hf
                exact bodyPost_ret (v := .tuple #[.agg #[.int .i64 2, .string y, .int .i64 0, .slice none 0 0], .int .i64 E]) (by simp [results, Tryd.results9, go_sem, t0, t1, t2, t3]) rfl (by rw [HE.out]; exact hf)

        · have hk1 : 1 ≤ l.length := st_len H3.out.symm
          have h1 : a + 1 ≤ s.size := by have := HL.out; omega
          have HI := IH.out (a + 1) X (by omega) h1
          have HU : Hid (rd dt (n + 1) l = match rd dt n (s.data.toList.drop (a + 1)) with
              | none => none
              | some (a, r) =>
                if st wOr r then (match rd dt n (r.drop 4) with | none => none | some (b, r2) => if st wEnd r2 then some (.or a b, r2.drop 1) else none)
                else if st wAnd r then (match rd dt n (r.drop 5) with | none => none | some (b, r2) => if st wEnd r2 then some (.and a b, r2.drop 1) else none)
                else none) := Lib.hid (by rw [← HLD.out 1]; exact rd_par H1.out.symm H2.out.symm H3.out.symm)
          have HRD : Hid (∀ b q r, b ≤ s.size → rd dt n (s.data.toList.drop b) = some (q, r) → r.length < s.size - b ∧ r = s.data.toList.drop (s.size - r.length)) := Lib.hid fun b q r hb h => by
            have hi := rd_is hdt n _ q r h
            have h1 := hi.len
            have h2 := hi.after (l := s.data.toList) (by rw [Array.length_toList]; exact hb)
            rw [List.length_drop, Array.length_toList] at h1
            rw [Array.length_toList] at h2
            exact ⟨h1, h2⟩
          have e1 : ((a + 1 : Nat) : Int) = (a : Int) + 1 := by omega
          rw [e1] at HI
          obtain ⟨R, hRR⟩ : ∃ R, R = rd dt n (s.data.toList.drop (a + 1)) := ⟨_, rfl⟩
          rw [← hRR] at HI HU
          have HRR := Lib.hid hRR
          have HIH := Lib.hid HI
          clear HI e1 hRR
          go_enter Tryd.func9, Tryd.ntmps9
          cases R with
          | none =>
            have HE : Hid (rd dt (n + 1) l = none) := HU
            go_wp2_with (first | (go_at_call 15; (try rw [← HXX.out]); (first | (with_reducible refine (HS1.out _).mono ?_) | (with_reducible refine (HS2.out _).mono ?_) | (with_reducible refine (HS3.out _).mono ?_)); rintro e w' ⟨rfl, rfl⟩) | (go_at_call 9; refine HIH.out.mono ?_; rintro e w2 ⟨hb2, k, rfl⟩; refine Hid.out ?_))
            refine Lib.hid ?_
            have P2 := Lib.hid (P0.out.on hb2)
            have N2 := Lib.hid (N0.out.on hb2)
            obtain ⟨_, p0, p1, p2, p3, pf⟩ := P2.out
            have pf0 := pf 0
            have pf1 := pf 1
            have pf2 := pf 2
            have pf3 := pf 3
            clear pf
            obtain ⟨_, n0, n1, n2, n3, _⟩ := N2.out
            have BW := Lib.hid (B0.out.trans (hb2.mono B0.out.size))
            clear hb2
            go_wp2_with fail
            obtain ⟨_, t0, t1, t2, t3, _⟩ := (P2.out.put (.int .i64 0) (.string ⟨#[]⟩) (.int .i64 0) (.slice none 0 0)).alloc (.cells #[.int .i64 k.op, .string k.nm, .int .i64 k.day, .slice k.A k.ps.length k.cap] 24)
            have hf : RdAns s none w (.returned (.tuple #[.agg #[.int .i64 0, .string ⟨#[]⟩, .int .i64 0, .slice none 0 0], .int .i64 (-1)])) ((put4 _ w.heap.size 0 (.int .i64 0) (.string ⟨#[]⟩) (.int .i64 0) (.slice none 0 0)).alloc (.cells #[.int .i64 k.op, .string k.nm, .int .i64 k.day, .slice k.A k.ps.length k.cap] 24)) := ⟨(put4_below BW.out (Nat.le_refl _)).alloc (by rw [put4_size]; exact BW.out.size) _, .mk 0 .empty 0 none 0 [], rfl⟩
            simp only [put4] at t0 t1 t2 t3 hf
            exact bodyPost_ret (v := .tuple #[.agg #[.int .i64 0, .string ⟨#[]⟩, .int .i64 0, .slice none 0 0], .int .i64 (-1)]) (by simp [results, Tryd.results9, go_sem, t0, t1, t2, t3]) rfl (by rw [HE.out]; exact hf)
          | some p =>
            obtain ⟨qa, r1⟩ := p
            obtain ⟨hr1, hr2⟩ := HRD.out (a + 1) qa r1 h1 HRR.out.symm
            obtain ⟨a2, ha2⟩ : ∃ a2, a2 = s.size - r1.length := ⟨_, rfl⟩
            have ha2s : a2 ≤ s.size := by omega
            have ha2n : s.size - a2 < n := by omega
            have hz2 : (0 : Int) ≤ (a2 : Int) := by omega
            rw [← ha2] at hr2
            obtain ⟨b4, hb4⟩ : ∃ b, b = st wOr r1 := ⟨_, rfl⟩
            obtain ⟨b5, hb5⟩ : ∃ b, b = st wAnd r1 := ⟨_, rfl⟩
            have HS4 : Hid (∀ v, Calls Tryd.prog 15 #[.string s, .int .i64 (a2 : Int), .string ⟨#[32, 111, 114, 32]⟩] v fun e w' => e = .returned (.bool b4) ∧ v = w') := Lib.hid fun v => by rw [hb4, hr2]; exact HST.out ⟨#[32, 111, 114, 32]⟩ a2 v ha2s (by decide)
            have HS5 : Hid (∀ v, Calls Tryd.prog 15 #[.string s, .int .i64 (a2 : Int), .string ⟨#[32, 97, 110, 100, 32]⟩] v fun e w' => e = .returned (.bool b5) ∧ v = w') := Lib.hid fun v => by rw [hb5, hr2]; exact HST.out ⟨#[32, 97, 110, 100, 32]⟩ a2 v ha2s (by decide)
            have H4 := Lib.hid hb4
            have H5 := Lib.hid hb5
            have HR2 := Lib.hid hr2
            have HA2 := Lib.hid ha2
            have HR1 := Lib.hid hr1
            clear hb4 hb5 hr1 hr2 ha2
            go_wp2_with (first | (go_at_call 15; (try rw [← HXX.out]); (first | (with_reducible refine (HS1.out _).mono ?_) | (with_reducible refine (HS2.out _).mono ?_) | (with_reducible refine (HS3.out _).mono ?_)); rintro e w' ⟨rfl, rfl⟩) | (go_at_call 9; refine HIH.out.mono ?_; rintro e w2 ⟨hb2, k, rfl, hq, hwk, hge⟩; refine Hid.out ?_))
            refine Lib.hid ?_
            rw [← HA2.out]
            obtain ⟨W3, hW3⟩ : ∃ W, W = w2.alloc (.cells #[.int .i64 k.op, .string k.nm, .int .i64 k.day, .slice k.A k.ps.length k.cap] 24) := ⟨_, rfl⟩
            have hb3 : Below w2.heap.size w2 W3 := by rw [hW3]; exact below1 _ _
            have hX3 := hb2.trans (hb3.mono hb2.size)
            have P3 := Lib.hid (P0.out.on hX3)
            have N3 := Lib.hid (N0.out.on hX3)
            have C3 : Hid (B4 w2.heap.size W3 (.int .i64 k.op) (.string k.nm) (.int .i64 k.day) (.slice k.A k.ps.length k.cap)) := Lib.hid (by rw [hW3]; exact B4.new _ _ _ _ _ _)
            have K3 := Lib.hid (hwk.on hb3)
            have G3 : Hid (∀ x ∈ k.blocks, X.heap.size ≤ x ∧ x < w2.heap.size) := Lib.hid fun x hx => ⟨hge x hx, hwk.lt x hx⟩
            have Q3 := Lib.hid hq
            have BX3 := Lib.hid hX3
            have BW3 := Lib.hid (B0.out.trans (hX3.mono B0.out.size))
            have S3 : Hid (w2.heap.size < W3.heap.size) := Lib.hid C3.out.lt
            have HW3 := Lib.hid hW3
            clear hW3 hb3 hX3 hb2 hq hwk hge HIH
            go_wp2_with (go_at_call 15; (try rw [← HW3.out]); refine (HS4.out _).mono ?_; rintro e w' ⟨rfl, rfl⟩; refine Hid.out ?_)
            refine Lib.hid ?_
            have P2 := P3
            have N2 := N3
            have BW := BW3
            cases b4
            · cases b5
              · have HE : Hid (rd dt (n + 1) l = none) := Lib.hid (by have := HU.out; simp only [← H4.out, ← H5.out, if_false, Bool.false_eq_true] at this; exact this)
                obtain ⟨_, p0, p1, p2, p3, pf⟩ := P2.out
                have pf0 := pf 0
                have pf1 := pf 1
                have pf2 := pf 2
                have pf3 := pf 3
                clear pf
                obtain ⟨_, n0, n1, n2, n3, _⟩ := N2.out
                go_wp2_with (go_at_call 15; refine (HS5.out _).mono ?_; rintro e w' ⟨rfl, rfl⟩)
                obtain ⟨_, t0, t1, t2, t3, _⟩ := P2.out.put (.int .i64 0) (.string ⟨#[]⟩) (.int .i64 0) (.slice none 0 0)
                have hf := rd_bad (s := s) (kb := w.heap.size) (k := .mk 0 .empty 0 none 0 []) (x0 := .int .i64 0) (x1 := .string ⟨#[]⟩) (x2 := .int .i64 0) (x3 := .slice none 0 0) BW.out (Nat.le_refl _)
                simp only [put4] at t0 t1 t2 t3 hf
                exact bodyPost_ret (v := .tuple #[.agg #[.int .i64 0, .string ⟨#[]⟩, .int .i64 0, .slice none 0 0], .int .i64 (-1)]) (by simp [results, Tryd.results9, go_sem, t0, t1, t2, t3]) rfl (by rw [HE.out]; exact hf)
              · go_wp2_with (go_at_call 15; refine (HS5.out _).mono ?_; rintro e w' ⟨rfl, rfl⟩; refine Hid.out ?_)
                refine Lib.hid ?_
                have hk4 : 5 ≤ r1.length := st_len H5.out.symm
                have h4 : a2 + 5 ≤ s.size := by have := HA2.out; have := HR1.out; omega
                have hdd : r1.drop 5 = s.data.toList.drop (a2 + 5) := by rw [HR2.out, List.drop_drop]
                have HI := IH.out (a2 + 5) W3 (by omega) h4
                have e1 : ((a2 + 5 : Nat) : Int) = (a2 : Int) + 5 := by omega
                rw [e1] at HI
                have HU3 : Hid (rd dt (n + 1) l = match rd dt n (s.data.toList.drop (a2 + 5)) with | none => none | some (b, r2) => if st wEnd r2 then some (.and qa b, r2.drop 1) else none) := Lib.hid (by rw [← hdd]; have := HU.out; simp only [← H4.out, ← H5.out, if_true, if_false, Bool.false_eq_true] at this; exact this)
                obtain ⟨R2, hRR⟩ : ∃ R, R = rd dt n (s.data.toList.drop (a2 + 5)) := ⟨_, rfl⟩
                rw [← hRR] at HI HU3
                have HRR2 := Lib.hid hRR
                have HIH2 := Lib.hid HI
                clear HI e1 hRR hdd HU
                cases R2 with
                | none =>
                  have HE : Hid (rd dt (n + 1) l = none) := HU3
                  go_wp2_with ((go_at_call 9; refine HIH2.out.mono ?_; rintro e w4 ⟨hb4, kc, rfl⟩; refine Hid.out ?_))
                  refine Lib.hid ?_
                  clear P2 N2 BW
                  have P2 := Lib.hid (P3.out.on hb4)
                  have N2 := Lib.hid (N3.out.on hb4)
                  have BW := Lib.hid (BW3.out.trans (hb4.mono BW3.out.size))
                  obtain ⟨_, p0, p1, p2, p3, pf⟩ := P2.out
                  have pf0 := pf 0
                  have pf1 := pf 1
                  have pf2 := pf 2
                  have pf3 := pf 3
                  clear pf
                  obtain ⟨_, n0, n1, n2, n3, _⟩ := N2.out
                  clear hb4
                  go_wp2_with fail
                  obtain ⟨_, t0, t1, t2, t3, _⟩ := (P2.out.put (.int .i64 0) (.string ⟨#[]⟩) (.int .i64 0) (.slice none 0 0)).alloc (.cells #[.int .i64 kc.op, .string kc.nm, .int .i64 kc.day, .slice kc.A kc.ps.length kc.cap] 24)
                  have hf : RdAns s none w (.returned (.tuple #[.agg #[.int .i64 0, .string ⟨#[]⟩, .int .i64 0, .slice none 0 0], .int .i64 (-1)])) ((put4 _ w.heap.size 0 (.int .i64 0) (.string ⟨#[]⟩) (.int .i64 0) (.slice none 0 0)).alloc (.cells #[.int .i64 kc.op, .string kc.nm, .int .i64 kc.day, .slice kc.A kc.ps.length kc.cap] 24)) := ⟨(put4_below BW.out (Nat.le_refl _)).alloc (by rw [put4_size]; exact BW.out.size) _, .mk 0 .empty 0 none 0 [], rfl⟩
                  simp only [put4] at t0 t1 t2 t3 hf
                  exact bodyPost_ret (v := .tuple #[.agg #[.int .i64 0, .string ⟨#[]⟩, .int .i64 0, .slice none 0 0], .int .i64 (-1)]) (by simp [results, Tryd.results9, go_sem, t0, t1, t2, t3]) rfl (by rw [HE.out]; exact hf)
                | some p =>
                  obtain ⟨qb, r2⟩ := p
                  obtain ⟨hs1, hs2⟩ := HRD.out (a2 + 5) qb r2 h4 HRR2.out.symm
                  obtain ⟨a5, ha5⟩ : ∃ a5, a5 = s.size - r2.length := ⟨_, rfl⟩
                  have ha5s : a5 ≤ s.size := by omega
                  have hz5 : (0 : Int) ≤ (a5 : Int) := by omega
                  rw [← ha5] at hs2
                  obtain ⟨b6, hb6⟩ : ∃ b, b = st wEnd r2 := ⟨_, rfl⟩
                  have HS6 : Hid (∀ v, Calls Tryd.prog 15 #[.string s, .int .i64 (a5 : Int), .string ⟨#[41]⟩] v fun e w' => e = .returned (.bool b6) ∧ v = w') := Lib.hid fun v => by rw [hb6, hs2]; exact HST.out ⟨#[41]⟩ a5 v ha5s (by decide)
                  have H6 := Lib.hid hb6
                  have HA5 := Lib.hid ha5
                  have HL5 := Lib.hid hs1
                  clear hb6 hs1 hs2 ha5
                  go_wp2_with ((go_at_call 9; refine HIH2.out.mono ?_; rintro e w4 ⟨hb4, kc, rfl, hq4, hw4, hg4⟩; refine Hid.out ?_))
                  refine Lib.hid ?_
                  rw [← HA5.out]
                  obtain ⟨W5, hW5⟩ : ∃ W, W = w4.alloc (.cells #[.int .i64 kc.op, .string kc.nm, .int .i64 kc.day, .slice kc.A kc.ps.length kc.cap] 24) := ⟨_, rfl⟩
                  have hb5 : Below w4.heap.size w4 W5 := by rw [hW5]; exact below1 _ _
                  have h35 := hb4.trans (hb5.mono hb4.size)
                  have P5 := Lib.hid (P3.out.on h35)
                  have N5 := Lib.hid (N3.out.on h35)
                  have C5 := Lib.hid (C3.out.on h35)
                  have D5 : Hid (B4 w4.heap.size W5 (.int .i64 kc.op) (.string kc.nm) (.int .i64 kc.day) (.slice kc.A kc.ps.length kc.cap)) := Lib.hid (by rw [hW5]; exact B4.new _ _ _ _ _ _)
                  have K5 := Lib.hid (K3.out.on h35)
                  have L5 := Lib.hid (hw4.on hb5)
                  have G5 : Hid (∀ x ∈ kc.blocks, W3.heap.size ≤ x) := Lib.hid hg4
                  have Q5 := Lib.hid hq4
                  have BW5 := Lib.hid (BW3.out.trans (h35.mono BW3.out.size))
                  have HW5 := Lib.hid hW5
                  clear hW5 hb5 h35 hb4 hq4 hw4 hg4 HIH2 P2 N2 BW
                  go_wp2_with (go_at_call 15; (try rw [← HW5.out]); refine (HS6.out _).mono ?_; rintro e w' ⟨rfl, rfl⟩; refine Hid.out ?_)
                  refine Lib.hid ?_
                  have P2 := P5
                  have N2 := N5
                  have BW := BW5
                  cases b6
                  · have HE : Hid (rd dt (n + 1) l = none) := Lib.hid (by rw [HU3.out]; simp only [← H6.out, if_false, Bool.false_eq_true])
                    obtain ⟨_, p0, p1, p2, p3, pf⟩ := P2.out
                    have pf0 := pf 0
                    have pf1 := pf 1
                    have pf2 := pf 2
                    have pf3 := pf 3
                    clear pf
                    obtain ⟨_, n0, n1, n2, n3, _⟩ := N2.out
                    go_wp2_with fail
                    obtain ⟨_, t0, t1, t2, t3, _⟩ := P2.out.put (.int .i64 0) (.string ⟨#[]⟩) (.int .i64 0) (.slice none 0 0)
                    have hf := rd_bad (s := s) (kb := w.heap.size) (k := .mk 0 .empty 0 none 0 []) (x0 := .int .i64 0) (x1 := .string ⟨#[]⟩) (x2 := .int .i64 0) (x3 := .slice none 0 0) BW.out (Nat.le_refl _)
                    simp only [put4] at t0 t1 t2 t3 hf
                    exact bodyPost_ret (v := .tuple #[.agg #[.int .i64 0, .string ⟨#[]⟩, .int .i64 0, .slice none 0 0], .int .i64 (-1)]) (by simp [results, Tryd.results9, go_sem, t0, t1, t2, t3]) rfl (by rw [HE.out]; exact hf)
                  · have HE : Hid (rd dt (n + 1) l = some (.and qa qb, r2.drop 1)) := Lib.hid (by rw [HU3.out]; simp only [← H6.out, if_true])
                    have hk6 : 1 ≤ r2.length := st_len H6.out.symm
                    have HTT : Hid ((a5 : Int) + 1 = ((s.size - (r2.drop 1).length : Nat) : Int)) := Lib.hid (by have := HA5.out; have := HL5.out; rw [List.length_drop]; omega)
                    have HF : Hid (∀ x0 x1 x2 x3, RdAns s (some (.and qa qb, r2.drop 1)) w (.returned (.tuple #[(K.mk 5 .empty 0 (some ⟨W5.heap.size, 0, none⟩) 2 [k, kc]).val, .int .i64 ((a5 : Int) + 1)])) ((put4 W5 w.heap.size 0 x0 x1 x2 x3).alloc (.cells #[.int .i64 k.op, .string k.nm, .int .i64 k.day, .slice k.A k.ps.length k.cap, .int .i64 kc.op, .string kc.nm, .int .i64 kc.day, .slice kc.A kc.ps.length kc.cap] 24))) := Lib.hid fun x0 x1 x2 x3 => pair_end (S := X.heap.size) (qa := qa) (qb := qb) (.inl ⟨rfl, rfl⟩) HTT.out BW.out Q3.out Q5.out K5.out L5.out (fun x hx hy => by have := (G3.out x hx).2; have := G5.out x hy; have := S3.out; omega) (fun x hx => (G3.out x hx).1) (fun x hx => by have := G5.out x hx; have := BX3.out.size; omega) B0.out.size (Nat.le_refl _) (by have := HZ.out; omega)
                    obtain ⟨_, p0, p1, p2, p3, pf⟩ := P2.out
                    have pf0 := pf 0
                    have pf1 := pf 1
                    have pf2 := pf 2
                    have pf3 := pf 3
                    clear pf
                    obtain ⟨_, n0, n1, n2, n3, _⟩ := N2.out
                    obtain ⟨_, c0, c1, c2, c3, _⟩ := C5.out
                    obtain ⟨_, d0, d1, d2, d3, _⟩ := D5.out
                    go_wp2_with fail
                    obtain ⟨_, t0, t1, t2, t3, _⟩ := (P2.out.put (.int .i64 5) (.string ⟨#[]⟩) (.int .i64 0) (.slice (some ⟨W5.heap.size, 0, none⟩) 2 2)).alloc (.cells #[.int .i64 k.op, .string k.nm, .int .i64 k.day, .slice k.A k.ps.length k.cap, .int .i64 kc.op, .string kc.nm, .int .i64 kc.day, .slice kc.A kc.ps.length kc.cap] 24)
                    have hf := HF.out (.int .i64 5) (.string ⟨#[]⟩) (.int .i64 0) (.slice (some ⟨W5.heap.size, 0, none⟩) 2 2)
                    simp only [put4] at t0 t1 t2 t3 hf
                    exact bodyPost_ret (v := .tuple #[(K.mk 5 .empty 0 (some ⟨W5.heap.size, 0, none⟩) 2 [k, kc]).val, .int .i64 ((a5 : Int) + 1)]) (by simp [results, Tryd.results9, go_sem, t0, t1, t2, t3]; first | done | exact ⟨rfl, rfl, rfl, rfl, rfl, rfl⟩) rfl (by rw [HE.out]; exact hf)
            · have hk4 : 4 ≤ r1.length := st_len H4.out.symm
              have h4 : a2 + 4 ≤ s.size := by have := HA2.out; have := HR1.out; omega
              have hdd : r1.drop 4 = s.data.toList.drop (a2 + 4) := by rw [HR2.out, List.drop_drop]
              have HI := IH.out (a2 + 4) W3 (by omega) h4
              have e1 : ((a2 + 4 : Nat) : Int) = (a2 : Int) + 4 := by omega
              rw [e1] at HI
              have HU3 : Hid (rd dt (n + 1) l = match rd dt n (s.data.toList.drop (a2 + 4)) with | none => none | some (b, r2) => if st wEnd r2 then some (.or qa b, r2.drop 1) else none) := Lib.hid (by rw [← hdd]; have := HU.out; simp only [← H4.out, ← H5.out, if_true, if_false, Bool.false_eq_true] at this; exact this)
              obtain ⟨R2, hRR⟩ : ∃ R, R = rd dt n (s.data.toList.drop (a2 + 4)) := ⟨_, rfl⟩
              rw [← hRR] at HI HU3
              have HRR2 := Lib.hid hRR
              have HIH2 := Lib.hid HI
              clear HI e1 hRR hdd HU
              cases R2 with
              | none =>
                have HE : Hid (rd dt (n + 1) l = none) := HU3
                go_wp2_with ((go_at_call 9; refine HIH2.out.mono ?_; rintro e w4 ⟨hb4, kc, rfl⟩; refine Hid.out ?_))
                refine Lib.hid ?_
                clear P2 N2 BW
                have P2 := Lib.hid (P3.out.on hb4)
                have N2 := Lib.hid (N3.out.on hb4)
                have BW := Lib.hid (BW3.out.trans (hb4.mono BW3.out.size))
                obtain ⟨_, p0, p1, p2, p3, pf⟩ := P2.out
                have pf0 := pf 0
                have pf1 := pf 1
                have pf2 := pf 2
                have pf3 := pf 3
                clear pf
                obtain ⟨_, n0, n1, n2, n3, _⟩ := N2.out
                clear hb4
                go_wp2_with fail
                obtain ⟨_, t0, t1, t2, t3, _⟩ := (P2.out.put (.int .i64 0) (.string ⟨#[]⟩) (.int .i64 0) (.slice none 0 0)).alloc (.cells #[.int .i64 kc.op, .string kc.nm, .int .i64 kc.day, .slice kc.A kc.ps.length kc.cap] 24)
                have hf : RdAns s none w (.returned (.tuple #[.agg #[.int .i64 0, .string ⟨#[]⟩, .int .i64 0, .slice none 0 0], .int .i64 (-1)])) ((put4 _ w.heap.size 0 (.int .i64 0) (.string ⟨#[]⟩) (.int .i64 0) (.slice none 0 0)).alloc (.cells #[.int .i64 kc.op, .string kc.nm, .int .i64 kc.day, .slice kc.A kc.ps.length kc.cap] 24)) := ⟨(put4_below BW.out (Nat.le_refl _)).alloc (by rw [put4_size]; exact BW.out.size) _, .mk 0 .empty 0 none 0 [], rfl⟩
                simp only [put4] at t0 t1 t2 t3 hf
                exact bodyPost_ret (v := .tuple #[.agg #[.int .i64 0, .string ⟨#[]⟩, .int .i64 0, .slice none 0 0], .int .i64 (-1)]) (by simp [results, Tryd.results9, go_sem, t0, t1, t2, t3]) rfl (by rw [HE.out]; exact hf)
              | some p =>
                obtain ⟨qb, r2⟩ := p
                obtain ⟨hs1, hs2⟩ := HRD.out (a2 + 4) qb r2 h4 HRR2.out.symm
                obtain ⟨a5, ha5⟩ : ∃ a5, a5 = s.size - r2.length := ⟨_, rfl⟩
                have ha5s : a5 ≤ s.size := by omega
                have hz5 : (0 : Int) ≤ (a5 : Int) := by omega
                rw [← ha5] at hs2
                obtain ⟨b6, hb6⟩ : ∃ b, b = st wEnd r2 := ⟨_, rfl⟩
                have HS6 : Hid (∀ v, Calls Tryd.prog 15 #[.string s, .int .i64 (a5 : Int), .string ⟨#[41]⟩] v fun e w' => e = .returned (.bool b6) ∧ v = w') := Lib.hid fun v => by rw [hb6, hs2]; exact HST.out ⟨#[41]⟩ a5 v ha5s (by decide)
                have H6 := Lib.hid hb6
                have HA5 := Lib.hid ha5
                have HL5 := Lib.hid hs1
                clear hb6 hs1 hs2 ha5
                go_wp2_with ((go_at_call 9; refine HIH2.out.mono ?_; rintro e w4 ⟨hb4, kc, rfl, hq4, hw4, hg4⟩; refine Hid.out ?_))
                refine Lib.hid ?_
                rw [← HA5.out]
                obtain ⟨W5, hW5⟩ : ∃ W, W = w4.alloc (.cells #[.int .i64 kc.op, .string kc.nm, .int .i64 kc.day, .slice kc.A kc.ps.length kc.cap] 24) := ⟨_, rfl⟩
                have hb5 : Below w4.heap.size w4 W5 := by rw [hW5]; exact below1 _ _
                have h35 := hb4.trans (hb5.mono hb4.size)
                have P5 := Lib.hid (P3.out.on h35)
                have N5 := Lib.hid (N3.out.on h35)
                have C5 := Lib.hid (C3.out.on h35)
                have D5 : Hid (B4 w4.heap.size W5 (.int .i64 kc.op) (.string kc.nm) (.int .i64 kc.day) (.slice kc.A kc.ps.length kc.cap)) := Lib.hid (by rw [hW5]; exact B4.new _ _ _ _ _ _)
                have K5 := Lib.hid (K3.out.on h35)
                have L5 := Lib.hid (hw4.on hb5)
                have G5 : Hid (∀ x ∈ kc.blocks, W3.heap.size ≤ x) := Lib.hid hg4
                have Q5 := Lib.hid hq4
                have BW5 := Lib.hid (BW3.out.trans (h35.mono BW3.out.size))
                have HW5 := Lib.hid hW5
                clear hW5 hb5 h35 hb4 hq4 hw4 hg4 HIH2 P2 N2 BW
                go_wp2_with (go_at_call 15; (try rw [← HW5.out]); refine (HS6.out _).mono ?_; rintro e w' ⟨rfl, rfl⟩; refine Hid.out ?_)
                refine Lib.hid ?_
                have P2 := P5
                have N2 := N5
                have BW := BW5
                cases b6
                · have HE : Hid (rd dt (n + 1) l = none) := Lib.hid (by rw [HU3.out]; simp only [← H6.out, if_false, Bool.false_eq_true])
                  obtain ⟨_, p0, p1, p2, p3, pf⟩ := P2.out
                  have pf0 := pf 0
                  have pf1 := pf 1
                  have pf2 := pf 2
                  have pf3 := pf 3
                  clear pf
                  obtain ⟨_, n0, n1, n2, n3, _⟩ := N2.out
                  go_wp2_with fail
                  obtain ⟨_, t0, t1, t2, t3, _⟩ := P2.out.put (.int .i64 0) (.string ⟨#[]⟩) (.int .i64 0) (.slice none 0 0)
                  have hf := rd_bad (s := s) (kb := w.heap.size) (k := .mk 0 .empty 0 none 0 []) (x0 := .int .i64 0) (x1 := .string ⟨#[]⟩) (x2 := .int .i64 0) (x3 := .slice none 0 0) BW.out (Nat.le_refl _)
                  simp only [put4] at t0 t1 t2 t3 hf
                  exact bodyPost_ret (v := .tuple #[.agg #[.int .i64 0, .string ⟨#[]⟩, .int .i64 0, .slice none 0 0], .int .i64 (-1)]) (by simp [results, Tryd.results9, go_sem, t0, t1, t2, t3]) rfl (by rw [HE.out]; exact hf)
                · have HE : Hid (rd dt (n + 1) l = some (.or qa qb, r2.drop 1)) := Lib.hid (by rw [HU3.out]; simp only [← H6.out, if_true])
                  have hk6 : 1 ≤ r2.length := st_len H6.out.symm
                  have HTT : Hid ((a5 : Int) + 1 = ((s.size - (r2.drop 1).length : Nat) : Int)) := Lib.hid (by have := HA5.out; have := HL5.out; rw [List.length_drop]; omega)
                  have HF : Hid (∀ x0 x1 x2 x3, RdAns s (some (.or qa qb, r2.drop 1)) w (.returned (.tuple #[(K.mk 6 .empty 0 (some ⟨W5.heap.size, 0, none⟩) 2 [k, kc]).val, .int .i64 ((a5 : Int) + 1)])) ((put4 W5 w.heap.size 0 x0 x1 x2 x3).alloc (.cells #[.int .i64 k.op, .string k.nm, .int .i64 k.day, .slice k.A k.ps.length k.cap, .int .i64 kc.op, .string kc.nm, .int .i64 kc.day, .slice kc.A kc.ps.length kc.cap] 24))) := Lib.hid fun x0 x1 x2 x3 => pair_end (S := X.heap.size) (qa := qa) (qb := qb) (.inr ⟨rfl, rfl⟩) HTT.out BW.out Q3.out Q5.out K5.out L5.out (fun x hx hy => by have := (G3.out x hx).2; have := G5.out x hy; have := S3.out; omega) (fun x hx => (G3.out x hx).1) (fun x hx => by have := G5.out x hx; have := BX3.out.size; omega) B0.out.size (Nat.le_refl _) (by have := HZ.out; omega)
                  obtain ⟨_, p0, p1, p2, p3, pf⟩ := P2.out
                  have pf0 := pf 0
                  have pf1 := pf 1
                  have pf2 := pf 2
                  have pf3 := pf 3
                  clear pf
                  obtain ⟨_, n0, n1, n2, n3, _⟩ := N2.out
                  obtain ⟨_, c0, c1, c2, c3, _⟩ := C5.out
                  obtain ⟨_, d0, d1, d2, d3, _⟩ := D5.out
                  go_wp2_with fail
                  obtain ⟨_, t0, t1, t2, t3, _⟩ := (P2.out.put (.int .i64 6) (.string ⟨#[]⟩) (.int .i64 0) (.slice (some ⟨W5.heap.size, 0, none⟩) 2 2)).alloc (.cells #[.int .i64 k.op, .string k.nm, .int .i64 k.day, .slice k.A k.ps.length k.cap, .int .i64 kc.op, .string kc.nm, .int .i64 kc.day, .slice kc.A kc.ps.length kc.cap] 24)
                  have hf := HF.out (.int .i64 6) (.string ⟨#[]⟩) (.int .i64 0) (.slice (some ⟨W5.heap.size, 0, none⟩) 2 2)
                  simp only [put4] at t0 t1 t2 t3 hf
                  exact bodyPost_ret (v := .tuple #[(K.mk 6 .empty 0 (some ⟨W5.heap.size, 0, none⟩) 2 [k, kc]).val, .int .i64 ((a5 : Int) + 1)]) (by simp [results, Tryd.results9, go_sem, t0, t1, t2, t3]; first | done | exact ⟨rfl, rfl, rfl, rfl, rfl, rfl⟩) rfl (by rw [HE.out]; exact hf)

      · have hk5 : 5 ≤ l.length := st_len H2.out.symm
        have HU : Hid (rd dt (n + 1) l = match dt ((l.drop 5).take 10) with | some x => some (.frm x, l.drop 15) | none => none) := Lib.hid (rd_from H1.out.symm H2.out.symm)
        by_cases h15 : a + 15 ≤ s.size
        · obtain ⟨x, hx⟩ : ∃ x, x = s.extract (a + 5) (a + 15) := ⟨_, rfl⟩
          have hxl : x.data.toList = (l.drop 5).take 10 := by
            rw [hx, ← Go.ByteArray.toList_eq, ext_list, HLD.out 5, show a + 15 - (a + 5) = 10 by omega]
          have hsl : ∀ w, (Instr.slice 9 (.string s) (some (.int .i64 ((a : Int) + 5))) (some (.int .i64 ((a : Int) + 15))) none).run Tryd.prog w = .ok (.string x) w := fun w => by
            rw [run_slice_string _ _ _ _ _ _ _ Tryd.underlying9 (by omega) (by omega) (by omega), hx]
            congr 2
          have hxs : x.size ≤ 2000000 := by rw [hx]; simp; omega
          have HPD := Lib.hid fun v => PSpec.spec x hxs v
          have i15 : (a : Int) + 15 ≤ (s.size : Int) := by omega
          rw [← hxl] at HU
          clear hx hxl hxs
          cases hd : dt x.data.toList with
          | none =>
            have HE : Hid (rd dt (n + 1) l = none) := Lib.hid (by have := HU.out; rw [hd] at this; exact this)
            have HPN : Hid (∀ v, Calls Tryd.prog 16 #[.string x] v fun e w' => e = .returned (.tuple #[.int .i64 0, .bool false]) ∧ Below v.heap.size v w') := Lib.hid fun v => (HPD.out v).mono fun e w' ⟨h1, h2⟩ => by
              rcases h1 with ⟨d, h, _⟩ | ⟨_, rfl⟩
              · rw [(hdt _ _).2 h] at hd; cases hd
              · exact ⟨rfl, h2⟩
            clear hd HPD HU
            go_enter Tryd.func9, Tryd.ntmps9
            go_wp2_with (first | (go_at_call 15; (try rw [← HXX.out]); (first | (with_reducible refine (HS1.out _).mono ?_) | (with_reducible refine (HS2.out _).mono ?_)); rintro e w' ⟨rfl, rfl⟩) | (go_at_call 16; refine (HPN.out _).mono ?_; rintro e w2 ⟨rfl, hb2⟩; refine Hid.out ?_))
            refine Lib.hid ?_
            have P2 := Lib.hid (P0.out.on hb2)
            have N2 := Lib.hid (N0.out.on hb2)
            obtain ⟨_, p0, p1, p2, p3, pf⟩ := P2.out
            have pf0 := pf 0
            have pf1 := pf 1
            have pf2 := pf 2
            have pf3 := pf 3
            clear pf
            obtain ⟨_, n0, n1, n2, n3, _⟩ := N2.out
            have BW := Lib.hid (B0.out.trans (hb2.mono B0.out.size))
            clear hb2 hsl
            go_wp2_with fail
            obtain ⟨_, t0, t1, t2, t3, _⟩ := P2.out.put (.int .i64 0) (.string ⟨#[]⟩) (.int .i64 0) (.slice none 0 0)
            have hf := rd_bad (s := s) (kb := w.heap.size) (k := .mk 0 .empty 0 none 0 []) (x0 := .int .i64 0) (x1 := .string ⟨#[]⟩) (x2 := .int .i64 0) (x3 := .slice none 0 0) BW.out (Nat.le_refl _)
            simp only [put4] at t0 t1 t2 t3 hf
            exact bodyPost_ret (v := .tuple #[.agg #[.int .i64 0, .string ⟨#[]⟩, .int .i64 0, .slice none 0 0], .int .i64 (-1)]) (by simp [results, Tryd.results9, go_sem, t0, t1, t2, t3]) rfl (by rw [HE.out]; exact hf)
          | some d =>
            have HE : Hid (rd dt (n + 1) l = some (.frm d, l.drop 15)) := Lib.hid (by have := HU.out; rw [hd] at this; exact this)
            have HPN : Hid (∀ v, Calls Tryd.prog 16 #[.string x] v fun e w' => e = .returned (.tuple #[.int .i64 d, .bool true]) ∧ Below v.heap.size v w') := Lib.hid fun v => (HPD.out v).mono fun e w' ⟨h1, h2⟩ => by
              rcases h1 with ⟨d', h, rfl⟩ | ⟨h, _⟩
              · rw [h.uniq ((hdt _ _).1 hd)]; exact ⟨rfl, h2⟩
              · exact absurd ((hdt _ _).1 hd) (h d)
            have HTT : Hid ((a : Int) + 15 = ((s.size - (l.drop 15).length : Nat) : Int)) := Lib.hid (by have := HL.out; rw [List.length_drop]; omega)
            clear hd HPD HU
            go_enter Tryd.func9, Tryd.ntmps9
            go_wp2_with (first | (go_at_call 15; (try rw [← HXX.out]); (first | (with_reducible refine (HS1.out _).mono ?_) | (with_reducible refine (HS2.out _).mono ?_)); rintro e w' ⟨rfl, rfl⟩) | (go_at_call 16; refine (HPN.out _).mono ?_; rintro e w2 ⟨rfl, hb2⟩; refine Hid.out ?_))
            refine Lib.hid ?_
            have P2 := Lib.hid (P0.out.on hb2)
            have N2 := Lib.hid (N0.out.on hb2)
            obtain ⟨_, p0, p1, p2, p3, pf⟩ := P2.out
            have pf0 := pf 0
            have pf1 := pf 1
            have pf2 := pf 2
            have pf3 := pf 3
            clear pf
            obtain ⟨_, n0, n1, n2, n3, _⟩ := N2.out
            have BW := Lib.hid (B0.out.trans (hb2.mono B0.out.size))
            clear hb2 hsl
            go_wp2_with fail
            obtain ⟨_, t0, t1, t2, t3, _⟩ := P2.out.put (.int .i64 3) (.string ⟨#[]⟩) (.int .i64 d) (.slice none 0 0)
            have hf := rd_good (kb := w.heap.size) (k := .mk 3 .empty d none 0 []) (q := .frm d) (x0 := .int .i64 3) (x1 := .string ⟨#[]⟩) (x2 := .int .i64 d) (x3 := .slice none 0 0) HTT.out BW.out rfl (wr_none 3 .empty d (by simp [maxLen])) (by simp [K.blocks, blocks]) (by simp [K.blocks, blocks]) (Nat.le_refl _)
            simp only [put4] at t0 t1 t2 t3 hf
            exact bodyPost_ret (v := .tuple #[.agg #[.int .i64 3, .string ⟨#[]⟩, .int .i64 d, .slice none 0 0], .int .i64 ((a : Int) + 15)]) (by simp [results, Tryd.results9, go_sem, t0, t1, t2, t3]) rfl (by rw [HE.out]; exact hf)
        · have HE : Hid (rd dt (n + 1) l = none) := Lib.hid (by
            rw [HU.out]
            cases hd : dt ((l.drop 5).take 10) with
            | none => rfl
            | some d =>
              have := ((hdt _ _).1 hd).len
              have h3 := HL.out
              rw [List.length_take, List.length_drop] at this
              omega)
          have i15 : decide ((s.size : Int) < (a : Int) + 15) = true := decide_eq_true (by omega)
          have i16 : (s.size : Int) < (a : Int) + 15 := by omega
          clear HU
          go_enter Tryd.func9, Tryd.ntmps9
          have BW := B0
          have P2 := P0
          have N2 := N0
          go_wp2_with (first | (go_at_call 15; (try rw [← HXX.out]); (first | (with_reducible refine (HS1.out _).mono ?_) | (with_reducible refine (HS2.out _).mono ?_)); rintro e w' ⟨rfl, rfl⟩; obtain ⟨_, p0, p1, p2, p3, pf⟩ := P2.out; have pf0 := pf 0; have pf1 := pf 1; have pf2 := pf 2; have pf3 := pf 3; clear pf; obtain ⟨_, n0, n1, n2, n3, _⟩ := N2.out))
          obtain ⟨_, t0, t1, t2, t3, _⟩ := P2.out.put (.int .i64 0) (.string ⟨#[]⟩) (.int .i64 0) (.slice none 0 0)
          have hf := rd_bad (s := s) (kb := w.heap.size) (k := .mk 0 .empty 0 none 0 []) (x0 := .int .i64 0) (x1 := .string ⟨#[]⟩) (x2 := .int .i64 0) (x3 := .slice none 0 0) BW.out (Nat.le_refl _)
          simp only [put4] at t0 t1 t2 t3 hf
          exact bodyPost_ret (v := .tuple #[.agg #[.int .i64 0, .string ⟨#[]⟩, .int .i64 0, .slice none 0 0], .int .i64 (-1)]) (by simp [results, Tryd.results9, go_sem, t0, t1, t2, t3]) rfl (by rw [HE.out]; exact hf)

    · have hk4 : 4 ≤ l.length := st_len H1.out.symm
      have h4 : a + 4 ≤ s.size := by have := HL.out; omega
      have HI := IH.out (a + 4) X (by omega) h4
      have HU : Hid (rd dt (n + 1) l = match rd dt n (s.data.toList.drop (a + 4)) with | some (q, r) => some (.neg q, r) | none => none) := Lib.hid (by rw [← HLD.out 4]; exact rd_not H1.out.symm)
      have HRD : Hid (∀ q r, rd dt n (s.data.toList.drop (a + 4)) = some (q, r) → RdIs (s.data.toList.drop (a + 4)) q r) := Lib.hid fun q r h => rd_is hdt n _ q r h
      have e4 : ((a + 4 : Nat) : Int) = (a : Int) + 4 := by omega
      rw [e4] at HI
      obtain ⟨R, hRR⟩ : ∃ R, R = rd dt n (s.data.toList.drop (a + 4)) := ⟨_, rfl⟩
      rw [← hRR] at HI HU HRD
      have HIH := Lib.hid HI
      clear HI e4 hRR
      go_enter Tryd.func9, Tryd.ntmps9
      cases R with
      | none =>
        go_wp2_with (first | (go_at_call 15; (try rw [← HXX.out]); refine (HS1.out _).mono ?_; rintro e w' ⟨rfl, rfl⟩) | (go_at_call 9; refine HIH.out.mono ?_; rintro e w2 ⟨hb2, k, rfl⟩; refine Hid.out ?_))
        refine Lib.hid ?_
        have P2 := Lib.hid (P0.out.on hb2)
        obtain ⟨_, p0, p1, p2, p3, pf⟩ := P2.out
        have pf0 := pf 0
        have pf1 := pf 1
        have pf2 := pf 2
        have pf3 := pf 3
        clear pf
        have HE : Hid (rd dt (n + 1) l = none) := HU
        have BW := Lib.hid (B0.out.trans (hb2.mono B0.out.size))
        clear hb2
        go_wp2_with fail
        obtain ⟨_, t0, t1, t2, t3, _⟩ := ((P2.out.put (.int .i64 4) (.string ⟨#[]⟩) (.int .i64 0) (.slice (some ⟨w2.heap.size + 1, 0, none⟩) 1 1)).alloc (.cells #[.int .i64 k.op, .string k.nm, .int .i64 k.day, .slice k.A k.ps.length k.cap] 24)).alloc (.cells #[.int .i64 k.op, .string k.nm, .int .i64 k.day, .slice k.A k.ps.length k.cap] 24)
        have hf := neg_bad (s := s) (kb := w.heap.size) (k := k) (x0 := .int .i64 4) (x1 := .string ⟨#[]⟩) (x2 := .int .i64 0) (x3 := .slice (some ⟨w2.heap.size + 1, 0, none⟩) 1 1) (T := 24) BW.out (Nat.le_refl _)
        simp only [put4] at t0 t1 t2 t3 hf
        exact bodyPost_ret (v := .tuple #[(K.mk 4 .empty 0 (some ⟨w2.heap.size + 1, 0, none⟩) 1 [k]).val, .int .i64 (-1)]) (by simp [results, Tryd.results9, go_sem, t0, t1, t2, t3]; first | done | exact ⟨rfl, rfl, rfl, rfl, rfl, rfl⟩) rfl (by rw [HE.out]; exact hf)
      | some p =>
        obtain ⟨q, r⟩ := p
        go_wp2_with (first | (go_at_call 15; (try rw [← HXX.out]); refine (HS1.out _).mono ?_; rintro e w' ⟨rfl, rfl⟩) | (go_at_call 9; refine HIH.out.mono ?_; rintro e w2 ⟨hb2, k, rfl, hq, hwk, hge⟩; refine Hid.out ?_))
        refine Lib.hid ?_
        have P2 := Lib.hid (P0.out.on hb2)
        obtain ⟨_, p0, p1, p2, p3, pf⟩ := P2.out
        have pf0 := pf 0
        have pf1 := pf 1
        have pf2 := pf 2
        have pf3 := pf 3
        clear pf
        have HE : Hid (rd dt (n + 1) l = some (.neg q, r)) := HU
        have BW := Lib.hid (B0.out.trans (hb2.mono B0.out.size))
        have HF : Hid (∀ x0 x1 x2 x3, RdAns s (some (.neg q, r)) w (.returned (.tuple #[(K.mk 4 .empty 0 (some ⟨w2.heap.size + 1, 0, none⟩) 1 [k]).val, .int .i64 ((s.size - r.length : Nat) : Int)])) (((put4 w2 w.heap.size 0 x0 x1 x2 x3).alloc (.cells #[.int .i64 k.op, .string k.nm, .int .i64 k.day, .slice k.A k.ps.length k.cap] 24)).alloc (.cells #[.int .i64 k.op, .string k.nm, .int .i64 k.day, .slice k.A k.ps.length k.cap] 24))) := Lib.hid fun x0 x1 x2 x3 => neg_end rfl BW.out hq hwk hge B0.out.size (Nat.le_refl _) (by have := HZ.out; omega)
        clear hb2 hq hwk hge
        obtain ⟨t, ht⟩ : ∃ t : Nat, t = s.size - r.length := ⟨_, rfl⟩
        rw [← ht] at HF ⊢
        clear ht
        go_wp2_with fail
        obtain ⟨_, t0, t1, t2, t3, _⟩ := ((P2.out.put (.int .i64 4) (.string ⟨#[]⟩) (.int .i64 0) (.slice (some ⟨w2.heap.size + 1, 0, none⟩) 1 1)).alloc (.cells #[.int .i64 k.op, .string k.nm, .int .i64 k.day, .slice k.A k.ps.length k.cap] 24)).alloc (.cells #[.int .i64 k.op, .string k.nm, .int .i64 k.day, .slice k.A k.ps.length k.cap] 24)
        have hf := HF.out (.int .i64 4) (.string ⟨#[]⟩) (.int .i64 0) (.slice (some ⟨w2.heap.size + 1, 0, none⟩) 1 1)
        simp only [put4] at t0 t1 t2 t3 hf
        exact bodyPost_ret (v := .tuple #[(K.mk 4 .empty 0 (some ⟨w2.heap.size + 1, 0, none⟩) 1 [k]).val, .int .i64 (t : Int)]) (by simp [results, Tryd.results9, go_sem, t0, t1, t2, t3]; first | done | exact ⟨rfl, rfl, rfl, rfl, rfl, rfl⟩) rfl (by rw [HE.out]; exact hf)

end Go.Proofs.YthdiiocgemomoaaDoor.Cond
