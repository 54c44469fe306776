/-
  The names of the clauses, by the program.
-/
import Derived.Test.YtlionlbihmldlaaClPh
import Derived.Test.YtlionlbihmldlaaCRow
namespace Go.Proofs.Ytlionlbihmldlaa.Cl
open Go.RowKit Go.Proofs.Ytlionlbihmldlaa.Cond Go.Proofs.Ytlionlbihmldlaa.Gx Go.Proofs.Ytlionlbihmldlaa.NdI Go.Proofs.Ytlionlbihmldlaa.NdS Go.Proofs.Ytlionlbihmldlaa.SrtR
set_option linter.unusedVariables false
set_option linter.unusedSimpArgs false

theorem ownC_at {w : World} {S n cap : Nat} {A : Option Addr} {rs : List K} (h : OwnC w S (.slice A n cap) rs) : At w w.heap.size A rs := fun hp => by
  obtain ⟨g, e, _, hg, _⟩ := ownC_el h hp
  refine ⟨g, 0, e, hg, fun j hj => ?_⟩
  obtain ⟨g', e', _, _, hE⟩ := ownC_el h hj
  rw [e] at e'
  cases e'
  rw [Nat.zero_add]
  exact hE
theorem flat_nms_len : ∀ (cs : List C), (∀ c ∈ cs, c.size ≤ 15) → (cs.flatMap nms).length ≤ 15 * cs.length
  | [], _ => by simp
  | c :: cs, h => by
    have h1 := flat_nms_len cs (fun c hc => h c (by simp [hc]))
    have h2 := nms_len c
    have h3 := h c (by simp)
    simp only [List.flatMap_cons, List.length_append, List.length_cons]
    omega
theorem good_size {c : C} (h : c.good = true) : c.size ≤ 15 := by
  simp only [C.good, Bool.and_eq_true, decide_eq_true_eq] at h
  exact h.2
theorem cols_len {ks : List K} (h : ∀ k ∈ ks, k.cond.good = true) : (Lib.compact (srtT (cols (conds ks) ([], [])).1)).length ≤ 15 * ks.length := by
  rw [comp_nms]
  refine Nat.le_trans (UniTM.length_uni _ _) ?_
  rw [cols_nms]
  · have := flat_nms_len (conds ks) (fun c hc => by
      rw [conds_map] at hc
      obtain ⟨k, hk, rfl⟩ := List.mem_map.1 hc
      exact good_size (h k hk))
    rw [conds_map] at this ⊢
    simpa using this
  · intro c hc
    rw [conds_map] at hc
    obtain ⟨k, hk, rfl⟩ := List.mem_map.1 hc
    obtain ⟨q, hq, _, _⟩ := good_q (h k hk)
    exact ⟨q, hq⟩
theorem ownT_some {S : Nat} {w : World} {A : Option Addr} {n c : Nat} {D : List (List UInt8)} (h : UniT.Own w S (.slice A n c) D) (h0 : 0 < D.length) : ∃ g, A = some ⟨g, 0, none⟩ := by
  rcases h.2 with ⟨_, h2⟩ | ⟨g, c, cur, hv, hb, _⟩
  · omega
  · injection hv with h1 h2 h3
    exact ⟨g, h1⟩
theorem take_map_snoc {α β : Type} (f : α → β) {xs : List α} {k : Nat} (hk : k < xs.length) : (xs.take (k + 1)).map f = (xs.take k).map f ++ [f xs[k]] := by
  rw [List.take_succ_eq_append_getElem hk, List.map_append]; rfl

set_option maxRecDepth 100000 in
set_option maxHeartbeats 8000000 in
theorem namesOf (A2 : Option Addr) (n2 c2 : Nat) (ms : List M) (w : World) (h : LiR w w.heap.size A2 n2 c2 ms) (hl : n2 ≤ 12) (hg : ∀ m ∈ ms, m.k.cond.good = true) :
    Calls Try.prog 30 #[.slice A2 n2 c2] w (UniT.PutAns w.heap.size (Cl.names (ms.map M.cl)) w) := by
  obtain ⟨X, hX⟩ : ∃ X, X = w.alloc (.cells #[] 58) := ⟨_, rfl⟩
  have B0 : Below w.heap.size w X := by rw [hX]; exact below1 _ _
  have O0 : Hid (OwnC X w.heap.size (.slice (some ⟨w.heap.size, 0, none⟩) 0 0) []) := Lib.hid (by
    have := World.ownsRow_lit (base := w.heap.size) (e := 58) (size := 4) w #[] 0 (by simp) (by decide) (by simp)
    rw [hX]
    simpa [OwnC, cellsL] using this)
  have HL := Lib.hid h
  have HG := Lib.hid hg
  have HLN := Lib.hid h.len
  have HX := Lib.hid hX
  have HB := Lib.hid B0
  have hn9 : n2 ≤ 9223372036854775807 := by omega
  have HPU : Hid (Lib.compact (srtT (Lib.compact (srtT (cols (conds (ms.map M.k)) ([], [])).1) ++ ms.map fun m => m.act.toList)) = Cl.names (ms.map M.cl)) := Lib.hid (by
    rw [← names_pure]
    · rw [conds_map, List.map_map, List.map_map, List.map_map]
      rfl
    · intro x hx
      obtain ⟨m, hm, rfl⟩ := List.mem_map.1 hx
      exact hg m hm)
  clear h hg B0 hX
  go_enter Try.func30, Try.ntmps30
  go_wp2_with fail
  go_loopw [3, 13] (fun v i wr => ∃ (k : Nat) (a : Option Addr) (c : Nat) (rs : List K), k ≤ n2 ∧ v = .slice a rs.length c ∧ i = .int .i64 k ∧ Hid (rs = (ms.take k).map M.k) ∧ Hid (OwnC wr w.heap.size (.slice a rs.length c) rs) ∧ Hid (Below w.heap.size w wr)) (fun _ i _ => n2 - (intOf i).toNat)
  case atStart => exact ⟨0, _, 0, [], Nat.zero_le _, rfl, rfl, Lib.hid (by simp), by rw [← HX.out]; exact O0, by rw [← HX.out]; exact HB⟩
  case round =>
    clear O0 HX HB
    obtain ⟨k, a, c, rs, hk, rfl, rfl, HRS, HO, HB⟩ := hrel
    by_cases hlt : k < n2
    · have hk' : k < ms.length := by have := HLN.out; omega
      obtain ⟨b, o, e, hBb, hc⟩ := HL.out.at_ (by omega)
      obtain ⟨p, hp⟩ : ∃ p, p = ms[k] := ⟨_, rfl⟩
      have hE := (hc k hk').alike (HB.out.block b hBb)
      rw [← hp] at hE
      obtain ⟨c0, c1, c2', c3, c4, c5, c6, c7, c8, c9, c10, c11⟩ := e12 hE
      have hlen : rs.length ≤ 12 := by rw [HRS.out]; simp; omega
      have i0 : (0 : Int) ≤ (k : Int) := by omega
      have i1 : (k : Int) < (n2 : Int) := by omega
      obtain ⟨U, hU⟩ : ∃ U, U = (wr.alloc (.cells #[.string p.id, .int .i64 p.kind, .int .i64 p.party, .string p.act, .int .i64 p.other, .int .i64 p.amt, .int .i64 p.k.op, .string p.k.nm, .int .i64 p.k.day, .slice p.k.A p.k.ps.length p.k.cap, .int .i64 p.within, .string p.rep] 60)).alloc (.cells #[.int .i64 p.k.op, .string p.k.nm, .int .i64 p.k.day, .slice p.k.A p.k.ps.length p.k.cap] 58) := ⟨_, rfl⟩
      have hUb : Below wr.heap.size wr U := by rw [hU]; exact (below1 _ _).alloc (by simp) _
      have HUO : Hid (OwnC U w.heap.size (.slice a rs.length c) rs) := Lib.hid (ownC_on HO.out hUb)
      have HUE : Hid (Cond.El U (wr.heap.size + 1) 0 p.k) := Lib.hid (by
        have h4 := B4.new (wr.alloc (.cells #[.string p.id, .int .i64 p.kind, .int .i64 p.party, .string p.act, .int .i64 p.other, .int .i64 p.amt, .int .i64 p.k.op, .string p.k.nm, .int .i64 p.k.day, .slice p.k.A p.k.ps.length p.k.cap, .int .i64 p.within, .string p.rep] 60)) (.int .i64 p.k.op) (.string p.k.nm) (.int .i64 p.k.day) (.slice p.k.A p.k.ps.length p.k.cap) 58
        rw [World.size_alloc, ← hU] at h4
        exact ⟨by simpa using h4.c0, by simpa using h4.c1, by simpa using h4.c2, by simpa using h4.c3⟩)
      have HUB : Hid (Below w.heap.size w U) := Lib.hid (HB.out.trans (hUb.mono HB.out.size))
      have HUS : Hid (w.heap.size ≤ U.heap.size) := Lib.hid HUB.out.size
      have HRS2 : Hid (rs ++ [p.k] = (ms.take (k + 1)).map M.k) := Lib.hid (by rw [take_map_snoc M.k hk', ← hp, ← HRS.out])
      have HOWN : Hid (∀ a3 c3 w1, OwnC w1 w.heap.size (.slice a3 (rs.length + 1) c3) (rs ++ [p.k]) → U.grownBy w1 (Value.slice a rs.length c).ownBlock → Below w.heap.size w w1) := Lib.hid fun a3 c3 w1 _ hg => HUB.out.grown hg HUS.out (fun j e => (ownC_lt HUO.out e).1)
      have HUU := Lib.hid hU
      rw [e]
      clear hp hE hc hBb hU hUb e HB HO
      go_wp2_with (at_builtin; (try rw [← HUU.out]); refine wp_appC rfl _ _ rfl w.heap.size _ rs rfl HUO.out (wr.heap.size + 1) 1 p.k rfl HUE.out (by omega) HUS.out ?_; intro a3 c3 w3 hown hg hat; refine Hid.out ?_)
      refine Lib.hid ?_
      have HO3 := Lib.hid hown
      have HB3 := Lib.hid (HOWN.out a3 c3 w3 hown hg)
      have hl2 : rs.length + 1 = (rs ++ [p.k]).length := by simp
      rw [hl2] at HO3 ⊢
      clear hown hg hat hl2
      go_wp2_with fail
      go_roundw
      case rel => exact ⟨k + 1, a3, c3, rs ++ [p.k], by omega, rfl, by go_num, HRS2, HO3, HB3⟩
      case measure => simp [intOf]; omega
    · have HE : Hid (rs = ms.map M.k) := Lib.hid (by rw [HRS.out, List.take_of_length_le (by have := HLN.out; omega)])
      have HNA := Lib.hid (NdI.names a c rs wr (ownC_at HO.out) (fun p hp => by
        rw [HE.out] at hp
        obtain ⟨m, hm, rfl⟩ := List.mem_map.1 hp
        exact ((HL.out.all m hm).k.below HB.out).more HB.out.size) (by rw [HE.out]; have := HLN.out; simp; omega) (fun p hp => by
        rw [HE.out] at hp
        obtain ⟨m, hm, rfl⟩ := List.mem_map.1 hp
        exact good_size (HG.out m hm)))
      have HCL : Hid ((Lib.compact (srtT (cols (conds rs) ([], [])).1)).length ≤ 180) := Lib.hid (by
        have := cols_len (ks := rs) (fun p hp => by
          rw [HE.out] at hp
          obtain ⟨m, hm, rfl⟩ := List.mem_map.1 hp
          exact HG.out m hm)
        have h2 : rs.length = ms.length := by rw [HE.out]; simp
        have := HLN.out
        omega)
      obtain ⟨N0, hN0⟩ : ∃ N0, N0 = Lib.compact (srtT (cols (conds rs) ([], [])).1) := ⟨_, rfl⟩
      have HPV : Hid (Lib.compact (srtT (N0 ++ ms.map fun m => m.act.toList)) = Cl.names (ms.map M.cl)) := Lib.hid (by rw [hN0, HE.out]; exact HPU.out)
      rw [← hN0] at HCL
      have HN0 := Lib.hid hN0
      clear HPU hN0
      go_wp2_with (go_at_call 45; refine HNA.out.mono ?_; rintro e w4 ⟨g1, m1, q1, g2, m2, q2, rfl, hnd⟩; refine Hid.out ?_)
      refine Lib.hid ?_
      have HM1 : Hid (m1 = N0.length) := Lib.hid (by rw [HN0.out]; exact hnd.l1)
      have HO4 : Hid (UniT.Own w4 w.heap.size (.slice (some ⟨g1, 0, none⟩) m1 q1) N0) := Lib.hid (by
        have h1 := hnd.o1
        rw [← HN0.out] at h1
        rcases h1.2 with h2 | ⟨g, cap, cur, hv, hg, r⟩
        · exact ⟨h1.1, .inl h2⟩
        · exact ⟨h1.1, .inr ⟨g, cap, cur, hv, Nat.le_trans HB.out.size hg, r⟩⟩)
      have HB4 := Lib.hid (HB.out.trans (hnd.bel.mono HB.out.size))
      clear hnd HN0 HE HNA HRS HO HB
      go_wp2_with fail
      go_loopw [6, 30] (fun v i wr => ∃ (k g n c : Nat) (zs : List (List UInt8)), k ≤ n2 ∧ v = .slice (some ⟨g, 0, none⟩) n c ∧ i = .int .i64 k ∧ Hid (n = zs.length) ∧ Hid (zs = N0 ++ (ms.take k).map fun m => m.act.toList) ∧ Hid (UniT.Own wr w.heap.size (.slice (some ⟨g, 0, none⟩) n c) zs) ∧ Hid (Below w.heap.size w wr)) (fun _ i _ => n2 - (intOf i).toNat)
      case atStart => exact ⟨0, g1, m1, q1, N0, Nat.zero_le _, rfl, rfl, HM1, Lib.hid (by simp), HO4, HB4⟩
      case round =>
        clear HM1 HO4 HB4
        obtain ⟨k, g, n, c, zs, hk, rfl, rfl, HN, HZ, HO, HB⟩ := hrel
        have hzl : zs.length ≤ 192 := by rw [HZ.out]; have := HCL.out; simp; omega
        by_cases hlt : k < n2
        · have hk' : k < ms.length := by have := HLN.out; omega
          obtain ⟨b, o, e, hBb, hc⟩ := HL.out.at_ (by omega)
          obtain ⟨p, hp⟩ : ∃ p, p = ms[k] := ⟨_, rfl⟩
          have hE := (hc k hk').alike (HB.out.block b hBb)
          rw [← hp] at hE
          obtain ⟨c0, c1, c2', c3, c4, c5, c6, c7, c8, c9, c10, c11⟩ := e12 hE
          have i0 : (0 : Int) ≤ (k : Int) := by omega
          have i1 : (k : Int) < (n2 : Int) := by omega
          obtain ⟨U, hU⟩ : ∃ U, U = (wr.alloc (.cells #[.string p.id, .int .i64 p.kind, .int .i64 p.party, .string p.act, .int .i64 p.other, .int .i64 p.amt, .int .i64 p.k.op, .string p.k.nm, .int .i64 p.k.day, .slice p.k.A p.k.ps.length p.k.cap, .int .i64 p.within, .string p.rep] 60)).alloc (.cells #[.string p.act] 9) := ⟨_, rfl⟩
          have hUb : Below wr.heap.size wr U := by rw [hU]; exact (below1 _ _).alloc (by simp) _
          have HUO : Hid (UniT.Own U w.heap.size (.slice (some ⟨g, 0, none⟩) n c) zs) := Lib.hid (own_on HO.out hUb)
          have HUE : Hid (UniT.Is U U.heap.size (some ⟨wr.heap.size + 1, 0, none⟩) [p.act.toList]) := Lib.hid (by
            have h4 := (UniT.Lq.new (wr.alloc (.cells #[.string p.id, .int .i64 p.kind, .int .i64 p.party, .string p.act, .int .i64 p.other, .int .i64 p.amt, .int .i64 p.k.op, .string p.k.nm, .int .i64 p.k.day, .slice p.k.A p.k.ps.length p.k.cap, .int .i64 p.within, .string p.rep] 60)) p.act.toList).is
            rw [← NdI.str_enc, ← hU, World.size_alloc] at h4
            exact h4)
          have HUB : Hid (Below w.heap.size w U) := Lib.hid (HB.out.trans (hUb.mono HB.out.size))
          have HUS : Hid (w.heap.size ≤ U.heap.size) := Lib.hid HUB.out.size
          have HZ2 : Hid (zs ++ [p.act.toList] = N0 ++ (ms.take (k + 1)).map fun m => m.act.toList) := Lib.hid (by rw [take_map_snoc _ hk', ← hp, HZ.out, List.append_assoc])
          have HOWN : Hid (∀ w1, U.grownBy w1 (Value.slice (some ⟨g, 0, none⟩) n c).ownBlock → Below w.heap.size w w1) := Lib.hid fun w1 hg => HUB.out.grown hg HUS.out (UniT.own_block HUO.out)
          have HUU := Lib.hid hU
          rw [e]
          clear hp hE hc hBb hU hUb e HB HO HZ
          go_wp2_with (at_builtin; (try rw [← HUU.out]); refine UniT.wp_app rfl _ _ rfl w.heap.size _ zs rfl HUO.out (some ⟨wr.heap.size + 1, 0, none⟩) 1 1 U.heap.size [p.act.toList] rfl rfl HUE.out (fun e => by cases e) (by omega) HUS.out ?_; intro a3 c3 w3 hown hg hat; refine Hid.out ?_)
          refine Lib.hid ?_
          obtain ⟨g3, rfl⟩ := ownT_some hown (by simp)
          have HO3 := Lib.hid hown
          have HB3 := Lib.hid (HOWN.out w3 hg)
          have HN3 : Hid (zs.length + 1 = (zs ++ [p.act.toList]).length) := Lib.hid (by simp)
          clear hown hg hat
          go_wp2_with fail
          go_roundw
          case rel => exact ⟨k + 1, g3, zs.length + 1, c3, zs ++ [p.act.toList], by omega, rfl, by go_num, HN3, HZ2, HO3, HB3⟩
          case measure => simp [intOf]; omega
        · have HZE : Hid (zs = N0 ++ ms.map fun m => m.act.toList) := Lib.hid (by rw [HZ.out, List.take_of_length_le (by have := HLN.out; omega)])
          have hle : n ≤ 5000 := by have := HN.out; omega
          have HSO := Lib.hid (sortT wr w.heap.size g n c zs HN.out hle HO.out)
          have HL1 : Hid ((srtT zs).length = zs.length) := Lib.hid (List.length_mergeSort _)
          have HGE : Hid (w.heap.size ≤ g) := Lib.hid (UniT.own_block HO.out g rfl)
          clear HZ HO
          go_wp2_with (go_at_call 46; refine HSO.out.mono ?_; rintro e w5 ⟨rfl, ho5, hg5⟩; refine Hid.out ?_)
          refine Lib.hid ?_
          have HB5 := Lib.hid (below_grown HB.out hg5 HB.out.size HGE.out)
          have HC5 := Lib.hid (compT w5 w.heap.size g n c (srtT zs) (by rw [HL1.out]; exact HN.out) hle ho5)
          clear ho5 hg5 HSO
          go_wp2_with (go_at_call 47; refine HC5.out.mono ?_; rintro e w6 ⟨m6, hm6, rfl, ho6, hg6⟩; have HM6 := Lib.hid hm6; have HO6 := Lib.hid ho6; have HG6 := Lib.hid hg6; clear hm6 ho6 hg6)
          go_ret
          refine ⟨g, m6, c, ?_, rfl, ?_, below_grown HB5.out HG6.out HB5.out.size HGE.out⟩
          · rw [← HPV.out, ← HZE.out]; exact HM6.out
          · rw [← HPV.out, ← HZE.out]; exact HO6.out

end Go.Proofs.Ytlionlbihmldlaa.Cl
