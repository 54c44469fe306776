/-
  simplify of the program.
-/
import Derived.Test.YtmgjeplbhnfakaaGreatDoorSmJ
import Derived.Test.YtmgjeplbhnfakaaGreatDoorSmR
namespace Go.Proofs.YtmgjeplbhnfakaaGreatDoor.Cond
open Go.RowKit
set_option linter.unusedVariables false
set_option linter.unusedSimpArgs false

def Q.parts : Q → List Q | .neg a => [a] | .and a b => [a, b] | .or a b => [a, b] | _ => []
theorem parts_c (q : Q) : ∃ op nm day, q.c = .mk op nm day (q.parts.map Q.c) := by cases q <;> exact ⟨_, _, _, rfl⟩
theorem parts_size (q : Q) : ∀ p ∈ q.parts, p.size < q.size := by
  cases q <;> simp [Q.parts, Q.size] <;> omega
theorem pairz (an : Bool) (a b : Q) : (pairQ an a b).size ≤ 1 + (a.size + b.size) := by
  unfold pairQ
  repeat' split
  all_goals first | omega | (simp only [Q.size]; omega)
theorem smpz (q : Q) : (smp q).size ≤ q.size := by
  induction q with
  | tru => exact Nat.le_refl _
  | fact s => exact Nat.le_refl _
  | frm d => simp only [smp]; split <;> simp [Q.size]
  | neg a ih =>
    have : (negQ (smp a)).size ≤ 1 + (smp a).size := by
      generalize smp a = b
      cases b <;> simp [negQ, Q.size] <;> omega
    simp only [smp, Q.size]; omega
  | and a b iha ihb => have := pairz true (smp a) (smp b); simp only [smp, Q.size]; omega
  | or a b iha ihb => have := pairz false (smp a) (smp b); simp only [smp, Q.size]; omega
theorem parts_len (q : Q) : q.parts.length ≤ 2 := by cases q <;> simp [Q.parts]

set_option maxRecDepth 100000 in
set_option maxHeartbeats 16000000 in
theorem simplifyN : ∀ (N : Nat), N ≤ 2000000 → ∀ (q : Q), q.size ≤ N → ∀ (k : K) (w : World), k.cond = q.c → Lies w w.heap.size k → Calls Tryz.prog 22 #[k.val] w (Res w.heap.size (smp q) w) := by
  intro N
  induction N with
  | zero => intro _ q hq; exfalso; cases q <;> simp [Q.size] at hq
  | succ N ih =>
    intro hN2 q hq k w hk hin
    have HQS : Hid (q.size ≤ 2000000) := Lib.hid (by omega)
    replace ih := ih (by omega)
    clear hN2
    cases k with
    | mk op nm day A0 cap0 ps =>
      have hcc : conds ps = q.parts.map Q.c := by
        obtain ⟨o', n', d', e⟩ := parts_c q
        rw [e] at hk
        simp only [K.cond, C.mk.injEq] at hk
        exact hk.2.2.2
      have hlen : ps.length = q.parts.length := by rw [← conds_len ps, hcc, List.length_map]
      have HC : Hid (C.mk op nm day (conds ps) = q.c) := Lib.hid hk
      have hz := hin.sz
      have IH : Hid (∀ j, ∀ h : j < ps.length, ∀ h2 : j < q.parts.length, ∀ v, Below w.heap.size w v → Calls Tryz.prog 22 #[ps[j].val] v (Res v.heap.size (smp q.parts[j]) v)) := Lib.hid fun j h h2 v hb => by
        refine ih q.parts[j] ?_ ps[j] v ?_ ((hin.part (List.getElem_mem h)).on hb)
        · have := parts_size q q.parts[j] (List.getElem_mem h2); omega
        · have e : (conds ps)[j]'(by rw [conds_len]; exact h) = ps[j].cond := by simp [conds_map]
          rw [← e]; simp [hcc]
      have HA := Lib.hid hin.at
      have hnm := Lib.hid hz.1
      obtain ⟨n, hn⟩ : ∃ n, n = ps.length := ⟨_, rfl⟩
      have HN := Lib.hid hn
      have HNQ : Hid (n = q.parts.length) := Lib.hid (by rw [hn, hlen])
      have hn2 : n ≤ 2 := by have := parts_len q; rw [hn, hlen]; exact this
      show Calls Tryz.prog 22 #[.agg #[.int .i64 op, .string nm, .int .i64 day, .slice A0 ps.length cap0]] w (Res w.heap.size (smp q) w)
      rw [← hn]
      obtain ⟨X, hX⟩ : ∃ X, X = (w.alloc (.cells #[.int .i64 op, .string nm, .int .i64 day, .slice A0 n cap0] 26)).alloc (.cells #[.int .i64 0, .string ⟨#[]⟩, .int .i64 0, .slice none 0 0] 26) := ⟨_, rfl⟩
      have B0 : Hid (Below w.heap.size w X) := Lib.hid (by rw [hX]; exact (below1 _ _).alloc (by simp) _)
      have HZ : Hid (X.heap.size = w.heap.size + 1 + 1) := Lib.hid (by rw [hX]; simp)
      have X0 : Hid (B4 w.heap.size X (.int .i64 op) (.string nm) (.int .i64 day) (.slice A0 n cap0)) := Lib.hid (by rw [hX]; exact (B4.new _ _ _ _ _ _).alloc _)
      have Y0 : Hid (B4 (w.heap.size + 1) X (.int .i64 0) (.string ⟨#[]⟩) (.int .i64 0) (.slice none 0 0)) := Lib.hid (by rw [hX]; have := B4.new (w.alloc (.cells #[.int .i64 op, .string nm, .int .i64 day, .slice A0 n cap0] 26)) (.int .i64 0) (.string ⟨#[]⟩) (.int .i64 0) (.slice none 0 0) 26; simpa using this)
      have HX := Lib.hid hX
      clear hX hn hlen hcc hz hin hk ih hq
      go_enter Tryz.func22, Tryz.ntmps22
      go_wp2_with fail
      go_loopw [3, 9] (fun v i wr => ∃ (j : Nat) (A : Option Addr) (cap : Nat), j ≤ n ∧ i = .int .i64 j ∧ v = .slice A j cap ∧ Hid (∃ rs : List K, rs.length = j ∧ Pts X wr (.slice A j cap) rs ∧ rs.map K.cond = (q.parts.take j).map fun a => (smp a).c)) (fun _ i _ => n - (intOf i).toNat)
      case atStart => exact ⟨0, none, 0, Nat.zero_le _, rfl, rfl, by rw [← HX.out]; exact Lib.hid ⟨[], rfl, Pts.start _, rfl⟩⟩
      case round =>
        obtain ⟨j, A, cap, hj, rfl, rfl, HR⟩ := hrel
        obtain ⟨rs, hrl, hpt, hrc⟩ := HR.out
        clear HR
        by_cases hlt : j < n
        · subst hrl
          have hj1 : rs.length < ps.length := by have := HN.out; omega
          have hj2 : rs.length < q.parts.length := by have := HNQ.out; omega
          have HBW := Lib.hid (B0.out.trans (hpt.bel.mono B0.out.size))
          obtain ⟨b, o, rfl, hBb, hc⟩ := HA.out (by omega)
          obtain ⟨p, hp⟩ : ∃ p, p = ps[rs.length] := ⟨_, rfl⟩
          have hE := (hc rs.length hj1).alike (HBW.out.block b hBb)
          rw [← hp] at hE
          obtain ⟨c0, c1, c2, c3⟩ := hE
          have hbs := HBW.out.size
          have l1 : b < wr.heap.size := by omega
          have IHp : Hid (∀ x, Calls Tryz.prog 22 #[p.val] (wr.alloc x) (Res (wr.alloc x).heap.size (smp q.parts[rs.length]) (wr.alloc x))) := Lib.hid fun x => by
            rw [hp]
            exact IH.out _ hj1 hj2 _ (HBW.out.alloc (by omega) x)
          obtain ⟨qr, hqr⟩ : ∃ qr, qr = smp q.parts[rs.length] := ⟨_, rfl⟩
          rw [← hqr] at IHp
          have HQR : Hid ((q.parts.take (rs.length + 1)).map (fun a => (smp a).c) = (q.parts.take rs.length).map (fun a => (smp a).c) ++ [qr.c]) := Lib.hid (by
            rw [List.take_succ_eq_append_getElem hj2, List.map_append, hqr]; rfl)
          have HPT := Lib.hid hpt
          have HRC := Lib.hid hrc
          have i0 : (0 : Int) ≤ (rs.length : Int) := by omega
          have i1 : (rs.length : Int) < (n : Int) := by omega
          clear hpt hrc hqr hp hc
          go_wp2_with (go_at_call 22; refine (IHp.out _).mono ?_; rintro e w2 ⟨r, rfl, hr, hwr, hge, hb2⟩; refine Hid.out ?_)
          refine Lib.hid ?_
          have hb1 : Below wr.heap.size wr w2 := (below1 wr (.cells #[.int .i64 p.op, .string p.nm, .int .i64 p.day, .slice p.A p.ps.length p.cap] 26)).trans (hb2.mono (by simp))
          obtain ⟨u, hu⟩ : ∃ u, u = w2.alloc (.cells #[.int .i64 r.op, .string r.nm, .int .i64 r.day, .slice r.A r.ps.length r.cap] 26) := ⟨_, rfl⟩
          have hbu : Below w2.heap.size w2 u := by rw [hu]; exact below1 _ _
          have HE : Hid (El u w2.heap.size 0 r) := Lib.hid (by rw [hu]; obtain ⟨_, h0, h1, h2, h3, _⟩ := B4.new w2 (.int .i64 r.op) (.string r.nm) (.int .i64 r.day) (.slice r.A r.ps.length r.cap) 26; exact ⟨h0, h1, h2, h3⟩)
          have HB3 := Lib.hid (hb1.trans (hbu.mono hb1.size))
          have HOW : Hid (OwnC u X.heap.size (.slice A rs.length cap) rs) := Lib.hid (ownC_on HPT.out.own HB3.out)
          have HSX : Hid (X.heap.size ≤ u.heap.size) := Lib.hid (by have := HPT.out.bel.size; have := HB3.out.size; omega)
          have HWR := Lib.hid (hwr.on hbu)
          have HGE : Hid (∀ x ∈ r.blocks, wr.heap.size ≤ x) := Lib.hid fun x hx => by have := hge x hx; simp at this; omega
          have HRR := Lib.hid hr
          have HU := Lib.hid hu
          clear hb1 hbu hu hwr hge hr hb2 c0 c1 c2 c3
          go_wp2_with (at_builtin; (try rw [← HU.out]); refine wp_appC rfl _ _ rfl X.heap.size _ rs rfl HOW.out w2.heap.size 1 r rfl HE.out (by omega) HSX.out ?_; intro a3 c3 w3 hown hg hat; refine Hid.out ?_)
          refine Lib.hid ?_
          have HP2 : Hid (Pts X w3 (.slice a3 (rs.length + 1) c3) (rs ++ [r])) := Lib.hid (HPT.out.app HB3.out HWR.out HGE.out hown hg hat)
          have HM : Hid ((rs ++ [r]).map K.cond = (q.parts.take (rs.length + 1)).map fun a => (smp a).c) := Lib.hid (by rw [List.map_append, HRC.out, HQR.out, ← HRR.out]; rfl)
          clear hown hg hat
          go_wp2_with fail
          go_roundw
          all_goals first
            | exact ⟨rs.length + 1, a3, c3, by omega, by go_num, rfl, Lib.hid ⟨rs ++ [r], by simp, HP2.out, HM.out⟩⟩
            | (simp [intOf]; omega)
        · obtain rfl : n = j := by omega
          have hmap : rs.map K.cond = q.parts.map fun a => (smp a).c := by
            have e : q.parts.take n = q.parts := by rw [HNQ.out]; exact List.take_length
            rw [e] at hrc; exact hrc
          obtain ⟨hwh, hgeX⟩ := hpt.whole hrl.symm op nm day hnm.out
          have hz := HZ.out
          have HBW := Lib.hid (B0.out.trans (hpt.bel.mono B0.out.size))
          have XW := X0.out.on hpt.bel
          have YW := Y0.out.on hpt.bel
          obtain ⟨U, hU⟩ : ∃ U, U = wr.setCell ⟨w.heap.size, 3, none⟩ (.slice A n cap) := ⟨_, rfl⟩
          have YU : Hid (B4 (w.heap.size + 1) U (.int .i64 0) (.string ⟨#[]⟩) (.int .i64 0) (.slice none 0 0)) := Lib.hid (by rw [hU]; exact YW.far (by simp) _)
          have XU : Hid (B4 w.heap.size U (.int .i64 op) (.string nm) (.int .i64 day) (.slice A n cap)) := Lib.hid (by rw [hU]; exact XW.set3 _)
          have BU : Hid (Below w.heap.size w U) := Lib.hid (by rw [hU]; exact HBW.out.setCell (p := ⟨w.heap.size, 3, none⟩) (by simp) _)
          have hUs : U.heap.size = wr.heap.size := by rw [hU]; simp
          have KB : ∀ b, X.heap.size ≤ b → U.heap[b]? = wr.heap[b]? := fun b hb => by rw [hU]; exact Below.heap_setCell _ _ _ _ (by simp; omega)
          have WU : Wr U (.mk op nm day A cap rs) := hwh.same (fun b hb => KB b (hgeX b hb)) (by omega)
          have WP : ∀ r ∈ rs, Wr U r ∧ ∀ x ∈ r.blocks, X.heap.size ≤ x := fun r hr => ⟨(hpt.wr r hr).same (fun b hb => KB b (hgeX b (part_blocks hr hb))) (by omega), fun x hx => hgeX x (part_blocks hr hx)⟩
          have HE1 : Hid (∀ (q' : Q) x0 x1 x2 x3, (K.mk op nm day A cap rs).cond = q'.c → Res w.heap.size q' w (.returned (.agg #[.int .i64 op, .string nm, .int .i64 day, .slice A n cap])) (put4 U (w.heap.size + 1) 0 x0 x1 x2 x3)) := Lib.hid fun q' x0 x1 x2 x3 h => by
            have e : (K.mk op nm day A cap rs).val = .agg #[.int .i64 op, .string nm, .int .i64 day, .slice A n cap] := by rw [← hrl]; rfl
            rw [← e]
            exact res_b4 BU.out h WU (fun x hx => by have := hgeX x hx; omega) (fun h => by have := hgeX _ h; omega) (by omega)
          have HEL : Hid (∀ i, ∀ h : i < rs.length, ∃ g, A = some ⟨g, 0, none⟩ ∧ X.heap.size ≤ g ∧ g < wr.heap.size ∧ El wr g (i * 4) rs[i]) := Lib.hid fun i h => ownC_el hpt.own h
          have HNIL := Lib.hid hpt.nil
          have HRL := Lib.hid hrl
          have HPW := Lib.hid hpt.wr
          have hXle := hpt.bel.size
          have HUU := Lib.hid hU
          have HKB := Lib.hid KB
          have HWU := Lib.hid WU
          have HWP := Lib.hid WP
          have HGX := Lib.hid hgeX
          have HMAP := Lib.hid hmap
          have hc := HC.out
          have hs1 : w.heap.size < wr.heap.size := by omega
          have hs2 : w.heap.size + 1 < wr.heap.size := by omega
          have hs3 : X.heap.size ≤ U.heap.size := by omega
          obtain ⟨_, x0, x1, x2, x3, xf⟩ := XW
          have xf3 := xf 3
          obtain ⟨_, y0, y1, y2, y3, yf⟩ := YW
          have yf0 := yf 0
          have yf1 := yf 1
          have yf2 := yf 2
          have yf3 := yf 3
          clear hrl hlt xf yf hU KB WU WP hgeX hwh hmap hrc hpt hUs
          cases q with
          | tru =>
            simp only [Q.c, C.mk.injEq] at hc
            obtain ⟨rfl, rfl, rfl, _⟩ := hc
            obtain rfl : n = 0 := HNQ.out
            have hl0 : rs = [] := List.eq_nil_of_length_eq_zero HRL.out
            clear HC HNQ HN HNIL HA hnm HPW HEL
            have HS : Hid (smp .tru = .tru) := Lib.hid (by rfl)
            have HF := Lib.hid (HE1.out (.tru) (.int .i64 1) (.string .empty) (.int .i64 0) (.slice A 0 cap) (by rw [hl0]; rfl))
            go_wp2_with fail
            obtain ⟨_, t0, t1, t2, t3, _⟩ := YU.out.put (.int .i64 1) (.string .empty) (.int .i64 0) (.slice A 0 cap)
            have hf := HF.out
            rw [HUU.out] at t0 t1 t2 t3 hf
            simp only [put4] at t0 t1 t2 t3 hf
            exact bodyPost_ret (v := .agg #[.int .i64 1, .string .empty, .int .i64 0, .slice A 0 cap]) (by simp [results, Tryz.results22, go_sem, t0, t1, t2, t3]) rfl (by rw [HS.out]; exact hf)
          | fact s =>
            simp only [Q.c, C.mk.injEq] at hc
            obtain ⟨rfl, rfl, rfl, _⟩ := hc
            obtain rfl : n = 0 := HNQ.out
            have hl0 : rs = [] := List.eq_nil_of_length_eq_zero HRL.out
            clear HC HNQ HN HNIL HA hnm HPW HEL
            have HS : Hid (smp (.fact nm) = .fact nm) := Lib.hid (by rfl)
            have HF := Lib.hid (HE1.out (.fact nm) (.int .i64 2) (.string nm) (.int .i64 0) (.slice A 0 cap) (by rw [hl0]; rfl))
            go_wp2_with fail
            obtain ⟨_, t0, t1, t2, t3, _⟩ := YU.out.put (.int .i64 2) (.string nm) (.int .i64 0) (.slice A 0 cap)
            have hf := HF.out
            rw [HUU.out] at t0 t1 t2 t3 hf
            simp only [put4] at t0 t1 t2 t3 hf
            exact bodyPost_ret (v := .agg #[.int .i64 2, .string nm, .int .i64 0, .slice A 0 cap]) (by simp [results, Tryz.results22, go_sem, t0, t1, t2, t3]) rfl (by rw [HS.out]; exact hf)
          | frm d =>
            simp only [Q.c, C.mk.injEq] at hc
            obtain ⟨rfl, rfl, rfl, _⟩ := hc
            obtain rfl : n = 0 := HNQ.out
            have hl0 : rs = [] := List.eq_nil_of_length_eq_zero HRL.out
            clear HC HNQ HN HNIL HA hnm HPW HEL
            by_cases h0 : day = 0
            · subst h0
              have HS : Hid (smp (.frm 0) = .tru) := Lib.hid (by simp [smp])
              have HF : Hid (∀ x0 x1 x2 x3, Res w.heap.size .tru w (.returned (.agg #[.int .i64 1, .string ⟨#[]⟩, .int .i64 0, .slice none 0 0])) (put4 U (w.heap.size + 1) 0 x0 x1 x2 x3)) := Lib.hid fun x0 x1 x2 x3 => res_b4 (r := .mk 1 .empty 0 none 0 []) BU.out rfl (wr_none 1 .empty 0 (by simp [maxLen])) (by simp [K.blocks, blocks]) (by simp [K.blocks, blocks]) (by omega)
              go_wp2_with fail
              obtain ⟨_, t0, t1, t2, t3, _⟩ := YU.out.put (.int .i64 1) (.string ⟨#[]⟩) (.int .i64 0) (.slice none 0 0)
              have hf := HF.out (.int .i64 1) (.string ⟨#[]⟩) (.int .i64 0) (.slice none 0 0)
              rw [HUU.out] at t0 t1 t2 t3 hf
              simp only [put4] at t0 t1 t2 t3 hf
              exact bodyPost_ret (v := .agg #[.int .i64 1, .string ⟨#[]⟩, .int .i64 0, .slice none 0 0]) (by simp [results, Tryz.results22, go_sem, t0, t1, t2, t3]) rfl (by rw [HS.out]; exact hf)
            · skip
              have HS : Hid (smp (.frm day) = .frm day) := Lib.hid (by simp only [smp, if_neg h0])
              have HF := Lib.hid (HE1.out (.frm day) (.int .i64 3) (.string .empty) (.int .i64 day) (.slice A 0 cap) (by rw [hl0]; rfl))
              go_wp2_with fail
              obtain ⟨_, t0, t1, t2, t3, _⟩ := YU.out.put (.int .i64 3) (.string .empty) (.int .i64 day) (.slice A 0 cap)
              have hf := HF.out
              rw [HUU.out] at t0 t1 t2 t3 hf
              simp only [put4] at t0 t1 t2 t3 hf
              exact bodyPost_ret (v := .agg #[.int .i64 3, .string .empty, .int .i64 day, .slice A 0 cap]) (by simp [results, Tryz.results22, go_sem, t0, t1, t2, t3]) rfl (by rw [HS.out]; exact hf)
          | neg a =>
            simp only [Q.c, C.mk.injEq] at hc
            obtain ⟨rfl, rfl, rfl, _⟩ := hc
            obtain rfl : n = 1 := HNQ.out
            obtain ⟨r, rfl, hr⟩ : ∃ r, rs = [r] ∧ r.cond = (smp a).c := by
              have hm := HMAP.out
              have hl := HRL.out
              match rs, hl, hm with
              | [r], _, hm => exact ⟨r, rfl, by simpa [Q.parts] using hm⟩
            obtain ⟨g, rfl, hgX, hgl, hE⟩ := HEL.out 0 (by simp)
            obtain ⟨hwU, hgr⟩ := HWP.out r (by simp)
            have hrl := HPW.out r (by simp)
            obtain ⟨d0, d1, d2, d3⟩ : El wr g 0 r := by simpa using hE
            have n1 : ¬ g = w.heap.size := by omega
            have n2 : ¬ w.heap.size = g := by omega
            clear HC HNQ HN HNIL HA hnm HPW HEL HWP hE HMAP
            obtain ⟨qa, hqa⟩ : ∃ x, x = smp a := ⟨_, rfl⟩
            rw [← hqa] at hr
            have HQA := Lib.hid hqa
            clear hqa
            by_cases h4 : ∃ c, qa = .neg c
            · obtain ⟨c, rfl⟩ := h4
              obtain ⟨rA, rc, rp, rfl, hrp⟩ := K.one hr
              obtain ⟨b', o', rfl, hb', hE'⟩ := One' (⟨hrl.has, hrl.lt⟩ : Lies wr wr.heap.size _)
              obtain ⟨f0, f1, f2, f3⟩ := hE'
              have hb'X : X.heap.size ≤ b' := hgr b' (by simp [K.blocks])
              have n3 : ¬ b' = w.heap.size := by omega
              have n4 : ¬ w.heap.size = b' := by omega
              have HF : Hid (∀ x0 x1 x2 x3, Res w.heap.size c w (.returned rp.val) (put4 U (w.heap.size + 1) 0 x0 x1 x2 x3)) := Lib.hid fun x0 x1 x2 x3 => res_b4 BU.out hrp hwU.part (fun x hx => by have := hgr x (part_blocks (by simp) hx); omega) (fun h => by have := hgr _ (part_blocks (by simp) h); omega) (by omega)
              have HS : Hid (smp (.neg a) = c) := Lib.hid (by show negQ (smp a) = c; rw [← HQA.out]; rfl)
              simp only [mk_op, mk_nm, mk_day, mk_A, mk_cap, mk_ps, List.length_cons, List.length_nil, Nat.zero_add] at d0 d1 d2 d3
              clear hr hrl hwU hgr hrp HE1 HWU HGX HKB
              go_wp2_with fail
              obtain ⟨_, t0, t1, t2, t3, _⟩ := YU.out.put (.int .i64 rp.op) (.string rp.nm) (.int .i64 rp.day) (.slice rp.A rp.ps.length rp.cap)
              have hf := HF.out (.int .i64 rp.op) (.string rp.nm) (.int .i64 rp.day) (.slice rp.A rp.ps.length rp.cap)
              rw [HUU.out] at t0 t1 t2 t3 hf
              simp only [put4] at t0 t1 t2 t3 hf
              exact bodyPost_ret (v := rp.val) (by simp [results, Tryz.results22, go_sem, t0, t1, t2, t3]) rfl (by rw [HS.out]; exact hf)
            · have hop := op_is hr
              have h5 : ¬ r.op = 4 := by rw [hop]; cases qa <;> simp [opQ] at h4 ⊢
              have HRR := Lib.hid hr
              clear hrl hwU hgr hop hr HWU HGX HKB
              have HS : Hid (smp (.neg a) = .neg qa) := Lib.hid (by show negQ (smp a) = _; rw [← HQA.out]; cases qa <;> first | rfl | exact absurd ⟨_, rfl⟩ h4)
              have HF := Lib.hid (HE1.out (.neg qa) (.int .i64 4) (.string .empty) (.int .i64 0) (.slice (some ⟨g, 0, none⟩) 1 cap) (by simp only [K.cond, conds, Q.c, HRR.out]))
              go_wp2_with fail
              obtain ⟨_, t0, t1, t2, t3, _⟩ := YU.out.put (.int .i64 4) (.string .empty) (.int .i64 0) (.slice (some ⟨g, 0, none⟩) 1 cap)
              have hf := HF.out
              rw [HUU.out] at t0 t1 t2 t3 hf
              simp only [put4] at t0 t1 t2 t3 hf
              exact bodyPost_ret (v := .agg #[.int .i64 4, .string .empty, .int .i64 0, .slice (some ⟨g, 0, none⟩) 1 cap]) (by simp [results, Tryz.results22, go_sem, t0, t1, t2, t3]) rfl (by rw [HS.out]; exact hf)
          | and a b =>
            simp only [Q.c, C.mk.injEq] at hc
            obtain ⟨rfl, rfl, rfl, _⟩ := hc
            obtain rfl : n = 2 := HNQ.out
            obtain ⟨ra, rb, rfl, hra, hrb⟩ : ∃ ra rb, rs = [ra, rb] ∧ ra.cond = (smp a).c ∧ rb.cond = (smp b).c := by
              have hm := HMAP.out
              have hl := HRL.out
              match rs, hl, hm with
              | [ra, rb], _, hm =>
                simp only [Q.parts, List.map_cons, List.map_nil, List.cons.injEq, and_true] at hm
                exact ⟨ra, rb, rfl, hm.1, hm.2⟩
            have HSA := Lib.hid (simplifyAnd (smp a) (smp b) ra rb A cap X.heap.size U (by have h1 := HQS.out; have h2 := smpz a; rw [Q.size_c]; simp only [Q.size] at h1; omega) hra hrb HWU.out HGX.out hs3)
            have HS : Hid (smp (.and a b) = pairQ true (smp a) (smp b)) := Lib.hid rfl
            have HF : Hid (∀ u r x0 x1 x2 x3, Below U.heap.size U u → r.cond = (pairQ true (smp a) (smp b)).c → Wr u r → (∀ x ∈ r.blocks, X.heap.size ≤ x) → Res w.heap.size (pairQ true (smp a) (smp b)) w (.returned r.val) (put4 u (w.heap.size + 1) 0 x0 x1 x2 x3)) := Lib.hid fun u r x0 x1 x2 x3 hu hr hwr hge => res_b4 (BU.out.trans (hu.mono BU.out.size)) hr hwr (fun x hx => by have := hge x hx; omega) (fun h => by have := hge _ h; omega) (by omega)
            clear HC HNQ HN HNIL HA hnm HPW HEL HWP HMAP HE1 HWU HGX HKB hra hrb
            go_wp2_with (go_at_call 42; (try rw [← HUU.out]); refine HSA.out.mono ?_; rintro e w5 ⟨r, rfl, hr, hwr, hge, hb5⟩; refine Hid.out ?_)
            refine Lib.hid ?_
            have HFF := Lib.hid (fun x0 x1 x2 x3 => HF.out w5 r x0 x1 x2 x3 hb5 hr hwr hge)
            have Y5 := Lib.hid (YU.out.on hb5)
            clear y0 y1 y2 y3 yf0 yf1 yf2 yf3 x0 x1 x2 x3 xf3 hr hwr hge hb5
            obtain ⟨_, y0, y1, y2, y3, yf⟩ := Y5.out
            have yf0 := yf 0
            have yf1 := yf 1
            have yf2 := yf 2
            have yf3 := yf 3
            clear yf
            go_wp2_with fail
            obtain ⟨_, t0, t1, t2, t3, _⟩ := Y5.out.put (.int .i64 r.op) (.string r.nm) (.int .i64 r.day) (.slice r.A r.ps.length r.cap)
            simp only [put4] at t0 t1 t2 t3
            exact bodyPost_ret (v := r.val) (by simp [results, Tryz.results22, go_sem, t0, t1, t2, t3]) rfl (by rw [HS.out]; exact HFF.out _ _ _ _)
          | or a b =>
            simp only [Q.c, C.mk.injEq] at hc
            obtain ⟨rfl, rfl, rfl, _⟩ := hc
            obtain rfl : n = 2 := HNQ.out
            obtain ⟨ra, rb, rfl, hra, hrb⟩ : ∃ ra rb, rs = [ra, rb] ∧ ra.cond = (smp a).c ∧ rb.cond = (smp b).c := by
              have hm := HMAP.out
              have hl := HRL.out
              match rs, hl, hm with
              | [ra, rb], _, hm =>
                simp only [Q.parts, List.map_cons, List.map_nil, List.cons.injEq, and_true] at hm
                exact ⟨ra, rb, rfl, hm.1, hm.2⟩
            have HSA := Lib.hid (simplifyOr (smp a) (smp b) ra rb A cap X.heap.size U (by have h1 := HQS.out; have h2 := smpz a; rw [Q.size_c]; simp only [Q.size] at h1; omega) hra hrb HWU.out HGX.out hs3)
            have HS : Hid (smp (.or a b) = pairQ false (smp a) (smp b)) := Lib.hid rfl
            have HF : Hid (∀ u r x0 x1 x2 x3, Below U.heap.size U u → r.cond = (pairQ false (smp a) (smp b)).c → Wr u r → (∀ x ∈ r.blocks, X.heap.size ≤ x) → Res w.heap.size (pairQ false (smp a) (smp b)) w (.returned r.val) (put4 u (w.heap.size + 1) 0 x0 x1 x2 x3)) := Lib.hid fun u r x0 x1 x2 x3 hu hr hwr hge => res_b4 (BU.out.trans (hu.mono BU.out.size)) hr hwr (fun x hx => by have := hge x hx; omega) (fun h => by have := hge _ h; omega) (by omega)
            clear HC HNQ HN HNIL HA hnm HPW HEL HWP HMAP HE1 HWU HGX HKB hra hrb
            go_wp2_with (go_at_call 42; (try rw [← HUU.out]); refine HSA.out.mono ?_; rintro e w5 ⟨r, rfl, hr, hwr, hge, hb5⟩; refine Hid.out ?_)
            refine Lib.hid ?_
            have HFF := Lib.hid (fun x0 x1 x2 x3 => HF.out w5 r x0 x1 x2 x3 hb5 hr hwr hge)
            have Y5 := Lib.hid (YU.out.on hb5)
            clear y0 y1 y2 y3 yf0 yf1 yf2 yf3 x0 x1 x2 x3 xf3 hr hwr hge hb5
            obtain ⟨_, y0, y1, y2, y3, yf⟩ := Y5.out
            have yf0 := yf 0
            have yf1 := yf 1
            have yf2 := yf 2
            have yf3 := yf 3
            clear yf
            go_wp2_with fail
            obtain ⟨_, t0, t1, t2, t3, _⟩ := Y5.out.put (.int .i64 r.op) (.string r.nm) (.int .i64 r.day) (.slice r.A r.ps.length r.cap)
            simp only [put4] at t0 t1 t2 t3
            exact bodyPost_ret (v := r.val) (by simp [results, Tryz.results22, go_sem, t0, t1, t2, t3]) rfl (by rw [HS.out]; exact HFF.out _ _ _ _)

theorem simplify (q : Q) (hqs : q.size ≤ 2000000) (k : K) (w : World) (hk : k.cond = q.c) (hin : Lies w w.heap.size k) : Calls Tryz.prog 22 #[k.val] w (Res w.heap.size (smp q) w) := simplifyN q.size hqs q (Nat.le_refl _) k w hk hin

end Go.Proofs.YtmgjeplbhnfakaaGreatDoor.Cond
