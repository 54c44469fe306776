/-
  simplifyPair of the program.
-/
import Derived.Test.YtmgjeplbhnfakaaGreatDoorSmI
import Derived.Test.YtmgjeplbhnfakaaGreatDoorSmP
import Derived.Test.YtmgjeplbhnfakaaGreatDoorPtE
namespace Go.Proofs.YtmgjeplbhnfakaaGreatDoor.Cond
open Go.RowKit
set_option linter.unusedVariables false
set_option linter.unusedSimpArgs false

/-- A part of a condition that may be written. -/
theorem Wr.sub {w : World} {op : Int} {nm : ByteArray} {day : Int} {A : Option Addr} {cap : Nat} {a b p : K} (h : Wr w (.mk op nm day A cap [a, b])) (hp : p ∈ [a, b]) : Wr w p := by
  have hnd := h.nd
  refine ⟨h.has.part hp, fun x hx => h.lt x (part_blocks hp hx), ?_, fun x hx => h.fz x (part_blocks hp hx)⟩
  simp only [K.blocks, blocks, List.append_nil] at hnd
  have h2 := List.nodup_append.1 (List.nodup_append.1 hnd).2.1
  rcases List.mem_cons.1 hp with rfl | hp
  · exact h2.1
  · have : p = b := by simpa using hp
    subst this; exact h2.2.1

theorem pair_and (a b : Q) : pairQ true a b = if isTru a then b else if isTru b then a else if isNev a then a else if isNev b then b else if sameC a.c b.c then a else .and a b := rfl
theorem tru_nev (q : Q) (h : isNev q = true) : isTru q = false := by cases q <;> simp_all [isTru, isNev]
theorem pair_or (a b : Q) : pairQ false a b = if isNev a then b else if isNev b then a else if isTru a then a else if isTru b then b else if sameC a.c b.c then a else .or a b := by
  have h : pairQ false a b = if isTru a then a else if isTru b then b else if isNev a then b else if isNev b then a else if sameC a.c b.c then a else .or a b := rfl
  rw [h]
  have h1 := tru_nev a
  have h2 := tru_nev b
  generalize isTru a = ta at *
  generalize isTru b = tb at *
  generalize isNev a = na at *
  generalize isNev b = nb at *
  cases ta <;> cases tb <;> cases na <;> cases nb <;> simp_all

set_option maxRecDepth 100000 in
set_option maxHeartbeats 16000000 in
theorem simplifyAnd (qa qb : Q) (a b : K) (A : Option Addr) (cap : Nat) (S : Nat) (w : World) (hsz : qa.c.size ≤ 2000000) (ha : a.cond = qa.c) (hb : b.cond = qb.c) (hw : Wr w (.mk 5 .empty 0 A cap [a, b])) (hs : ∀ x ∈ (K.mk 5 .empty 0 A cap [a, b]).blocks, S ≤ x) (hS : S ≤ w.heap.size) :
    Calls Tryz.prog 42 #[.agg #[.int .i64 5, .string .empty, .int .i64 0, .slice A 2 cap], .func (.func 43) #[] #[], .func (.func 44) #[] #[]] w (Res S (pairQ true qa qb) w) := by
  have hin : Lies w w.heap.size (.mk 5 .empty 0 A cap [a, b]) := ⟨hw.has, hw.lt⟩
  obtain ⟨g, o, rfl, hg, hE1, hE2⟩ := Two' hin
  obtain ⟨X, hX⟩ : ∃ X, X = (w.alloc (.cells #[.int .i64 5, .string .empty, .int .i64 0, .slice (some ⟨g, o, none⟩) 2 cap] 26)).alloc (.cells #[.int .i64 0, .string ⟨#[]⟩, .int .i64 0, .slice none 0 0] 26) := ⟨_, rfl⟩
  have B0 : Hid (Below w.heap.size w X) := Lib.hid (by rw [hX]; exact (below1 _ _).alloc (by simp) _)
  have HZ : Hid (X.heap.size = w.heap.size + 1 + 1) := Lib.hid (by rw [hX]; simp)
  have X0 : Hid (B4 w.heap.size X (.int .i64 5) (.string .empty) (.int .i64 0) (.slice (some ⟨g, o, none⟩) 2 cap)) := Lib.hid (by rw [hX]; exact (B4.new _ _ _ _ _ _).alloc _)
  have Y0 : Hid (B4 (w.heap.size + 1) X (.int .i64 0) (.string ⟨#[]⟩) (.int .i64 0) (.slice none 0 0)) := Lib.hid (by rw [hX]; have := B4.new (w.alloc (.cells #[.int .i64 5, .string .empty, .int .i64 0, .slice (some ⟨g, o, none⟩) 2 cap] 26)) (.int .i64 0) (.string ⟨#[]⟩) (.int .i64 0) (.slice none 0 0) 26; simpa using this)
  have HXX := Lib.hid hX
  obtain ⟨c0, c1, c2, c3⟩ := hE1.alike (B0.out.block g hg)
  obtain ⟨d0, d1, d2, d3⟩ := hE2.alike (B0.out.block g hg)
  have g1 : g < X.heap.size := by have := HZ.out; omega
  have g2 : g < X.heap.size + 1 := by omega
  have k1 : w.heap.size < X.heap.size := by have := HZ.out; omega
  have k2 : w.heap.size < X.heap.size + 1 := by omega
  have la : Lies w w.heap.size a := hin.part (by simp)
  have lb : Lies w w.heap.size b := hin.part (by simp)
  have HTa : Hid (∀ v, Below X.heap.size X v → Calls Tryz.prog 43 #[a.val] v fun e w' => e = .returned (.bool (isTru qa)) ∧ Below v.heap.size v w') := Lib.hid fun v _ => isTrue qa a v ha
  have HTb : Hid (∀ v, Below X.heap.size X v → Calls Tryz.prog 43 #[b.val] v fun e w' => e = .returned (.bool (isTru qb)) ∧ Below v.heap.size v w') := Lib.hid fun v _ => isTrue qb b v hb
  have HNa : Hid (∀ v, Below X.heap.size X v → Calls Tryz.prog 44 #[a.val] v fun e w' => e = .returned (.bool (isNev qa)) ∧ Below v.heap.size v w') := Lib.hid fun v hv => isNotTrue qa a v ha ((la.on B0.out).on hv)
  have HNb : Hid (∀ v, Below X.heap.size X v → Calls Tryz.prog 44 #[b.val] v fun e w' => e = .returned (.bool (isNev qb)) ∧ Below v.heap.size v w') := Lib.hid fun v hv => isNotTrue qb b v hb ((lb.on B0.out).on hv)
  have HSM : Hid (∀ v, Below X.heap.size X v → Calls Tryz.prog 62 #[a.val, b.val] v fun e w' => e = .returned (.bool (sameC qa.c qb.c)) ∧ Below v.heap.size v w') := Lib.hid fun v hv => by
    have := PtR.equalConditions a b v (((hw.sub (p := a) (by simp)).on B0.out).on hv) ((lb.on B0.out).on hv) (by rw [ha]; exact hsz)
    rw [ha, hb] at this
    exact this
  have HA : Hid (∀ v x0 x1 x2 x3, Below X.heap.size X v → Res S qa w (.returned a.val) (put4 v (w.heap.size + 1) 0 x0 x1 x2 x3)) := Lib.hid fun v x0 x1 x2 x3 hv => by
    have hz := HZ.out
    have hwa : Wr w a := hw.sub (by simp)
    exact res_b4 (B0.out.trans (hv.mono B0.out.size)) ha ((hwa.on B0.out).on hv) (fun x hx => hs x (part_blocks (by simp) hx)) (fun h => by have := hwa.lt _ h; omega) (by omega)
  have HB : Hid (∀ v x0 x1 x2 x3, Below X.heap.size X v → Res S qb w (.returned b.val) (put4 v (w.heap.size + 1) 0 x0 x1 x2 x3)) := Lib.hid fun v x0 x1 x2 x3 hv => by
    have hz := HZ.out
    have hwb : Wr w b := hw.sub (by simp)
    exact res_b4 (B0.out.trans (hv.mono B0.out.size)) hb ((hwb.on B0.out).on hv) (fun x hx => hs x (part_blocks (by simp) hx)) (fun h => by have := hwb.lt _ h; omega) (by omega)
  have HC : Hid (∀ v x0 x1 x2 x3, Below X.heap.size X v → Res S (.and qa qb) w (.returned (.agg #[.int .i64 5, .string .empty, .int .i64 0, .slice (some ⟨g, o, none⟩) 2 cap])) (put4 v (w.heap.size + 1) 0 x0 x1 x2 x3)) := Lib.hid fun v x0 x1 x2 x3 hv => by
    have hz := HZ.out
    exact res_b4 (r := .mk 5 .empty 0 (some ⟨g, o, none⟩) cap [a, b]) (B0.out.trans (hv.mono B0.out.size)) (by simp only [K.cond, conds, Q.c, ha, hb]) ((hw.on B0.out).on hv) hs (fun h => by have := hw.lt _ h; omega) (by omega)
  have HPQ : Hid (pairQ true qa qb = pairQ true qa qb) := Lib.hid rfl
  obtain ⟨R, hR⟩ : ∃ R, R = pairQ true qa qb := ⟨_, rfl⟩
  rw [← hR]
  have HR : Hid (R = pairQ true qa qb) := Lib.hid hR
  clear hX hg hE1 hE2 hin HPQ hR la lb ha hb hw hs
  obtain ⟨ta, hta⟩ : ∃ x, x = isTru qa := ⟨_, rfl⟩
  obtain ⟨tb, htb⟩ : ∃ x, x = isTru qb := ⟨_, rfl⟩
  obtain ⟨na, hna⟩ : ∃ x, x = isNev qa := ⟨_, rfl⟩
  obtain ⟨nb, hnb⟩ : ∃ x, x = isNev qb := ⟨_, rfl⟩
  obtain ⟨sm, hsm⟩ : ∃ x, x = sameC qa.c qb.c := ⟨_, rfl⟩
  rw [← hta] at HTa
  rw [← htb] at HTb
  rw [← hna] at HNa
  rw [← hnb] at HNb
  rw [← hsm] at HSM
  have HV := Lib.hid (And.intro hta.symm (And.intro htb.symm (And.intro hna.symm (And.intro hnb.symm hsm.symm))))
  have HT2 : Hid (ta = true → na = false) := Lib.hid (by rw [hta, hna]; cases qa <;> simp [isTru, isNev])
  have HT3 : Hid (tb = true → nb = false) := Lib.hid (by rw [htb, hnb]; cases qb <;> simp [isTru, isNev])
  clear hta htb hna hnb hsm
  go_enter Tryz.func42, Tryz.ntmps42
  go_wp2_with fail
  rw [← HXX.out]
  obtain ⟨_, x0, x1, x2, x3, _⟩ := X0.out
  go_region
  · obtain ⟨V, hV⟩ : ∃ V, V = ((X.alloc (.cells #[.int .i64 a.op, .string a.nm, .int .i64 a.day, .slice a.A a.ps.length a.cap] 26)).alloc (.cells #[.int .i64 b.op, .string b.nm, .int .i64 b.day, .slice b.A b.ps.length b.cap] 26)).drew := ⟨_, rfl⟩
    rw [← hV]
    have bl : Below X.heap.size X V := by rw [hV]; exact Below.drew ((below1 _ _).alloc (by simp) _)
    have F0 : B4 X.heap.size V (.int .i64 a.op) (.string a.nm) (.int .i64 a.day) (.slice a.A a.ps.length a.cap) := by rw [hV]; exact ((B4.new X _ _ _ _ _).alloc _).on (drew_below _ _)
    have G0 : B4 (X.heap.size + 1) V (.int .i64 b.op) (.string b.nm) (.int .i64 b.day) (.slice b.A b.ps.length b.cap) := by rw [hV]; have := B4.new (X.alloc (.cells #[.int .i64 a.op, .string a.nm, .int .i64 a.day, .slice a.A a.ps.length a.cap] 26)) (.int .i64 b.op) (.string b.nm) (.int .i64 b.day) (.slice b.A b.ps.length b.cap) 26; exact (by simpa using this : B4 (X.heap.size + 1) _ _ _ _ _).on (drew_below _ _)
    have KX : Hid (∀ v, Below V.heap.size V v → B4 (X.heap.size) v (.int .i64 a.op) (.string a.nm) (.int .i64 a.day) (.slice a.A a.ps.length a.cap) ∧ B4 (X.heap.size + 1) v (.int .i64 b.op) (.string b.nm) (.int .i64 b.day) (.slice b.A b.ps.length b.cap) ∧ B4 w.heap.size v (.int .i64 5) (.string .empty) (.int .i64 0) (.slice (some ⟨g, o, none⟩) 2 cap) ∧ B4 (w.heap.size + 1) v (.int .i64 0) (.string ⟨#[]⟩) (.int .i64 0) (.slice none 0 0)) := Lib.hid fun v hv => ⟨F0.on hv, G0.on hv, (X0.out.on bl).on hv, (Y0.out.on bl).on hv⟩
    have BXV := Lib.hid bl
    clear bl F0 G0 hV x0 x1 x2 x3 c0 c1 c2 c3 d0 d1 d2 d3
    have bl : Below V.heap.size V V := Below.refl _ _
    obtain ⟨⟨_, x0, x1, x2, x3, _⟩, ⟨_, y0, y1, y2, y3, _⟩, ⟨_, u0, u1, u2, u3, _⟩, _, z0, z1, z2, z3, zf⟩ := KX.out _ bl
    have zf0 := zf 0
    have zf1 := zf 1
    have zf2 := zf 2
    have zf3 := zf 3
    clear zf
    have HH := Lib.hid fun u (hu : Below V.heap.size V u) => HTa.out u (BXV.out.trans (hu.mono BXV.out.size))
    go_wp2_with (go_at_call 43; refine (HH.out _ bl).mono ?_; rintro e w2 ⟨rfl, hb⟩; clear x0 x1 x2 x3 y0 y1 y2 y3 u0 u1 u2 u3 z0 z1 z2 z3 zf0 zf1 zf2 zf3; refine Hid.out ?_)
    refine Lib.hid ?_
    have bl2 := bl.trans (hb.mono bl.size)
    clear bl hb HH
    have bl := bl2
    clear bl2
    obtain ⟨⟨_, x0, x1, x2, x3, _⟩, ⟨_, y0, y1, y2, y3, _⟩, ⟨_, u0, u1, u2, u3, _⟩, _, z0, z1, z2, z3, zf⟩ := KX.out _ bl
    have zf0 := zf 0
    have zf1 := zf 1
    have zf2 := zf 2
    have zf3 := zf 3
    clear zf
    cases ta
    · skip
      have HH := Lib.hid fun u (hu : Below V.heap.size V u) => HTb.out u (BXV.out.trans (hu.mono BXV.out.size))
      go_wp2_with (go_at_call 43; refine (HH.out _ bl).mono ?_; rintro e w3 ⟨rfl, hb⟩; clear x0 x1 x2 x3 y0 y1 y2 y3 u0 u1 u2 u3 z0 z1 z2 z3 zf0 zf1 zf2 zf3; refine Hid.out ?_)
      refine Lib.hid ?_
      have bl2 := bl.trans (hb.mono bl.size)
      clear bl hb HH
      have bl := bl2
      clear bl2
      obtain ⟨⟨_, x0, x1, x2, x3, _⟩, ⟨_, y0, y1, y2, y3, _⟩, ⟨_, u0, u1, u2, u3, _⟩, _, z0, z1, z2, z3, zf⟩ := KX.out _ bl
      have zf0 := zf 0
      have zf1 := zf 1
      have zf2 := zf 2
      have zf3 := zf 3
      clear zf
      cases tb
      · skip
        have HH := Lib.hid fun u (hu : Below V.heap.size V u) => HNa.out u (BXV.out.trans (hu.mono BXV.out.size))
        go_wp2_with (go_at_call 44; refine (HH.out _ bl).mono ?_; rintro e w4 ⟨rfl, hb⟩; clear x0 x1 x2 x3 y0 y1 y2 y3 u0 u1 u2 u3 z0 z1 z2 z3 zf0 zf1 zf2 zf3; refine Hid.out ?_)
        refine Lib.hid ?_
        have bl2 := bl.trans (hb.mono bl.size)
        clear bl hb HH
        have bl := bl2
        clear bl2
        obtain ⟨⟨_, x0, x1, x2, x3, _⟩, ⟨_, y0, y1, y2, y3, _⟩, ⟨_, u0, u1, u2, u3, _⟩, _, z0, z1, z2, z3, zf⟩ := KX.out _ bl
        have zf0 := zf 0
        have zf1 := zf 1
        have zf2 := zf 2
        have zf3 := zf 3
        clear zf
        cases na
        · skip
          have HH := Lib.hid fun u (hu : Below V.heap.size V u) => HNb.out u (BXV.out.trans (hu.mono BXV.out.size))
          go_wp2_with (go_at_call 44; refine (HH.out _ bl).mono ?_; rintro e w5 ⟨rfl, hb⟩; clear x0 x1 x2 x3 y0 y1 y2 y3 u0 u1 u2 u3 z0 z1 z2 z3 zf0 zf1 zf2 zf3; refine Hid.out ?_)
          refine Lib.hid ?_
          have bl2 := bl.trans (hb.mono bl.size)
          clear bl hb HH
          have bl := bl2
          clear bl2
          obtain ⟨⟨_, x0, x1, x2, x3, _⟩, ⟨_, y0, y1, y2, y3, _⟩, ⟨_, u0, u1, u2, u3, _⟩, _, z0, z1, z2, z3, zf⟩ := KX.out _ bl
          have zf0 := zf 0
          have zf1 := zf 1
          have zf2 := zf 2
          have zf3 := zf 3
          clear zf
          cases nb
          · skip
            have HH := Lib.hid fun u (hu : Below V.heap.size V u) => HSM.out u (BXV.out.trans (hu.mono BXV.out.size))
            go_wp2_with (go_at_call 62; refine (HH.out _ bl).mono ?_; rintro e w6 ⟨rfl, hb⟩; clear x0 x1 x2 x3 y0 y1 y2 y3 u0 u1 u2 u3 z0 z1 z2 z3 zf0 zf1 zf2 zf3; refine Hid.out ?_)
            refine Lib.hid ?_
            have bl2 := bl.trans (hb.mono bl.size)
            clear bl hb HH
            have bl := bl2
            clear bl2
            obtain ⟨⟨_, x0, x1, x2, x3, _⟩, ⟨_, y0, y1, y2, y3, _⟩, ⟨_, u0, u1, u2, u3, _⟩, _, z0, z1, z2, z3, zf⟩ := KX.out _ bl
            have zf0 := zf 0
            have zf1 := zf 1
            have zf2 := zf 2
            have zf3 := zf 3
            clear zf
            cases sm
            · skip
              have HE : Hid (R = .and qa qb) := Lib.hid (by obtain ⟨h1, h2, h3, h4, h5⟩ := HV.out; rw [HR.out, pair_and]; simp only [h1, h2, h3, h4, h5, if_true, if_false, Bool.false_eq_true])
              go_wp2_with fail
              obtain ⟨_, t0, t1, t2, t3, _⟩ := (KX.out _ bl).2.2.2.put (.int .i64 5) (.string .empty) (.int .i64 0) (.slice (some ⟨g, o, none⟩) 2 cap)
              simp only [put4] at t0 t1 t2 t3
              exact bodyPost_ret (v := .agg #[.int .i64 5, .string .empty, .int .i64 0, .slice (some ⟨g, o, none⟩) 2 cap]) (by simp [results, Tryz.results42, go_sem, t0, t1, t2, t3]) rfl (by rw [HE.out]; exact HC.out _ _ _ _ _ (BXV.out.trans (bl.mono BXV.out.size)))
            · skip
              have HE : Hid (R = qa) := Lib.hid (by obtain ⟨h1, h2, h3, h4, h5⟩ := HV.out; rw [HR.out, pair_and]; simp only [h1, h2, h3, h4, h5, if_true, if_false, Bool.false_eq_true])
              go_wp2_with fail
              obtain ⟨_, t0, t1, t2, t3, _⟩ := (KX.out _ bl).2.2.2.put (.int .i64 a.op) (.string a.nm) (.int .i64 a.day) (.slice a.A a.ps.length a.cap)
              simp only [put4] at t0 t1 t2 t3
              exact bodyPost_ret (v := .agg #[.int .i64 a.op, .string a.nm, .int .i64 a.day, .slice a.A a.ps.length a.cap]) (by simp [results, Tryz.results42, go_sem, t0, t1, t2, t3]) rfl (by rw [HE.out]; exact HA.out _ _ _ _ _ (BXV.out.trans (bl.mono BXV.out.size)))
          · skip
            have HE : Hid (R = qb) := Lib.hid (by obtain ⟨h1, h2, h3, h4, h5⟩ := HV.out; rw [HR.out, pair_and]; simp only [h1, h2, h3, h4, h5, if_true, if_false, Bool.false_eq_true])
            go_wp2_with fail
            obtain ⟨_, t0, t1, t2, t3, _⟩ := (KX.out _ bl).2.2.2.put (.int .i64 b.op) (.string b.nm) (.int .i64 b.day) (.slice b.A b.ps.length b.cap)
            simp only [put4] at t0 t1 t2 t3
            exact bodyPost_ret (v := .agg #[.int .i64 b.op, .string b.nm, .int .i64 b.day, .slice b.A b.ps.length b.cap]) (by simp [results, Tryz.results42, go_sem, t0, t1, t2, t3]) rfl (by rw [HE.out]; exact HB.out _ _ _ _ _ (BXV.out.trans (bl.mono BXV.out.size)))
        · skip
          have HE : Hid (R = qa) := Lib.hid (by obtain ⟨h1, h2, h3, h4, h5⟩ := HV.out; rw [HR.out, pair_and]; simp only [h1, h2, h3, h4, h5, if_true, if_false, Bool.false_eq_true])
          go_wp2_with fail
          obtain ⟨_, t0, t1, t2, t3, _⟩ := (KX.out _ bl).2.2.2.put (.int .i64 a.op) (.string a.nm) (.int .i64 a.day) (.slice a.A a.ps.length a.cap)
          simp only [put4] at t0 t1 t2 t3
          exact bodyPost_ret (v := .agg #[.int .i64 a.op, .string a.nm, .int .i64 a.day, .slice a.A a.ps.length a.cap]) (by simp [results, Tryz.results42, go_sem, t0, t1, t2, t3]) rfl (by rw [HE.out]; exact HA.out _ _ _ _ _ (BXV.out.trans (bl.mono BXV.out.size)))
      · skip
        have HE : Hid (R = qa) := Lib.hid (by obtain ⟨h1, h2, h3, h4, h5⟩ := HV.out; rw [HR.out, pair_and]; simp only [h1, h2, h3, h4, h5, if_true, if_false, Bool.false_eq_true])
        go_wp2_with fail
        obtain ⟨_, t0, t1, t2, t3, _⟩ := (KX.out _ bl).2.2.2.put (.int .i64 a.op) (.string a.nm) (.int .i64 a.day) (.slice a.A a.ps.length a.cap)
        simp only [put4] at t0 t1 t2 t3
        exact bodyPost_ret (v := .agg #[.int .i64 a.op, .string a.nm, .int .i64 a.day, .slice a.A a.ps.length a.cap]) (by simp [results, Tryz.results42, go_sem, t0, t1, t2, t3]) rfl (by rw [HE.out]; exact HA.out _ _ _ _ _ (BXV.out.trans (bl.mono BXV.out.size)))
    · skip
      have HE : Hid (R = qb) := Lib.hid (by obtain ⟨h1, h2, h3, h4, h5⟩ := HV.out; rw [HR.out, pair_and]; simp only [h1, h2, h3, h4, h5, if_true, if_false, Bool.false_eq_true])
      go_wp2_with fail
      obtain ⟨_, t0, t1, t2, t3, _⟩ := (KX.out _ bl).2.2.2.put (.int .i64 b.op) (.string b.nm) (.int .i64 b.day) (.slice b.A b.ps.length b.cap)
      simp only [put4] at t0 t1 t2 t3
      exact bodyPost_ret (v := .agg #[.int .i64 b.op, .string b.nm, .int .i64 b.day, .slice b.A b.ps.length b.cap]) (by simp [results, Tryz.results42, go_sem, t0, t1, t2, t3]) rfl (by rw [HE.out]; exact HB.out _ _ _ _ _ (BXV.out.trans (bl.mono BXV.out.size)))
  · obtain ⟨V, hV⟩ : ∃ V, V = ((X.alloc (.cells #[.int .i64 b.op, .string b.nm, .int .i64 b.day, .slice b.A b.ps.length b.cap] 26)).alloc (.cells #[.int .i64 a.op, .string a.nm, .int .i64 a.day, .slice a.A a.ps.length a.cap] 26)).drew := ⟨_, rfl⟩
    rw [← hV]
    have bl : Below X.heap.size X V := by rw [hV]; exact Below.drew ((below1 _ _).alloc (by simp) _)
    have F0 : B4 X.heap.size V (.int .i64 b.op) (.string b.nm) (.int .i64 b.day) (.slice b.A b.ps.length b.cap) := by rw [hV]; exact ((B4.new X _ _ _ _ _).alloc _).on (drew_below _ _)
    have G0 : B4 (X.heap.size + 1) V (.int .i64 a.op) (.string a.nm) (.int .i64 a.day) (.slice a.A a.ps.length a.cap) := by rw [hV]; have := B4.new (X.alloc (.cells #[.int .i64 b.op, .string b.nm, .int .i64 b.day, .slice b.A b.ps.length b.cap] 26)) (.int .i64 a.op) (.string a.nm) (.int .i64 a.day) (.slice a.A a.ps.length a.cap) 26; exact (by simpa using this : B4 (X.heap.size + 1) _ _ _ _ _).on (drew_below _ _)
    have KX : Hid (∀ v, Below V.heap.size V v → B4 (X.heap.size + 1) v (.int .i64 a.op) (.string a.nm) (.int .i64 a.day) (.slice a.A a.ps.length a.cap) ∧ B4 (X.heap.size) v (.int .i64 b.op) (.string b.nm) (.int .i64 b.day) (.slice b.A b.ps.length b.cap) ∧ B4 w.heap.size v (.int .i64 5) (.string .empty) (.int .i64 0) (.slice (some ⟨g, o, none⟩) 2 cap) ∧ B4 (w.heap.size + 1) v (.int .i64 0) (.string ⟨#[]⟩) (.int .i64 0) (.slice none 0 0)) := Lib.hid fun v hv => ⟨G0.on hv, F0.on hv, (X0.out.on bl).on hv, (Y0.out.on bl).on hv⟩
    have BXV := Lib.hid bl
    clear bl F0 G0 hV x0 x1 x2 x3 c0 c1 c2 c3 d0 d1 d2 d3
    have bl : Below V.heap.size V V := Below.refl _ _
    obtain ⟨⟨_, x0, x1, x2, x3, _⟩, ⟨_, y0, y1, y2, y3, _⟩, ⟨_, u0, u1, u2, u3, _⟩, _, z0, z1, z2, z3, zf⟩ := KX.out _ bl
    have zf0 := zf 0
    have zf1 := zf 1
    have zf2 := zf 2
    have zf3 := zf 3
    clear zf
    have HH := Lib.hid fun u (hu : Below V.heap.size V u) => HTa.out u (BXV.out.trans (hu.mono BXV.out.size))
    go_wp2_with (go_at_call 43; refine (HH.out _ bl).mono ?_; rintro e w2 ⟨rfl, hb⟩; clear x0 x1 x2 x3 y0 y1 y2 y3 u0 u1 u2 u3 z0 z1 z2 z3 zf0 zf1 zf2 zf3; refine Hid.out ?_)
    refine Lib.hid ?_
    have bl2 := bl.trans (hb.mono bl.size)
    clear bl hb HH
    have bl := bl2
    clear bl2
    obtain ⟨⟨_, x0, x1, x2, x3, _⟩, ⟨_, y0, y1, y2, y3, _⟩, ⟨_, u0, u1, u2, u3, _⟩, _, z0, z1, z2, z3, zf⟩ := KX.out _ bl
    have zf0 := zf 0
    have zf1 := zf 1
    have zf2 := zf 2
    have zf3 := zf 3
    clear zf
    cases ta
    · skip
      have HH := Lib.hid fun u (hu : Below V.heap.size V u) => HTb.out u (BXV.out.trans (hu.mono BXV.out.size))
      go_wp2_with (go_at_call 43; refine (HH.out _ bl).mono ?_; rintro e w3 ⟨rfl, hb⟩; clear x0 x1 x2 x3 y0 y1 y2 y3 u0 u1 u2 u3 z0 z1 z2 z3 zf0 zf1 zf2 zf3; refine Hid.out ?_)
      refine Lib.hid ?_
      have bl2 := bl.trans (hb.mono bl.size)
      clear bl hb HH
      have bl := bl2
      clear bl2
      obtain ⟨⟨_, x0, x1, x2, x3, _⟩, ⟨_, y0, y1, y2, y3, _⟩, ⟨_, u0, u1, u2, u3, _⟩, _, z0, z1, z2, z3, zf⟩ := KX.out _ bl
      have zf0 := zf 0
      have zf1 := zf 1
      have zf2 := zf 2
      have zf3 := zf 3
      clear zf
      cases tb
      · skip
        have HH := Lib.hid fun u (hu : Below V.heap.size V u) => HNa.out u (BXV.out.trans (hu.mono BXV.out.size))
        go_wp2_with (go_at_call 44; refine (HH.out _ bl).mono ?_; rintro e w4 ⟨rfl, hb⟩; clear x0 x1 x2 x3 y0 y1 y2 y3 u0 u1 u2 u3 z0 z1 z2 z3 zf0 zf1 zf2 zf3; refine Hid.out ?_)
        refine Lib.hid ?_
        have bl2 := bl.trans (hb.mono bl.size)
        clear bl hb HH
        have bl := bl2
        clear bl2
        obtain ⟨⟨_, x0, x1, x2, x3, _⟩, ⟨_, y0, y1, y2, y3, _⟩, ⟨_, u0, u1, u2, u3, _⟩, _, z0, z1, z2, z3, zf⟩ := KX.out _ bl
        have zf0 := zf 0
        have zf1 := zf 1
        have zf2 := zf 2
        have zf3 := zf 3
        clear zf
        cases na
        · skip
          have HH := Lib.hid fun u (hu : Below V.heap.size V u) => HNb.out u (BXV.out.trans (hu.mono BXV.out.size))
          go_wp2_with (go_at_call 44; refine (HH.out _ bl).mono ?_; rintro e w5 ⟨rfl, hb⟩; clear x0 x1 x2 x3 y0 y1 y2 y3 u0 u1 u2 u3 z0 z1 z2 z3 zf0 zf1 zf2 zf3; refine Hid.out ?_)
          refine Lib.hid ?_
          have bl2 := bl.trans (hb.mono bl.size)
          clear bl hb HH
          have bl := bl2
          clear bl2
          obtain ⟨⟨_, x0, x1, x2, x3, _⟩, ⟨_, y0, y1, y2, y3, _⟩, ⟨_, u0, u1, u2, u3, _⟩, _, z0, z1, z2, z3, zf⟩ := KX.out _ bl
          have zf0 := zf 0
          have zf1 := zf 1
          have zf2 := zf 2
          have zf3 := zf 3
          clear zf
          cases nb
          · skip
            have HH := Lib.hid fun u (hu : Below V.heap.size V u) => HSM.out u (BXV.out.trans (hu.mono BXV.out.size))
            go_wp2_with (go_at_call 62; refine (HH.out _ bl).mono ?_; rintro e w6 ⟨rfl, hb⟩; clear x0 x1 x2 x3 y0 y1 y2 y3 u0 u1 u2 u3 z0 z1 z2 z3 zf0 zf1 zf2 zf3; refine Hid.out ?_)
            refine Lib.hid ?_
            have bl2 := bl.trans (hb.mono bl.size)
            clear bl hb HH
            have bl := bl2
            clear bl2
            obtain ⟨⟨_, x0, x1, x2, x3, _⟩, ⟨_, y0, y1, y2, y3, _⟩, ⟨_, u0, u1, u2, u3, _⟩, _, z0, z1, z2, z3, zf⟩ := KX.out _ bl
            have zf0 := zf 0
            have zf1 := zf 1
            have zf2 := zf 2
            have zf3 := zf 3
            clear zf
            cases sm
            · skip
              have HE : Hid (R = .and qa qb) := Lib.hid (by obtain ⟨h1, h2, h3, h4, h5⟩ := HV.out; rw [HR.out, pair_and]; simp only [h1, h2, h3, h4, h5, if_true, if_false, Bool.false_eq_true])
              go_wp2_with fail
              obtain ⟨_, t0, t1, t2, t3, _⟩ := (KX.out _ bl).2.2.2.put (.int .i64 5) (.string .empty) (.int .i64 0) (.slice (some ⟨g, o, none⟩) 2 cap)
              simp only [put4] at t0 t1 t2 t3
              exact bodyPost_ret (v := .agg #[.int .i64 5, .string .empty, .int .i64 0, .slice (some ⟨g, o, none⟩) 2 cap]) (by simp [results, Tryz.results42, go_sem, t0, t1, t2, t3]) rfl (by rw [HE.out]; exact HC.out _ _ _ _ _ (BXV.out.trans (bl.mono BXV.out.size)))
            · skip
              have HE : Hid (R = qa) := Lib.hid (by obtain ⟨h1, h2, h3, h4, h5⟩ := HV.out; rw [HR.out, pair_and]; simp only [h1, h2, h3, h4, h5, if_true, if_false, Bool.false_eq_true])
              go_wp2_with fail
              obtain ⟨_, t0, t1, t2, t3, _⟩ := (KX.out _ bl).2.2.2.put (.int .i64 a.op) (.string a.nm) (.int .i64 a.day) (.slice a.A a.ps.length a.cap)
              simp only [put4] at t0 t1 t2 t3
              exact bodyPost_ret (v := .agg #[.int .i64 a.op, .string a.nm, .int .i64 a.day, .slice a.A a.ps.length a.cap]) (by simp [results, Tryz.results42, go_sem, t0, t1, t2, t3]) rfl (by rw [HE.out]; exact HA.out _ _ _ _ _ (BXV.out.trans (bl.mono BXV.out.size)))
          · skip
            have HE : Hid (R = qb) := Lib.hid (by obtain ⟨h1, h2, h3, h4, h5⟩ := HV.out; rw [HR.out, pair_and]; simp only [h1, h2, h3, h4, h5, if_true, if_false, Bool.false_eq_true])
            go_wp2_with fail
            obtain ⟨_, t0, t1, t2, t3, _⟩ := (KX.out _ bl).2.2.2.put (.int .i64 b.op) (.string b.nm) (.int .i64 b.day) (.slice b.A b.ps.length b.cap)
            simp only [put4] at t0 t1 t2 t3
            exact bodyPost_ret (v := .agg #[.int .i64 b.op, .string b.nm, .int .i64 b.day, .slice b.A b.ps.length b.cap]) (by simp [results, Tryz.results42, go_sem, t0, t1, t2, t3]) rfl (by rw [HE.out]; exact HB.out _ _ _ _ _ (BXV.out.trans (bl.mono BXV.out.size)))
        · skip
          have HE : Hid (R = qa) := Lib.hid (by obtain ⟨h1, h2, h3, h4, h5⟩ := HV.out; rw [HR.out, pair_and]; simp only [h1, h2, h3, h4, h5, if_true, if_false, Bool.false_eq_true])
          go_wp2_with fail
          obtain ⟨_, t0, t1, t2, t3, _⟩ := (KX.out _ bl).2.2.2.put (.int .i64 a.op) (.string a.nm) (.int .i64 a.day) (.slice a.A a.ps.length a.cap)
          simp only [put4] at t0 t1 t2 t3
          exact bodyPost_ret (v := .agg #[.int .i64 a.op, .string a.nm, .int .i64 a.day, .slice a.A a.ps.length a.cap]) (by simp [results, Tryz.results42, go_sem, t0, t1, t2, t3]) rfl (by rw [HE.out]; exact HA.out _ _ _ _ _ (BXV.out.trans (bl.mono BXV.out.size)))
      · skip
        have HE : Hid (R = qa) := Lib.hid (by obtain ⟨h1, h2, h3, h4, h5⟩ := HV.out; rw [HR.out, pair_and]; simp only [h1, h2, h3, h4, h5, if_true, if_false, Bool.false_eq_true])
        go_wp2_with fail
        obtain ⟨_, t0, t1, t2, t3, _⟩ := (KX.out _ bl).2.2.2.put (.int .i64 a.op) (.string a.nm) (.int .i64 a.day) (.slice a.A a.ps.length a.cap)
        simp only [put4] at t0 t1 t2 t3
        exact bodyPost_ret (v := .agg #[.int .i64 a.op, .string a.nm, .int .i64 a.day, .slice a.A a.ps.length a.cap]) (by simp [results, Tryz.results42, go_sem, t0, t1, t2, t3]) rfl (by rw [HE.out]; exact HA.out _ _ _ _ _ (BXV.out.trans (bl.mono BXV.out.size)))
    · skip
      have HE : Hid (R = qb) := Lib.hid (by obtain ⟨h1, h2, h3, h4, h5⟩ := HV.out; rw [HR.out, pair_and]; simp only [h1, h2, h3, h4, h5, if_true, if_false, Bool.false_eq_true])
      go_wp2_with fail
      obtain ⟨_, t0, t1, t2, t3, _⟩ := (KX.out _ bl).2.2.2.put (.int .i64 b.op) (.string b.nm) (.int .i64 b.day) (.slice b.A b.ps.length b.cap)
      simp only [put4] at t0 t1 t2 t3
      exact bodyPost_ret (v := .agg #[.int .i64 b.op, .string b.nm, .int .i64 b.day, .slice b.A b.ps.length b.cap]) (by simp [results, Tryz.results42, go_sem, t0, t1, t2, t3]) rfl (by rw [HE.out]; exact HB.out _ _ _ _ _ (BXV.out.trans (bl.mono BXV.out.size)))

set_option maxRecDepth 100000 in
set_option maxHeartbeats 16000000 in
theorem simplifyOr (qa qb : Q) (a b : K) (A : Option Addr) (cap : Nat) (S : Nat) (w : World) (hsz : qa.c.size ≤ 2000000) (ha : a.cond = qa.c) (hb : b.cond = qb.c) (hw : Wr w (.mk 6 .empty 0 A cap [a, b])) (hs : ∀ x ∈ (K.mk 6 .empty 0 A cap [a, b]).blocks, S ≤ x) (hS : S ≤ w.heap.size) :
    Calls Tryz.prog 42 #[.agg #[.int .i64 6, .string .empty, .int .i64 0, .slice A 2 cap], .func (.func 44) #[] #[], .func (.func 43) #[] #[]] w (Res S (pairQ false qa qb) w) := by
  have hin : Lies w w.heap.size (.mk 6 .empty 0 A cap [a, b]) := ⟨hw.has, hw.lt⟩
  obtain ⟨g, o, rfl, hg, hE1, hE2⟩ := Two' hin
  obtain ⟨X, hX⟩ : ∃ X, X = (w.alloc (.cells #[.int .i64 6, .string .empty, .int .i64 0, .slice (some ⟨g, o, none⟩) 2 cap] 26)).alloc (.cells #[.int .i64 0, .string ⟨#[]⟩, .int .i64 0, .slice none 0 0] 26) := ⟨_, rfl⟩
  have B0 : Hid (Below w.heap.size w X) := Lib.hid (by rw [hX]; exact (below1 _ _).alloc (by simp) _)
  have HZ : Hid (X.heap.size = w.heap.size + 1 + 1) := Lib.hid (by rw [hX]; simp)
  have X0 : Hid (B4 w.heap.size X (.int .i64 6) (.string .empty) (.int .i64 0) (.slice (some ⟨g, o, none⟩) 2 cap)) := Lib.hid (by rw [hX]; exact (B4.new _ _ _ _ _ _).alloc _)
  have Y0 : Hid (B4 (w.heap.size + 1) X (.int .i64 0) (.string ⟨#[]⟩) (.int .i64 0) (.slice none 0 0)) := Lib.hid (by rw [hX]; have := B4.new (w.alloc (.cells #[.int .i64 6, .string .empty, .int .i64 0, .slice (some ⟨g, o, none⟩) 2 cap] 26)) (.int .i64 0) (.string ⟨#[]⟩) (.int .i64 0) (.slice none 0 0) 26; simpa using this)
  have HXX := Lib.hid hX
  obtain ⟨c0, c1, c2, c3⟩ := hE1.alike (B0.out.block g hg)
  obtain ⟨d0, d1, d2, d3⟩ := hE2.alike (B0.out.block g hg)
  have g1 : g < X.heap.size := by have := HZ.out; omega
  have g2 : g < X.heap.size + 1 := by omega
  have k1 : w.heap.size < X.heap.size := by have := HZ.out; omega
  have k2 : w.heap.size < X.heap.size + 1 := by omega
  have la : Lies w w.heap.size a := hin.part (by simp)
  have lb : Lies w w.heap.size b := hin.part (by simp)
  have HTa : Hid (∀ v, Below X.heap.size X v → Calls Tryz.prog 43 #[a.val] v fun e w' => e = .returned (.bool (isTru qa)) ∧ Below v.heap.size v w') := Lib.hid fun v _ => isTrue qa a v ha
  have HTb : Hid (∀ v, Below X.heap.size X v → Calls Tryz.prog 43 #[b.val] v fun e w' => e = .returned (.bool (isTru qb)) ∧ Below v.heap.size v w') := Lib.hid fun v _ => isTrue qb b v hb
  have HNa : Hid (∀ v, Below X.heap.size X v → Calls Tryz.prog 44 #[a.val] v fun e w' => e = .returned (.bool (isNev qa)) ∧ Below v.heap.size v w') := Lib.hid fun v hv => isNotTrue qa a v ha ((la.on B0.out).on hv)
  have HNb : Hid (∀ v, Below X.heap.size X v → Calls Tryz.prog 44 #[b.val] v fun e w' => e = .returned (.bool (isNev qb)) ∧ Below v.heap.size v w') := Lib.hid fun v hv => isNotTrue qb b v hb ((lb.on B0.out).on hv)
  have HSM : Hid (∀ v, Below X.heap.size X v → Calls Tryz.prog 62 #[a.val, b.val] v fun e w' => e = .returned (.bool (sameC qa.c qb.c)) ∧ Below v.heap.size v w') := Lib.hid fun v hv => by
    have := PtR.equalConditions a b v (((hw.sub (p := a) (by simp)).on B0.out).on hv) ((lb.on B0.out).on hv) (by rw [ha]; exact hsz)
    rw [ha, hb] at this
    exact this
  have HA : Hid (∀ v x0 x1 x2 x3, Below X.heap.size X v → Res S qa w (.returned a.val) (put4 v (w.heap.size + 1) 0 x0 x1 x2 x3)) := Lib.hid fun v x0 x1 x2 x3 hv => by
    have hz := HZ.out
    have hwa : Wr w a := hw.sub (by simp)
    exact res_b4 (B0.out.trans (hv.mono B0.out.size)) ha ((hwa.on B0.out).on hv) (fun x hx => hs x (part_blocks (by simp) hx)) (fun h => by have := hwa.lt _ h; omega) (by omega)
  have HB : Hid (∀ v x0 x1 x2 x3, Below X.heap.size X v → Res S qb w (.returned b.val) (put4 v (w.heap.size + 1) 0 x0 x1 x2 x3)) := Lib.hid fun v x0 x1 x2 x3 hv => by
    have hz := HZ.out
    have hwb : Wr w b := hw.sub (by simp)
    exact res_b4 (B0.out.trans (hv.mono B0.out.size)) hb ((hwb.on B0.out).on hv) (fun x hx => hs x (part_blocks (by simp) hx)) (fun h => by have := hwb.lt _ h; omega) (by omega)
  have HC : Hid (∀ v x0 x1 x2 x3, Below X.heap.size X v → Res S (.or qa qb) w (.returned (.agg #[.int .i64 6, .string .empty, .int .i64 0, .slice (some ⟨g, o, none⟩) 2 cap])) (put4 v (w.heap.size + 1) 0 x0 x1 x2 x3)) := Lib.hid fun v x0 x1 x2 x3 hv => by
    have hz := HZ.out
    exact res_b4 (r := .mk 6 .empty 0 (some ⟨g, o, none⟩) cap [a, b]) (B0.out.trans (hv.mono B0.out.size)) (by simp only [K.cond, conds, Q.c, ha, hb]) ((hw.on B0.out).on hv) hs (fun h => by have := hw.lt _ h; omega) (by omega)
  have HPQ : Hid (pairQ false qa qb = pairQ false qa qb) := Lib.hid rfl
  obtain ⟨R, hR⟩ : ∃ R, R = pairQ false qa qb := ⟨_, rfl⟩
  rw [← hR]
  have HR : Hid (R = pairQ false qa qb) := Lib.hid hR
  clear hX hg hE1 hE2 hin HPQ hR la lb ha hb hw hs
  obtain ⟨ta, hta⟩ : ∃ x, x = isTru qa := ⟨_, rfl⟩
  obtain ⟨tb, htb⟩ : ∃ x, x = isTru qb := ⟨_, rfl⟩
  obtain ⟨na, hna⟩ : ∃ x, x = isNev qa := ⟨_, rfl⟩
  obtain ⟨nb, hnb⟩ : ∃ x, x = isNev qb := ⟨_, rfl⟩
  obtain ⟨sm, hsm⟩ : ∃ x, x = sameC qa.c qb.c := ⟨_, rfl⟩
  rw [← hta] at HTa
  rw [← htb] at HTb
  rw [← hna] at HNa
  rw [← hnb] at HNb
  rw [← hsm] at HSM
  have HV := Lib.hid (And.intro hta.symm (And.intro htb.symm (And.intro hna.symm (And.intro hnb.symm hsm.symm))))
  have HT2 : Hid (ta = true → na = false) := Lib.hid (by rw [hta, hna]; cases qa <;> simp [isTru, isNev])
  have HT3 : Hid (tb = true → nb = false) := Lib.hid (by rw [htb, hnb]; cases qb <;> simp [isTru, isNev])
  clear hta htb hna hnb hsm
  go_enter Tryz.func42, Tryz.ntmps42
  go_wp2_with fail
  rw [← HXX.out]
  obtain ⟨_, x0, x1, x2, x3, _⟩ := X0.out
  go_region
  · obtain ⟨V, hV⟩ : ∃ V, V = ((X.alloc (.cells #[.int .i64 a.op, .string a.nm, .int .i64 a.day, .slice a.A a.ps.length a.cap] 26)).alloc (.cells #[.int .i64 b.op, .string b.nm, .int .i64 b.day, .slice b.A b.ps.length b.cap] 26)).drew := ⟨_, rfl⟩
    rw [← hV]
    have bl : Below X.heap.size X V := by rw [hV]; exact Below.drew ((below1 _ _).alloc (by simp) _)
    have F0 : B4 X.heap.size V (.int .i64 a.op) (.string a.nm) (.int .i64 a.day) (.slice a.A a.ps.length a.cap) := by rw [hV]; exact ((B4.new X _ _ _ _ _).alloc _).on (drew_below _ _)
    have G0 : B4 (X.heap.size + 1) V (.int .i64 b.op) (.string b.nm) (.int .i64 b.day) (.slice b.A b.ps.length b.cap) := by rw [hV]; have := B4.new (X.alloc (.cells #[.int .i64 a.op, .string a.nm, .int .i64 a.day, .slice a.A a.ps.length a.cap] 26)) (.int .i64 b.op) (.string b.nm) (.int .i64 b.day) (.slice b.A b.ps.length b.cap) 26; exact (by simpa using this : B4 (X.heap.size + 1) _ _ _ _ _).on (drew_below _ _)
    have KX : Hid (∀ v, Below V.heap.size V v → B4 (X.heap.size) v (.int .i64 a.op) (.string a.nm) (.int .i64 a.day) (.slice a.A a.ps.length a.cap) ∧ B4 (X.heap.size + 1) v (.int .i64 b.op) (.string b.nm) (.int .i64 b.day) (.slice b.A b.ps.length b.cap) ∧ B4 w.heap.size v (.int .i64 6) (.string .empty) (.int .i64 0) (.slice (some ⟨g, o, none⟩) 2 cap) ∧ B4 (w.heap.size + 1) v (.int .i64 0) (.string ⟨#[]⟩) (.int .i64 0) (.slice none 0 0)) := Lib.hid fun v hv => ⟨F0.on hv, G0.on hv, (X0.out.on bl).on hv, (Y0.out.on bl).on hv⟩
    have BXV := Lib.hid bl
    clear bl F0 G0 hV x0 x1 x2 x3 c0 c1 c2 c3 d0 d1 d2 d3
    have bl : Below V.heap.size V V := Below.refl _ _
    obtain ⟨⟨_, x0, x1, x2, x3, _⟩, ⟨_, y0, y1, y2, y3, _⟩, ⟨_, u0, u1, u2, u3, _⟩, _, z0, z1, z2, z3, zf⟩ := KX.out _ bl
    have zf0 := zf 0
    have zf1 := zf 1
    have zf2 := zf 2
    have zf3 := zf 3
    clear zf
    have HH := Lib.hid fun u (hu : Below V.heap.size V u) => HNa.out u (BXV.out.trans (hu.mono BXV.out.size))
    go_wp2_with (go_at_call 44; refine (HH.out _ bl).mono ?_; rintro e w2 ⟨rfl, hb⟩; clear x0 x1 x2 x3 y0 y1 y2 y3 u0 u1 u2 u3 z0 z1 z2 z3 zf0 zf1 zf2 zf3; refine Hid.out ?_)
    refine Lib.hid ?_
    have bl2 := bl.trans (hb.mono bl.size)
    clear bl hb HH
    have bl := bl2
    clear bl2
    obtain ⟨⟨_, x0, x1, x2, x3, _⟩, ⟨_, y0, y1, y2, y3, _⟩, ⟨_, u0, u1, u2, u3, _⟩, _, z0, z1, z2, z3, zf⟩ := KX.out _ bl
    have zf0 := zf 0
    have zf1 := zf 1
    have zf2 := zf 2
    have zf3 := zf 3
    clear zf
    cases na
    · skip
      have HH := Lib.hid fun u (hu : Below V.heap.size V u) => HNb.out u (BXV.out.trans (hu.mono BXV.out.size))
      go_wp2_with (go_at_call 44; refine (HH.out _ bl).mono ?_; rintro e w3 ⟨rfl, hb⟩; clear x0 x1 x2 x3 y0 y1 y2 y3 u0 u1 u2 u3 z0 z1 z2 z3 zf0 zf1 zf2 zf3; refine Hid.out ?_)
      refine Lib.hid ?_
      have bl2 := bl.trans (hb.mono bl.size)
      clear bl hb HH
      have bl := bl2
      clear bl2
      obtain ⟨⟨_, x0, x1, x2, x3, _⟩, ⟨_, y0, y1, y2, y3, _⟩, ⟨_, u0, u1, u2, u3, _⟩, _, z0, z1, z2, z3, zf⟩ := KX.out _ bl
      have zf0 := zf 0
      have zf1 := zf 1
      have zf2 := zf 2
      have zf3 := zf 3
      clear zf
      cases nb
      · skip
        have HH := Lib.hid fun u (hu : Below V.heap.size V u) => HTa.out u (BXV.out.trans (hu.mono BXV.out.size))
        go_wp2_with (go_at_call 43; refine (HH.out _ bl).mono ?_; rintro e w4 ⟨rfl, hb⟩; clear x0 x1 x2 x3 y0 y1 y2 y3 u0 u1 u2 u3 z0 z1 z2 z3 zf0 zf1 zf2 zf3; refine Hid.out ?_)
        refine Lib.hid ?_
        have bl2 := bl.trans (hb.mono bl.size)
        clear bl hb HH
        have bl := bl2
        clear bl2
        obtain ⟨⟨_, x0, x1, x2, x3, _⟩, ⟨_, y0, y1, y2, y3, _⟩, ⟨_, u0, u1, u2, u3, _⟩, _, z0, z1, z2, z3, zf⟩ := KX.out _ bl
        have zf0 := zf 0
        have zf1 := zf 1
        have zf2 := zf 2
        have zf3 := zf 3
        clear zf
        cases ta
        · skip
          have HH := Lib.hid fun u (hu : Below V.heap.size V u) => HTb.out u (BXV.out.trans (hu.mono BXV.out.size))
          go_wp2_with (go_at_call 43; refine (HH.out _ bl).mono ?_; rintro e w5 ⟨rfl, hb⟩; clear x0 x1 x2 x3 y0 y1 y2 y3 u0 u1 u2 u3 z0 z1 z2 z3 zf0 zf1 zf2 zf3; refine Hid.out ?_)
          refine Lib.hid ?_
          have bl2 := bl.trans (hb.mono bl.size)
          clear bl hb HH
          have bl := bl2
          clear bl2
          obtain ⟨⟨_, x0, x1, x2, x3, _⟩, ⟨_, y0, y1, y2, y3, _⟩, ⟨_, u0, u1, u2, u3, _⟩, _, z0, z1, z2, z3, zf⟩ := KX.out _ bl
          have zf0 := zf 0
          have zf1 := zf 1
          have zf2 := zf 2
          have zf3 := zf 3
          clear zf
          cases tb
          · skip
            have HH := Lib.hid fun u (hu : Below V.heap.size V u) => HSM.out u (BXV.out.trans (hu.mono BXV.out.size))
            go_wp2_with (go_at_call 62; refine (HH.out _ bl).mono ?_; rintro e w6 ⟨rfl, hb⟩; clear x0 x1 x2 x3 y0 y1 y2 y3 u0 u1 u2 u3 z0 z1 z2 z3 zf0 zf1 zf2 zf3; refine Hid.out ?_)
            refine Lib.hid ?_
            have bl2 := bl.trans (hb.mono bl.size)
            clear bl hb HH
            have bl := bl2
            clear bl2
            obtain ⟨⟨_, x0, x1, x2, x3, _⟩, ⟨_, y0, y1, y2, y3, _⟩, ⟨_, u0, u1, u2, u3, _⟩, _, z0, z1, z2, z3, zf⟩ := KX.out _ bl
            have zf0 := zf 0
            have zf1 := zf 1
            have zf2 := zf 2
            have zf3 := zf 3
            clear zf
            cases sm
            · skip
              have HE : Hid (R = .or qa qb) := Lib.hid (by obtain ⟨h1, h2, h3, h4, h5⟩ := HV.out; rw [HR.out, pair_or]; simp only [h1, h2, h3, h4, h5, if_true, if_false, Bool.false_eq_true])
              go_wp2_with fail
              obtain ⟨_, t0, t1, t2, t3, _⟩ := (KX.out _ bl).2.2.2.put (.int .i64 6) (.string .empty) (.int .i64 0) (.slice (some ⟨g, o, none⟩) 2 cap)
              simp only [put4] at t0 t1 t2 t3
              exact bodyPost_ret (v := .agg #[.int .i64 6, .string .empty, .int .i64 0, .slice (some ⟨g, o, none⟩) 2 cap]) (by simp [results, Tryz.results42, go_sem, t0, t1, t2, t3]) rfl (by rw [HE.out]; exact HC.out _ _ _ _ _ (BXV.out.trans (bl.mono BXV.out.size)))
            · skip
              have HE : Hid (R = qa) := Lib.hid (by obtain ⟨h1, h2, h3, h4, h5⟩ := HV.out; rw [HR.out, pair_or]; simp only [h1, h2, h3, h4, h5, if_true, if_false, Bool.false_eq_true])
              go_wp2_with fail
              obtain ⟨_, t0, t1, t2, t3, _⟩ := (KX.out _ bl).2.2.2.put (.int .i64 a.op) (.string a.nm) (.int .i64 a.day) (.slice a.A a.ps.length a.cap)
              simp only [put4] at t0 t1 t2 t3
              exact bodyPost_ret (v := .agg #[.int .i64 a.op, .string a.nm, .int .i64 a.day, .slice a.A a.ps.length a.cap]) (by simp [results, Tryz.results42, go_sem, t0, t1, t2, t3]) rfl (by rw [HE.out]; exact HA.out _ _ _ _ _ (BXV.out.trans (bl.mono BXV.out.size)))
          · skip
            have HE : Hid (R = qb) := Lib.hid (by obtain ⟨h1, h2, h3, h4, h5⟩ := HV.out; rw [HR.out, pair_or]; simp only [h1, h2, h3, h4, h5, if_true, if_false, Bool.false_eq_true])
            go_wp2_with fail
            obtain ⟨_, t0, t1, t2, t3, _⟩ := (KX.out _ bl).2.2.2.put (.int .i64 b.op) (.string b.nm) (.int .i64 b.day) (.slice b.A b.ps.length b.cap)
            simp only [put4] at t0 t1 t2 t3
            exact bodyPost_ret (v := .agg #[.int .i64 b.op, .string b.nm, .int .i64 b.day, .slice b.A b.ps.length b.cap]) (by simp [results, Tryz.results42, go_sem, t0, t1, t2, t3]) rfl (by rw [HE.out]; exact HB.out _ _ _ _ _ (BXV.out.trans (bl.mono BXV.out.size)))
        · skip
          have HE : Hid (R = qa) := Lib.hid (by obtain ⟨h1, h2, h3, h4, h5⟩ := HV.out; rw [HR.out, pair_or]; simp only [h1, h2, h3, h4, h5, if_true, if_false, Bool.false_eq_true])
          go_wp2_with fail
          obtain ⟨_, t0, t1, t2, t3, _⟩ := (KX.out _ bl).2.2.2.put (.int .i64 a.op) (.string a.nm) (.int .i64 a.day) (.slice a.A a.ps.length a.cap)
          simp only [put4] at t0 t1 t2 t3
          exact bodyPost_ret (v := .agg #[.int .i64 a.op, .string a.nm, .int .i64 a.day, .slice a.A a.ps.length a.cap]) (by simp [results, Tryz.results42, go_sem, t0, t1, t2, t3]) rfl (by rw [HE.out]; exact HA.out _ _ _ _ _ (BXV.out.trans (bl.mono BXV.out.size)))
      · skip
        have HE : Hid (R = qa) := Lib.hid (by obtain ⟨h1, h2, h3, h4, h5⟩ := HV.out; rw [HR.out, pair_or]; simp only [h1, h2, h3, h4, h5, if_true, if_false, Bool.false_eq_true])
        go_wp2_with fail
        obtain ⟨_, t0, t1, t2, t3, _⟩ := (KX.out _ bl).2.2.2.put (.int .i64 a.op) (.string a.nm) (.int .i64 a.day) (.slice a.A a.ps.length a.cap)
        simp only [put4] at t0 t1 t2 t3
        exact bodyPost_ret (v := .agg #[.int .i64 a.op, .string a.nm, .int .i64 a.day, .slice a.A a.ps.length a.cap]) (by simp [results, Tryz.results42, go_sem, t0, t1, t2, t3]) rfl (by rw [HE.out]; exact HA.out _ _ _ _ _ (BXV.out.trans (bl.mono BXV.out.size)))
    · skip
      have HE : Hid (R = qb) := Lib.hid (by obtain ⟨h1, h2, h3, h4, h5⟩ := HV.out; rw [HR.out, pair_or]; simp only [h1, h2, h3, h4, h5, if_true, if_false, Bool.false_eq_true])
      go_wp2_with fail
      obtain ⟨_, t0, t1, t2, t3, _⟩ := (KX.out _ bl).2.2.2.put (.int .i64 b.op) (.string b.nm) (.int .i64 b.day) (.slice b.A b.ps.length b.cap)
      simp only [put4] at t0 t1 t2 t3
      exact bodyPost_ret (v := .agg #[.int .i64 b.op, .string b.nm, .int .i64 b.day, .slice b.A b.ps.length b.cap]) (by simp [results, Tryz.results42, go_sem, t0, t1, t2, t3]) rfl (by rw [HE.out]; exact HB.out _ _ _ _ _ (BXV.out.trans (bl.mono BXV.out.size)))
  · obtain ⟨V, hV⟩ : ∃ V, V = ((X.alloc (.cells #[.int .i64 b.op, .string b.nm, .int .i64 b.day, .slice b.A b.ps.length b.cap] 26)).alloc (.cells #[.int .i64 a.op, .string a.nm, .int .i64 a.day, .slice a.A a.ps.length a.cap] 26)).drew := ⟨_, rfl⟩
    rw [← hV]
    have bl : Below X.heap.size X V := by rw [hV]; exact Below.drew ((below1 _ _).alloc (by simp) _)
    have F0 : B4 X.heap.size V (.int .i64 b.op) (.string b.nm) (.int .i64 b.day) (.slice b.A b.ps.length b.cap) := by rw [hV]; exact ((B4.new X _ _ _ _ _).alloc _).on (drew_below _ _)
    have G0 : B4 (X.heap.size + 1) V (.int .i64 a.op) (.string a.nm) (.int .i64 a.day) (.slice a.A a.ps.length a.cap) := by rw [hV]; have := B4.new (X.alloc (.cells #[.int .i64 b.op, .string b.nm, .int .i64 b.day, .slice b.A b.ps.length b.cap] 26)) (.int .i64 a.op) (.string a.nm) (.int .i64 a.day) (.slice a.A a.ps.length a.cap) 26; exact (by simpa using this : B4 (X.heap.size + 1) _ _ _ _ _).on (drew_below _ _)
    have KX : Hid (∀ v, Below V.heap.size V v → B4 (X.heap.size + 1) v (.int .i64 a.op) (.string a.nm) (.int .i64 a.day) (.slice a.A a.ps.length a.cap) ∧ B4 (X.heap.size) v (.int .i64 b.op) (.string b.nm) (.int .i64 b.day) (.slice b.A b.ps.length b.cap) ∧ B4 w.heap.size v (.int .i64 6) (.string .empty) (.int .i64 0) (.slice (some ⟨g, o, none⟩) 2 cap) ∧ B4 (w.heap.size + 1) v (.int .i64 0) (.string ⟨#[]⟩) (.int .i64 0) (.slice none 0 0)) := Lib.hid fun v hv => ⟨G0.on hv, F0.on hv, (X0.out.on bl).on hv, (Y0.out.on bl).on hv⟩
    have BXV := Lib.hid bl
    clear bl F0 G0 hV x0 x1 x2 x3 c0 c1 c2 c3 d0 d1 d2 d3
    have bl : Below V.heap.size V V := Below.refl _ _
    obtain ⟨⟨_, x0, x1, x2, x3, _⟩, ⟨_, y0, y1, y2, y3, _⟩, ⟨_, u0, u1, u2, u3, _⟩, _, z0, z1, z2, z3, zf⟩ := KX.out _ bl
    have zf0 := zf 0
    have zf1 := zf 1
    have zf2 := zf 2
    have zf3 := zf 3
    clear zf
    have HH := Lib.hid fun u (hu : Below V.heap.size V u) => HNa.out u (BXV.out.trans (hu.mono BXV.out.size))
    go_wp2_with (go_at_call 44; refine (HH.out _ bl).mono ?_; rintro e w2 ⟨rfl, hb⟩; clear x0 x1 x2 x3 y0 y1 y2 y3 u0 u1 u2 u3 z0 z1 z2 z3 zf0 zf1 zf2 zf3; refine Hid.out ?_)
    refine Lib.hid ?_
    have bl2 := bl.trans (hb.mono bl.size)
    clear bl hb HH
    have bl := bl2
    clear bl2
    obtain ⟨⟨_, x0, x1, x2, x3, _⟩, ⟨_, y0, y1, y2, y3, _⟩, ⟨_, u0, u1, u2, u3, _⟩, _, z0, z1, z2, z3, zf⟩ := KX.out _ bl
    have zf0 := zf 0
    have zf1 := zf 1
    have zf2 := zf 2
    have zf3 := zf 3
    clear zf
    cases na
    · skip
      have HH := Lib.hid fun u (hu : Below V.heap.size V u) => HNb.out u (BXV.out.trans (hu.mono BXV.out.size))
      go_wp2_with (go_at_call 44; refine (HH.out _ bl).mono ?_; rintro e w3 ⟨rfl, hb⟩; clear x0 x1 x2 x3 y0 y1 y2 y3 u0 u1 u2 u3 z0 z1 z2 z3 zf0 zf1 zf2 zf3; refine Hid.out ?_)
      refine Lib.hid ?_
      have bl2 := bl.trans (hb.mono bl.size)
      clear bl hb HH
      have bl := bl2
      clear bl2
      obtain ⟨⟨_, x0, x1, x2, x3, _⟩, ⟨_, y0, y1, y2, y3, _⟩, ⟨_, u0, u1, u2, u3, _⟩, _, z0, z1, z2, z3, zf⟩ := KX.out _ bl
      have zf0 := zf 0
      have zf1 := zf 1
      have zf2 := zf 2
      have zf3 := zf 3
      clear zf
      cases nb
      · skip
        have HH := Lib.hid fun u (hu : Below V.heap.size V u) => HTa.out u (BXV.out.trans (hu.mono BXV.out.size))
        go_wp2_with (go_at_call 43; refine (HH.out _ bl).mono ?_; rintro e w4 ⟨rfl, hb⟩; clear x0 x1 x2 x3 y0 y1 y2 y3 u0 u1 u2 u3 z0 z1 z2 z3 zf0 zf1 zf2 zf3; refine Hid.out ?_)
        refine Lib.hid ?_
        have bl2 := bl.trans (hb.mono bl.size)
        clear bl hb HH
        have bl := bl2
        clear bl2
        obtain ⟨⟨_, x0, x1, x2, x3, _⟩, ⟨_, y0, y1, y2, y3, _⟩, ⟨_, u0, u1, u2, u3, _⟩, _, z0, z1, z2, z3, zf⟩ := KX.out _ bl
        have zf0 := zf 0
        have zf1 := zf 1
        have zf2 := zf 2
        have zf3 := zf 3
        clear zf
        cases ta
        · skip
          have HH := Lib.hid fun u (hu : Below V.heap.size V u) => HTb.out u (BXV.out.trans (hu.mono BXV.out.size))
          go_wp2_with (go_at_call 43; refine (HH.out _ bl).mono ?_; rintro e w5 ⟨rfl, hb⟩; clear x0 x1 x2 x3 y0 y1 y2 y3 u0 u1 u2 u3 z0 z1 z2 z3 zf0 zf1 zf2 zf3; refine Hid.out ?_)
          refine Lib.hid ?_
          have bl2 := bl.trans (hb.mono bl.size)
          clear bl hb HH
          have bl := bl2
          clear bl2
          obtain ⟨⟨_, x0, x1, x2, x3, _⟩, ⟨_, y0, y1, y2, y3, _⟩, ⟨_, u0, u1, u2, u3, _⟩, _, z0, z1, z2, z3, zf⟩ := KX.out _ bl
          have zf0 := zf 0
          have zf1 := zf 1
          have zf2 := zf 2
          have zf3 := zf 3
          clear zf
          cases tb
          · skip
            have HH := Lib.hid fun u (hu : Below V.heap.size V u) => HSM.out u (BXV.out.trans (hu.mono BXV.out.size))
            go_wp2_with (go_at_call 62; refine (HH.out _ bl).mono ?_; rintro e w6 ⟨rfl, hb⟩; clear x0 x1 x2 x3 y0 y1 y2 y3 u0 u1 u2 u3 z0 z1 z2 z3 zf0 zf1 zf2 zf3; refine Hid.out ?_)
            refine Lib.hid ?_
            have bl2 := bl.trans (hb.mono bl.size)
            clear bl hb HH
            have bl := bl2
            clear bl2
            obtain ⟨⟨_, x0, x1, x2, x3, _⟩, ⟨_, y0, y1, y2, y3, _⟩, ⟨_, u0, u1, u2, u3, _⟩, _, z0, z1, z2, z3, zf⟩ := KX.out _ bl
            have zf0 := zf 0
            have zf1 := zf 1
            have zf2 := zf 2
            have zf3 := zf 3
            clear zf
            cases sm
            · skip
              have HE : Hid (R = .or qa qb) := Lib.hid (by obtain ⟨h1, h2, h3, h4, h5⟩ := HV.out; rw [HR.out, pair_or]; simp only [h1, h2, h3, h4, h5, if_true, if_false, Bool.false_eq_true])
              go_wp2_with fail
              obtain ⟨_, t0, t1, t2, t3, _⟩ := (KX.out _ bl).2.2.2.put (.int .i64 6) (.string .empty) (.int .i64 0) (.slice (some ⟨g, o, none⟩) 2 cap)
              simp only [put4] at t0 t1 t2 t3
              exact bodyPost_ret (v := .agg #[.int .i64 6, .string .empty, .int .i64 0, .slice (some ⟨g, o, none⟩) 2 cap]) (by simp [results, Tryz.results42, go_sem, t0, t1, t2, t3]) rfl (by rw [HE.out]; exact HC.out _ _ _ _ _ (BXV.out.trans (bl.mono BXV.out.size)))
            · skip
              have HE : Hid (R = qa) := Lib.hid (by obtain ⟨h1, h2, h3, h4, h5⟩ := HV.out; rw [HR.out, pair_or]; simp only [h1, h2, h3, h4, h5, if_true, if_false, Bool.false_eq_true])
              go_wp2_with fail
              obtain ⟨_, t0, t1, t2, t3, _⟩ := (KX.out _ bl).2.2.2.put (.int .i64 a.op) (.string a.nm) (.int .i64 a.day) (.slice a.A a.ps.length a.cap)
              simp only [put4] at t0 t1 t2 t3
              exact bodyPost_ret (v := .agg #[.int .i64 a.op, .string a.nm, .int .i64 a.day, .slice a.A a.ps.length a.cap]) (by simp [results, Tryz.results42, go_sem, t0, t1, t2, t3]) rfl (by rw [HE.out]; exact HA.out _ _ _ _ _ (BXV.out.trans (bl.mono BXV.out.size)))
          · skip
            have HE : Hid (R = qb) := Lib.hid (by obtain ⟨h1, h2, h3, h4, h5⟩ := HV.out; rw [HR.out, pair_or]; simp only [h1, h2, h3, h4, h5, if_true, if_false, Bool.false_eq_true])
            go_wp2_with fail
            obtain ⟨_, t0, t1, t2, t3, _⟩ := (KX.out _ bl).2.2.2.put (.int .i64 b.op) (.string b.nm) (.int .i64 b.day) (.slice b.A b.ps.length b.cap)
            simp only [put4] at t0 t1 t2 t3
            exact bodyPost_ret (v := .agg #[.int .i64 b.op, .string b.nm, .int .i64 b.day, .slice b.A b.ps.length b.cap]) (by simp [results, Tryz.results42, go_sem, t0, t1, t2, t3]) rfl (by rw [HE.out]; exact HB.out _ _ _ _ _ (BXV.out.trans (bl.mono BXV.out.size)))
        · skip
          have HE : Hid (R = qa) := Lib.hid (by obtain ⟨h1, h2, h3, h4, h5⟩ := HV.out; rw [HR.out, pair_or]; simp only [h1, h2, h3, h4, h5, if_true, if_false, Bool.false_eq_true])
          go_wp2_with fail
          obtain ⟨_, t0, t1, t2, t3, _⟩ := (KX.out _ bl).2.2.2.put (.int .i64 a.op) (.string a.nm) (.int .i64 a.day) (.slice a.A a.ps.length a.cap)
          simp only [put4] at t0 t1 t2 t3
          exact bodyPost_ret (v := .agg #[.int .i64 a.op, .string a.nm, .int .i64 a.day, .slice a.A a.ps.length a.cap]) (by simp [results, Tryz.results42, go_sem, t0, t1, t2, t3]) rfl (by rw [HE.out]; exact HA.out _ _ _ _ _ (BXV.out.trans (bl.mono BXV.out.size)))
      · skip
        have HE : Hid (R = qa) := Lib.hid (by obtain ⟨h1, h2, h3, h4, h5⟩ := HV.out; rw [HR.out, pair_or]; simp only [h1, h2, h3, h4, h5, if_true, if_false, Bool.false_eq_true])
        go_wp2_with fail
        obtain ⟨_, t0, t1, t2, t3, _⟩ := (KX.out _ bl).2.2.2.put (.int .i64 a.op) (.string a.nm) (.int .i64 a.day) (.slice a.A a.ps.length a.cap)
        simp only [put4] at t0 t1 t2 t3
        exact bodyPost_ret (v := .agg #[.int .i64 a.op, .string a.nm, .int .i64 a.day, .slice a.A a.ps.length a.cap]) (by simp [results, Tryz.results42, go_sem, t0, t1, t2, t3]) rfl (by rw [HE.out]; exact HA.out _ _ _ _ _ (BXV.out.trans (bl.mono BXV.out.size)))
    · skip
      have HE : Hid (R = qb) := Lib.hid (by obtain ⟨h1, h2, h3, h4, h5⟩ := HV.out; rw [HR.out, pair_or]; simp only [h1, h2, h3, h4, h5, if_true, if_false, Bool.false_eq_true])
      go_wp2_with fail
      obtain ⟨_, t0, t1, t2, t3, _⟩ := (KX.out _ bl).2.2.2.put (.int .i64 b.op) (.string b.nm) (.int .i64 b.day) (.slice b.A b.ps.length b.cap)
      simp only [put4] at t0 t1 t2 t3
      exact bodyPost_ret (v := .agg #[.int .i64 b.op, .string b.nm, .int .i64 b.day, .slice b.A b.ps.length b.cap]) (by simp [results, Tryz.results42, go_sem, t0, t1, t2, t3]) rfl (by rw [HE.out]; exact HB.out _ _ _ _ _ (BXV.out.trans (bl.mono BXV.out.size)))

end Go.Proofs.YtmgjeplbhnfakaaGreatDoor.Cond
