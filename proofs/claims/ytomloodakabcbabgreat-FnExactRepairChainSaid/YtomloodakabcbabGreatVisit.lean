/-
  A condition is visited, its parts behind it, whatever the function that is called keeps.
-/
import Derived.Test.YtomloodakabcbabGreatGoodS
namespace Go.Proofs.YtomloodakabcbabGreat.Cond
open Go.RowKit

/-- What a call may have done: blocks that it does not own stand as they were; what it owns now it owned, or it is new. -/
structure Mv (own own' : Nat → Prop) (w w' : World) : Prop where
  os : w'.os = w.os
  tape : w'.tape = w.tape
  output : w'.output = w.output
  size : w.heap.size ≤ w'.heap.size
  block : ∀ b, b < w.heap.size → ¬ own b → w'.heap[b]? = w.heap[b]?
  new : ∀ b, own' b → own b ∨ w.heap.size ≤ b
theorem Mv.trans {o1 o2 o3 : Nat → Prop} {a b c : World} (h : Mv o1 o2 a b) (k : Mv o2 o3 b c) : Mv o1 o3 a c :=
  ⟨k.os.trans h.os, k.tape.trans h.tape, k.output.trans h.output, Nat.le_trans h.size k.size,
   fun i hi hn => (k.block i (Nat.lt_of_lt_of_le hi h.size) (fun h2 => (h.new i h2).elim hn (fun h3 => by omega))).trans (h.block i hi hn),
   fun i h3 => (k.new i h3).elim (fun h2 => h.new i h2) (fun h2 => .inr (Nat.le_trans h.size h2))⟩
theorem Mv.of_below {o : Nat → Prop} {w w' : World} (h : Below w.heap.size w w') : Mv o o w w' := ⟨h.os, h.tape, h.output, h.size, fun b hb _ => h.block b hb, fun _ h => .inl h⟩
theorem Mv.below {o o' : Nat → Prop} {B : Nat} {w w' : World} (h : Mv o o' w w') (ho : ∀ b, o b → B ≤ b) (hB : B ≤ w.heap.size) : Below B w w' :=
  ⟨h.os, h.tape, h.output, h.size, fun b hb => h.block b (by omega) (fun hh => by have := ho b hh; omega)⟩
theorem B4.alike {k : Nat} {w w' : World} {a b c d : Value} (h : B4 k w a b c d) (hb : w'.heap[k]? = w.heap[k]?) (hs : w.heap.size ≤ w'.heap.size) : B4 k w' a b c d :=
  ⟨Nat.lt_of_lt_of_le h.lt hs, (World.cell?_of_block (a := ⟨k, 0, none⟩) hb).trans h.c0, (World.cell?_of_block (a := ⟨k, 1, none⟩) hb).trans h.c1, (World.cell?_of_block (a := ⟨k, 2, none⟩) hb).trans h.c2, (World.cell?_of_block (a := ⟨k, 3, none⟩) hb).trans h.c3, fun o => (World.frozen?_of_block (a := ⟨k, o, none⟩) hb).trans (h.fz o)⟩

mutual
/-- The visit in plain facts: ok tells whether it goes on, nxt what is kept. -/
def vis {σ : Type} (ok : σ → C → Bool) (nxt : σ → C → σ) : C → σ → Bool × σ
  | .mk op nm day ps, s => if ok s (.mk op nm day ps) then visL ok nxt ps (nxt s (.mk op nm day ps)) else (false, nxt s (.mk op nm day ps))
def visL {σ : Type} (ok : σ → C → Bool) (nxt : σ → C → σ) : List C → σ → Bool × σ
  | [], s => (true, s)
  | p :: ps, s => if (vis ok nxt p s).1 then visL ok nxt ps (vis ok nxt p s).2 else (false, (vis ok nxt p s).2)
end

theorem visL_append {σ : Type} (ok : σ → C → Bool) (nxt : σ → C → σ) (a b : List C) : ∀ s, visL ok nxt (a ++ b) s = if (visL ok nxt a s).1 then visL ok nxt b (visL ok nxt a s).2 else visL ok nxt a s := by
  induction a with
  | nil => intro s; simp [visL]
  | cons p a ih =>
    intro s
    simp only [List.cons_append, visL]
    by_cases h : (vis ok nxt p s).1 = true
    · simp only [h, if_true, ih]
    · simp [h]
theorem visL_yes {σ : Type} {ok : σ → C → Bool} {nxt : σ → C → σ} {ps : List C} {i : Nat} (hi : i < ps.length) {s t : σ} (h : visL ok nxt (ps.take i) s = (true, t)) (h2 : (vis ok nxt ps[i] t).1 = true) :
    visL ok nxt (ps.take (i + 1)) s = (true, (vis ok nxt ps[i] t).2) := by
  rw [List.take_succ_eq_append_getElem hi, visL_append, h]
  simp [visL, h2]
theorem visL_no {σ : Type} {ok : σ → C → Bool} {nxt : σ → C → σ} {ps : List C} {i : Nat} (hi : i < ps.length) {s t : σ} (h : visL ok nxt (ps.take i) s = (true, t)) (h2 : (vis ok nxt ps[i] t).1 = false) :
    visL ok nxt ps s = (false, (vis ok nxt ps[i] t).2) := by
  have e : ps = ps.take i ++ ps[i] :: ps.drop (i + 1) := by simp
  have h3 : visL ok nxt (ps.take i ++ ps[i] :: ps.drop (i + 1)) s = (false, (vis ok nxt ps[i] t).2) := by
    rw [visL_append, h]
    simp [visL, h2]
  rwa [← e] at h3

/-- What the function that is called keeps in its state s, in the blocks that it owns; fit s m: it can be called m times more. -/
structure Sees {σ : Type} (B : Nat) (ok : σ → C → Bool) (nxt : σ → C → σ) (St : σ → (Nat → Prop) → World → Prop) (fit : σ → Nat → Prop) : Prop where
  lt : ∀ s own v, St s own v → ∀ b, own b → B ≤ b ∧ b < v.heap.size
  fr : ∀ s own v v', St s own v → (∀ b, own b → v'.heap[b]? = v.heap[b]?) → St s own v'
  less : ∀ s m m', fit s m → m' ≤ m → fit s m'
  fits : ∀ s m c, fit s (m + 1) → fit (nxt s c) m

section
variable {σ : Type} {B : Nat} {ok : σ → C → Bool} {nxt : σ → C → σ} {St : σ → (Nat → Prop) → World → Prop} {fit : σ → Nat → Prop}
mutual
theorem Sees.vis (h : Sees B ok nxt St fit) : ∀ (c : C) (s : σ) (m : Nat), fit s (c.size + m) → (vis ok nxt c s).1 = true → fit (vis ok nxt c s).2 m
  | .mk op nm day ps, s, m, hf, hv => by
    unfold Cond.vis at hv ⊢
    split at hv
    · rename_i ho
      rw [if_pos ho]
      exact Sees.visL h ps _ m (h.fits s _ _ (by simp only [C.size] at hf; rw [show sizes ps + m + 1 = 1 + sizes ps + m by omega]; exact hf)) hv
    · cases hv
theorem Sees.visL (h : Sees B ok nxt St fit) : ∀ (ps : List C) (s : σ) (m : Nat), fit s (sizes ps + m) → (visL ok nxt ps s).1 = true → fit (visL ok nxt ps s).2 m
  | [], s, m, hf, _ => by simpa [Cond.visL, sizes] using hf
  | p :: ps, s, m, hf, hv => by
    unfold Cond.visL at hv ⊢
    split at hv
    · rename_i ho
      rw [if_pos ho]
      exact Sees.visL h ps _ m (Sees.vis h p s (sizes ps + m) (by simp only [sizes] at hf; rw [show p.size + (sizes ps + m) = p.size + sizes ps + m by omega]; exact hf) ho) hv
    · cases hv
end
end

set_option maxHeartbeats 4000000 in
theorem visitV {σ : Type} {B : Nat} {ok : σ → C → Bool} {nxt : σ → C → σ} {St : σ → (Nat → Prop) → World → Prop} {fit : σ → Nat → Prop} (hS : Sees B ok nxt St fit) (p0 : Nat)
    (hsee : ∀ s own v (k : K), fit s 1 → St s own v → Lies v B k → B ≤ v.heap.size → Calls Tryz.prog 67 #[k.val, .pointer (some ⟨p0, 0, none⟩)] v fun e w' => ∃ own', e = .returned (.bool (ok s k.cond)) ∧ St (nxt s k.cond) own' w' ∧ Mv own own' v w') (k : K) :
    ∀ (s : σ) (own : Nat → Prop) (w : World), fit s k.cond.size → St s own w → Lies w B k → B ≤ w.heap.size →
    Calls Tryz.prog 66 #[k.val, .func (.func 67) #[] #[.pointer (some ⟨p0, 0, none⟩)]] w fun e w' => ∃ own', e = .returned (.bool (vis ok nxt k.cond s).1) ∧ St (vis ok nxt k.cond s).2 own' w' ∧ Mv own own' w w' := by
  induction k using K.ind with
  | h op nm day A cap ps ih =>
    intro s own w hf hst hin hBw
    have hz := hin.sz
    have hA := Lib.hid hin.at
    have HST := Lib.hid hst
    have HIN := Lib.hid hin
    have HBW := Lib.hid hBw
    have IH := Lib.hid ih
    have hn := hz.2
    unfold maxLen at hn
    have HC := Lib.hid (conds_len ps)
    have HF := Lib.hid hf
    have X0 := Lib.hid (B4.new w (.int .i64 op) (.string nm) (.int .i64 day) (.slice A ps.length cap) 68)
    have B0 := Lib.hid (below1 w (.cells #[.int .i64 op, .string nm, .int .i64 day, .slice A ps.length cap] 68))
    have HSEE := hsee s own (w.alloc (.cells #[.int .i64 op, .string nm, .int .i64 day, .slice A ps.length cap] 68)) (.mk op nm day A cap ps) (hS.less _ _ _ hf (by have := C.size_pos (K.mk op nm day A cap ps).cond; omega))
      (hS.fr _ _ _ _ hst (fun b hb => B0.out.block b (hS.lt _ _ _ hst b hb).2)) (hin.below (B0.out.mono hBw)) (Nat.le_trans hBw B0.out.size)
    clear hf hst hin hz ih hsee hBw
    obtain ⟨ev, hev⟩ : ∃ ev, ev = vis ok nxt (K.mk op nm day A cap ps).cond s := ⟨_, rfl⟩
    have HEV := Lib.hid hev
    rw [← hev]
    clear hev
    obtain ⟨t, ht⟩ : ∃ t, t = nxt s (K.mk op nm day A cap ps).cond := ⟨_, rfl⟩
    obtain ⟨q, hq⟩ : ∃ q, q = ok s (K.mk op nm day A cap ps).cond := ⟨_, rfl⟩
    rw [← ht, ← hq] at HSEE
    have HSEEH := Lib.hid HSEE
    have HT := Lib.hid ht
    have HQ := Lib.hid hq
    clear HSEE ht hq
    show Calls Tryz.prog 66 #[.agg #[.int .i64 op, .string nm, .int .i64 day, .slice A ps.length cap], .func (.func 67) #[] #[.pointer (some ⟨p0, 0, none⟩)]] w _
    obtain ⟨n, hnn⟩ : ∃ n, n = ps.length := ⟨_, rfl⟩
    have HN := Lib.hid hnn
    have HSE2 : Hid (Calls Tryz.prog 67 #[.agg #[.int .i64 op, .string nm, .int .i64 day, .slice A n cap], .pointer (some ⟨p0, 0, none⟩)] (w.alloc (.cells #[.int .i64 op, .string nm, .int .i64 day, .slice A n cap] 68)) fun e w' => ∃ own', e = .returned (.bool q) ∧ St t own' w' ∧ Mv own own' (w.alloc (.cells #[.int .i64 op, .string nm, .int .i64 day, .slice A n cap] 68)) w') := by rw [hnn]; exact HSEEH
    rw [← hnn] at hn X0 B0 ⊢
    clear hnn HSEEH
    cases q
    · have HE : Hid (ev = (false, t)) := Lib.hid (by rw [HEV.out, HT.out]; simp only [K.cond, vis]; rw [if_neg]; have := HQ.out; simp only [K.cond] at this; simp [← this])
      go_enter Tryz.func66, Tryz.ntmps66
      go_wp2_with (go_at_call 67; refine HSE2.out.mono ?_; rintro e w2 ⟨own2, rfl, hst2, hm2⟩)
      go_ret
      exact ⟨own2, by rw [HE.out]; rfl, by rw [HE.out]; exact hst2, (Mv.of_below B0.out).trans hm2⟩
    · have HE : Hid (ev = visL ok nxt (conds ps) t) := Lib.hid (by rw [HEV.out, HT.out]; simp only [K.cond, vis]; rw [if_pos]; have := HQ.out; simp only [K.cond] at this; simp [← this])
      have HFT : Hid (fit t (sizes (conds ps))) := Lib.hid (by
        rw [HT.out]
        refine hS.fits s _ _ ?_
        have := HF.out
        simp only [K.cond, C.size] at this
        rw [Nat.add_comm]; exact this)
      go_enter Tryz.func66, Tryz.ntmps66
      go_wp2_with (go_at_call 67; refine HSE2.out.mono ?_; rintro e w2 ⟨own2, rfl, hst2, hm2⟩; refine Hid.out ?_)
      refine Lib.hid ?_
      have HST2 := Lib.hid hst2
      have HM2 := Lib.hid ((Mv.of_below (o := own) B0.out).trans hm2)
      have X2 := Lib.hid (X0.out.alike (hm2.block w.heap.size (by simp) (fun h => by have := (hS.lt _ _ _ HST.out _ h).2; omega)) hm2.size)
      obtain ⟨_, x0, x1, x2, x3, _⟩ := X2.out
      clear hst2 hm2 HSE2
      go_wp2_with fail
      go_loopw [14] (fun i wr => ∃ (j : Nat) (u : σ) (ow : Nat → Prop), j ≤ n ∧ i = .int .i64 j ∧ Hid (visL ok nxt ((conds ps).take j) t = (true, u)) ∧ Hid (St u ow wr) ∧ Hid (Mv own ow w wr)) (fun i _ => n - (intOf i).toNat)
      case atStart => exact ⟨0, t, own2, Nat.zero_le _, rfl, Lib.hid rfl, HST2, HM2⟩
      case round =>
        obtain ⟨j, u, ow, hj, rfl, HV, HU, HM⟩ := hrel
        clear HST2 HM2 X2 x0 x1 x2 x3
        by_cases hlt : j < n
        · have hj' : j < ps.length := by have := HN.out; omega
          obtain ⟨b, o, rfl, hB, hc⟩ := hA.out (by omega)
          obtain ⟨p, hp⟩ : ∃ p, p = ps[j] := ⟨_, rfl⟩
          have HBB := Lib.hid (HM.out.below (B := B) (fun b hb => (hS.lt _ _ _ HST.out b hb).1) HBW.out)
          have hE := (hc j hj').alike (HBB.out.block b hB)
          rw [← hp] at hE
          obtain ⟨c0, c1, c2, c3⟩ := hE
          have hjc : j < (conds ps).length := by have := HC.out; omega
          have HP : Hid ((conds ps)[j] = p.cond) := Lib.hid (by simp [conds_map, hp])
          have BP := Lib.hid (below1 wr (.cells #[.int .i64 p.op, .string p.nm, .int .i64 p.day, .slice p.A p.ps.length p.cap] 68))
          have HFU : Hid (fit u p.cond.size) := Lib.hid (by
            have h1 := hS.visL ((conds ps).take j) t (p.cond.size) (hS.less _ _ _ HFT.out (by have h1 := size_part hjc; have := sizes_take_le (conds ps) (j + 1); rw [HP.out] at h1; omega)) (by rw [HV.out])
            rw [HV.out] at h1
            exact h1)
          have IHp := IH.out p (by rw [hp]; exact List.getElem_mem hj') u ow (wr.alloc (.cells #[.int .i64 p.op, .string p.nm, .int .i64 p.day, .slice p.A p.ps.length p.cap] 68)) HFU.out
            (hS.fr _ _ _ _ HU.out (fun b hb => BP.out.block b (hS.lt _ _ _ HU.out b hb).2)) ((((HIN.out.part (by rw [hp]; exact List.getElem_mem hj')).below HBB.out).below (BP.out.mono (Nat.le_trans HBW.out HM.out.size)))) (Nat.le_trans HBW.out (Nat.le_trans HM.out.size BP.out.size))
          clear hp hc
          obtain ⟨r, hr⟩ : ∃ r, r = (vis ok nxt p.cond u).1 := ⟨_, rfl⟩
          obtain ⟨u2, hu2⟩ : ∃ u2, u2 = (vis ok nxt p.cond u).2 := ⟨_, rfl⟩
          rw [← hr, ← hu2] at IHp
          have HR := Lib.hid hr
          have HU2 := Lib.hid hu2
          have IHH := Lib.hid IHp
          clear hr hu2 IHp
          cases r
          · have HEE : Hid (ev = (false, u2)) := Lib.hid (by rw [HE.out, visL_no hjc HV.out (by rw [HP.out, ← HR.out]), HP.out, ← HU2.out])
            go_wp2_with (go_at_call 66; refine IHH.out.mono ?_; rintro e w3 ⟨own3, rfl, hst3, hm3⟩)
            go_ret
            exact ⟨own3, by rw [HEE.out]; rfl, by rw [HEE.out]; exact hst3, HM.out.trans ((Mv.of_below BP.out).trans hm3)⟩
          · have HVV : Hid (visL ok nxt ((conds ps).take (j + 1)) t = (true, u2)) := Lib.hid (by rw [visL_yes hjc HV.out (by rw [HP.out, ← HR.out]), HP.out, ← HU2.out])
            go_wp2_with (go_at_call 66; refine IHH.out.mono ?_; rintro e w3 ⟨own3, rfl, hst3, hm3⟩)
            go_roundw
            case rel => exact ⟨j + 1, u2, own3, by omega, by go_num, HVV, Lib.hid hst3, Lib.hid (HM.out.trans ((Mv.of_below BP.out).trans hm3))⟩
            case measure => simp [intOf]; omega
        · have HEE : Hid (ev = (true, u)) := Lib.hid (by
            rw [HE.out, ← HV.out, List.take_of_length_le (by have := HN.out; have := HC.out; omega)])
          go_wp2_with fail
          go_ret
          exact ⟨ow, by rw [HEE.out]; rfl, by rw [HEE.out]; exact HU.out, HM.out⟩

set_option maxHeartbeats 4000000 in
theorem visitN {σ : Type} {B : Nat} {ok : σ → C → Bool} {nxt : σ → C → σ} {St : σ → (Nat → Prop) → World → Prop} {fit : σ → Nat → Prop} (hS : Sees B ok nxt St fit) (p0 p1 : Nat)
    (hsee : ∀ s own v (k : K), fit s 1 → St s own v → Lies v B k → B ≤ v.heap.size → Calls Tryz.prog 69 #[k.val, .pointer (some ⟨p0, 0, none⟩), .pointer (some ⟨p1, 0, none⟩)] v fun e w' => ∃ own', e = .returned (.bool (ok s k.cond)) ∧ St (nxt s k.cond) own' w' ∧ Mv own own' v w') (k : K) :
    ∀ (s : σ) (own : Nat → Prop) (w : World), fit s k.cond.size → St s own w → Lies w B k → B ≤ w.heap.size →
    Calls Tryz.prog 66 #[k.val, .func (.func 69) #[] #[.pointer (some ⟨p0, 0, none⟩), .pointer (some ⟨p1, 0, none⟩)]] w fun e w' => ∃ own', e = .returned (.bool (vis ok nxt k.cond s).1) ∧ St (vis ok nxt k.cond s).2 own' w' ∧ Mv own own' w w' := by
  induction k using K.ind with
  | h op nm day A cap ps ih =>
    intro s own w hf hst hin hBw
    have hz := hin.sz
    have hA := Lib.hid hin.at
    have HST := Lib.hid hst
    have HIN := Lib.hid hin
    have HBW := Lib.hid hBw
    have IH := Lib.hid ih
    have hn := hz.2
    unfold maxLen at hn
    have HC := Lib.hid (conds_len ps)
    have HF := Lib.hid hf
    have X0 := Lib.hid (B4.new w (.int .i64 op) (.string nm) (.int .i64 day) (.slice A ps.length cap) 68)
    have B0 := Lib.hid (below1 w (.cells #[.int .i64 op, .string nm, .int .i64 day, .slice A ps.length cap] 68))
    have HSEE := hsee s own (w.alloc (.cells #[.int .i64 op, .string nm, .int .i64 day, .slice A ps.length cap] 68)) (.mk op nm day A cap ps) (hS.less _ _ _ hf (by have := C.size_pos (K.mk op nm day A cap ps).cond; omega))
      (hS.fr _ _ _ _ hst (fun b hb => B0.out.block b (hS.lt _ _ _ hst b hb).2)) (hin.below (B0.out.mono hBw)) (Nat.le_trans hBw B0.out.size)
    clear hf hst hin hz ih hsee hBw
    obtain ⟨ev, hev⟩ : ∃ ev, ev = vis ok nxt (K.mk op nm day A cap ps).cond s := ⟨_, rfl⟩
    have HEV := Lib.hid hev
    rw [← hev]
    clear hev
    obtain ⟨t, ht⟩ : ∃ t, t = nxt s (K.mk op nm day A cap ps).cond := ⟨_, rfl⟩
    obtain ⟨q, hq⟩ : ∃ q, q = ok s (K.mk op nm day A cap ps).cond := ⟨_, rfl⟩
    rw [← ht, ← hq] at HSEE
    have HSEEH := Lib.hid HSEE
    have HT := Lib.hid ht
    have HQ := Lib.hid hq
    clear HSEE ht hq
    show Calls Tryz.prog 66 #[.agg #[.int .i64 op, .string nm, .int .i64 day, .slice A ps.length cap], .func (.func 69) #[] #[.pointer (some ⟨p0, 0, none⟩), .pointer (some ⟨p1, 0, none⟩)]] w _
    obtain ⟨n, hnn⟩ : ∃ n, n = ps.length := ⟨_, rfl⟩
    have HN := Lib.hid hnn
    have HSE2 : Hid (Calls Tryz.prog 69 #[.agg #[.int .i64 op, .string nm, .int .i64 day, .slice A n cap], .pointer (some ⟨p0, 0, none⟩), .pointer (some ⟨p1, 0, none⟩)] (w.alloc (.cells #[.int .i64 op, .string nm, .int .i64 day, .slice A n cap] 68)) fun e w' => ∃ own', e = .returned (.bool q) ∧ St t own' w' ∧ Mv own own' (w.alloc (.cells #[.int .i64 op, .string nm, .int .i64 day, .slice A n cap] 68)) w') := by rw [hnn]; exact HSEEH
    rw [← hnn] at hn X0 B0 ⊢
    clear hnn HSEEH
    cases q
    · have HE : Hid (ev = (false, t)) := Lib.hid (by rw [HEV.out, HT.out]; simp only [K.cond, vis]; rw [if_neg]; have := HQ.out; simp only [K.cond] at this; simp [← this])
      go_enter Tryz.func66, Tryz.ntmps66
      go_wp2_with (go_at_call 69; refine HSE2.out.mono ?_; rintro e w2 ⟨own2, rfl, hst2, hm2⟩)
      go_ret
      exact ⟨own2, by rw [HE.out]; rfl, by rw [HE.out]; exact hst2, (Mv.of_below B0.out).trans hm2⟩
    · have HE : Hid (ev = visL ok nxt (conds ps) t) := Lib.hid (by rw [HEV.out, HT.out]; simp only [K.cond, vis]; rw [if_pos]; have := HQ.out; simp only [K.cond] at this; simp [← this])
      have HFT : Hid (fit t (sizes (conds ps))) := Lib.hid (by
        rw [HT.out]
        refine hS.fits s _ _ ?_
        have := HF.out
        simp only [K.cond, C.size] at this
        rw [Nat.add_comm]; exact this)
      go_enter Tryz.func66, Tryz.ntmps66
      go_wp2_with (go_at_call 69; refine HSE2.out.mono ?_; rintro e w2 ⟨own2, rfl, hst2, hm2⟩; refine Hid.out ?_)
      refine Lib.hid ?_
      have HST2 := Lib.hid hst2
      have HM2 := Lib.hid ((Mv.of_below (o := own) B0.out).trans hm2)
      have X2 := Lib.hid (X0.out.alike (hm2.block w.heap.size (by simp) (fun h => by have := (hS.lt _ _ _ HST.out _ h).2; omega)) hm2.size)
      obtain ⟨_, x0, x1, x2, x3, _⟩ := X2.out
      clear hst2 hm2 HSE2
      go_wp2_with fail
      go_loopw [14] (fun i wr => ∃ (j : Nat) (u : σ) (ow : Nat → Prop), j ≤ n ∧ i = .int .i64 j ∧ Hid (visL ok nxt ((conds ps).take j) t = (true, u)) ∧ Hid (St u ow wr) ∧ Hid (Mv own ow w wr)) (fun i _ => n - (intOf i).toNat)
      case atStart => exact ⟨0, t, own2, Nat.zero_le _, rfl, Lib.hid rfl, HST2, HM2⟩
      case round =>
        obtain ⟨j, u, ow, hj, rfl, HV, HU, HM⟩ := hrel
        clear HST2 HM2 X2 x0 x1 x2 x3
        by_cases hlt : j < n
        · have hj' : j < ps.length := by have := HN.out; omega
          obtain ⟨b, o, rfl, hB, hc⟩ := hA.out (by omega)
          obtain ⟨p, hp⟩ : ∃ p, p = ps[j] := ⟨_, rfl⟩
          have HBB := Lib.hid (HM.out.below (B := B) (fun b hb => (hS.lt _ _ _ HST.out b hb).1) HBW.out)
          have hE := (hc j hj').alike (HBB.out.block b hB)
          rw [← hp] at hE
          obtain ⟨c0, c1, c2, c3⟩ := hE
          have hjc : j < (conds ps).length := by have := HC.out; omega
          have HP : Hid ((conds ps)[j] = p.cond) := Lib.hid (by simp [conds_map, hp])
          have BP := Lib.hid (below1 wr (.cells #[.int .i64 p.op, .string p.nm, .int .i64 p.day, .slice p.A p.ps.length p.cap] 68))
          have HFU : Hid (fit u p.cond.size) := Lib.hid (by
            have h1 := hS.visL ((conds ps).take j) t (p.cond.size) (hS.less _ _ _ HFT.out (by have h1 := size_part hjc; have := sizes_take_le (conds ps) (j + 1); rw [HP.out] at h1; omega)) (by rw [HV.out])
            rw [HV.out] at h1
            exact h1)
          have IHp := IH.out p (by rw [hp]; exact List.getElem_mem hj') u ow (wr.alloc (.cells #[.int .i64 p.op, .string p.nm, .int .i64 p.day, .slice p.A p.ps.length p.cap] 68)) HFU.out
            (hS.fr _ _ _ _ HU.out (fun b hb => BP.out.block b (hS.lt _ _ _ HU.out b hb).2)) ((((HIN.out.part (by rw [hp]; exact List.getElem_mem hj')).below HBB.out).below (BP.out.mono (Nat.le_trans HBW.out HM.out.size)))) (Nat.le_trans HBW.out (Nat.le_trans HM.out.size BP.out.size))
          clear hp hc
          obtain ⟨r, hr⟩ : ∃ r, r = (vis ok nxt p.cond u).1 := ⟨_, rfl⟩
          obtain ⟨u2, hu2⟩ : ∃ u2, u2 = (vis ok nxt p.cond u).2 := ⟨_, rfl⟩
          rw [← hr, ← hu2] at IHp
          have HR := Lib.hid hr
          have HU2 := Lib.hid hu2
          have IHH := Lib.hid IHp
          clear hr hu2 IHp
          cases r
          · have HEE : Hid (ev = (false, u2)) := Lib.hid (by rw [HE.out, visL_no hjc HV.out (by rw [HP.out, ← HR.out]), HP.out, ← HU2.out])
            go_wp2_with (go_at_call 66; refine IHH.out.mono ?_; rintro e w3 ⟨own3, rfl, hst3, hm3⟩)
            go_ret
            exact ⟨own3, by rw [HEE.out]; rfl, by rw [HEE.out]; exact hst3, HM.out.trans ((Mv.of_below BP.out).trans hm3)⟩
          · have HVV : Hid (visL ok nxt ((conds ps).take (j + 1)) t = (true, u2)) := Lib.hid (by rw [visL_yes hjc HV.out (by rw [HP.out, ← HR.out]), HP.out, ← HU2.out])
            go_wp2_with (go_at_call 66; refine IHH.out.mono ?_; rintro e w3 ⟨own3, rfl, hst3, hm3⟩)
            go_roundw
            case rel => exact ⟨j + 1, u2, own3, by omega, by go_num, HVV, Lib.hid hst3, Lib.hid (HM.out.trans ((Mv.of_below BP.out).trans hm3))⟩
            case measure => simp [intOf]; omega
        · have HEE : Hid (ev = (true, u)) := Lib.hid (by
            rw [HE.out, ← HV.out, List.take_of_length_le (by have := HN.out; have := HC.out; omega)])
          go_wp2_with fail
          go_ret
          exact ⟨ow, by rw [HEE.out]; rfl, by rw [HEE.out]; exact HU.out, HM.out⟩

end Go.Proofs.YtomloodakabcbabGreat.Cond
