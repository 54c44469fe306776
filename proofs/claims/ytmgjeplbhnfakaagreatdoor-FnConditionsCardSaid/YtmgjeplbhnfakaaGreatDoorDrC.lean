/-
  The draws of valid conditions: what built and condition of the model's cursor return.
-/
import Derived.Test.YtmgjeplbhnfakaaGreatDoorDrD
namespace Go.Proofs.YtmgjeplbhnfakaaGreatDoor.DrD
open Go.RowKit Go.Proofs.YtmgjeplbhnfakaaGreatDoor.Cond Go.Proofs.YtmgjeplbhnfakaaGreatDoor.Cur Go.Proofs.YtmgjeplbhnfakaaGreatDoor.CurDay
set_option linter.unusedVariables false
set_option linter.unusedSimpArgs false

abbrev comm : Array Value := #[.string ⟨#[112, 97, 105, 100]⟩, .string ⟨#[115, 101, 110, 116]⟩, .string ⟨#[108, 97, 116, 101]⟩, .string ⟨#[97]⟩, .string ⟨#[98]⟩]
theorem l5Common (w : World) : Calls Tryz.prog 60 #[] w fun e w' => e = .returned (.slice (some ⟨w.heap.size, 0, none⟩) 5 5) ∧ w' = w.alloc (.cells comm 9) := by
  go_enter Tryz.func60, Tryz.ntmps60
  go_wp2
  go_ret
  exact ⟨rfl, rfl⟩
theorem commNm : ∀ v ∈ comm.toList, ∃ s : ByteArray, v = .string s ∧ isNm s = true := by
  intro v hv
  simp at hv
  rcases hv with h | h | h | h | h <;> exact ⟨_, h, by decide +kernel⟩

/-- A valid condition of a depth. -/
def Bq (d : Nat) (x : K) : Prop := ∃ q : Q, x.cond = q.c ∧ q.ok ∧ q.size + 1 ≤ 2 ^ d

theorem cd_leaf {P : K → Prop} {w v : World} {g c : Nat} {A : Option Addr} {n cap k k' B : Nat} (op : Int) (nm : ByteArray) (day : Int) (h : Fin w v g A n cap k' B) (hk : k' ≤ k + c) (hn : nm.size ≤ maxLen) (hP : P (.mk op nm day none 0 [])) :
    cdAns P c g A n cap k B w (.returned (.agg #[.int .i64 op, .string nm, .int .i64 day, .slice none 0 0])) (put4 v w.heap.size 0 (.int .i64 op) (.string nm) (.int .i64 day) (.slice none 0 0)) :=
  ⟨.mk op nm day none 0 [], k', rfl, hP, hk, (h.put _ _ _ _).ok, Dk.leaf _ _ _ hn, (h.put _ _ _ _).gr⟩
theorem put_in {w : World} {r : K} {kb : Nat} {a b c d : Value} (h : r.In w) (hk : kb ∉ r.blocks) : r.In (put4 w kb 0 a b c d) := h.alike fun x hx => put4_block (fun e => hk (e ▸ hx))
theorem cd_one {P : K → Prop} {w v : World} {g c : Nat} {A : Option Addr} {n cap k k' B S : Nat} {p : K} (op : Int) (h : Fin w v g A n cap k' B) (hk : k' ≤ k + c) (hp : Dk S v p) (hS : w.heap.size + 1 ≤ S) (hP : ∀ g, P (.mk op .empty 0 (some ⟨g, 0, none⟩) 1 [p])) :
    cdAns P c g A n cap k B w (.returned (.agg #[.int .i64 op, .string ⟨#[]⟩, .int .i64 0, .slice (some ⟨v.heap.size, 0, none⟩) 1 1])) ((put4 v w.heap.size 0 (.int .i64 op) (.string ⟨#[]⟩) (.int .i64 0) (.slice (some ⟨v.heap.size, 0, none⟩) 1 1)).alloc (.cells #[.int .i64 p.op, .string p.nm, .int .i64 p.day, .slice p.A p.ps.length p.cap] 26)) := by
  have hF := (h.put (.int .i64 op) (.string ⟨#[]⟩) (.int .i64 0) (.slice (some ⟨v.heap.size, 0, none⟩) 1 1)).alloc (.cells #[.int .i64 p.op, .string p.nm, .int .i64 p.day, .slice p.A p.ps.length p.cap] 26)
  have hz := h.z
  have hd := Dk.one (S := w.heap.size + 1) (u := put4 v w.heap.size 0 (.int .i64 op) (.string ⟨#[]⟩) (.int .i64 0) (.slice (some ⟨v.heap.size, 0, none⟩) 1 1)) (p := p) op (put_in hp.has (fun e => by have := hp.ge _ e; omega)) (fun b hb => by rw [put4_size]; exact hp.lt b hb) (fun b hb => by have := hp.ge b hb; omega) (by rw [put4_size]; omega)
  rw [put4_size] at hd
  exact ⟨_, k', rfl, hP _, hk, hF.ok, hd, hF.gr⟩
theorem cd_two {P : K → Prop} {w v : World} {g c : Nat} {A : Option Addr} {n cap k k' B S S2 : Nat} {p q : K} (op : Int) (h : Fin w v g A n cap k' B) (hk : k' ≤ k + c) (hp : Dk S v p) (hq : Dk S2 v q) (hS : w.heap.size + 1 ≤ S) (hS2 : w.heap.size + 1 ≤ S2) (hP : ∀ g, P (.mk op .empty 0 (some ⟨g, 0, none⟩) 2 [p, q])) :
    cdAns P c g A n cap k B w (.returned (.agg #[.int .i64 op, .string ⟨#[]⟩, .int .i64 0, .slice (some ⟨v.heap.size, 0, none⟩) 2 2])) ((put4 v w.heap.size 0 (.int .i64 op) (.string ⟨#[]⟩) (.int .i64 0) (.slice (some ⟨v.heap.size, 0, none⟩) 2 2)).alloc (.cells #[.int .i64 p.op, .string p.nm, .int .i64 p.day, .slice p.A p.ps.length p.cap, .int .i64 q.op, .string q.nm, .int .i64 q.day, .slice q.A q.ps.length q.cap] 26)) := by
  have hF := (h.put (.int .i64 op) (.string ⟨#[]⟩) (.int .i64 0) (.slice (some ⟨v.heap.size, 0, none⟩) 2 2)).alloc (.cells #[.int .i64 p.op, .string p.nm, .int .i64 p.day, .slice p.A p.ps.length p.cap, .int .i64 q.op, .string q.nm, .int .i64 q.day, .slice q.A q.ps.length q.cap] 26)
  have hz := h.z
  have hd := Dk.two (S := w.heap.size + 1) (u := put4 v w.heap.size 0 (.int .i64 op) (.string ⟨#[]⟩) (.int .i64 0) (.slice (some ⟨v.heap.size, 0, none⟩) 2 2)) (p := p) (q := q) op (put_in hp.has (fun e => by have := hp.ge _ e; omega)) (put_in hq.has (fun e => by have := hq.ge _ e; omega)) (fun b hb => by rw [put4_size]; exact hp.lt b hb) (fun b hb => by rw [put4_size]; exact hq.lt b hb) (fun b hb => by have := hp.ge b hb; omega) (fun b hb => by have := hq.ge b hb; omega) (by rw [put4_size]; omega)
  rw [put4_size] at hd
  exact ⟨_, k', rfl, hP _, hk, hF.ok, hd, hF.gr⟩

theorem isNm_sz {s : ByteArray} (h : isNm s = true) : s.size ≤ 8 := by
  simp only [isNm, Bool.and_eq_true, decide_eq_true_eq] at h
  exact h.1.1.1.1.2

set_option maxHeartbeats 8000000 in
theorem built (g : Nat) (A : Option Addr) (n cap B : Nat) : ∀ (d D k : Nat) (w : World), D = d + 1 → d ≤ 2 → Ok w g A n cap k B → k + 20 * 10 ^ D ≤ 990000 →
    Calls Tryz.prog 56 #[.pointer (some ⟨g, 0, none⟩), .int .i64 (D : Int)] w (cdAns (Bq D) (10 ^ D) g A n cap k B w) := by
  intro d
  induction d with
  | zero =>
    intro D k w hD hd h hk
    have i1 : (D : Int) ≤ 1 := by omega
    have H2 : Hid (2 ≤ 2 ^ D) := Lib.hid (by rw [hD]; decide)
    have HC : Hid (10 ≤ 10 ^ D ∧ k + 20 * 10 ^ D ≤ 990000) := Lib.hid ⟨by rw [hD]; decide, hk⟩
    obtain ⟨X, hX⟩ : ∃ X, X = w.alloc (.cells #[.int .i64 0, .string ⟨#[]⟩, .int .i64 0, .slice none 0 0] 26) := ⟨_, rfl⟩
    have F0 : Hid (Fin w X g A n cap k B) := Lib.hid (by rw [hX]; exact ⟨h.alloc _, World.grownBy_alloc w _ _, h.lt, by simp⟩)
    have P0 : Hid (B4 w.heap.size X (.int .i64 0) (.string ⟨#[]⟩) (.int .i64 0) (.slice none 0 0)) := Lib.hid (by rw [hX]; exact B4.new _ _ _ _ _ _)
    have HX := Lib.hid hX
    clear hX h hD hd hk
    go_enter Tryz.func56, Tryz.ntmps56
    go_wp2_with (go_at_call 30; (try rw [← HX.out]); refine (pick 6 (by omega) (by omega) g A n cap k B X F0.out.ok (by have := HC.out; omega)).mono ?_; rintro e w5 ⟨r, k5, rfl, hr5, hk5, hok5, hg5⟩; refine Hid.out ?_)
    refine Lib.hid ?_
    have F5 := Lib.hid (F0.out.step hok5 hg5)
    have P5 := Lib.hid (DrD.B4.kept P0.out hg5 (fun e => by injection e with e; have := F0.out.lt; omega))
    clear hok5 hg5
    have N5 : Hid (w5.heap.size ≠ g) := Lib.hid (by have := F5.out.ok.lt; omega)
    by_cases h0 : r = 0
    · have q0 : ((r : Int) == 0) = true := by simp <;> omega
      clear h0
      obtain ⟨_, p0, p1, p2, p3, pf⟩ := P5.out
      have pf0 := pf 0
      have pf1 := pf 1
      have pf2 := pf 2
      have pf3 := pf 3
      clear pf
      have hz5 := F5.out.z
      go_wp2_with fail
      obtain ⟨_, t0, t1, t2, t3, _⟩ := P5.out.put (.int .i64 1) (.string ⟨#[]⟩) (.int .i64 0) (.slice none 0 0)
      have hf := cd_leaf (P := Bq D) (c := 10 ^ D) (k := k) 1 ⟨#[]⟩ 0 F5.out (by have := HC.out; omega) (by decide) (⟨.tru, rfl, trivial, by have := H2.out; simp only [Q.size]; omega⟩)
      simp only [put4] at t0 t1 t2 t3 hf
      exact bodyPost_ret (v := .agg #[.int .i64 1, .string ⟨#[]⟩, .int .i64 0, .slice none 0 0]) (by simp [results, Tryz.results56, go_sem, t0, t1, t2, t3]) rfl hf
    have q0 : ((r : Int) == 0) = false := by simp <;> omega
    by_cases h12 : r = 1 ∨ r = 2
    · rcases h12 with h1 | h1
      · skip
        have q1 : ((r : Int) == 1) = true := by simp <;> omega
        clear h0 h1
        obtain ⟨_, p0, p1, p2, p3, pf⟩ := P5.out
        have pf0 := pf 0
        have pf1 := pf 1
        have pf2 := pf 2
        have pf3 := pf 3
        clear pf
        have hz5 := F5.out.z
        go_wp2_with (go_at_call 15; refine (amongP (fun z => isDy z = true) w5.heap.size _ 5 rfl (by omega) (by omega) g A n cap k5 B _ (F5.out.ok.alloc _) (by have := HC.out; omega) (heap_alloc_new w5 _) N5.out (by intro v hv; simp at hv; rcases hv with h | h | h | h | h <;> exact ⟨_, h, by decide⟩)).mono ?_; rintro e w6 ⟨z, k6, rfl, hzz, hk6, hok6, hg6⟩; refine Hid.out ?_)
        refine Lib.hid ?_
        have F6 := Lib.hid ((F5.out.alloc _).step hok6 hg6)
        have P6 := Lib.hid (DrD.B4.kept (P5.out.alloc _) hg6 (fun e => by injection e with e; have := F5.out.lt; omega))
        have HZZ := Lib.hid hzz
        clear hok6 hg6 hzz p0 p1 p2 p3 pf0 pf1 pf2 pf3
        obtain ⟨_, p0, p1, p2, p3, pf⟩ := P6.out
        have pf0 := pf 0
        have pf1 := pf 1
        have pf2 := pf 2
        have pf3 := pf 3
        clear pf
        have hz6 := F6.out.z
        go_wp2_with fail
        obtain ⟨_, t0, t1, t2, t3, _⟩ := P6.out.put (.int .i64 3) (.string ⟨#[]⟩) (.int .i64 z) (.slice none 0 0)
        have hf := cd_leaf (P := Bq D) (c := 10 ^ D) (k := k) 3 ⟨#[]⟩ z F6.out (by have := HC.out; omega) (by decide) (⟨.frm z, rfl, HZZ.out, by have := H2.out; simp only [Q.size]; omega⟩)
        simp only [put4] at t0 t1 t2 t3 hf
        exact bodyPost_ret (v := .agg #[.int .i64 3, .string ⟨#[]⟩, .int .i64 z, .slice none 0 0]) (by simp [results, Tryz.results56, go_sem, t0, t1, t2, t3]) rfl hf
      · skip
        have q1 : ((r : Int) == 1) = false := by simp <;> omega
        have q2 : ((r : Int) == 2) = true := by simp <;> omega
        clear h0 h1
        obtain ⟨_, p0, p1, p2, p3, pf⟩ := P5.out
        have pf0 := pf 0
        have pf1 := pf 1
        have pf2 := pf 2
        have pf3 := pf 3
        clear pf
        have hz5 := F5.out.z
        go_wp2_with (go_at_call 15; refine (amongP (fun z => isDy z = true) w5.heap.size _ 5 rfl (by omega) (by omega) g A n cap k5 B _ (F5.out.ok.alloc _) (by have := HC.out; omega) (heap_alloc_new w5 _) N5.out (by intro v hv; simp at hv; rcases hv with h | h | h | h | h <;> exact ⟨_, h, by decide⟩)).mono ?_; rintro e w6 ⟨z, k6, rfl, hzz, hk6, hok6, hg6⟩; refine Hid.out ?_)
        refine Lib.hid ?_
        have F6 := Lib.hid ((F5.out.alloc _).step hok6 hg6)
        have P6 := Lib.hid (DrD.B4.kept (P5.out.alloc _) hg6 (fun e => by injection e with e; have := F5.out.lt; omega))
        have HZZ := Lib.hid hzz
        clear hok6 hg6 hzz p0 p1 p2 p3 pf0 pf1 pf2 pf3
        obtain ⟨_, p0, p1, p2, p3, pf⟩ := P6.out
        have pf0 := pf 0
        have pf1 := pf 1
        have pf2 := pf 2
        have pf3 := pf 3
        clear pf
        have hz6 := F6.out.z
        go_wp2_with fail
        obtain ⟨_, t0, t1, t2, t3, _⟩ := P6.out.put (.int .i64 3) (.string ⟨#[]⟩) (.int .i64 z) (.slice none 0 0)
        have hf := cd_leaf (P := Bq D) (c := 10 ^ D) (k := k) 3 ⟨#[]⟩ z F6.out (by have := HC.out; omega) (by decide) (⟨.frm z, rfl, HZZ.out, by have := H2.out; simp only [Q.size]; omega⟩)
        simp only [put4] at t0 t1 t2 t3 hf
        exact bodyPost_ret (v := .agg #[.int .i64 3, .string ⟨#[]⟩, .int .i64 z, .slice none 0 0]) (by simp [results, Tryz.results56, go_sem, t0, t1, t2, t3]) rfl hf
    have q1 : ((r : Int) == 1) = false := by simp <;> omega
    have q2 : ((r : Int) == 2) = false := by simp <;> omega
    clear h0 h12
    obtain ⟨_, p0, p1, p2, p3, pf⟩ := P5.out
    have pf0 := pf 0
    have pf1 := pf 1
    have pf2 := pf 2
    have pf3 := pf 3
    clear pf
    have hz5 := F5.out.z
    go_wp2_with (first
      | (go_at_call 60; refine (l5Common w5).mono ?_; rintro e w6 ⟨rfl, rfl⟩)
      | (go_at_call 31; refine (ofP (fun s => isNm s = true) w5.heap.size comm 5 rfl (by omega) (by omega) g A n cap k5 B _ (F5.out.ok.alloc _) (by have := HC.out; omega) (heap_alloc_new w5 _) N5.out commNm).mono ?_; rintro e w6 ⟨s, k6, rfl, hss, hk6, hok6, hg6⟩; refine Hid.out ?_))
    refine Lib.hid ?_
    have F6 := Lib.hid ((F5.out.alloc _).step hok6 hg6)
    have P6 := Lib.hid (DrD.B4.kept (P5.out.alloc _) hg6 (fun e => by injection e with e; have := F5.out.lt; omega))
    have HSS := Lib.hid hss
    clear hok6 hg6 hss p0 p1 p2 p3 pf0 pf1 pf2 pf3
    obtain ⟨_, p0, p1, p2, p3, pf⟩ := P6.out
    have pf0 := pf 0
    have pf1 := pf 1
    have pf2 := pf 2
    have pf3 := pf 3
    clear pf
    have hz6 := F6.out.z
    have hsz : s.size ≤ maxLen := by have := isNm_sz HSS.out; unfold maxLen; omega
    go_wp2_with fail
    obtain ⟨_, t0, t1, t2, t3, _⟩ := P6.out.put (.int .i64 2) (.string s) (.int .i64 0) (.slice none 0 0)
    have hf := cd_leaf (P := Bq D) (c := 10 ^ D) (k := k) 2 s 0 F6.out (by have := HC.out; omega) (by exact hsz) (⟨.fact s, rfl, HSS.out, by have := H2.out; simp only [Q.size]; omega⟩)
    simp only [put4] at t0 t1 t2 t3 hf
    exact bodyPost_ret (v := .agg #[.int .i64 2, .string s, .int .i64 0, .slice none 0 0]) (by simp [results, Tryz.results56, go_sem, t0, t1, t2, t3]) rfl hf
  | succ d ih =>
    intro D k w hD hd h hk
    have i1 : ¬ (D : Int) ≤ 1 := by omega
    have i2 : (D : Int) ≤ 10 := by omega
    have H2 : Hid (2 ≤ 2 ^ D) := Lib.hid (by rw [hD, Nat.pow_succ]; have := Nat.one_le_two_pow (n := d + 1); omega)
    have HC : Hid (10 ≤ 10 ^ D ∧ k + 20 * 10 ^ D ≤ 990000) := Lib.hid ⟨by rw [hD, Nat.pow_succ]; have := Nat.pow_pos (a := 10) (n := d + 1) (by decide); omega, hk⟩
    have HPW : Hid (10 ^ D = 10 * 10 ^ (D - 1) ∧ 2 ^ D = 2 * 2 ^ (D - 1) ∧ 10 ^ (D - 1) ≤ 1000 ∧ 10 ≤ 10 ^ (D - 1)) := Lib.hid (by
      have e : D - 1 = d + 1 := by omega
      rw [e, hD]
      refine ⟨by rw [Nat.pow_succ]; omega, by rw [Nat.pow_succ]; omega, ?_, ?_⟩
      · match d, hd with
        | 0, _ => decide
        | 1, _ => decide
      · match d, hd with
        | 0, _ => decide
        | 1, _ => decide)
    have IH : Hid (∀ (k : Nat) (w : World), Ok w g A n cap k B → k + 20 * 10 ^ (D - 1) ≤ 990000 → Calls Tryz.prog 56 #[.pointer (some ⟨g, 0, none⟩), .int .i64 ((D : Int) - 1)] w (cdAns (Bq (D - 1)) (10 ^ (D - 1)) g A n cap k B w)) := Lib.hid (by
      intro k w h hk
      have := ih (D - 1) k w (by omega) (by omega) h hk
      rwa [show ((D - 1 : Nat) : Int) = (D : Int) - 1 by omega] at this)
    obtain ⟨X, hX⟩ : ∃ X, X = w.alloc (.cells #[.int .i64 0, .string ⟨#[]⟩, .int .i64 0, .slice none 0 0] 26) := ⟨_, rfl⟩
    have F0 : Hid (Fin w X g A n cap k B) := Lib.hid (by rw [hX]; exact ⟨h.alloc _, World.grownBy_alloc w _ _, h.lt, by simp⟩)
    have P0 : Hid (B4 w.heap.size X (.int .i64 0) (.string ⟨#[]⟩) (.int .i64 0) (.slice none 0 0)) := Lib.hid (by rw [hX]; exact B4.new _ _ _ _ _ _)
    have HX := Lib.hid hX
    have hk1 : k ≤ 989800 := by have := HC.out; omega
    clear hX h hD hd hk ih
    go_enter Tryz.func56, Tryz.ntmps56
    go_wp2_with (go_at_call 58; (try rw [← HX.out]); refine (one 3 (by omega) (by omega) g A n cap k B X F0.out.ok (by omega)).mono ?_; rintro e w1 ⟨f, k1, rfl, hk1, hok1, hg1⟩; refine Hid.out ?_)
    refine Lib.hid ?_
    have F1 := Lib.hid (F0.out.step hok1 hg1)
    have P1 := Lib.hid (DrD.B4.kept P0.out hg1 (fun e => by injection e with e; have := F0.out.lt; omega))
    clear hok1 hg1
    cases f
    · skip
      go_wp2_with (go_at_call 58; refine (one 3 (by omega) (by omega) g A n cap k1 B w1 F1.out.ok (by have := HC.out; omega)).mono ?_; rintro e w2 ⟨f, k2, rfl, hk2, hok2, hg2⟩; refine Hid.out ?_)
      refine Lib.hid ?_
      have F2 := Lib.hid (F1.out.step hok2 hg2)
      have P2 := Lib.hid (DrD.B4.kept P1.out hg2 (fun e => by injection e with e; have := F1.out.lt; omega))
      clear hok2 hg2
      cases f
      · skip
        go_wp2_with (go_at_call 30; refine (pick 2 (by omega) (by omega) g A n cap k2 B w2 F2.out.ok (by have := HC.out; omega)).mono ?_; rintro e w3 ⟨r, k3, rfl, hr3, hk3, hok3, hg3⟩; refine Hid.out ?_)
        refine Lib.hid ?_
        have F3 := Lib.hid (F2.out.step hok3 hg3)
        have P3 := Lib.hid (DrD.B4.kept P2.out hg3 (fun e => by injection e with e; have := F2.out.lt; omega))
        clear hok3 hg3
        go_wp2_with (go_at_call 56; refine (IH.out k3 w3 F3.out.ok (by have := HC.out; have := HPW.out; omega)).mono ?_; rintro e w4 ⟨x, k4, rfl, hx, hk4, hok4, hd4, hg4⟩; refine Hid.out ?_)
        refine Lib.hid ?_
        have D4 := Lib.hid (hd4.more (S' := w.heap.size + 1) (by have := F3.out.z; omega))
        have HX4 := Lib.hid hx
        have HK4 := Lib.hid hk4
        clear hd4 hx hk4
        have F4 := Lib.hid (F3.out.step hok4 hg4)
        have P4 := Lib.hid (DrD.B4.kept P3.out hg4 (fun e => by injection e with e; have := F3.out.lt; omega))
        clear hok4 hg4
        go_wp2_with (go_at_call 56; refine (IH.out k4 w4 F4.out.ok (by have := HC.out; have := HK4.out; have := HPW.out; omega)).mono ?_; rintro e w5 ⟨y, k5, rfl, hy, hk5, hok5, hd5, hg5⟩; refine Hid.out ?_)
        refine Lib.hid ?_
        have D5 := Lib.hid (hd5.more (S' := w.heap.size + 1) (by have := F4.out.z; omega))
        have D45 := Lib.hid (D4.out.kept hg5 (fun j e => by injection e with e; have := F4.out.lt; omega))
        have HY5 := Lib.hid hy
        have HK5 := Lib.hid hk5
        clear hd5 hy hk5
        have F5 := Lib.hid (F4.out.step hok5 hg5)
        have P5 := Lib.hid (DrD.B4.kept P4.out hg5 (fun e => by injection e with e; have := F4.out.lt; omega))
        clear hok5 hg5
        obtain ⟨_, p0, p1, p2, p3, pf⟩ := P5.out
        have pf0 := pf 0
        have pf1 := pf 1
        have pf2 := pf 2
        have pf3 := pf 3
        clear pf
        have hz5 := F5.out.z
        go_wp2_with fail
        obtain ⟨_, t0, t1, t2, t3, _⟩ := (P5.out.put (.int .i64 (5 + (r : Int))) (.string ⟨#[]⟩) (.int .i64 0) (.slice (some ⟨w5.heap.size, 0, none⟩) 2 2)).alloc (.cells #[.int .i64 x.op, .string x.nm, .int .i64 x.day, .slice x.A x.ps.length x.cap, .int .i64 y.op, .string y.nm, .int .i64 y.day, .slice y.A y.ps.length y.cap] 26)
        have hf := cd_two (P := Bq D) (c := 10 ^ D) (k := k) (5 + (r : Int)) F5.out (by have := HC.out; have := HK4.out; have := HK5.out; have := HPW.out; omega) D45.out D5.out (Nat.le_refl _) (Nat.le_refl _) (fun gg => by
          obtain ⟨a, ha, hao, has⟩ := HX4.out
          obtain ⟨b, hb, hbo, hbs⟩ := HY5.out
          have hpw := HPW.out
          by_cases e : r = 0
          · subst e
            exact ⟨.and a b, by simp [K.cond, conds, Q.c, ha, hb], ⟨hao, hbo⟩, by simp only [Q.size]; omega⟩
          · have e : r = 1 := by omega
            subst e
            exact ⟨.or a b, by simp [K.cond, conds, Q.c, ha, hb], ⟨hao, hbo⟩, by simp only [Q.size]; omega⟩)
        simp only [put4] at t0 t1 t2 t3 hf
        exact bodyPost_ret (v := .agg #[.int .i64 (5 + (r : Int)), .string ⟨#[]⟩, .int .i64 0, .slice (some ⟨w5.heap.size, 0, none⟩) 2 2]) (by simp [results, Tryz.results56, go_sem, t0, t1, t2, t3]) rfl hf
      · skip
        go_wp2_with (go_at_call 56; refine (IH.out k2 w2 F2.out.ok (by have := HC.out; have := HPW.out; omega)).mono ?_; rintro e w4 ⟨x, k4, rfl, hx, hk4, hok4, hd4, hg4⟩; refine Hid.out ?_)
        refine Lib.hid ?_
        have D4 := Lib.hid (hd4.more (S' := w.heap.size + 1) (by have := F2.out.z; omega))
        have HX4 := Lib.hid hx
        have HK4 := Lib.hid hk4
        clear hd4 hx hk4
        have F4 := Lib.hid (F2.out.step hok4 hg4)
        have P4 := Lib.hid (DrD.B4.kept P2.out hg4 (fun e => by injection e with e; have := F2.out.lt; omega))
        clear hok4 hg4
        obtain ⟨_, p0, p1, p2, p3, pf⟩ := P4.out
        have pf0 := pf 0
        have pf1 := pf 1
        have pf2 := pf 2
        have pf3 := pf 3
        clear pf
        have hz4 := F4.out.z
        go_wp2_with fail
        obtain ⟨_, t0, t1, t2, t3, _⟩ := (P4.out.put (.int .i64 4) (.string ⟨#[]⟩) (.int .i64 0) (.slice (some ⟨w4.heap.size, 0, none⟩) 1 1)).alloc (.cells #[.int .i64 x.op, .string x.nm, .int .i64 x.day, .slice x.A x.ps.length x.cap] 26)
        have hf := cd_one (P := Bq D) (c := 10 ^ D) (k := k) 4 F4.out (by have := HC.out; have := HK4.out; have := HPW.out; omega) D4.out (Nat.le_refl _) (fun gg => by
          obtain ⟨a, ha, hao, has⟩ := HX4.out
          have hpw := HPW.out
          exact ⟨.neg a, by simp [K.cond, conds, Q.c, ha], hao, by simp only [Q.size]; omega⟩)
        simp only [put4] at t0 t1 t2 t3 hf
        exact bodyPost_ret (v := .agg #[.int .i64 4, .string ⟨#[]⟩, .int .i64 0, .slice (some ⟨w4.heap.size, 0, none⟩) 1 1]) (by simp [results, Tryz.results56, go_sem, t0, t1, t2, t3]) rfl hf
    · skip
      go_wp2_with (go_at_call 30; (try rw [← HX.out]); refine (pick 6 (by omega) (by omega) g A n cap k1 B w1 F1.out.ok (by have := HC.out; omega)).mono ?_; rintro e w5 ⟨r, k5, rfl, hr5, hk5, hok5, hg5⟩; refine Hid.out ?_)
      refine Lib.hid ?_
      have F5 := Lib.hid (F1.out.step hok5 hg5)
      have P5 := Lib.hid (DrD.B4.kept P1.out hg5 (fun e => by injection e with e; have := F1.out.lt; omega))
      clear hok5 hg5
      have N5 : Hid (w5.heap.size ≠ g) := Lib.hid (by have := F5.out.ok.lt; omega)
      by_cases h0 : r = 0
      · have q0 : ((r : Int) == 0) = true := by simp <;> omega
        clear h0
        obtain ⟨_, p0, p1, p2, p3, pf⟩ := P5.out
        have pf0 := pf 0
        have pf1 := pf 1
        have pf2 := pf 2
        have pf3 := pf 3
        clear pf
        have hz5 := F5.out.z
        go_wp2_with fail
        obtain ⟨_, t0, t1, t2, t3, _⟩ := P5.out.put (.int .i64 1) (.string ⟨#[]⟩) (.int .i64 0) (.slice none 0 0)
        have hf := cd_leaf (P := Bq D) (c := 10 ^ D) (k := k) 1 ⟨#[]⟩ 0 F5.out (by have := HC.out; omega) (by decide) (⟨.tru, rfl, trivial, by have := H2.out; simp only [Q.size]; omega⟩)
        simp only [put4] at t0 t1 t2 t3 hf
        exact bodyPost_ret (v := .agg #[.int .i64 1, .string ⟨#[]⟩, .int .i64 0, .slice none 0 0]) (by simp [results, Tryz.results56, go_sem, t0, t1, t2, t3]) rfl hf
      have q0 : ((r : Int) == 0) = false := by simp <;> omega
      by_cases h12 : r = 1 ∨ r = 2
      · rcases h12 with h1 | h1
        · skip
          have q1 : ((r : Int) == 1) = true := by simp <;> omega
          clear h0 h1
          obtain ⟨_, p0, p1, p2, p3, pf⟩ := P5.out
          have pf0 := pf 0
          have pf1 := pf 1
          have pf2 := pf 2
          have pf3 := pf 3
          clear pf
          have hz5 := F5.out.z
          go_wp2_with (go_at_call 15; refine (amongP (fun z => isDy z = true) w5.heap.size _ 5 rfl (by omega) (by omega) g A n cap k5 B _ (F5.out.ok.alloc _) (by have := HC.out; omega) (heap_alloc_new w5 _) N5.out (by intro v hv; simp at hv; rcases hv with h | h | h | h | h <;> exact ⟨_, h, by decide⟩)).mono ?_; rintro e w6 ⟨z, k6, rfl, hzz, hk6, hok6, hg6⟩; refine Hid.out ?_)
          refine Lib.hid ?_
          have F6 := Lib.hid ((F5.out.alloc _).step hok6 hg6)
          have P6 := Lib.hid (DrD.B4.kept (P5.out.alloc _) hg6 (fun e => by injection e with e; have := F5.out.lt; omega))
          have HZZ := Lib.hid hzz
          clear hok6 hg6 hzz p0 p1 p2 p3 pf0 pf1 pf2 pf3
          obtain ⟨_, p0, p1, p2, p3, pf⟩ := P6.out
          have pf0 := pf 0
          have pf1 := pf 1
          have pf2 := pf 2
          have pf3 := pf 3
          clear pf
          have hz6 := F6.out.z
          go_wp2_with fail
          obtain ⟨_, t0, t1, t2, t3, _⟩ := P6.out.put (.int .i64 3) (.string ⟨#[]⟩) (.int .i64 z) (.slice none 0 0)
          have hf := cd_leaf (P := Bq D) (c := 10 ^ D) (k := k) 3 ⟨#[]⟩ z F6.out (by have := HC.out; omega) (by decide) (⟨.frm z, rfl, HZZ.out, by have := H2.out; simp only [Q.size]; omega⟩)
          simp only [put4] at t0 t1 t2 t3 hf
          exact bodyPost_ret (v := .agg #[.int .i64 3, .string ⟨#[]⟩, .int .i64 z, .slice none 0 0]) (by simp [results, Tryz.results56, go_sem, t0, t1, t2, t3]) rfl hf
        · skip
          have q1 : ((r : Int) == 1) = false := by simp <;> omega
          have q2 : ((r : Int) == 2) = true := by simp <;> omega
          clear h0 h1
          obtain ⟨_, p0, p1, p2, p3, pf⟩ := P5.out
          have pf0 := pf 0
          have pf1 := pf 1
          have pf2 := pf 2
          have pf3 := pf 3
          clear pf
          have hz5 := F5.out.z
          go_wp2_with (go_at_call 15; refine (amongP (fun z => isDy z = true) w5.heap.size _ 5 rfl (by omega) (by omega) g A n cap k5 B _ (F5.out.ok.alloc _) (by have := HC.out; omega) (heap_alloc_new w5 _) N5.out (by intro v hv; simp at hv; rcases hv with h | h | h | h | h <;> exact ⟨_, h, by decide⟩)).mono ?_; rintro e w6 ⟨z, k6, rfl, hzz, hk6, hok6, hg6⟩; refine Hid.out ?_)
          refine Lib.hid ?_
          have F6 := Lib.hid ((F5.out.alloc _).step hok6 hg6)
          have P6 := Lib.hid (DrD.B4.kept (P5.out.alloc _) hg6 (fun e => by injection e with e; have := F5.out.lt; omega))
          have HZZ := Lib.hid hzz
          clear hok6 hg6 hzz p0 p1 p2 p3 pf0 pf1 pf2 pf3
          obtain ⟨_, p0, p1, p2, p3, pf⟩ := P6.out
          have pf0 := pf 0
          have pf1 := pf 1
          have pf2 := pf 2
          have pf3 := pf 3
          clear pf
          have hz6 := F6.out.z
          go_wp2_with fail
          obtain ⟨_, t0, t1, t2, t3, _⟩ := P6.out.put (.int .i64 3) (.string ⟨#[]⟩) (.int .i64 z) (.slice none 0 0)
          have hf := cd_leaf (P := Bq D) (c := 10 ^ D) (k := k) 3 ⟨#[]⟩ z F6.out (by have := HC.out; omega) (by decide) (⟨.frm z, rfl, HZZ.out, by have := H2.out; simp only [Q.size]; omega⟩)
          simp only [put4] at t0 t1 t2 t3 hf
          exact bodyPost_ret (v := .agg #[.int .i64 3, .string ⟨#[]⟩, .int .i64 z, .slice none 0 0]) (by simp [results, Tryz.results56, go_sem, t0, t1, t2, t3]) rfl hf
      have q1 : ((r : Int) == 1) = false := by simp <;> omega
      have q2 : ((r : Int) == 2) = false := by simp <;> omega
      clear h0 h12
      obtain ⟨_, p0, p1, p2, p3, pf⟩ := P5.out
      have pf0 := pf 0
      have pf1 := pf 1
      have pf2 := pf 2
      have pf3 := pf 3
      clear pf
      have hz5 := F5.out.z
      go_wp2_with (first
        | (go_at_call 60; refine (l5Common w5).mono ?_; rintro e w6 ⟨rfl, rfl⟩)
        | (go_at_call 31; refine (ofP (fun s => isNm s = true) w5.heap.size comm 5 rfl (by omega) (by omega) g A n cap k5 B _ (F5.out.ok.alloc _) (by have := HC.out; omega) (heap_alloc_new w5 _) N5.out commNm).mono ?_; rintro e w6 ⟨s, k6, rfl, hss, hk6, hok6, hg6⟩; refine Hid.out ?_))
      refine Lib.hid ?_
      have F6 := Lib.hid ((F5.out.alloc _).step hok6 hg6)
      have P6 := Lib.hid (DrD.B4.kept (P5.out.alloc _) hg6 (fun e => by injection e with e; have := F5.out.lt; omega))
      have HSS := Lib.hid hss
      clear hok6 hg6 hss p0 p1 p2 p3 pf0 pf1 pf2 pf3
      obtain ⟨_, p0, p1, p2, p3, pf⟩ := P6.out
      have pf0 := pf 0
      have pf1 := pf 1
      have pf2 := pf 2
      have pf3 := pf 3
      clear pf
      have hz6 := F6.out.z
      have hsz : s.size ≤ maxLen := by have := isNm_sz HSS.out; unfold maxLen; omega
      go_wp2_with fail
      obtain ⟨_, t0, t1, t2, t3, _⟩ := P6.out.put (.int .i64 2) (.string s) (.int .i64 0) (.slice none 0 0)
      have hf := cd_leaf (P := Bq D) (c := 10 ^ D) (k := k) 2 s 0 F6.out (by have := HC.out; omega) (by exact hsz) (⟨.fact s, rfl, HSS.out, by have := H2.out; simp only [Q.size]; omega⟩)
      simp only [put4] at t0 t1 t2 t3 hf
      exact bodyPost_ret (v := .agg #[.int .i64 2, .string s, .int .i64 0, .slice none 0 0]) (by simp [results, Tryz.results56, go_sem, t0, t1, t2, t3]) rfl hf

end Go.Proofs.YtmgjeplbhnfakaaGreatDoor.DrD
