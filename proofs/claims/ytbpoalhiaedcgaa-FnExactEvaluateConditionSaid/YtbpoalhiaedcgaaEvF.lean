/-
  Both EvaluateCondition.
-/
import Derived.Test.YtbpoalhiaedcgaaHold
namespace Go.Proofs.Ytbpoalhiaedcgaa.Cond
open Go.RowKit

/-- What EvaluateCondition answers. -/
structure EvIs (c : C) (f : Bool) (ss : List ByteArray) (d : Int) (x y : Bool) : Prop where
  no : (c.good && f && isDy d) = false → x = false ∧ y = false
  yes : ∀ q : Q, c = q.c → (c.good && f && isDy d) = true → x = q.holds (has ss) d ∧ y = true
theorem Q.c_inj : ∀ {a b : Q}, a.c = b.c → a = b := by
  intro a
  induction a with
  | tru => intro b h; cases b <;> simp [Q.c] at h <;> simp_all
  | fact s => intro b h; cases b <;> simp [Q.c] at h <;> simp_all
  | frm d => intro b h; cases b <;> simp [Q.c] at h <;> simp_all
  | neg a ih => intro b h; cases b <;> simp [Q.c] at h; rw [ih h]
  | and a a' ih ih' => intro b h; cases b <;> simp [Q.c] at h; rw [ih h.1, ih' h.2]
  | or a a' ih ih' => intro b h; cases b <;> simp [Q.c] at h; rw [ih h.1, ih' h.2]
theorem ev_is (c : C) (f : Bool) (ss : List ByteArray) (d : Int) : ∃ x y, EvIs c f ss d x y := by
  cases h : (c.good && f && isDy d) with
  | false => exact ⟨false, false, fun _ => ⟨rfl, rfl⟩, fun q _ h2 => by rw [h] at h2; cases h2⟩
  | true =>
    have hg : c.good = true := by
      simp only [Bool.and_eq_true] at h
      exact h.1.1
    obtain ⟨q, hq, _⟩ := good_q hg
    exact ⟨q.holds (has ss) d, true, ⟨fun h2 => (by rw [h] at h2; cases h2), fun q' hq' _ => (by rw [Q.c_inj (hq'.symm.trans hq)]; exact ⟨rfl, rfl⟩)⟩⟩

set_option maxHeartbeats 4000000 in
theorem specEv (k : K) (F : Option Addr) (n cf : Nat) (ss : List ByteArray) (d : Int) (w : World) (hin : Lies w w.heap.size k) (hw : k.cond.wt ≤ 1048576) (hn : n = ss.length) (hm : n ≤ 1048576) (hF : Row.Is w w.heap.size F ss) (f : Bool) (hf : f = true ↔ FOk ss) (x y : Bool) (hx : EvIs k.cond f ss d x y) :
    Calls Try.prog 18 #[k.val, .slice F n cf, .int .i64 d] w fun e w' => e = .returned (.tuple #[.bool x, .bool y]) ∧ Below w.heap.size w w' := by
  have B0 := Lib.hid (below1 w (.cells #[.int .i64 k.op, .string k.nm, .int .i64 k.day, .slice k.A k.ps.length k.cap] 30))
  have X0 := Lib.hid (B4.new w (.int .i64 k.op) (.string k.nm) (.int .i64 k.day) (.slice k.A k.ps.length k.cap) 30)
  have HG := l5Good k _ (hin.on B0.out) hw
  have HFA : Hid (∀ v, Below w.heap.size w v → Calls Try.prog 44 #[.slice F n cf] v fun e w' => e = .returned (.bool f) ∧ Below v.heap.size v w') := Lib.hid fun v hb => (l5Facts F n cf ss w.heap.size v hn hm (hF.below hb) f hf).mono fun e w' ⟨he, m, hm⟩ => ⟨he, by rw [hm]; exact below_drewN (Below.refl _ _) _⟩
  have HD : Hid (∀ v, Calls Try.prog 45 #[.int .i64 d] v fun e w' => e = .returned (.bool (isDy d)) ∧ v = w') := Lib.hid fun v => l3Good d v
  have HH : Hid (∀ q : Q, k.cond = q.c → ∀ v, Below w.heap.size w v → Calls Try.prog 46 #[k.val, .slice F n cf, .int .i64 d] v fun e w' => e = .returned (.bool (q.holds (has ss) d)) ∧ Below v.heap.size v w') := Lib.hid fun q hq v hb => l5Holds F n cf ss d w hn hm hF q k v hb hq (hin.on hb)
  have HX := Lib.hid hx
  have HQ : Hid (k.cond.good = true → ∃ q : Q, k.cond = q.c) := Lib.hid fun h => by obtain ⟨q, hq, _⟩ := good_q h; exact ⟨q, hq⟩
  clear hin hw hn hm hF hf hx
  obtain ⟨g, hg⟩ : ∃ g, g = k.cond.good := ⟨_, rfl⟩
  rw [← hg] at HG
  have HGG := Lib.hid hg
  have HGH := Lib.hid HG
  clear hg HG
  obtain ⟨t, ht⟩ : ∃ t, t = isDy d := ⟨_, rfl⟩
  rw [← ht] at HD
  have HT := Lib.hid ht
  clear ht
  cases g
  · have HE : Hid (x = false ∧ y = false) := Lib.hid (HX.out.no (by rw [← HGG.out]; rfl))
    go_enter Try.func18, Try.ntmps18
    go_wp2_with (go_at_call 38; refine HGH.out.mono ?_; rintro e w2 ⟨rfl, hb2⟩)
    go_ret2
    exact ⟨by rw [HE.out.1, HE.out.2]; rfl, B0.out.trans (hb2.mono B0.out.size)⟩
  obtain ⟨q, hq⟩ := HQ.out HGG.out.symm
  have HQQ := Lib.hid hq
  clear hq
  go_enter Try.func18, Try.ntmps18
  go_wp2_with (go_at_call 38; refine HGH.out.mono ?_; rintro e w2 ⟨rfl, hb2⟩; refine Hid.out ?_)
  refine Lib.hid ?_
  have B2 := Lib.hid (B0.out.trans (hb2.mono B0.out.size))
  have X2 := Lib.hid (X0.out.on hb2)
  have HFH := Lib.hid (HFA.out w2 B2.out)
  clear hb2
  cases f
  · have HE : Hid (x = false ∧ y = false) := Lib.hid (HX.out.no (by rw [← HGG.out]; rfl))
    go_wp2_with (go_at_call 44; refine HFH.out.mono ?_; rintro e w3 ⟨rfl, hb3⟩)
    go_ret2
    exact ⟨by rw [HE.out.1, HE.out.2]; rfl, B2.out.trans (hb3.mono B2.out.size)⟩
  go_wp2_with (go_at_call 44; refine HFH.out.mono ?_; rintro e w3 ⟨rfl, hb3⟩; refine Hid.out ?_)
  refine Lib.hid ?_
  have B3 := Lib.hid (B2.out.trans (hb3.mono B2.out.size))
  have X3 := Lib.hid (X2.out.on hb3)
  obtain ⟨_, x0, x1, x2, x3, _⟩ := X3.out
  have HHH := Lib.hid (HH.out q HQQ.out w3 B3.out)
  clear hb3
  cases t
  · have HE : Hid (x = false ∧ y = false) := Lib.hid (HX.out.no (by rw [← HGG.out, ← HT.out]; rfl))
    go_wp2_with (go_at_call 45; refine (HD.out _).mono ?_; rintro e w4 ⟨rfl, rfl⟩)
    go_ret2
    exact ⟨by rw [HE.out.1, HE.out.2]; rfl, B3.out⟩
  have HE : Hid (x = q.holds (has ss) d ∧ y = true) := Lib.hid (HX.out.yes q HQQ.out (by rw [← HGG.out, ← HT.out]; rfl))
  go_wp2_with (first | (go_at_call 45; refine (HD.out _).mono ?_; rintro e w4 ⟨rfl, rfl⟩) | (go_at_call 46; refine HHH.out.mono ?_; rintro e w5 ⟨rfl, hb5⟩))
  go_ret2
  exact ⟨by rw [HE.out.1, HE.out.2]; rfl, B3.out.trans (hb5.mono B3.out.size)⟩

set_option maxHeartbeats 4000000 in
theorem implEv (k : K) (F : Option Addr) (n cf : Nat) (ss : List ByteArray) (d : Int) (w : World) (hin : Lies w w.heap.size k) (hw : k.cond.wt ≤ 1048576) (hn : n = ss.length) (hm : n ≤ 1048576) (hF : Row.Is w w.heap.size F ss) (hs : ∀ p ∈ ss, p.size ≤ maxLen) (hsp : ∀ ad, F = some ad → 0 < n → ad = ⟨ad.block, ad.off, none⟩) (f : Bool) (hf : f = true ↔ FOk ss) (x y : Bool) (hx : EvIs k.cond f ss d x y) :
    Calls Try.prog 20 #[k.val, .slice F n cf, .int .i64 d] w fun e w' => e = .returned (.tuple #[.bool x, .bool y]) ∧ Below w.heap.size w w' := by
  obtain ⟨w0, hw0⟩ : ∃ w0, w0 = (w.alloc (.cells #[.int .i64 k.op, .string k.nm, .int .i64 k.day, .slice k.A k.ps.length k.cap] 30)).alloc (.cells #[.slice F n cf] 34) := ⟨_, rfl⟩
  have B0 : Hid (Below w.heap.size w w0) := Lib.hid (by rw [hw0]; exact (below1 _ _).alloc (by simp) _)
  have X0 : Hid (B4 w.heap.size w0 (.int .i64 k.op) (.string k.nm) (.int .i64 k.day) (.slice k.A k.ps.length k.cap)) := Lib.hid (by rw [hw0]; exact (B4.new w _ _ _ _ _).alloc _)
  have L0 : Hid (w.heap.size + 1 < w0.heap.size) := Lib.hid (by rw [hw0]; simp)
  have C0 : Hid (w0.cell? ⟨w.heap.size + 1, 0, none⟩ = some (.slice F n cf)) := Lib.hid (by rw [hw0]; simp [go_sem])
  have CC : Hid (∀ v, Below w0.heap.size w0 v → v.cell? ⟨w.heap.size + 1, 0, none⟩ = some (.slice F n cf)) := Lib.hid fun v hb => (hb.cell (p := ⟨w.heap.size + 1, 0, none⟩) L0.out).trans C0.out
  have HG := implGood k w0 (hin.on B0.out) hw
  have HFA : Hid (∀ v, Below w0.heap.size w0 v → Calls Try.prog 47 #[.slice F n cf] v fun e w' => e = .returned (.bool f) ∧ v = w') := Lib.hid fun v hb => isFactList F n cf ss w.heap.size v hn hm (hF.below (B0.out.trans (hb.mono B0.out.size))) hs f hf
  have HD : Hid (∀ v, Calls Try.prog 48 #[.int .i64 d] v fun e w' => e = .returned (.bool (isDy d)) ∧ v = w') := Lib.hid fun v => isDay d v
  have HH : Hid (∀ q : Q, k.cond = q.c → ∀ v, Below w0.heap.size w0 v → Calls Try.prog 49 #[k.val, .int .i64 d, .func (.func 50) #[] #[.pointer (some ⟨w.heap.size + 1, 0, none⟩)]] v fun e w' => e = .returned (.bool (q.holds (has ss) d)) ∧ Below v.heap.size v w') := Lib.hid fun q hq v hb => holdsE F n cf (w.heap.size + 1) ss d w0 hn hm ((hF.below B0.out).more B0.out.size) hsp L0.out C0.out q k v hb hq ((hin.on B0.out).on hb)
  have hmf : ∀ (fn : Fn) (first cap : Array Value) (w : World), (Instr.makeFunc fn first cap).run Try.prog w = .ok (.func fn first cap) w := fun _ _ _ _ => rfl
  have HX := Lib.hid hx
  have HQ : Hid (k.cond.good = true → ∃ q : Q, k.cond = q.c) := Lib.hid fun h => by obtain ⟨q, hq, _⟩ := good_q h; exact ⟨q, hq⟩
  have HW := Lib.hid hw0
  clear hin hw hn hm hF hf hx hs hsp hw0 C0 L0
  obtain ⟨g, hg⟩ : ∃ g, g = k.cond.good := ⟨_, rfl⟩
  rw [← hg] at HG
  have HGG := Lib.hid hg
  have HGH := Lib.hid HG
  clear hg HG
  obtain ⟨t, ht⟩ : ∃ t, t = isDy d := ⟨_, rfl⟩
  rw [← ht] at HD
  have HT := Lib.hid ht
  clear ht
  cases g
  · have HE : Hid (x = false ∧ y = false) := Lib.hid (HX.out.no (by rw [← HGG.out]; rfl))
    go_enter Try.func20, Try.ntmps20
    go_wp2_with (go_at_call 15; rw [← HW.out]; refine HGH.out.mono ?_; rintro e w2 ⟨rfl, hb2⟩)
    go_ret2
    exact ⟨by rw [HE.out.1, HE.out.2]; rfl, B0.out.trans (hb2.mono B0.out.size)⟩
  obtain ⟨q, hq⟩ := HQ.out HGG.out.symm
  have HQQ := Lib.hid hq
  clear hq
  go_enter Try.func20, Try.ntmps20
  go_wp2_with (go_at_call 15; rw [← HW.out]; refine HGH.out.mono ?_; rintro e w2 ⟨rfl, hb2⟩; refine Hid.out ?_)
  refine Lib.hid ?_
  have B2 := Lib.hid (B0.out.trans (hb2.mono B0.out.size))
  have X2 := Lib.hid (X0.out.on hb2)
  obtain ⟨_, x0, x1, x2, x3, _⟩ := X2.out
  have c2 := CC.out w2 hb2
  have HFH := Lib.hid (HFA.out w2 hb2)
  have HHH := Lib.hid (HH.out q HQQ.out w2 hb2)
  clear hb2
  cases f
  · have HE : Hid (x = false ∧ y = false) := Lib.hid (HX.out.no (by rw [← HGG.out]; rfl))
    go_wp2_with (go_at_call 47; refine HFH.out.mono ?_; rintro e w3 ⟨rfl, rfl⟩)
    go_ret2
    exact ⟨by rw [HE.out.1, HE.out.2]; rfl, B2.out⟩
  cases t
  · have HE : Hid (x = false ∧ y = false) := Lib.hid (HX.out.no (by rw [← HGG.out, ← HT.out]; rfl))
    go_wp2_with (first | (go_at_call 47; refine HFH.out.mono ?_; rintro e w3 ⟨rfl, rfl⟩) | (go_at_call 48; refine (HD.out _).mono ?_; rintro e w4 ⟨rfl, rfl⟩))
    go_ret2
    exact ⟨by rw [HE.out.1, HE.out.2]; rfl, B2.out⟩
  have HE : Hid (x = q.holds (has ss) d ∧ y = true) := Lib.hid (HX.out.yes q HQQ.out (by rw [← HGG.out, ← HT.out]; rfl))
  go_wp2_with (first | (go_at_call 47; refine HFH.out.mono ?_; rintro e w3 ⟨rfl, rfl⟩) | (go_at_call 48; refine (HD.out _).mono ?_; rintro e w4 ⟨rfl, rfl⟩) | (go_at_call 49; refine HHH.out.mono ?_; rintro e w5 ⟨rfl, hb5⟩))
  go_ret2
  exact ⟨by rw [HE.out.1, HE.out.2]; rfl, B2.out.trans (hb5.mono B2.out.size)⟩

end Go.Proofs.Ytbpoalhiaedcgaa.Cond
