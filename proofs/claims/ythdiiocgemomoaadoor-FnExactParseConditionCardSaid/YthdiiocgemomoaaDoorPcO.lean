/-
  read of the program's reader, each way through it.
-/
import Derived.Test.YthdiiocgemomoaaDoorPcL
import Derived.Test.YthdiiocgemomoaaDoorPcN
namespace Go.Proofs.YthdiiocgemomoaaDoor.Cond
open Go.RowKit
set_option linter.unusedVariables false
set_option linter.unusedSimpArgs false

set_option maxRecDepth 100000 in
set_option maxHeartbeats 8000000 in
theorem rPairG {b : Nat} {W : World} (hbW : W.heap.size ≤ b) (l : List UInt8) (M : Nat) (w : World) (hll : l.length ≤ 1900000) (hM : M ≤ 15) (h : Rr b w l (M + 1)) (hW : Below W.heap.size W w) (hP : st wPar l = true) (q : Q) (r : List UInt8) (Lr : Nat) (HCALL : ∀ v, Rr b v (l.drop 1) M → Below W.heap.size W v → Calls Tryd.prog 22 #[.pointer (some ⟨b, 0, none⟩)] v (PG b q r Lr v)) :
    Calls Tryd.prog 11 #[.pointer (some ⟨b, 0, none⟩)] w (PG b q r Lr w) := by
  have hbw : b < w.heap.size := h.lt
  obtain ⟨X, hX⟩ : ∃ X, X = w.setCell ⟨b, 1, none⟩ (.int .i64 (M : Int)) := ⟨_, rfl⟩
  have hRX : Rr b X l M := by rw [hX]; exact h.set1 M
  have hXs : X.heap.size = w.heap.size := by rw [hX]; simp
  have hmX : Mv (· = b) (· = b) w X := by rw [hX]; exact mv_set b 1 w _
  obtain ⟨X1, hX1⟩ : ∃ V, V = X.alloc (.cells #[.int .i64 0, .string ⟨#[]⟩, .int .i64 0, .slice none 0 0] 24) := ⟨_, rfl⟩
  have b0 : Below X.heap.size X X1 := by rw [hX1]; exact below1 _ _
  have hR1 : Rr b X1 l M := hRX.on b0
  have hm1 : Mv (· = b) (· = b) w X1 := hmX.trans (Mv.of_below b0)
  have hW1 : Below W.heap.size W X1 := by
    have h0 : Below W.heap.size W X := by rw [hX]; exact hW.setCell (p := ⟨b, 1, none⟩) hbW _
    exact h0.trans (b0.mono h0.size)
  have P1 : Hid (B4 w.heap.size X1 (.int .i64 0) (.string ⟨#[]⟩) (.int .i64 0) (.slice none 0 0)) := Lib.hid (by rw [← hXs, hX1]; exact B4.new _ _ _ _ _ _)
  have HSK := skip b M l ⟨#[40]⟩ X1 hR1
  rw [show (⟨#[40]⟩ : ByteArray).data.toList = wPar from rfl, hP, show trim wPar l = l.drop 1 by rw [trim, hP]; rfl] at HSK
  obtain ⟨X2, hX2⟩ : ∃ V, V = X1.setCell ⟨b, 0, none⟩ (.string (ba (l.drop 1))) := ⟨_, rfl⟩
  have hR2 : Rr b X2 (l.drop 1) M := by rw [hX2]; exact hR1.set0 _
  have hm2 : Mv (· = b) (· = b) w X2 := hm1.trans (by rw [hX2]; exact mv_set b 0 X1 _)
  have hW2 : Below W.heap.size W X2 := by rw [hX2]; exact hW1.setCell (p := ⟨b, 0, none⟩) hbW _
  have P3 : Hid (B4 w.heap.size X2 (.int .i64 0) (.string ⟨#[]⟩) (.int .i64 0) (.slice none 0 0)) := Lib.hid (by rw [hX2]; exact P1.out.far (by simp; omega) _)
  have rc1 : w.cell? ⟨b, 1, none⟩ = some (.int .i64 ((M : Int) + 1)) := by have := h.c1; rw [this]; simp
  have rf1 := h.fz 1
  have hl0 : ((M : Int) + 1 == 0) = false := by rw [beq_eq_false_iff_ne]; omega
  have hl1 : ¬ (M : Int) + 1 = 0 := by omega
  have HXX := Lib.hid hX
  have HX1 := Lib.hid hX1
  have HX2 := Lib.hid hX2
  have HSKH := Lib.hid HSK
  have SW : Hid (w.heap.size < X2.heap.size) := Lib.hid P3.out.lt
  have MX := Lib.hid hm2
  have S3 := SW
  have HSUB := Lib.hid (HCALL X2 hR2 hW2)
  clear hXs hmX hX hX1 hX2 HSK hR1 hR2 hRX hm1 hm2 hW1 hW2 b0 h hW hP
  clear HCALL
  go_enter Tryd.func11, Tryd.ntmps11
  go_wp2_with (first | (go_at_call 21; (try rw [← HXX.out]); (try rw [← HX1.out]); refine HSKH.out.mono ?_; rintro e w' ⟨rfl, rfl⟩; (try rw [← HX2.out])) | fail | (go_at_call 22; (try rw [← HX2.out]); refine HSUB.out.mono ?_; rintro e wz ⟨hmz, k, rfl, hk, hwk, hge, hrr⟩; refine Hid.out ?_))
  refine Lib.hid ?_
  have MZ := Lib.hid (MX.out.trans hmz)
  have P2 := Lib.hid (P3.out.mv hmz (by omega))
  have HF : Hid (∀ x0 x1 x2 x3, PG b q r Lr w (.returned (.tuple #[k.val, .bool true])) (Cond.put4 wz w.heap.size 0 x0 x1 x2 x3)) := Lib.hid fun x0 x1 x2 x3 => pg_leaf MZ.out hk hwk (fun x hx => by have := hge x hx; have := S3.out; omega) (fun hx => by have := hge _ hx; have := S3.out; omega) hrr (Nat.le_refl _) (by omega)
  obtain ⟨_, p0, p1, p2, p3, pf⟩ := P2.out
  have pf0 := pf 0
  have pf1 := pf 1
  have pf2 := pf 2
  have pf3 := pf 3
  clear pf
  clear hmz hk hwk hge hrr
  go_wp2_with fail
  obtain ⟨_, t0, t1, t2, t3, _⟩ := P2.out.put (.int .i64 k.op) (.string k.nm) (.int .i64 k.day) (.slice k.A k.ps.length k.cap)
  have hf := HF.out (.int .i64 k.op) (.string k.nm) (.int .i64 k.day) (.slice k.A k.ps.length k.cap)
  simp only [Cond.put4] at t0 t1 t2 t3 hf
  exact bodyPost_ret (v := .tuple #[k.val, .bool true]) (by simp [results, Tryd.results11, go_sem, t0, t1, t2, t3]) rfl hf

set_option maxRecDepth 100000 in
set_option maxHeartbeats 8000000 in
theorem rPairB {b : Nat} {W : World} (hbW : W.heap.size ≤ b) (l : List UInt8) (M : Nat) (w : World) (hll : l.length ≤ 1900000) (hM : M ≤ 15) (h : Rr b w l (M + 1)) (hW : Below W.heap.size W w) (hP : st wPar l = true) (HCALL : ∀ v, Rr b v (l.drop 1) M → Below W.heap.size W v → Calls Tryd.prog 22 #[.pointer (some ⟨b, 0, none⟩)] v (PB b v)) :
    Calls Tryd.prog 11 #[.pointer (some ⟨b, 0, none⟩)] w (PB b w) := by
  have hbw : b < w.heap.size := h.lt
  obtain ⟨X, hX⟩ : ∃ X, X = w.setCell ⟨b, 1, none⟩ (.int .i64 (M : Int)) := ⟨_, rfl⟩
  have hRX : Rr b X l M := by rw [hX]; exact h.set1 M
  have hXs : X.heap.size = w.heap.size := by rw [hX]; simp
  have hmX : Mv (· = b) (· = b) w X := by rw [hX]; exact mv_set b 1 w _
  obtain ⟨X1, hX1⟩ : ∃ V, V = X.alloc (.cells #[.int .i64 0, .string ⟨#[]⟩, .int .i64 0, .slice none 0 0] 24) := ⟨_, rfl⟩
  have b0 : Below X.heap.size X X1 := by rw [hX1]; exact below1 _ _
  have hR1 : Rr b X1 l M := hRX.on b0
  have hm1 : Mv (· = b) (· = b) w X1 := hmX.trans (Mv.of_below b0)
  have hW1 : Below W.heap.size W X1 := by
    have h0 : Below W.heap.size W X := by rw [hX]; exact hW.setCell (p := ⟨b, 1, none⟩) hbW _
    exact h0.trans (b0.mono h0.size)
  have P1 : Hid (B4 w.heap.size X1 (.int .i64 0) (.string ⟨#[]⟩) (.int .i64 0) (.slice none 0 0)) := Lib.hid (by rw [← hXs, hX1]; exact B4.new _ _ _ _ _ _)
  have HSK := skip b M l ⟨#[40]⟩ X1 hR1
  rw [show (⟨#[40]⟩ : ByteArray).data.toList = wPar from rfl, hP, show trim wPar l = l.drop 1 by rw [trim, hP]; rfl] at HSK
  obtain ⟨X2, hX2⟩ : ∃ V, V = X1.setCell ⟨b, 0, none⟩ (.string (ba (l.drop 1))) := ⟨_, rfl⟩
  have hR2 : Rr b X2 (l.drop 1) M := by rw [hX2]; exact hR1.set0 _
  have hm2 : Mv (· = b) (· = b) w X2 := hm1.trans (by rw [hX2]; exact mv_set b 0 X1 _)
  have hW2 : Below W.heap.size W X2 := by rw [hX2]; exact hW1.setCell (p := ⟨b, 0, none⟩) hbW _
  have P3 : Hid (B4 w.heap.size X2 (.int .i64 0) (.string ⟨#[]⟩) (.int .i64 0) (.slice none 0 0)) := Lib.hid (by rw [hX2]; exact P1.out.far (by simp; omega) _)
  have rc1 : w.cell? ⟨b, 1, none⟩ = some (.int .i64 ((M : Int) + 1)) := by have := h.c1; rw [this]; simp
  have rf1 := h.fz 1
  have hl0 : ((M : Int) + 1 == 0) = false := by rw [beq_eq_false_iff_ne]; omega
  have hl1 : ¬ (M : Int) + 1 = 0 := by omega
  have HXX := Lib.hid hX
  have HX1 := Lib.hid hX1
  have HX2 := Lib.hid hX2
  have HSKH := Lib.hid HSK
  have SW : Hid (w.heap.size < X2.heap.size) := Lib.hid P3.out.lt
  have MX := Lib.hid hm2
  have S3 := SW
  have HSUB := Lib.hid (HCALL X2 hR2 hW2)
  clear hXs hmX hX hX1 hX2 HSK hR1 hR2 hRX hm1 hm2 hW1 hW2 b0 h hW hP
  clear HCALL
  go_enter Tryd.func11, Tryd.ntmps11
  go_wp2_with (first | (go_at_call 21; (try rw [← HXX.out]); (try rw [← HX1.out]); refine HSKH.out.mono ?_; rintro e w' ⟨rfl, rfl⟩; (try rw [← HX2.out])) | fail | (go_at_call 22; (try rw [← HX2.out]); refine HSUB.out.mono ?_; rintro e wz ⟨hmz, k, rfl⟩; refine Hid.out ?_))
  refine Lib.hid ?_
  have MZ := Lib.hid (MX.out.trans hmz)
  have P2 := Lib.hid (P3.out.mv hmz (by omega))
  have HF : Hid (∀ x0 x1 x2 x3, PB b w (.returned (.tuple #[k.val, .bool false])) (Cond.put4 wz w.heap.size 0 x0 x1 x2 x3)) := Lib.hid fun x0 x1 x2 x3 => pb_any k MZ.out (Nat.le_refl _)
  obtain ⟨_, p0, p1, p2, p3, pf⟩ := P2.out
  have pf0 := pf 0
  have pf1 := pf 1
  have pf2 := pf 2
  have pf3 := pf 3
  clear pf
  clear hmz
  go_wp2_with fail
  obtain ⟨_, t0, t1, t2, t3, _⟩ := P2.out.put (.int .i64 k.op) (.string k.nm) (.int .i64 k.day) (.slice k.A k.ps.length k.cap)
  have hf := HF.out (.int .i64 k.op) (.string k.nm) (.int .i64 k.day) (.slice k.A k.ps.length k.cap)
  simp only [Cond.put4] at t0 t1 t2 t3 hf
  exact bodyPost_ret (v := .tuple #[k.val, .bool false]) (by simp [results, Tryd.results11, go_sem, t0, t1, t2, t3]) rfl hf

set_option maxRecDepth 100000 in
set_option maxHeartbeats 8000000 in
theorem rFromG {b : Nat} {W : World} (hbW : W.heap.size ≤ b) (l : List UInt8) (M : Nat) (w : World) (hll : l.length ≤ 1900000) (hM : M ≤ 15) (h : Rr b w l (M + 1)) (hW : Below W.heap.size W w) (hP : st wPar l = false) (hw : word l = [102, 114, 111, 109]) (q : Q) (r : List UInt8) (Lr : Nat) (HCALL : ∀ v, Rr b v (l.drop (word l).length) M → Below W.heap.size W v → Calls Tryd.prog 25 #[.pointer (some ⟨b, 0, none⟩)] v (PG b q r Lr v)) :
    Calls Tryd.prog 11 #[.pointer (some ⟨b, 0, none⟩)] w (PG b q r Lr w) := by
  have hbw : b < w.heap.size := h.lt
  obtain ⟨X, hX⟩ : ∃ X, X = w.setCell ⟨b, 1, none⟩ (.int .i64 (M : Int)) := ⟨_, rfl⟩
  have hRX : Rr b X l M := by rw [hX]; exact h.set1 M
  have hXs : X.heap.size = w.heap.size := by rw [hX]; simp
  have hmX : Mv (· = b) (· = b) w X := by rw [hX]; exact mv_set b 1 w _
  obtain ⟨X1, hX1⟩ : ∃ V, V = X.alloc (.cells #[.int .i64 0, .string ⟨#[]⟩, .int .i64 0, .slice none 0 0] 24) := ⟨_, rfl⟩
  have b0 : Below X.heap.size X X1 := by rw [hX1]; exact below1 _ _
  have hR1 : Rr b X1 l M := hRX.on b0
  have hm1 : Mv (· = b) (· = b) w X1 := hmX.trans (Mv.of_below b0)
  have hW1 : Below W.heap.size W X1 := by
    have h0 : Below W.heap.size W X := by rw [hX]; exact hW.setCell (p := ⟨b, 1, none⟩) hbW _
    exact h0.trans (b0.mono h0.size)
  have P1 : Hid (B4 w.heap.size X1 (.int .i64 0) (.string ⟨#[]⟩) (.int .i64 0) (.slice none 0 0)) := Lib.hid (by rw [← hXs, hX1]; exact B4.new _ _ _ _ _ _)
  have HSK := skip b M l ⟨#[40]⟩ X1 hR1
  rw [show (⟨#[40]⟩ : ByteArray).data.toList = wPar from rfl, hP, show trim wPar l = l by rw [trim, hP]; rfl] at HSK
  obtain ⟨X2, hX2⟩ : ∃ V, V = X1.setCell ⟨b, 0, none⟩ (.string (ba (l))) := ⟨_, rfl⟩
  have hR2 : Rr b X2 (l) M := by rw [hX2]; exact hR1.set0 _
  have hm2 : Mv (· = b) (· = b) w X2 := hm1.trans (by rw [hX2]; exact mv_set b 0 X1 _)
  have hW2 : Below W.heap.size W X2 := by rw [hX2]; exact hW1.setCell (p := ⟨b, 0, none⟩) hbW _
  have P3 : Hid (B4 w.heap.size X2 (.int .i64 0) (.string ⟨#[]⟩) (.int .i64 0) (.slice none 0 0)) := Lib.hid (by rw [hX2]; exact P1.out.far (by simp; omega) _)
  have rc1 : w.cell? ⟨b, 1, none⟩ = some (.int .i64 ((M : Int) + 1)) := by have := h.c1; rw [this]; simp
  have rf1 := h.fz 1
  have hl0 : ((M : Int) + 1 == 0) = false := by rw [beq_eq_false_iff_ne]; omega
  have hl1 : ¬ (M : Int) + 1 = 0 := by omega
  have HXX := Lib.hid hX
  have HX1 := Lib.hid hX1
  have HX2 := Lib.hid hX2
  have HSKH := Lib.hid HSK
  have SW : Hid (w.heap.size < X2.heap.size) := Lib.hid P3.out.lt
  have HWL : Hid (∀ v, Calls Tryd.prog 24 #[.string (ba l)] v fun e w' => e = .returned (.int .i64 ((word l).length : Int)) ∧ v = w') := Lib.hid fun v => wordLength (ba l) (by simp [ByteArray.size, maxLen]; omega) v
  have HTK := take_ b M (word l).length l X2 hR2 (by omega) (by have := word_len l; omega)
  rw [show l.take (word l).length = word l from (List.prefix_iff_eq_take.1 (List.takeWhile_prefix _)).symm] at HTK
  obtain ⟨X3, hX3⟩ : ∃ V, V = X2.setCell ⟨b, 0, none⟩ (.string (ba (l.drop (word l).length))) := ⟨_, rfl⟩
  have hR3 : Rr b X3 (l.drop (word l).length) M := by rw [hX3]; exact hR2.set0 _
  have hm3 : Mv (· = b) (· = b) w X3 := hm2.trans (by rw [hX3]; exact mv_set b 0 X2 _)
  have hW3 : Below W.heap.size W X3 := by rw [hX3]; exact hW2.setCell (p := ⟨b, 0, none⟩) hbW _
  have P4 : Hid (B4 w.heap.size X3 (.int .i64 0) (.string ⟨#[]⟩) (.int .i64 0) (.slice none 0 0)) := Lib.hid (by rw [hX3]; exact P3.out.far (by simp; omega) _)
  have HX3 := Lib.hid hX3
  have HTKH := Lib.hid HTK
  have MX := Lib.hid hm3
  have RX := Lib.hid hR3
  have S3 : Hid (w.heap.size < X3.heap.size) := Lib.hid P4.out.lt
  have rx0 := hR2.c0
  have HSUB := Lib.hid (HCALL X3 hR3 hW3)
  have hwd : word l = [102, 114, 111, 109] := hw
  rw [hw] at HTKH HX3 HWL
  clear hXs hmX hX hX1 hX2 hX3 HSK HTK hR1 hR2 hR3 hRX hm1 hm2 hm3 hW1 hW2 hW3 b0 h hW hP
  clear hw hwd
  clear HCALL
  go_enter Tryd.func11, Tryd.ntmps11
  go_wp2_with (first | (go_at_call 21; (try rw [← HXX.out]); (try rw [← HX1.out]); refine HSKH.out.mono ?_; rintro e w' ⟨rfl, rfl⟩; (try rw [← HX2.out])) | (go_at_call 24; (try rw [← HX2.out]); refine (HWL.out _).mono ?_; rintro e w' ⟨rfl, rfl⟩) | (go_at_call 23; (try rw [← HX2.out]); refine HTKH.out.mono ?_; rintro e w' ⟨rfl, rfl⟩; (try rw [← HX3.out])) | (go_at_call 25; (try rw [← HX3.out]); refine HSUB.out.mono ?_; rintro e wz ⟨hmz, k, rfl, hk, hwk, hge, hrr⟩; refine Hid.out ?_))
  refine Lib.hid ?_
  have MZ := Lib.hid (MX.out.trans hmz)
  have P2 := Lib.hid (P4.out.mv hmz (by omega))
  have HF : Hid (∀ x0 x1 x2 x3, PG b q r Lr w (.returned (.tuple #[k.val, .bool true])) (Cond.put4 wz w.heap.size 0 x0 x1 x2 x3)) := Lib.hid fun x0 x1 x2 x3 => pg_leaf MZ.out hk hwk (fun x hx => by have := hge x hx; have := S3.out; omega) (fun hx => by have := hge _ hx; have := S3.out; omega) hrr (Nat.le_refl _) (by omega)
  obtain ⟨_, p0, p1, p2, p3, pf⟩ := P2.out
  have pf0 := pf 0
  have pf1 := pf 1
  have pf2 := pf 2
  have pf3 := pf 3
  clear pf
  clear hmz hk hwk hge hrr
  go_wp2_with fail
  obtain ⟨_, t0, t1, t2, t3, _⟩ := P2.out.put (.int .i64 k.op) (.string k.nm) (.int .i64 k.day) (.slice k.A k.ps.length k.cap)
  have hf := HF.out (.int .i64 k.op) (.string k.nm) (.int .i64 k.day) (.slice k.A k.ps.length k.cap)
  simp only [Cond.put4] at t0 t1 t2 t3 hf
  exact bodyPost_ret (v := .tuple #[k.val, .bool true]) (by simp [results, Tryd.results11, go_sem, t0, t1, t2, t3]) rfl hf

set_option maxRecDepth 100000 in
set_option maxHeartbeats 8000000 in
theorem rFromB {b : Nat} {W : World} (hbW : W.heap.size ≤ b) (l : List UInt8) (M : Nat) (w : World) (hll : l.length ≤ 1900000) (hM : M ≤ 15) (h : Rr b w l (M + 1)) (hW : Below W.heap.size W w) (hP : st wPar l = false) (hw : word l = [102, 114, 111, 109]) (HCALL : ∀ v, Rr b v (l.drop (word l).length) M → Below W.heap.size W v → Calls Tryd.prog 25 #[.pointer (some ⟨b, 0, none⟩)] v (PB b v)) :
    Calls Tryd.prog 11 #[.pointer (some ⟨b, 0, none⟩)] w (PB b w) := by
  have hbw : b < w.heap.size := h.lt
  obtain ⟨X, hX⟩ : ∃ X, X = w.setCell ⟨b, 1, none⟩ (.int .i64 (M : Int)) := ⟨_, rfl⟩
  have hRX : Rr b X l M := by rw [hX]; exact h.set1 M
  have hXs : X.heap.size = w.heap.size := by rw [hX]; simp
  have hmX : Mv (· = b) (· = b) w X := by rw [hX]; exact mv_set b 1 w _
  obtain ⟨X1, hX1⟩ : ∃ V, V = X.alloc (.cells #[.int .i64 0, .string ⟨#[]⟩, .int .i64 0, .slice none 0 0] 24) := ⟨_, rfl⟩
  have b0 : Below X.heap.size X X1 := by rw [hX1]; exact below1 _ _
  have hR1 : Rr b X1 l M := hRX.on b0
  have hm1 : Mv (· = b) (· = b) w X1 := hmX.trans (Mv.of_below b0)
  have hW1 : Below W.heap.size W X1 := by
    have h0 : Below W.heap.size W X := by rw [hX]; exact hW.setCell (p := ⟨b, 1, none⟩) hbW _
    exact h0.trans (b0.mono h0.size)
  have P1 : Hid (B4 w.heap.size X1 (.int .i64 0) (.string ⟨#[]⟩) (.int .i64 0) (.slice none 0 0)) := Lib.hid (by rw [← hXs, hX1]; exact B4.new _ _ _ _ _ _)
  have HSK := skip b M l ⟨#[40]⟩ X1 hR1
  rw [show (⟨#[40]⟩ : ByteArray).data.toList = wPar from rfl, hP, show trim wPar l = l by rw [trim, hP]; rfl] at HSK
  obtain ⟨X2, hX2⟩ : ∃ V, V = X1.setCell ⟨b, 0, none⟩ (.string (ba (l))) := ⟨_, rfl⟩
  have hR2 : Rr b X2 (l) M := by rw [hX2]; exact hR1.set0 _
  have hm2 : Mv (· = b) (· = b) w X2 := hm1.trans (by rw [hX2]; exact mv_set b 0 X1 _)
  have hW2 : Below W.heap.size W X2 := by rw [hX2]; exact hW1.setCell (p := ⟨b, 0, none⟩) hbW _
  have P3 : Hid (B4 w.heap.size X2 (.int .i64 0) (.string ⟨#[]⟩) (.int .i64 0) (.slice none 0 0)) := Lib.hid (by rw [hX2]; exact P1.out.far (by simp; omega) _)
  have rc1 : w.cell? ⟨b, 1, none⟩ = some (.int .i64 ((M : Int) + 1)) := by have := h.c1; rw [this]; simp
  have rf1 := h.fz 1
  have hl0 : ((M : Int) + 1 == 0) = false := by rw [beq_eq_false_iff_ne]; omega
  have hl1 : ¬ (M : Int) + 1 = 0 := by omega
  have HXX := Lib.hid hX
  have HX1 := Lib.hid hX1
  have HX2 := Lib.hid hX2
  have HSKH := Lib.hid HSK
  have SW : Hid (w.heap.size < X2.heap.size) := Lib.hid P3.out.lt
  have HWL : Hid (∀ v, Calls Tryd.prog 24 #[.string (ba l)] v fun e w' => e = .returned (.int .i64 ((word l).length : Int)) ∧ v = w') := Lib.hid fun v => wordLength (ba l) (by simp [ByteArray.size, maxLen]; omega) v
  have HTK := take_ b M (word l).length l X2 hR2 (by omega) (by have := word_len l; omega)
  rw [show l.take (word l).length = word l from (List.prefix_iff_eq_take.1 (List.takeWhile_prefix _)).symm] at HTK
  obtain ⟨X3, hX3⟩ : ∃ V, V = X2.setCell ⟨b, 0, none⟩ (.string (ba (l.drop (word l).length))) := ⟨_, rfl⟩
  have hR3 : Rr b X3 (l.drop (word l).length) M := by rw [hX3]; exact hR2.set0 _
  have hm3 : Mv (· = b) (· = b) w X3 := hm2.trans (by rw [hX3]; exact mv_set b 0 X2 _)
  have hW3 : Below W.heap.size W X3 := by rw [hX3]; exact hW2.setCell (p := ⟨b, 0, none⟩) hbW _
  have P4 : Hid (B4 w.heap.size X3 (.int .i64 0) (.string ⟨#[]⟩) (.int .i64 0) (.slice none 0 0)) := Lib.hid (by rw [hX3]; exact P3.out.far (by simp; omega) _)
  have HX3 := Lib.hid hX3
  have HTKH := Lib.hid HTK
  have MX := Lib.hid hm3
  have RX := Lib.hid hR3
  have S3 : Hid (w.heap.size < X3.heap.size) := Lib.hid P4.out.lt
  have rx0 := hR2.c0
  have HSUB := Lib.hid (HCALL X3 hR3 hW3)
  have hwd : word l = [102, 114, 111, 109] := hw
  rw [hw] at HTKH HX3 HWL
  clear hXs hmX hX hX1 hX2 hX3 HSK HTK hR1 hR2 hR3 hRX hm1 hm2 hm3 hW1 hW2 hW3 b0 h hW hP
  clear hw hwd
  clear HCALL
  go_enter Tryd.func11, Tryd.ntmps11
  go_wp2_with (first | (go_at_call 21; (try rw [← HXX.out]); (try rw [← HX1.out]); refine HSKH.out.mono ?_; rintro e w' ⟨rfl, rfl⟩; (try rw [← HX2.out])) | (go_at_call 24; (try rw [← HX2.out]); refine (HWL.out _).mono ?_; rintro e w' ⟨rfl, rfl⟩) | (go_at_call 23; (try rw [← HX2.out]); refine HTKH.out.mono ?_; rintro e w' ⟨rfl, rfl⟩; (try rw [← HX3.out])) | (go_at_call 25; (try rw [← HX3.out]); refine HSUB.out.mono ?_; rintro e wz ⟨hmz, k, rfl⟩; refine Hid.out ?_))
  refine Lib.hid ?_
  have MZ := Lib.hid (MX.out.trans hmz)
  have P2 := Lib.hid (P4.out.mv hmz (by omega))
  have HF : Hid (∀ x0 x1 x2 x3, PB b w (.returned (.tuple #[k.val, .bool false])) (Cond.put4 wz w.heap.size 0 x0 x1 x2 x3)) := Lib.hid fun x0 x1 x2 x3 => pb_any k MZ.out (Nat.le_refl _)
  obtain ⟨_, p0, p1, p2, p3, pf⟩ := P2.out
  have pf0 := pf 0
  have pf1 := pf 1
  have pf2 := pf 2
  have pf3 := pf 3
  clear pf
  clear hmz
  go_wp2_with fail
  obtain ⟨_, t0, t1, t2, t3, _⟩ := P2.out.put (.int .i64 k.op) (.string k.nm) (.int .i64 k.day) (.slice k.A k.ps.length k.cap)
  have hf := HF.out (.int .i64 k.op) (.string k.nm) (.int .i64 k.day) (.slice k.A k.ps.length k.cap)
  simp only [Cond.put4] at t0 t1 t2 t3 hf
  exact bodyPost_ret (v := .tuple #[k.val, .bool false]) (by simp [results, Tryd.results11, go_sem, t0, t1, t2, t3]) rfl hf

set_option maxRecDepth 100000 in
set_option maxHeartbeats 8000000 in
theorem rNotG {b : Nat} {W : World} (hbW : W.heap.size ≤ b) (l : List UInt8) (M : Nat) (w : World) (hll : l.length ≤ 1900000) (hM : M ≤ 15) (h : Rr b w l (M + 1)) (hW : Below W.heap.size W w) (hP : st wPar l = false) (hw : word l = [110, 111, 116]) (q : Q) (r : List UInt8) (Lr : Nat) (HCALL : ∀ v, Rr b v (l.drop (word l).length) M → Below W.heap.size W v → Calls Tryd.prog 26 #[.pointer (some ⟨b, 0, none⟩)] v (PG b q r Lr v)) :
    Calls Tryd.prog 11 #[.pointer (some ⟨b, 0, none⟩)] w (PG b q r Lr w) := by
  have hbw : b < w.heap.size := h.lt
  obtain ⟨X, hX⟩ : ∃ X, X = w.setCell ⟨b, 1, none⟩ (.int .i64 (M : Int)) := ⟨_, rfl⟩
  have hRX : Rr b X l M := by rw [hX]; exact h.set1 M
  have hXs : X.heap.size = w.heap.size := by rw [hX]; simp
  have hmX : Mv (· = b) (· = b) w X := by rw [hX]; exact mv_set b 1 w _
  obtain ⟨X1, hX1⟩ : ∃ V, V = X.alloc (.cells #[.int .i64 0, .string ⟨#[]⟩, .int .i64 0, .slice none 0 0] 24) := ⟨_, rfl⟩
  have b0 : Below X.heap.size X X1 := by rw [hX1]; exact below1 _ _
  have hR1 : Rr b X1 l M := hRX.on b0
  have hm1 : Mv (· = b) (· = b) w X1 := hmX.trans (Mv.of_below b0)
  have hW1 : Below W.heap.size W X1 := by
    have h0 : Below W.heap.size W X := by rw [hX]; exact hW.setCell (p := ⟨b, 1, none⟩) hbW _
    exact h0.trans (b0.mono h0.size)
  have P1 : Hid (B4 w.heap.size X1 (.int .i64 0) (.string ⟨#[]⟩) (.int .i64 0) (.slice none 0 0)) := Lib.hid (by rw [← hXs, hX1]; exact B4.new _ _ _ _ _ _)
  have HSK := skip b M l ⟨#[40]⟩ X1 hR1
  rw [show (⟨#[40]⟩ : ByteArray).data.toList = wPar from rfl, hP, show trim wPar l = l by rw [trim, hP]; rfl] at HSK
  obtain ⟨X2, hX2⟩ : ∃ V, V = X1.setCell ⟨b, 0, none⟩ (.string (ba (l))) := ⟨_, rfl⟩
  have hR2 : Rr b X2 (l) M := by rw [hX2]; exact hR1.set0 _
  have hm2 : Mv (· = b) (· = b) w X2 := hm1.trans (by rw [hX2]; exact mv_set b 0 X1 _)
  have hW2 : Below W.heap.size W X2 := by rw [hX2]; exact hW1.setCell (p := ⟨b, 0, none⟩) hbW _
  have P3 : Hid (B4 w.heap.size X2 (.int .i64 0) (.string ⟨#[]⟩) (.int .i64 0) (.slice none 0 0)) := Lib.hid (by rw [hX2]; exact P1.out.far (by simp; omega) _)
  have rc1 : w.cell? ⟨b, 1, none⟩ = some (.int .i64 ((M : Int) + 1)) := by have := h.c1; rw [this]; simp
  have rf1 := h.fz 1
  have hl0 : ((M : Int) + 1 == 0) = false := by rw [beq_eq_false_iff_ne]; omega
  have hl1 : ¬ (M : Int) + 1 = 0 := by omega
  have HXX := Lib.hid hX
  have HX1 := Lib.hid hX1
  have HX2 := Lib.hid hX2
  have HSKH := Lib.hid HSK
  have SW : Hid (w.heap.size < X2.heap.size) := Lib.hid P3.out.lt
  have HWL : Hid (∀ v, Calls Tryd.prog 24 #[.string (ba l)] v fun e w' => e = .returned (.int .i64 ((word l).length : Int)) ∧ v = w') := Lib.hid fun v => wordLength (ba l) (by simp [ByteArray.size, maxLen]; omega) v
  have HTK := take_ b M (word l).length l X2 hR2 (by omega) (by have := word_len l; omega)
  rw [show l.take (word l).length = word l from (List.prefix_iff_eq_take.1 (List.takeWhile_prefix _)).symm] at HTK
  obtain ⟨X3, hX3⟩ : ∃ V, V = X2.setCell ⟨b, 0, none⟩ (.string (ba (l.drop (word l).length))) := ⟨_, rfl⟩
  have hR3 : Rr b X3 (l.drop (word l).length) M := by rw [hX3]; exact hR2.set0 _
  have hm3 : Mv (· = b) (· = b) w X3 := hm2.trans (by rw [hX3]; exact mv_set b 0 X2 _)
  have hW3 : Below W.heap.size W X3 := by rw [hX3]; exact hW2.setCell (p := ⟨b, 0, none⟩) hbW _
  have P4 : Hid (B4 w.heap.size X3 (.int .i64 0) (.string ⟨#[]⟩) (.int .i64 0) (.slice none 0 0)) := Lib.hid (by rw [hX3]; exact P3.out.far (by simp; omega) _)
  have HX3 := Lib.hid hX3
  have HTKH := Lib.hid HTK
  have MX := Lib.hid hm3
  have RX := Lib.hid hR3
  have S3 : Hid (w.heap.size < X3.heap.size) := Lib.hid P4.out.lt
  have rx0 := hR2.c0
  have HSUB := Lib.hid (HCALL X3 hR3 hW3)
  have hwd : word l = [110, 111, 116] := hw
  rw [hw] at HTKH HX3 HWL
  clear hXs hmX hX hX1 hX2 hX3 HSK HTK hR1 hR2 hR3 hRX hm1 hm2 hm3 hW1 hW2 hW3 b0 h hW hP
  clear hw hwd
  clear HCALL
  go_enter Tryd.func11, Tryd.ntmps11
  go_wp2_with (first | (go_at_call 21; (try rw [← HXX.out]); (try rw [← HX1.out]); refine HSKH.out.mono ?_; rintro e w' ⟨rfl, rfl⟩; (try rw [← HX2.out])) | (go_at_call 24; (try rw [← HX2.out]); refine (HWL.out _).mono ?_; rintro e w' ⟨rfl, rfl⟩) | (go_at_call 23; (try rw [← HX2.out]); refine HTKH.out.mono ?_; rintro e w' ⟨rfl, rfl⟩; (try rw [← HX3.out])) | (go_at_call 26; (try rw [← HX3.out]); refine HSUB.out.mono ?_; rintro e wz ⟨hmz, k, rfl, hk, hwk, hge, hrr⟩; refine Hid.out ?_))
  refine Lib.hid ?_
  have MZ := Lib.hid (MX.out.trans hmz)
  have P2 := Lib.hid (P4.out.mv hmz (by omega))
  have HF : Hid (∀ x0 x1 x2 x3, PG b q r Lr w (.returned (.tuple #[k.val, .bool true])) (Cond.put4 wz w.heap.size 0 x0 x1 x2 x3)) := Lib.hid fun x0 x1 x2 x3 => pg_leaf MZ.out hk hwk (fun x hx => by have := hge x hx; have := S3.out; omega) (fun hx => by have := hge _ hx; have := S3.out; omega) hrr (Nat.le_refl _) (by omega)
  obtain ⟨_, p0, p1, p2, p3, pf⟩ := P2.out
  have pf0 := pf 0
  have pf1 := pf 1
  have pf2 := pf 2
  have pf3 := pf 3
  clear pf
  clear hmz hk hwk hge hrr
  go_wp2_with fail
  obtain ⟨_, t0, t1, t2, t3, _⟩ := P2.out.put (.int .i64 k.op) (.string k.nm) (.int .i64 k.day) (.slice k.A k.ps.length k.cap)
  have hf := HF.out (.int .i64 k.op) (.string k.nm) (.int .i64 k.day) (.slice k.A k.ps.length k.cap)
  simp only [Cond.put4] at t0 t1 t2 t3 hf
  exact bodyPost_ret (v := .tuple #[k.val, .bool true]) (by simp [results, Tryd.results11, go_sem, t0, t1, t2, t3]) rfl hf

set_option maxRecDepth 100000 in
set_option maxHeartbeats 8000000 in
theorem rNotB {b : Nat} {W : World} (hbW : W.heap.size ≤ b) (l : List UInt8) (M : Nat) (w : World) (hll : l.length ≤ 1900000) (hM : M ≤ 15) (h : Rr b w l (M + 1)) (hW : Below W.heap.size W w) (hP : st wPar l = false) (hw : word l = [110, 111, 116]) (HCALL : ∀ v, Rr b v (l.drop (word l).length) M → Below W.heap.size W v → Calls Tryd.prog 26 #[.pointer (some ⟨b, 0, none⟩)] v (PB b v)) :
    Calls Tryd.prog 11 #[.pointer (some ⟨b, 0, none⟩)] w (PB b w) := by
  have hbw : b < w.heap.size := h.lt
  obtain ⟨X, hX⟩ : ∃ X, X = w.setCell ⟨b, 1, none⟩ (.int .i64 (M : Int)) := ⟨_, rfl⟩
  have hRX : Rr b X l M := by rw [hX]; exact h.set1 M
  have hXs : X.heap.size = w.heap.size := by rw [hX]; simp
  have hmX : Mv (· = b) (· = b) w X := by rw [hX]; exact mv_set b 1 w _
  obtain ⟨X1, hX1⟩ : ∃ V, V = X.alloc (.cells #[.int .i64 0, .string ⟨#[]⟩, .int .i64 0, .slice none 0 0] 24) := ⟨_, rfl⟩
  have b0 : Below X.heap.size X X1 := by rw [hX1]; exact below1 _ _
  have hR1 : Rr b X1 l M := hRX.on b0
  have hm1 : Mv (· = b) (· = b) w X1 := hmX.trans (Mv.of_below b0)
  have hW1 : Below W.heap.size W X1 := by
    have h0 : Below W.heap.size W X := by rw [hX]; exact hW.setCell (p := ⟨b, 1, none⟩) hbW _
    exact h0.trans (b0.mono h0.size)
  have P1 : Hid (B4 w.heap.size X1 (.int .i64 0) (.string ⟨#[]⟩) (.int .i64 0) (.slice none 0 0)) := Lib.hid (by rw [← hXs, hX1]; exact B4.new _ _ _ _ _ _)
  have HSK := skip b M l ⟨#[40]⟩ X1 hR1
  rw [show (⟨#[40]⟩ : ByteArray).data.toList = wPar from rfl, hP, show trim wPar l = l by rw [trim, hP]; rfl] at HSK
  obtain ⟨X2, hX2⟩ : ∃ V, V = X1.setCell ⟨b, 0, none⟩ (.string (ba (l))) := ⟨_, rfl⟩
  have hR2 : Rr b X2 (l) M := by rw [hX2]; exact hR1.set0 _
  have hm2 : Mv (· = b) (· = b) w X2 := hm1.trans (by rw [hX2]; exact mv_set b 0 X1 _)
  have hW2 : Below W.heap.size W X2 := by rw [hX2]; exact hW1.setCell (p := ⟨b, 0, none⟩) hbW _
  have P3 : Hid (B4 w.heap.size X2 (.int .i64 0) (.string ⟨#[]⟩) (.int .i64 0) (.slice none 0 0)) := Lib.hid (by rw [hX2]; exact P1.out.far (by simp; omega) _)
  have rc1 : w.cell? ⟨b, 1, none⟩ = some (.int .i64 ((M : Int) + 1)) := by have := h.c1; rw [this]; simp
  have rf1 := h.fz 1
  have hl0 : ((M : Int) + 1 == 0) = false := by rw [beq_eq_false_iff_ne]; omega
  have hl1 : ¬ (M : Int) + 1 = 0 := by omega
  have HXX := Lib.hid hX
  have HX1 := Lib.hid hX1
  have HX2 := Lib.hid hX2
  have HSKH := Lib.hid HSK
  have SW : Hid (w.heap.size < X2.heap.size) := Lib.hid P3.out.lt
  have HWL : Hid (∀ v, Calls Tryd.prog 24 #[.string (ba l)] v fun e w' => e = .returned (.int .i64 ((word l).length : Int)) ∧ v = w') := Lib.hid fun v => wordLength (ba l) (by simp [ByteArray.size, maxLen]; omega) v
  have HTK := take_ b M (word l).length l X2 hR2 (by omega) (by have := word_len l; omega)
  rw [show l.take (word l).length = word l from (List.prefix_iff_eq_take.1 (List.takeWhile_prefix _)).symm] at HTK
  obtain ⟨X3, hX3⟩ : ∃ V, V = X2.setCell ⟨b, 0, none⟩ (.string (ba (l.drop (word l).length))) := ⟨_, rfl⟩
  have hR3 : Rr b X3 (l.drop (word l).length) M := by rw [hX3]; exact hR2.set0 _
  have hm3 : Mv (· = b) (· = b) w X3 := hm2.trans (by rw [hX3]; exact mv_set b 0 X2 _)
  have hW3 : Below W.heap.size W X3 := by rw [hX3]; exact hW2.setCell (p := ⟨b, 0, none⟩) hbW _
  have P4 : Hid (B4 w.heap.size X3 (.int .i64 0) (.string ⟨#[]⟩) (.int .i64 0) (.slice none 0 0)) := Lib.hid (by rw [hX3]; exact P3.out.far (by simp; omega) _)
  have HX3 := Lib.hid hX3
  have HTKH := Lib.hid HTK
  have MX := Lib.hid hm3
  have RX := Lib.hid hR3
  have S3 : Hid (w.heap.size < X3.heap.size) := Lib.hid P4.out.lt
  have rx0 := hR2.c0
  have HSUB := Lib.hid (HCALL X3 hR3 hW3)
  have hwd : word l = [110, 111, 116] := hw
  rw [hw] at HTKH HX3 HWL
  clear hXs hmX hX hX1 hX2 hX3 HSK HTK hR1 hR2 hR3 hRX hm1 hm2 hm3 hW1 hW2 hW3 b0 h hW hP
  clear hw hwd
  clear HCALL
  go_enter Tryd.func11, Tryd.ntmps11
  go_wp2_with (first | (go_at_call 21; (try rw [← HXX.out]); (try rw [← HX1.out]); refine HSKH.out.mono ?_; rintro e w' ⟨rfl, rfl⟩; (try rw [← HX2.out])) | (go_at_call 24; (try rw [← HX2.out]); refine (HWL.out _).mono ?_; rintro e w' ⟨rfl, rfl⟩) | (go_at_call 23; (try rw [← HX2.out]); refine HTKH.out.mono ?_; rintro e w' ⟨rfl, rfl⟩; (try rw [← HX3.out])) | (go_at_call 26; (try rw [← HX3.out]); refine HSUB.out.mono ?_; rintro e wz ⟨hmz, k, rfl⟩; refine Hid.out ?_))
  refine Lib.hid ?_
  have MZ := Lib.hid (MX.out.trans hmz)
  have P2 := Lib.hid (P4.out.mv hmz (by omega))
  have HF : Hid (∀ x0 x1 x2 x3, PB b w (.returned (.tuple #[k.val, .bool false])) (Cond.put4 wz w.heap.size 0 x0 x1 x2 x3)) := Lib.hid fun x0 x1 x2 x3 => pb_any k MZ.out (Nat.le_refl _)
  obtain ⟨_, p0, p1, p2, p3, pf⟩ := P2.out
  have pf0 := pf 0
  have pf1 := pf 1
  have pf2 := pf 2
  have pf3 := pf 3
  clear pf
  clear hmz
  go_wp2_with fail
  obtain ⟨_, t0, t1, t2, t3, _⟩ := P2.out.put (.int .i64 k.op) (.string k.nm) (.int .i64 k.day) (.slice k.A k.ps.length k.cap)
  have hf := HF.out (.int .i64 k.op) (.string k.nm) (.int .i64 k.day) (.slice k.A k.ps.length k.cap)
  simp only [Cond.put4] at t0 t1 t2 t3 hf
  exact bodyPost_ret (v := .tuple #[k.val, .bool false]) (by simp [results, Tryd.results11, go_sem, t0, t1, t2, t3]) rfl hf

set_option maxRecDepth 100000 in
set_option maxHeartbeats 8000000 in
theorem rTrue {b : Nat} {W : World} (hbW : W.heap.size ≤ b) (l : List UInt8) (M : Nat) (w : World) (hll : l.length ≤ 1900000) (hM : M ≤ 15) (h : Rr b w l (M + 1)) (hW : Below W.heap.size W w) (hP : st wPar l = false) (hw : word l = [116, 114, 117, 101]) :
    Calls Tryd.prog 11 #[.pointer (some ⟨b, 0, none⟩)] w (PG b .tru (l.drop 4) M w) := by
  have hbw : b < w.heap.size := h.lt
  obtain ⟨X, hX⟩ : ∃ X, X = w.setCell ⟨b, 1, none⟩ (.int .i64 (M : Int)) := ⟨_, rfl⟩
  have hRX : Rr b X l M := by rw [hX]; exact h.set1 M
  have hXs : X.heap.size = w.heap.size := by rw [hX]; simp
  have hmX : Mv (· = b) (· = b) w X := by rw [hX]; exact mv_set b 1 w _
  obtain ⟨X1, hX1⟩ : ∃ V, V = X.alloc (.cells #[.int .i64 0, .string ⟨#[]⟩, .int .i64 0, .slice none 0 0] 24) := ⟨_, rfl⟩
  have b0 : Below X.heap.size X X1 := by rw [hX1]; exact below1 _ _
  have hR1 : Rr b X1 l M := hRX.on b0
  have hm1 : Mv (· = b) (· = b) w X1 := hmX.trans (Mv.of_below b0)
  have hW1 : Below W.heap.size W X1 := by
    have h0 : Below W.heap.size W X := by rw [hX]; exact hW.setCell (p := ⟨b, 1, none⟩) hbW _
    exact h0.trans (b0.mono h0.size)
  have P1 : Hid (B4 w.heap.size X1 (.int .i64 0) (.string ⟨#[]⟩) (.int .i64 0) (.slice none 0 0)) := Lib.hid (by rw [← hXs, hX1]; exact B4.new _ _ _ _ _ _)
  have HSK := skip b M l ⟨#[40]⟩ X1 hR1
  rw [show (⟨#[40]⟩ : ByteArray).data.toList = wPar from rfl, hP, show trim wPar l = l by rw [trim, hP]; rfl] at HSK
  obtain ⟨X2, hX2⟩ : ∃ V, V = X1.setCell ⟨b, 0, none⟩ (.string (ba (l))) := ⟨_, rfl⟩
  have hR2 : Rr b X2 (l) M := by rw [hX2]; exact hR1.set0 _
  have hm2 : Mv (· = b) (· = b) w X2 := hm1.trans (by rw [hX2]; exact mv_set b 0 X1 _)
  have hW2 : Below W.heap.size W X2 := by rw [hX2]; exact hW1.setCell (p := ⟨b, 0, none⟩) hbW _
  have P3 : Hid (B4 w.heap.size X2 (.int .i64 0) (.string ⟨#[]⟩) (.int .i64 0) (.slice none 0 0)) := Lib.hid (by rw [hX2]; exact P1.out.far (by simp; omega) _)
  have rc1 : w.cell? ⟨b, 1, none⟩ = some (.int .i64 ((M : Int) + 1)) := by have := h.c1; rw [this]; simp
  have rf1 := h.fz 1
  have hl0 : ((M : Int) + 1 == 0) = false := by rw [beq_eq_false_iff_ne]; omega
  have hl1 : ¬ (M : Int) + 1 = 0 := by omega
  have HXX := Lib.hid hX
  have HX1 := Lib.hid hX1
  have HX2 := Lib.hid hX2
  have HSKH := Lib.hid HSK
  have SW : Hid (w.heap.size < X2.heap.size) := Lib.hid P3.out.lt
  have HWL : Hid (∀ v, Calls Tryd.prog 24 #[.string (ba l)] v fun e w' => e = .returned (.int .i64 ((word l).length : Int)) ∧ v = w') := Lib.hid fun v => wordLength (ba l) (by simp [ByteArray.size, maxLen]; omega) v
  have HTK := take_ b M (word l).length l X2 hR2 (by omega) (by have := word_len l; omega)
  rw [show l.take (word l).length = word l from (List.prefix_iff_eq_take.1 (List.takeWhile_prefix _)).symm] at HTK
  obtain ⟨X3, hX3⟩ : ∃ V, V = X2.setCell ⟨b, 0, none⟩ (.string (ba (l.drop (word l).length))) := ⟨_, rfl⟩
  have hR3 : Rr b X3 (l.drop (word l).length) M := by rw [hX3]; exact hR2.set0 _
  have hm3 : Mv (· = b) (· = b) w X3 := hm2.trans (by rw [hX3]; exact mv_set b 0 X2 _)
  have hW3 : Below W.heap.size W X3 := by rw [hX3]; exact hW2.setCell (p := ⟨b, 0, none⟩) hbW _
  have P4 : Hid (B4 w.heap.size X3 (.int .i64 0) (.string ⟨#[]⟩) (.int .i64 0) (.slice none 0 0)) := Lib.hid (by rw [hX3]; exact P3.out.far (by simp; omega) _)
  have HX3 := Lib.hid hX3
  have HTKH := Lib.hid HTK
  have MX := Lib.hid hm3
  have RX := Lib.hid hR3
  have S3 : Hid (w.heap.size < X3.heap.size) := Lib.hid P4.out.lt
  have rx0 := hR2.c0
  rw [hw] at HTKH HX3 HWL RX
  clear hXs hmX hX hX1 hX2 hX3 HSK HTK hR1 hR2 hR3 hRX hm1 hm2 hm3 hW1 hW2 hW3 b0 h hW hP
  clear hw
  have HF : Hid (∀ x0 x1 x2 x3, PG b .tru (l.drop 4) M w (.returned (.tuple #[.agg #[.int .i64 1, .string ⟨#[]⟩, .int .i64 0, .slice none 0 0], .bool true])) (Cond.put4 X3 w.heap.size 0 x0 x1 x2 x3)) := Lib.hid fun x0 x1 x2 x3 => pg_leaf (k := .mk 1 .empty 0 none 0 []) MX.out rfl (wr_none 1 .empty 0 (by simp [maxLen])) (by simp [K.blocks, blocks]) (by simp [K.blocks, blocks]) RX.out (Nat.le_refl _) (by omega)
  have P2 := P4
  go_enter Tryd.func11, Tryd.ntmps11
  go_wp2_with (first | (go_at_call 21; (try rw [← HXX.out]); (try rw [← HX1.out]); refine HSKH.out.mono ?_; rintro e w' ⟨rfl, rfl⟩; (try rw [← HX2.out])) | (go_at_call 24; (try rw [← HX2.out]); refine (HWL.out _).mono ?_; rintro e w' ⟨rfl, rfl⟩) | (go_at_call 23; (try rw [← HX2.out]); refine HTKH.out.mono ?_; rintro e w' ⟨rfl, rfl⟩; (try rw [← HX3.out]); refine Hid.out ?_))
  refine Lib.hid ?_
  obtain ⟨_, p0, p1, p2, p3, pf⟩ := P2.out
  have pf0 := pf 0
  have pf1 := pf 1
  have pf2 := pf 2
  have pf3 := pf 3
  clear pf
  go_wp2_with fail
  obtain ⟨_, t0, t1, t2, t3, _⟩ := P2.out.put (.int .i64 1) (.string ⟨#[]⟩) (.int .i64 0) (.slice none 0 0)
  have hf := HF.out (.int .i64 1) (.string ⟨#[]⟩) (.int .i64 0) (.slice none 0 0)
  simp only [Cond.put4] at t0 t1 t2 t3 hf
  exact bodyPost_ret (v := .tuple #[.agg #[.int .i64 1, .string ⟨#[]⟩, .int .i64 0, .slice none 0 0], .bool true]) (by simp [results, Tryd.results11, go_sem, t0, t1, t2, t3]) rfl hf

set_option maxRecDepth 100000 in
set_option maxHeartbeats 8000000 in
theorem rFactG {b : Nat} {W : World} (hbW : W.heap.size ≤ b) (l : List UInt8) (M : Nat) (w : World) (hll : l.length ≤ 1900000) (hM : M ≤ 15) (h : Rr b w l (M + 1)) (hW : Below W.heap.size W w) (hP : st wPar l = false) (h1 : word l ≠ [116, 114, 117, 101]) (h2 : word l ≠ [102, 114, 111, 109]) (h3 : word l ≠ [110, 111, 116]) (hg : isNm (ba (word l)) = true) :
    Calls Tryd.prog 11 #[.pointer (some ⟨b, 0, none⟩)] w (PG b (.fact (ba (word l))) (l.drop (word l).length) M w) := by
  have hbw : b < w.heap.size := h.lt
  obtain ⟨X, hX⟩ : ∃ X, X = w.setCell ⟨b, 1, none⟩ (.int .i64 (M : Int)) := ⟨_, rfl⟩
  have hRX : Rr b X l M := by rw [hX]; exact h.set1 M
  have hXs : X.heap.size = w.heap.size := by rw [hX]; simp
  have hmX : Mv (· = b) (· = b) w X := by rw [hX]; exact mv_set b 1 w _
  obtain ⟨X1, hX1⟩ : ∃ V, V = X.alloc (.cells #[.int .i64 0, .string ⟨#[]⟩, .int .i64 0, .slice none 0 0] 24) := ⟨_, rfl⟩
  have b0 : Below X.heap.size X X1 := by rw [hX1]; exact below1 _ _
  have hR1 : Rr b X1 l M := hRX.on b0
  have hm1 : Mv (· = b) (· = b) w X1 := hmX.trans (Mv.of_below b0)
  have hW1 : Below W.heap.size W X1 := by
    have h0 : Below W.heap.size W X := by rw [hX]; exact hW.setCell (p := ⟨b, 1, none⟩) hbW _
    exact h0.trans (b0.mono h0.size)
  have P1 : Hid (B4 w.heap.size X1 (.int .i64 0) (.string ⟨#[]⟩) (.int .i64 0) (.slice none 0 0)) := Lib.hid (by rw [← hXs, hX1]; exact B4.new _ _ _ _ _ _)
  have HSK := skip b M l ⟨#[40]⟩ X1 hR1
  rw [show (⟨#[40]⟩ : ByteArray).data.toList = wPar from rfl, hP, show trim wPar l = l by rw [trim, hP]; rfl] at HSK
  obtain ⟨X2, hX2⟩ : ∃ V, V = X1.setCell ⟨b, 0, none⟩ (.string (ba (l))) := ⟨_, rfl⟩
  have hR2 : Rr b X2 (l) M := by rw [hX2]; exact hR1.set0 _
  have hm2 : Mv (· = b) (· = b) w X2 := hm1.trans (by rw [hX2]; exact mv_set b 0 X1 _)
  have hW2 : Below W.heap.size W X2 := by rw [hX2]; exact hW1.setCell (p := ⟨b, 0, none⟩) hbW _
  have P3 : Hid (B4 w.heap.size X2 (.int .i64 0) (.string ⟨#[]⟩) (.int .i64 0) (.slice none 0 0)) := Lib.hid (by rw [hX2]; exact P1.out.far (by simp; omega) _)
  have rc1 : w.cell? ⟨b, 1, none⟩ = some (.int .i64 ((M : Int) + 1)) := by have := h.c1; rw [this]; simp
  have rf1 := h.fz 1
  have hl0 : ((M : Int) + 1 == 0) = false := by rw [beq_eq_false_iff_ne]; omega
  have hl1 : ¬ (M : Int) + 1 = 0 := by omega
  have HXX := Lib.hid hX
  have HX1 := Lib.hid hX1
  have HX2 := Lib.hid hX2
  have HSKH := Lib.hid HSK
  have SW : Hid (w.heap.size < X2.heap.size) := Lib.hid P3.out.lt
  have HWL : Hid (∀ v, Calls Tryd.prog 24 #[.string (ba l)] v fun e w' => e = .returned (.int .i64 ((word l).length : Int)) ∧ v = w') := Lib.hid fun v => wordLength (ba l) (by simp [ByteArray.size, maxLen]; omega) v
  have HTK := take_ b M (word l).length l X2 hR2 (by omega) (by have := word_len l; omega)
  rw [show l.take (word l).length = word l from (List.prefix_iff_eq_take.1 (List.takeWhile_prefix _)).symm] at HTK
  obtain ⟨X3, hX3⟩ : ∃ V, V = X2.setCell ⟨b, 0, none⟩ (.string (ba (l.drop (word l).length))) := ⟨_, rfl⟩
  have hR3 : Rr b X3 (l.drop (word l).length) M := by rw [hX3]; exact hR2.set0 _
  have hm3 : Mv (· = b) (· = b) w X3 := hm2.trans (by rw [hX3]; exact mv_set b 0 X2 _)
  have hW3 : Below W.heap.size W X3 := by rw [hX3]; exact hW2.setCell (p := ⟨b, 0, none⟩) hbW _
  have P4 : Hid (B4 w.heap.size X3 (.int .i64 0) (.string ⟨#[]⟩) (.int .i64 0) (.slice none 0 0)) := Lib.hid (by rw [hX3]; exact P3.out.far (by simp; omega) _)
  have HX3 := Lib.hid hX3
  have HTKH := Lib.hid HTK
  have MX := Lib.hid hm3
  have RX := Lib.hid hR3
  have S3 : Hid (w.heap.size < X3.heap.size) := Lib.hid P4.out.lt
  have rx0 := hR2.c0
  have q1 : ((ba (word l)).toList == [116, 114, 117, 101]) = false := by rw [Go.ByteArray.toList_eq, beq_eq_false_iff_ne]; exact h1
  have q2 : ((ba (word l)).toList == [102, 114, 111, 109]) = false := by rw [Go.ByteArray.toList_eq, beq_eq_false_iff_ne]; exact h2
  have q3 : ((ba (word l)).toList == [110, 111, 116]) = false := by rw [Go.ByteArray.toList_eq, beq_eq_false_iff_ne]; exact h3
  have q4 : ¬ (ba (word l)).toList = [116, 114, 117, 101] := by rw [Go.ByteArray.toList_eq]; exact h1
  have q5 : ¬ (ba (word l)).toList = [102, 114, 111, 109] := by rw [Go.ByteArray.toList_eq]; exact h2
  have q6 : ¬ (ba (word l)).toList = [110, 111, 116] := by rw [Go.ByteArray.toList_eq]; exact h3
  have hys : (ba (word l)).size ≤ maxLen := by have := word_len l; simp [ByteArray.size, maxLen]; omega
  have HVN : Hid (∀ v, Calls Tryd.prog 27 #[.string (ba (word l))] v fun e w' => e = .returned (.bool true) ∧ v = w') := Lib.hid fun v => by rw [← hg]; exact isValidName _ hys v
  have HF : Hid (∀ x0 x1 x2 x3, PG b (.fact (ba (word l))) (l.drop (word l).length) M w (.returned (.tuple #[.agg #[.int .i64 2, .string (ba (word l)), .int .i64 0, .slice none 0 0], .bool true])) (Cond.put4 X3 w.heap.size 0 x0 x1 x2 x3)) := Lib.hid fun x0 x1 x2 x3 => pg_leaf (k := .mk 2 (ba (word l)) 0 none 0 []) MX.out rfl (wr_none 2 (ba (word l)) 0 hys) (by simp [K.blocks, blocks]) (by simp [K.blocks, blocks]) RX.out (Nat.le_refl _) (by omega)
  clear hXs hmX hX hX1 hX2 hX3 HSK HTK hR1 hR2 hR3 hRX hm1 hm2 hm3 hW1 hW2 hW3 b0 h hW hP
  clear hys h1 h2 h3 hg
  have P2 := P4
  obtain ⟨y, hy⟩ : ∃ y, y = ba (word l) := ⟨_, rfl⟩
  rw [← hy] at q1 q2 q3 q4 q5 q6 HVN HF HTKH
  have HY := Lib.hid hy
  clear hy
  go_enter Tryd.func11, Tryd.ntmps11
  go_wp2_with (first | (go_at_call 21; (try rw [← HXX.out]); (try rw [← HX1.out]); refine HSKH.out.mono ?_; rintro e w' ⟨rfl, rfl⟩; (try rw [← HX2.out])) | (go_at_call 24; (try rw [← HX2.out]); refine (HWL.out _).mono ?_; rintro e w' ⟨rfl, rfl⟩) | (go_at_call 23; (try rw [← HX2.out]); refine HTKH.out.mono ?_; rintro e w' ⟨rfl, rfl⟩; (try rw [← HX3.out]); refine Hid.out ?_))
  refine Lib.hid ?_
  obtain ⟨_, p0, p1, p2, p3, pf⟩ := P2.out
  have pf0 := pf 0
  have pf1 := pf 1
  have pf2 := pf 2
  have pf3 := pf 3
  clear pf
  go_wp2_with (go_at_call 27; refine (HVN.out _).mono ?_; rintro e w' ⟨rfl, rfl⟩)
  obtain ⟨_, t0, t1, t2, t3, _⟩ := P2.out.put (.int .i64 2) (.string y) (.int .i64 0) (.slice none 0 0)
  have hf := HF.out (.int .i64 2) (.string y) (.int .i64 0) (.slice none 0 0)
  simp only [Cond.put4] at t0 t1 t2 t3 hf
  exact bodyPost_ret (v := .tuple #[.agg #[.int .i64 2, .string y, .int .i64 0, .slice none 0 0], .bool true]) (by simp [results, Tryd.results11, go_sem, t0, t1, t2, t3]) rfl (by first | exact hf | (rw [← HY.out]; exact hf))

set_option maxRecDepth 100000 in
set_option maxHeartbeats 8000000 in
theorem rFactB {b : Nat} {W : World} (hbW : W.heap.size ≤ b) (l : List UInt8) (M : Nat) (w : World) (hll : l.length ≤ 1900000) (hM : M ≤ 15) (h : Rr b w l (M + 1)) (hW : Below W.heap.size W w) (hP : st wPar l = false) (h1 : word l ≠ [116, 114, 117, 101]) (h2 : word l ≠ [102, 114, 111, 109]) (h3 : word l ≠ [110, 111, 116]) (hg : isNm (ba (word l)) = false) :
    Calls Tryd.prog 11 #[.pointer (some ⟨b, 0, none⟩)] w (PB b w) := by
  have hbw : b < w.heap.size := h.lt
  obtain ⟨X, hX⟩ : ∃ X, X = w.setCell ⟨b, 1, none⟩ (.int .i64 (M : Int)) := ⟨_, rfl⟩
  have hRX : Rr b X l M := by rw [hX]; exact h.set1 M
  have hXs : X.heap.size = w.heap.size := by rw [hX]; simp
  have hmX : Mv (· = b) (· = b) w X := by rw [hX]; exact mv_set b 1 w _
  obtain ⟨X1, hX1⟩ : ∃ V, V = X.alloc (.cells #[.int .i64 0, .string ⟨#[]⟩, .int .i64 0, .slice none 0 0] 24) := ⟨_, rfl⟩
  have b0 : Below X.heap.size X X1 := by rw [hX1]; exact below1 _ _
  have hR1 : Rr b X1 l M := hRX.on b0
  have hm1 : Mv (· = b) (· = b) w X1 := hmX.trans (Mv.of_below b0)
  have hW1 : Below W.heap.size W X1 := by
    have h0 : Below W.heap.size W X := by rw [hX]; exact hW.setCell (p := ⟨b, 1, none⟩) hbW _
    exact h0.trans (b0.mono h0.size)
  have P1 : Hid (B4 w.heap.size X1 (.int .i64 0) (.string ⟨#[]⟩) (.int .i64 0) (.slice none 0 0)) := Lib.hid (by rw [← hXs, hX1]; exact B4.new _ _ _ _ _ _)
  have HSK := skip b M l ⟨#[40]⟩ X1 hR1
  rw [show (⟨#[40]⟩ : ByteArray).data.toList = wPar from rfl, hP, show trim wPar l = l by rw [trim, hP]; rfl] at HSK
  obtain ⟨X2, hX2⟩ : ∃ V, V = X1.setCell ⟨b, 0, none⟩ (.string (ba (l))) := ⟨_, rfl⟩
  have hR2 : Rr b X2 (l) M := by rw [hX2]; exact hR1.set0 _
  have hm2 : Mv (· = b) (· = b) w X2 := hm1.trans (by rw [hX2]; exact mv_set b 0 X1 _)
  have hW2 : Below W.heap.size W X2 := by rw [hX2]; exact hW1.setCell (p := ⟨b, 0, none⟩) hbW _
  have P3 : Hid (B4 w.heap.size X2 (.int .i64 0) (.string ⟨#[]⟩) (.int .i64 0) (.slice none 0 0)) := Lib.hid (by rw [hX2]; exact P1.out.far (by simp; omega) _)
  have rc1 : w.cell? ⟨b, 1, none⟩ = some (.int .i64 ((M : Int) + 1)) := by have := h.c1; rw [this]; simp
  have rf1 := h.fz 1
  have hl0 : ((M : Int) + 1 == 0) = false := by rw [beq_eq_false_iff_ne]; omega
  have hl1 : ¬ (M : Int) + 1 = 0 := by omega
  have HXX := Lib.hid hX
  have HX1 := Lib.hid hX1
  have HX2 := Lib.hid hX2
  have HSKH := Lib.hid HSK
  have SW : Hid (w.heap.size < X2.heap.size) := Lib.hid P3.out.lt
  have HWL : Hid (∀ v, Calls Tryd.prog 24 #[.string (ba l)] v fun e w' => e = .returned (.int .i64 ((word l).length : Int)) ∧ v = w') := Lib.hid fun v => wordLength (ba l) (by simp [ByteArray.size, maxLen]; omega) v
  have HTK := take_ b M (word l).length l X2 hR2 (by omega) (by have := word_len l; omega)
  rw [show l.take (word l).length = word l from (List.prefix_iff_eq_take.1 (List.takeWhile_prefix _)).symm] at HTK
  obtain ⟨X3, hX3⟩ : ∃ V, V = X2.setCell ⟨b, 0, none⟩ (.string (ba (l.drop (word l).length))) := ⟨_, rfl⟩
  have hR3 : Rr b X3 (l.drop (word l).length) M := by rw [hX3]; exact hR2.set0 _
  have hm3 : Mv (· = b) (· = b) w X3 := hm2.trans (by rw [hX3]; exact mv_set b 0 X2 _)
  have hW3 : Below W.heap.size W X3 := by rw [hX3]; exact hW2.setCell (p := ⟨b, 0, none⟩) hbW _
  have P4 : Hid (B4 w.heap.size X3 (.int .i64 0) (.string ⟨#[]⟩) (.int .i64 0) (.slice none 0 0)) := Lib.hid (by rw [hX3]; exact P3.out.far (by simp; omega) _)
  have HX3 := Lib.hid hX3
  have HTKH := Lib.hid HTK
  have MX := Lib.hid hm3
  have RX := Lib.hid hR3
  have S3 : Hid (w.heap.size < X3.heap.size) := Lib.hid P4.out.lt
  have rx0 := hR2.c0
  have q1 : ((ba (word l)).toList == [116, 114, 117, 101]) = false := by rw [Go.ByteArray.toList_eq, beq_eq_false_iff_ne]; exact h1
  have q2 : ((ba (word l)).toList == [102, 114, 111, 109]) = false := by rw [Go.ByteArray.toList_eq, beq_eq_false_iff_ne]; exact h2
  have q3 : ((ba (word l)).toList == [110, 111, 116]) = false := by rw [Go.ByteArray.toList_eq, beq_eq_false_iff_ne]; exact h3
  have q4 : ¬ (ba (word l)).toList = [116, 114, 117, 101] := by rw [Go.ByteArray.toList_eq]; exact h1
  have q5 : ¬ (ba (word l)).toList = [102, 114, 111, 109] := by rw [Go.ByteArray.toList_eq]; exact h2
  have q6 : ¬ (ba (word l)).toList = [110, 111, 116] := by rw [Go.ByteArray.toList_eq]; exact h3
  have hys : (ba (word l)).size ≤ maxLen := by have := word_len l; simp [ByteArray.size, maxLen]; omega
  have HVN : Hid (∀ v, Calls Tryd.prog 27 #[.string (ba (word l))] v fun e w' => e = .returned (.bool false) ∧ v = w') := Lib.hid fun v => by rw [← hg]; exact isValidName _ hys v
  have HF : Hid (∀ x0 x1 x2 x3, PB b w (.returned (.tuple #[.agg #[.int .i64 2, .string (ba (word l)), .int .i64 0, .slice none 0 0], .bool false])) (Cond.put4 X3 w.heap.size 0 x0 x1 x2 x3)) := Lib.hid fun x0 x1 x2 x3 => pb_any (.mk 2 (ba (word l)) 0 none 0 []) MX.out (Nat.le_refl _)
  clear hXs hmX hX hX1 hX2 hX3 HSK HTK hR1 hR2 hR3 hRX hm1 hm2 hm3 hW1 hW2 hW3 b0 h hW hP
  clear hys h1 h2 h3 hg
  have P2 := P4
  obtain ⟨y, hy⟩ : ∃ y, y = ba (word l) := ⟨_, rfl⟩
  rw [← hy] at q1 q2 q3 q4 q5 q6 HVN HF HTKH
  have HY := Lib.hid hy
  clear hy
  go_enter Tryd.func11, Tryd.ntmps11
  go_wp2_with (first | (go_at_call 21; (try rw [← HXX.out]); (try rw [← HX1.out]); refine HSKH.out.mono ?_; rintro e w' ⟨rfl, rfl⟩; (try rw [← HX2.out])) | (go_at_call 24; (try rw [← HX2.out]); refine (HWL.out _).mono ?_; rintro e w' ⟨rfl, rfl⟩) | (go_at_call 23; (try rw [← HX2.out]); refine HTKH.out.mono ?_; rintro e w' ⟨rfl, rfl⟩; (try rw [← HX3.out]); refine Hid.out ?_))
  refine Lib.hid ?_
  obtain ⟨_, p0, p1, p2, p3, pf⟩ := P2.out
  have pf0 := pf 0
  have pf1 := pf 1
  have pf2 := pf 2
  have pf3 := pf 3
  clear pf
  go_wp2_with (go_at_call 27; refine (HVN.out _).mono ?_; rintro e w' ⟨rfl, rfl⟩)
  obtain ⟨_, t0, t1, t2, t3, _⟩ := P2.out.put (.int .i64 2) (.string y) (.int .i64 0) (.slice none 0 0)
  have hf := HF.out (.int .i64 2) (.string y) (.int .i64 0) (.slice none 0 0)
  simp only [Cond.put4] at t0 t1 t2 t3 hf
  exact bodyPost_ret (v := .tuple #[.agg #[.int .i64 2, .string y, .int .i64 0, .slice none 0 0], .bool false]) (by simp [results, Tryd.results11, go_sem, t0, t1, t2, t3]) rfl (by first | exact hf | (rw [← HY.out]; exact hf))

set_option maxHeartbeats 4000000 in
theorem rZero {b : Nat} (l : List UInt8) (w : World) (h : Rr b w l 0) : Calls Tryd.prog 11 #[.pointer (some ⟨b, 0, none⟩)] w (PB b w) := by
  have rc1 : w.cell? ⟨b, 1, none⟩ = some (.int .i64 0) := h.c1
  have hbw : b < w.heap.size := h.lt
  clear h
  go_enter Tryd.func11, Tryd.ntmps11
  go_wp2_with fail
  exact bodyPost_ret (v := .tuple #[.agg #[.int .i64 0, .string ⟨#[]⟩, .int .i64 0, .slice none 0 0], .bool false]) (by simp [results, Tryd.results11, go_sem]) rfl ⟨Mv.of_below (below1 _ _), .mk 0 .empty 0 none 0 [], rfl⟩

end Go.Proofs.YthdiiocgemomoaaDoor.Cond
