/-
  The law FnStrings returns true, whatever the code.
-/
import Derived.Test.YtokikbfhjhppmaaDoorStrRes
import Derived.Test.YtokikbfhjhppmaaDoorChange
import Derived.Test.YtokikbfhjhppmaaDoorDrawApp
import Derived.Lib.ConvBytes
import Derived.Deep.RegionWith
namespace Go.Proofs.YtokikbfhjhppmaaDoor.Strings
open Go.RowKit Go.Proofs.YtokikbfhjhppmaaDoor.Plain Go.Proofs.YtokikbfhjhppmaaDoor.Cur Go.Proofs.YtokikbfhjhppmaaDoor.Draw Go.Proofs.YtokikbfhjhppmaaDoor.StrRes Go.Proofs.YtokikbfhjhppmaaDoor.Parse

theorem bytesAt {w w' : World} {A : Option Addr} {n : Nat} (h : Bytes w w.heap.size A n) (hb : Below w.heap.size w w') : Bytes w' w'.heap.size A n := fun hp => by
  obtain ⟨ad, e, hB, hc⟩ := h hp
  refine ⟨ad, e, Nat.lt_of_lt_of_le hB hb.size, fun j hj => ?_⟩
  obtain ⟨z, hz, h0, h1⟩ := hc j hj
  exact ⟨z, (hb.cell (by rw [Cur.block_add]; exact hB)).trans hz, h0, h1⟩

/-- What the law needs of a world: the library's variables, the code. -/
structure Here (w w' : World) (A : Option Addr) (n : Nat) : Prop where
  below : Below w.heap.size w w'
  lies : Lies w'
  bytes : Bytes w' w'.heap.size A n

theorem Here.on {w w1 w2 : World} {A : Option Addr} {n : Nat} (h : Here w w1 A n) (hb : Below w1.heap.size w1 w2) : Here w w2 A n :=
  ⟨h.below.trans (hb.mono h.below.size), h.lies.below hb, bytesAt h.bytes hb⟩

theorem toBytes (w : World) (y : ByteArray) : ∃ (W : World) (cp : Nat), (convert 9 22 (.string y)).run Tryd.prog w = .ok (.slice (some ⟨w.heap.size, 0, none⟩) y.size cp) W ∧ Below w.heap.size w W ∧
    (∀ j, j < y.size → W.cell? ⟨w.heap.size, j, none⟩ = some (.int .u8 ((y.data.toList.getD j 0).toNat : Int))) ∧ (∀ j, j < y.size → W.frozen? ⟨w.heap.size, j, none⟩ = false) := by
  refine ⟨_, _, Lib.run_convert_string_bytes w 9 22 5 y Tryd.underlying9 Tryd.underlying22 Tryd.underlying5, Lib.bytesWorld_below _ _ _, fun j hj => Lib.bytesWorld_cell w 5 y j hj, fun j hj => ?_⟩
  have h := Lib.bytesWorld_at_new w 5 y
  have h2 : y.size ≤ (Lib.bytesCells w 5 y).size := by simp [Lib.bytesCells]
  simp [World.frozen?, h]
  omega

theorem flip (y : ByteArray) (k : Nat) (hk : k < y.size) (z : Nat) (hz : z ≤ 255) :
    ∃ c : UInt8, bits BinOp.xor IntKind.u8 ((y.data[k]'hk).toNat : Int) (IntKind.u8.wrap (IntKind.i64.wrap (1 + ((z : Int)).tmod 255))) = (c.toNat : Int) ∧ y.data.toList[k]? ≠ some c := by
  have h1 : ((z : Int)).tmod 255 = ((z % 255 : Nat) : Int) := by rw [Int.tmod_eq_emod_of_nonneg (by omega)]; omega
  have h2 : z % 255 ≤ 254 := by omega
  have h3 : IntKind.i64.wrap (1 + ((z : Int)).tmod 255) = ((1 + z % 255 : Nat) : Int) := by
    rw [h1, IntWalk.i64_in _ (by omega)]; omega
  have h4 : IntKind.u8.wrap ((1 + z % 255 : Nat) : Int) = ((1 + z % 255 : Nat) : Int) := by rw [IntKind.wrap_u8]; omega
  have hb := UInt8.toNat_lt (y.data[k]'hk)
  have hx : (y.data[k]'hk).toNat ^^^ (1 + z % 255) < 256 := Nat.xor_lt_two_pow (n := 8) (by omega) (by omega)
  rw [h3, h4, u8_xor_nat _ _ (by omega) (by omega)]
  refine ⟨UInt8.ofNat ((y.data[k]'hk).toNat ^^^ (1 + z % 255)), ?_, ?_⟩
  · rw [UInt8.toNat_ofNat_of_lt' (by simpa using hx)]
  · intro e
    have e2 : y.data[k]'hk = UInt8.ofNat ((y.data[k]'hk).toNat ^^^ (1 + z % 255)) := by
      have h5 : y.data.toList[k]? = some (y.data[k]'hk) := by rw [List.getElem?_eq_getElem (by simpa using hk)]; rfl
      rw [h5] at e; injection e
    have e3 := congrArg UInt8.toNat e2
    rw [UInt8.toNat_ofNat_of_lt' (by simpa using hx)] at e3
    have e4 : (y.data[k]'hk).toNat ^^^ ((y.data[k]'hk).toNat ^^^ (1 + z % 255)) = 0 := by rw [← e3, Nat.xor_self]
    rw [← Nat.xor_assoc, Nat.xor_self, Nat.zero_xor] at e4
    omega

theorem ofBytes {W : World} {g k cp : Nat} {y : ByteArray} (hc : ∀ j, j < y.size → W.cell? ⟨g, j, none⟩ = some (.int .u8 ((y.data.toList.getD j 0).toNat : Int))) (hk : k < y.size) (c : UInt8) :
    ∃ y' : ByteArray, y'.data.toList = y.data.toList.set k c ∧
      (convert 22 9 (.slice (some ⟨g, 0, none⟩) y.size cp)).run Tryd.prog (W.setCell ⟨g, k, none⟩ (.int .u8 (c.toNat : Int))).drew = .ok (.string y') (W.setCell ⟨g, k, none⟩ (.int .u8 (c.toNat : Int))).drew := by
  refine ⟨⟨(y.data.toList.set k c).toArray⟩, by simp, ?_⟩
  have hl : (y.data.toList.set k c).length = y.size := by rw [List.length_set, ← Seal.size_len]
  have h1 := run_convert_bytes_back (P := Tryd.prog) (W.setCell ⟨g, k, none⟩ (.int .u8 (c.toNat : Int))).drew 22 9 5 ⟨g, 0, none⟩ cp (y.data.toList.set k c) Tryd.underlying22 Tryd.underlying5 Tryd.underlying9 (fun j hj => by
    have hj' : j < y.size := by rw [hl] at hj; exact hj
    have hadd : (⟨g, 0, none⟩ : Addr).add j = ⟨g, j, none⟩ := by unfold Addr.add; split <;> simp_all
    rw [hadd]
    show (W.setCell ⟨g, k, none⟩ (.int .u8 (c.toNat : Int))).cell? ⟨g, j, none⟩ = _
    by_cases e : j = k
    · subst e
      rw [World.cell?_setCell_same' _ _ _ (by rw [hc j hj']; rfl)]
      simp
    · rw [World.cell?_setCell_other W _ _ _ (fun e2 => e (by injection e2 with _ h _; exact h.symm)), hc j hj', List.getElem_set_ne (fun e2 => e e2.symm)]
      have : j < y.data.toList.length := by rw [← Seal.size_len]; exact hj'
      rw [List.getD_eq_getElem?_getD, List.getElem?_eq_getElem this]; rfl)
  rw [hl] at h1
  exact h1

theorem vAtN (i : Nat) {c : Int} (hc : c = (i : Int)) (A : Option Addr) (n cap : Nat) (w : World) (B : Nat) (hi : i ≤ 1000) (h : n ≤ 65536) (hA : Bytes w B A n) :
    Calls Tryd.prog 19 #[.slice A n cap, .int .i64 c] w fun e w' => ∃ z : Nat, e = .returned (.int .i64 (z : Int)) ∧ z ≤ 255 ∧ w = w' := by
  subst hc
  refine (vAt A n cap i w B hi h hA).mono fun e w' ⟨z, he, h0, h1, hw⟩ => ⟨z.toNat, ?_, by omega, hw⟩
  rw [he]; congr 2; omega

set_option maxRecDepth 100000 in
set_option maxHeartbeats 4000000 in
theorem walk (A : Option Addr) (n cap : Nat) (w : World) (hm : n ≤ maxLen) (hA : Bytes w w.heap.size A n) (hL : Lies w) :
    Calls Tryd.prog 3 #[.slice A n cap] w fun e w' => e = .returned (.bool true) ∧ Below w.heap.size w w' := by
  have HM := Lib.hid hm
  have H0 : Hid (Here w w A n) := Lib.hid ⟨Below.refl _ _, hL, hA⟩
  clear hA hL hm
  by_cases hbig : 65536 < n
  · go_enter Tryd.func3, Tryd.ntmps3
    go_wp2_with (go_at_call 8; refine (vBigYes A n cap _ hbig HM.out).mono ?_; rintro e w' ⟨rfl, rfl⟩)
    go_ret
    exact ⟨rfl, Below.refl _ _⟩
  · have hsm : n ≤ 65536 := by omega
    go_enter Tryd.func3, Tryd.ntmps3
    go_wp2_with (first
      | (go_at_call 8; refine (vBigNo A n cap _ hsm).mono ?_; rintro e w' ⟨rfl, rfl⟩)
      | (go_at_call 9; refine (drawInt A n cap w (by omega) H0.out.bytes).mono ?_; rintro e w1 ⟨N, rfl, hN0, hN1, hb⟩; refine Hid.out ?_))
    refine Lib.hid ?_
    have H1 := Lib.hid (H0.out.on hb)
    clear hb
    obtain ⟨s, ok, hF⟩ := fres_is N
    have HF := Lib.hid hF
    clear hF
    go_wp2_with (go_at_call 10; refine (implF HF.out w1 H1.out.lies).mono ?_; rintro e w2 ⟨rfl, hb⟩; refine Hid.out ?_)
    refine Lib.hid ?_
    have H2 := Lib.hid (H1.out.on hb)
    clear hb
    go_wp2_with (go_at_call 11; refine (specF HF.out w2).mono ?_; rintro e w3 ⟨rfl, hb⟩; refine Hid.out ?_)
    refine Lib.hid ?_
    have H3 := Lib.hid (H2.out.on hb)
    clear hb
    go_wp2_with (go_at_call 12; refine (drawParse A n cap w3 (by omega) H3.out.bytes).mono ?_; rintro e w4 ⟨t, rfl, ht, hb⟩; refine Hid.out ?_)
    refine Lib.hid ?_
    have H4 := Lib.hid (H3.out.on hb)
    clear hb
    obtain ⟨pm, fine, hP⟩ := pres_is t
    have HP := Lib.hid hP
    clear hP
    go_wp2_with (go_at_call 13; refine (implP HP.out w4 (by omega) H4.out.lies).mono ?_; rintro e w5 ⟨rfl, hb⟩; refine Hid.out ?_)
    refine Lib.hid ?_
    have H5 := Lib.hid (H4.out.on hb)
    clear hb
    go_wp2_with (go_at_call 14; refine (specP HP.out w5 (by omega)).mono ?_; rintro e w6 ⟨rfl, hb⟩; refine Hid.out ?_)
    refine Lib.hid ?_
    have H6 := Lib.hid (H5.out.on hb)
    clear hb
    go_wp2_with (go_at_call 15; refine (drawAppend A n cap w6 (by omega) H6.out.bytes).mono ?_; rintro e w7 ⟨x, rfl, hx, hb⟩; refine Hid.out ?_)
    refine Lib.hid ?_
    have H7 := Lib.hid (H6.out.on hb)
    clear hb
    obtain ⟨back, there, hB, himp⟩ : ∃ back there, PRes s back there ∧ (ok = true → back = N ∧ there = true) := by
      rcases HF.out with ⟨h0, h1, hs, hf⟩ | ⟨_, _, hf⟩
      · exact ⟨N, true, .inl ⟨⟨h0, h1, hs⟩, rfl⟩, fun _ => ⟨rfl, rfl⟩⟩
      · obtain ⟨b, f, hb⟩ := pres_is s
        exact ⟨b, f, hb, fun h => by rw [hf] at h; cases h⟩
    have HB := Lib.hid hB
    have hss : s.size ≤ 7 := fres_size HF.out
    have HI := Lib.hid himp
    clear hB himp
    by_cases hfit : Seal.Fits x
    · have HFit := Lib.hid hfit
      clear hfit
      obtain ⟨y, hy⟩ : ∃ y, y = Seal.sealS x := ⟨_, rfl⟩
      have HA : Hid (ARes x y true) := Lib.hid (.inl ⟨HFit.out, hy, rfl⟩)
      have HO : Hid (Verify.Opens y) := Lib.hid (by rw [hy]; exact Change.opens_seal HFit.out)
      have HC : Hid (Verify.cand y = x) := Lib.hid (by rw [hy]; exact Change.cand_seal HFit.out.1)
      have hys : y.size ≤ 4000 := HO.out.1
      have hy1 : 1 ≤ y.size := by rw [hy, Seal.sealS_size]; omega
      have HY := Lib.hid hy
      clear hy
      go_wp2_with (go_at_call 16; refine (implA HA.out w7 (by omega) H7.out.lies).mono ?_; rintro e w8 ⟨rfl, hb⟩; refine Hid.out ?_)
      refine Lib.hid ?_
      have H8 := Lib.hid (H7.out.on hb)
      clear hb
      go_wp2_with (go_at_call 17; refine (specA HA.out w8 (by omega)).mono ?_; rintro e w9 ⟨rfl, hb⟩; refine Hid.out ?_)
      refine Lib.hid ?_
      have H9 := Lib.hid (H8.out.on hb)
      clear hb
      go_wp2_with (go_at_call 13; refine (implP HB.out w9 (by omega) H9.out.lies).mono ?_; rintro e w10 ⟨rfl, hb⟩; refine Hid.out ?_)
      refine Lib.hid ?_
      have H10 := Lib.hid (H9.out.on hb)
      clear hb
      cases ok with
      | true =>
        obtain ⟨rfl, rfl⟩ := HI.out rfl
        have hV := Verify.implYes y HO.out w10 (by omega) H10.out.lies.tab
        rw [HC.out] at hV
        go_wp2_with (go_at_call 18; refine hV.mono ?_; rintro e w11 ⟨rfl, hb⟩; refine Hid.out ?_)
        refine Lib.hid ?_
        have H11 := Lib.hid (H10.out.on hb)
        clear hb
        obtain ⟨W, cp, hcv, hWb, hWc, hWf⟩ := toBytes w11 y
        clear hV
        have H12 := Lib.hid (H11.out.on hWb)
        have HWb := Lib.hid hWb
        clear hWb
        go_wp2_with (go_at_call 19; refine (vAtN 9 rfl A n cap W W.heap.size (by omega) hsm H12.out.bytes).mono ?_; rintro e w12 ⟨z, rfl, hz, rfl⟩; refine Hid.out ?_)
        refine Lib.hid ?_
        obtain ⟨k, hk⟩ : ∃ k, k = z % y.size := ⟨_, rfl⟩
        have hkl : k < y.size := by rw [hk]; exact Nat.mod_lt _ (by omega)
        have hmod : (z : Int) % (y.size : Int) = (k : Int) := by rw [hk]; rfl
        clear hk
        have hcell := hWc k hkl
        have hfz := hWf k hkl
        have HW := Lib.hid (And.intro hWc hWf)
        clear hWc hWf hcv
        have j0 : (0 : Int) ≤ (k : Int) := by omega
        have j1 : (k : Int) < (y.size : Int) := by omega
        go_wp2_with fail
        rw [hmod]
        have HBD : Hid (Bytes W.drew W.heap.size A n) := Lib.hid H12.out.bytes
        clear hmod
        go_region_with (go_at_call 19; refine (vAtN 10 rfl A n cap W.drew W.heap.size (by omega) hsm HBD.out).mono ?_; rintro e w12 ⟨z2, rfl, hz2, rfl⟩)
        all_goals
          obtain ⟨c, hc, hne⟩ := flip y k hkl z2 hz2
          rw [hc]
          obtain ⟨y', hy', hcv⟩ := ofBytes (cp := cp) HW.out.1 hkl c
          have hys' : y'.size ≤ 4000 := by
            have h1 := Seal.size_len y'; have h2 := Seal.size_len y
            rw [hy', List.length_set] at h1; omega
          have HD : Hid (¬ Verify.Opens y') := Lib.hid (Change.detect HFit.out k c (by rw [← HY.out]; exact hkl) (by rw [← HY.out]; exact hne) (by rw [← HY.out]; exact hy'))
          have H13 := Lib.hid (H11.out.on ((HWb.out.setCell (p := ⟨w11.heap.size, k, none⟩) (Nat.le_refl _) (.int .u8 (c.toNat : Int))).drew))
          clear hc hne hy' hcell hfz
          generalize (W.setCell ⟨w11.heap.size, k, none⟩ (.int .u8 (c.toNat : Int))).drew = Wn at *
          have hV2 := Verify.implNo y' HD.out Wn (by omega) H13.out.lies.tab
          go_wp2_with (go_at_call 18; refine hV2.mono ?_; rintro e w14 ⟨rfl, hb14⟩)
          go_ret
          exact ⟨by simp, (H13.out.on hb14).below⟩
      | false =>
        have hV := Verify.implYes y HO.out w10 (by omega) H10.out.lies.tab
        rw [HC.out] at hV
        go_wp2_with (go_at_call 18; refine hV.mono ?_; rintro e w11 ⟨rfl, hb⟩; refine Hid.out ?_)
        refine Lib.hid ?_
        have H11 := Lib.hid (H10.out.on hb)
        clear hb
        obtain ⟨W, cp, hcv, hWb, hWc, hWf⟩ := toBytes w11 y
        clear hV
        have H12 := Lib.hid (H11.out.on hWb)
        have HWb := Lib.hid hWb
        clear hWb
        go_wp2_with (go_at_call 19; refine (vAtN 9 rfl A n cap W W.heap.size (by omega) hsm H12.out.bytes).mono ?_; rintro e w12 ⟨z, rfl, hz, rfl⟩; refine Hid.out ?_)
        refine Lib.hid ?_
        obtain ⟨k, hk⟩ : ∃ k, k = z % y.size := ⟨_, rfl⟩
        have hkl : k < y.size := by rw [hk]; exact Nat.mod_lt _ (by omega)
        have hmod : (z : Int) % (y.size : Int) = (k : Int) := by rw [hk]; rfl
        clear hk
        have hcell := hWc k hkl
        have hfz := hWf k hkl
        have HW := Lib.hid (And.intro hWc hWf)
        clear hWc hWf hcv
        have j0 : (0 : Int) ≤ (k : Int) := by omega
        have j1 : (k : Int) < (y.size : Int) := by omega
        go_wp2_with fail
        rw [hmod]
        have HBD : Hid (Bytes W.drew W.heap.size A n) := Lib.hid H12.out.bytes
        clear hmod
        go_region_with (go_at_call 19; refine (vAtN 10 rfl A n cap W.drew W.heap.size (by omega) hsm HBD.out).mono ?_; rintro e w12 ⟨z2, rfl, hz2, rfl⟩)
        all_goals
          obtain ⟨c, hc, hne⟩ := flip y k hkl z2 hz2
          rw [hc]
          obtain ⟨y', hy', hcv⟩ := ofBytes (cp := cp) HW.out.1 hkl c
          have hys' : y'.size ≤ 4000 := by
            have h1 := Seal.size_len y'; have h2 := Seal.size_len y
            rw [hy', List.length_set] at h1; omega
          have HD : Hid (¬ Verify.Opens y') := Lib.hid (Change.detect HFit.out k c (by rw [← HY.out]; exact hkl) (by rw [← HY.out]; exact hne) (by rw [← HY.out]; exact hy'))
          have H13 := Lib.hid (H11.out.on ((HWb.out.setCell (p := ⟨w11.heap.size, k, none⟩) (Nat.le_refl _) (.int .u8 (c.toNat : Int))).drew))
          clear hc hne hy' hcell hfz
          generalize (W.setCell ⟨w11.heap.size, k, none⟩ (.int .u8 (c.toNat : Int))).drew = Wn at *
          have hV2 := Verify.implNo y' HD.out Wn (by omega) H13.out.lies.tab
          go_wp2_with (go_at_call 18; refine hV2.mono ?_; rintro e w14 ⟨rfl, hb14⟩)
          go_ret
          exact ⟨by simp, (H13.out.on hb14).below⟩
    · obtain ⟨y, hy⟩ : ∃ y : ByteArray, y = ⟨#[]⟩ := ⟨_, rfl⟩
      have HA : Hid (ARes x y false) := Lib.hid (.inr ⟨hfit, hy, rfl⟩)
      subst hy
      clear hfit
      go_wp2_with (go_at_call 16; refine (implA HA.out w7 (by omega) H7.out.lies).mono ?_; rintro e w8 ⟨rfl, hb⟩; refine Hid.out ?_)
      refine Lib.hid ?_
      have H8 := Lib.hid (H7.out.on hb)
      clear hb
      go_wp2_with (go_at_call 17; refine (specA HA.out w8 (by omega)).mono ?_; rintro e w9 ⟨rfl, hb⟩; refine Hid.out ?_)
      refine Lib.hid ?_
      have H9 := Lib.hid (H8.out.on hb)
      clear hb
      go_wp2_with (go_at_call 13; refine (implP HB.out w9 (by omega) H9.out.lies).mono ?_; rintro e w10 ⟨rfl, hb⟩; refine Hid.out ?_)
      refine Lib.hid ?_
      have H10 := Lib.hid (H9.out.on hb)
      clear hb
      cases ok with
      | true =>
        obtain ⟨rfl, rfl⟩ := HI.out rfl
        go_wp2_with fail
        go_ret
        exact ⟨rfl, H10.out.below⟩
      | false =>
        go_wp2_with fail
        go_ret
        exact ⟨rfl, H10.out.below⟩

end Go.Proofs.YtokikbfhjhppmaaDoor.Strings
