/-
  AddBusinessDays of the program.
-/
import Derived.Test.YtglpkanegehcbaaNthI
namespace Go.Proofs.Ytglpkanegehcbaa.AddI
open Go.RowKit Go.Proofs.Ytglpkanegehcbaa.IRow Go.Proofs.Ytglpkanegehcbaa.Cal Go.Proofs.Ytglpkanegehcbaa.Biz Go.Proofs.Ytglpkanegehcbaa.Wd Go.Proofs.Ytglpkanegehcbaa.Asc Go.Proofs.Ytglpkanegehcbaa.CalLaw Go.Proofs.Ytglpkanegehcbaa.Opn Go.Proofs.Ytglpkanegehcbaa.IsBiz Go.Proofs.Ytglpkanegehcbaa.SeekS Go.Proofs.Ytglpkanegehcbaa.NthI

set_option maxHeartbeats 2000000 in
theorem find_zero (A1 A2 : Option Addr) (n1 c1 n2 c2 : Nat) (n : Nat) (w v : World) (h : St w v A1 n1 c1 A2 n2 c2 0 n) :
    Calls Try.prog 31 #[.int .i64 0, .int .i64 0, .func (.func 52) #[] #[.pointer (some ⟨w.heap.size + 1, 0, none⟩), .pointer (some ⟨w.heap.size, 0, none⟩), .pointer (some ⟨w.heap.size + 2, 0, none⟩)]] v fun e w' =>
      e = .returned (.tuple #[.int .i64 0, .bool false]) ∧ Below w.heap.size w w' := by
  have L1 : Hid (∀ v, St w v A1 n1 c1 A2 n2 c2 0 n → Calls Try.prog 52 #[.int .i64 0, .pointer (some ⟨w.heap.size + 1, 0, none⟩), .pointer (some ⟨w.heap.size, 0, none⟩), .pointer (some ⟨w.heap.size + 2, 0, none⟩)] v fun e w' => e = .returned (.bool false) ∧ St w w' A1 n1 c1 A2 n2 c2 0 n) := Lib.hid fun v h => lamStart A1 A2 n1 c1 n2 c2 0 n w v h
  have H := Lib.hid h
  clear h
  generalize w.heap.size + 1 = k1 at L1 ⊢
  generalize w.heap.size + 2 = k2 at L1 ⊢
  go_enter Try.func31, Try.ntmps31
  go_wp2_with fail
  go_loopw [9] (fun i wr => i = .int .i64 0 ∧ Hid (St w wr A1 n1 c1 A2 n2 c2 0 n)) (fun _ _ => 0)
  case atStart => exact ⟨rfl, H⟩
  case round =>
    obtain ⟨rfl, HS⟩ := hrel
    have HC := Lib.hid (L1.out wr HS.out)
    go_wp2_with (go_at_call 52; refine HC.out.mono ?_; rintro e w2 ⟨rfl, hs2⟩; refine Hid.out ?_)
    refine Lib.hid ?_
    have HB := Lib.hid hs2.bel
    clear hs2
    go_wp2_with fail
    go_ret2
    exact ⟨rfl, HB.out⟩

theorem hop_up {p : Int → Bool} {s : Int} {n : Nat} (hs : Day s) (hn : 1 ≤ n) : wh_up p s s n = hop p 1 n s := by
  obtain ⟨k, rfl⟩ : ∃ k, n = k + 1 := ⟨n - 1, by omega⟩
  unfold wh_up
  rw [if_pos rfl]
  exact nth_hop p 1 (.inl rfl) k s (fun _ => hs.2) (fun h => by omega)
theorem hop_dn {p : Int → Bool} {s : Int} {n : Nat} (hs : Day s) (hn : 1 ≤ n) : wh_dn p s s n = hop p (-1) n s := by
  obtain ⟨k, rfl⟩ : ∃ k, n = k + 1 := ⟨n - 1, by omega⟩
  unfold wh_dn
  rw [if_pos rfl]
  exact nth_hop p (-1) (.inr rfl) k s (fun h => by omega) (fun _ => hs.1)

/-- Finding, whatever the day. -/
theorem findUp (A1 A2 : Option Addr) (n1 c1 n2 c2 : Nat) (we ho : List Int) (s : Int) (n : Nat) (hn0 : 1 ≤ n) (hn1 : n ≤ 1000) (w v : World) (h : St w v A1 n1 c1 A2 n2 c2 s n) (hC : Cl w w.heap.size A1 n1 A2 n2 we ho) (hg : GoodC we ho) (hs : Day s) (o : Option Int) (ho' : o = hop (opn we ho) 1 n s) :
    Calls Try.prog 31 #[.int .i64 s, .int .i64 36524, .func (.func 52) #[] #[.pointer (some ⟨w.heap.size + 1, 0, none⟩), .pointer (some ⟨w.heap.size, 0, none⟩), .pointer (some ⟨w.heap.size + 2, 0, none⟩)]] v fun e w' =>
      e = .returned (.tuple #[.int .i64 (o.getD 0), .bool o.isSome]) ∧ Below w.heap.size w w' :=
  find_up A1 A2 n1 c1 n2 c2 we ho s n hn0 hn1 w v h hC hg hs hs.2 o (by rw [ho', hop_up hs hn0])
theorem findDn (A1 A2 : Option Addr) (n1 c1 n2 c2 : Nat) (we ho : List Int) (s : Int) (n : Nat) (hn0 : 1 ≤ n) (hn1 : n ≤ 1000) (w v : World) (h : St w v A1 n1 c1 A2 n2 c2 s n) (hC : Cl w w.heap.size A1 n1 A2 n2 we ho) (hg : GoodC we ho) (hs : Day s) (o : Option Int) (ho' : o = hop (opn we ho) (-1) n s) :
    Calls Try.prog 31 #[.int .i64 s, .int .i64 0, .func (.func 52) #[] #[.pointer (some ⟨w.heap.size + 1, 0, none⟩), .pointer (some ⟨w.heap.size, 0, none⟩), .pointer (some ⟨w.heap.size + 2, 0, none⟩)]] v fun e w' =>
      e = .returned (.tuple #[.int .i64 (o.getD 0), .bool o.isSome]) ∧ Below w.heap.size w w' := by
  by_cases h0 : s = 0
  · subst h0
    have e : o = none := by rw [ho', ← hop_dn hs hn0]; exact wh_end_dn _ n
    rw [e]
    exact find_zero A1 A2 n1 c1 n2 c2 n w v h
  · exact find_dn A1 A2 n1 c1 n2 c2 we ho s n hn0 hn1 w v h hC hg hs (by have := hs.1; omega) o (by rw [ho', hop_dn hs hn0])

set_option maxHeartbeats 2000000 in
theorem addPos (A1 A2 : Option Addr) (n1 c1 n2 c2 : Nat) (we ho : List Int) (d : Int) (n : Nat) (w : World) (h : Cl w w.heap.size A1 n1 A2 n2 we ho) (hg : GoodC we ho) (hd : Day d) (hn0 : 1 ≤ n) (hn1 : n ≤ 1000) (o : Option Int) (ho' : o = hop (opn we ho) 1 n d) :
    Calls Try.prog 11 #[.agg #[.slice A1 n1 c1, .slice A2 n2 c2], .int .i64 d, .int .i64 n] w fun e w' => e = .returned (.tuple #[.int .i64 (o.getD 0), .bool o.isSome]) ∧ Below w.heap.size w w' := by
  have H0 := Lib.hid (h.on (below1 w (.cells #[.slice A1 n1 c1, .slice A2 n2 c2] 26)))
  have X0 := Lib.hid (Bx.new w (.slice A1 n1 c1) (.slice A2 n2 c2) 26)
  have B0 := Lib.hid (below1 w (.cells #[.slice A1 n1 c1, .slice A2 n2 c2] 26))
  have HV := Lib.hid (validI A1 A2 n1 c1 n2 c2 we ho (w.alloc (.cells #[.slice A1 n1 c1, .slice A2 n2 c2] 26)) H0.out true (decide_eq_true hg))
  have HF := Lib.hid fun w v h hC => findUp A1 A2 n1 c1 n2 c2 we ho d n hn0 hn1 w v h hC hg hd o ho'
  have HD := Lib.hid hd
  clear h hg ho' hd
  go_enter Try.func11, Try.ntmps11
  go_wp2_with (go_at_call 21; refine HV.out.mono ?_; rintro e w1 ⟨rfl, hb1⟩; refine Hid.out ?_)
  refine Lib.hid ?_
  have H1 := Lib.hid (H0.out.on hb1)
  have X1 := Lib.hid (X0.out.on hb1)
  have B1 := Lib.hid (B0.out.trans (hb1.mono B0.out.size))
  clear hb1 B0 X0 H0 HV
  obtain ⟨_, x0, x1, _, _⟩ := X1.out
  go_wp2_with (first
    | (go_at_call 30; refine (isDayYes d HD.out _).mono ?_; rintro e w' ⟨rfl, rfl⟩)
    | (go_at_call 32; refine (nthOpen A1 A2 n1 c1 n2 c2 d n _).mono ?_; rintro e w2 ⟨rfl, hs2⟩; refine Hid.out ?_))
  refine Lib.hid ?_
  have HS := Lib.hid hs2
  clear hs2
  go_wp2_with (go_at_call 31; refine (HF.out w1 w2 HS.out H1.out).mono ?_; rintro e w3 ⟨rfl, hb3⟩; refine Hid.out ?_)
  refine Lib.hid ?_
  have HB := Lib.hid (B1.out.trans (hb3.mono B1.out.size))
  clear hb3
  go_wp2_with fail
  go_ret2
  exact ⟨rfl, HB.out⟩

set_option maxHeartbeats 2000000 in
theorem addNeg (A1 A2 : Option Addr) (n1 c1 n2 c2 : Nat) (we ho : List Int) (d : Int) (n : Nat) (w : World) (h : Cl w w.heap.size A1 n1 A2 n2 we ho) (hg : GoodC we ho) (hd : Day d) (hn0 : 1 ≤ n) (hn1 : n ≤ 1000) (o : Option Int) (ho' : o = hop (opn we ho) (-1) n d) :
    Calls Try.prog 11 #[.agg #[.slice A1 n1 c1, .slice A2 n2 c2], .int .i64 d, .int .i64 (-(n : Int))] w fun e w' => e = .returned (.tuple #[.int .i64 (o.getD 0), .bool o.isSome]) ∧ Below w.heap.size w w' := by
  have H0 := Lib.hid (h.on (below1 w (.cells #[.slice A1 n1 c1, .slice A2 n2 c2] 26)))
  have X0 := Lib.hid (Bx.new w (.slice A1 n1 c1) (.slice A2 n2 c2) 26)
  have B0 := Lib.hid (below1 w (.cells #[.slice A1 n1 c1, .slice A2 n2 c2] 26))
  have HV := Lib.hid (validI A1 A2 n1 c1 n2 c2 we ho (w.alloc (.cells #[.slice A1 n1 c1, .slice A2 n2 c2] 26)) H0.out true (decide_eq_true hg))
  have HF := Lib.hid fun w v h hC => findDn A1 A2 n1 c1 n2 c2 we ho d n hn0 hn1 w v h hC hg hd o ho'
  have HD := Lib.hid hd
  have hN : 0 < n := by omega
  clear h hg ho' hd
  go_enter Try.func11, Try.ntmps11
  go_wp2_with (go_at_call 21; refine HV.out.mono ?_; rintro e w1 ⟨rfl, hb1⟩; refine Hid.out ?_)
  refine Lib.hid ?_
  have H1 := Lib.hid (H0.out.on hb1)
  have X1 := Lib.hid (X0.out.on hb1)
  have B1 := Lib.hid (B0.out.trans (hb1.mono B0.out.size))
  clear hb1 B0 X0 H0 HV
  obtain ⟨_, x0, x1, _, _⟩ := X1.out
  go_wp2_with (first
    | (go_at_call 30; refine (isDayYes d HD.out _).mono ?_; rintro e w' ⟨rfl, rfl⟩)
    | (go_at_call 32; refine (nthOpen A1 A2 n1 c1 n2 c2 d n _).mono ?_; rintro e w2 ⟨rfl, hs2⟩; refine Hid.out ?_))
  refine Lib.hid ?_
  have HS := Lib.hid hs2
  clear hs2
  go_wp2_with (go_at_call 31; refine (HF.out w1 w2 HS.out H1.out).mono ?_; rintro e w3 ⟨rfl, hb3⟩; refine Hid.out ?_)
  refine Lib.hid ?_
  have HB := Lib.hid (B1.out.trans (hb3.mono B1.out.size))
  clear hb3
  go_wp2_with fail
  go_ret2
  exact ⟨rfl, HB.out⟩

set_option maxHeartbeats 2000000 in
theorem addZero (A1 A2 : Option Addr) (n1 c1 n2 c2 : Nat) (we ho : List Int) (d : Int) (w : World) (h : Cl w w.heap.size A1 n1 A2 n2 we ho) (hg : GoodC we ho) (hd : Day d) :
    Calls Try.prog 11 #[.agg #[.slice A1 n1 c1, .slice A2 n2 c2], .int .i64 d, .int .i64 0] w fun e w' => e = .returned (.tuple #[.int .i64 d, .bool true]) ∧ Below w.heap.size w w' := by
  have H0 := Lib.hid (h.on (below1 w (.cells #[.slice A1 n1 c1, .slice A2 n2 c2] 26)))
  have B0 := Lib.hid (below1 w (.cells #[.slice A1 n1 c1, .slice A2 n2 c2] 26))
  have HV := Lib.hid (validI A1 A2 n1 c1 n2 c2 we ho (w.alloc (.cells #[.slice A1 n1 c1, .slice A2 n2 c2] 26)) H0.out true (decide_eq_true hg))
  have HD := Lib.hid hd
  clear h hg hd
  go_enter Try.func11, Try.ntmps11
  go_wp2_with (go_at_call 21; refine HV.out.mono ?_; rintro e w1 ⟨rfl, hb1⟩; refine Hid.out ?_)
  refine Lib.hid ?_
  have B1 := Lib.hid (B0.out.trans (hb1.mono B0.out.size))
  clear hb1
  go_wp2_with (go_at_call 30; refine (isDayYes d HD.out _).mono ?_; rintro e w' ⟨rfl, rfl⟩)
  go_ret2
  exact ⟨rfl, B1.out⟩

set_option maxHeartbeats 2000000 in
theorem addOut (A1 A2 : Option Addr) (n1 c1 n2 c2 : Nat) (we ho : List Int) (d n : Int) (w : World) (h : Cl w w.heap.size A1 n1 A2 n2 we ho) (hn : ¬ AddOk we ho d n) :
    Calls Try.prog 11 #[.agg #[.slice A1 n1 c1, .slice A2 n2 c2], .int .i64 d, .int .i64 n] w fun e w' => e = .returned (.tuple #[.int .i64 0, .bool false]) ∧ Below w.heap.size w w' := by
  have H0 := Lib.hid (h.on (below1 w (.cells #[.slice A1 n1 c1, .slice A2 n2 c2] 26)))
  have B0 := Lib.hid (below1 w (.cells #[.slice A1 n1 c1, .slice A2 n2 c2] 26))
  clear h
  by_cases hg : GoodC we ho
  · have HV := Lib.hid (validI A1 A2 n1 c1 n2 c2 we ho (w.alloc (.cells #[.slice A1 n1 c1, .slice A2 n2 c2] 26)) H0.out true (decide_eq_true hg))
    by_cases hd : Day d
    · have HD := Lib.hid hd
      by_cases ha : n < -1000
      · clear hg hn hd
        go_enter Try.func11, Try.ntmps11
        go_wp2_with (go_at_call 21; refine HV.out.mono ?_; rintro e w1 ⟨rfl, hb1⟩; refine Hid.out ?_)
        refine Lib.hid ?_
        have B1 := Lib.hid (B0.out.trans (hb1.mono B0.out.size))
        clear hb1
        go_wp2_with (go_at_call 30; refine (isDayYes d HD.out _).mono ?_; rintro e w' ⟨rfl, rfl⟩)
        go_ret2
        exact ⟨rfl, B1.out⟩
      · have h3 : 1000 < n := by
          by_cases hh : n ≤ 1000
          · exact absurd ⟨hg, hd, by omega, hh⟩ hn
          · omega
        clear hg hn hd
        go_enter Try.func11, Try.ntmps11
        go_wp2_with (go_at_call 21; refine HV.out.mono ?_; rintro e w1 ⟨rfl, hb1⟩; refine Hid.out ?_)
        refine Lib.hid ?_
        have B1 := Lib.hid (B0.out.trans (hb1.mono B0.out.size))
        clear hb1
        go_wp2_with (go_at_call 30; refine (isDayYes d HD.out _).mono ?_; rintro e w' ⟨rfl, rfl⟩)
        go_ret2
        exact ⟨rfl, B1.out⟩
    · have HD := Lib.hid hd
      clear hg hn hd
      go_enter Try.func11, Try.ntmps11
      go_wp2_with (go_at_call 21; refine HV.out.mono ?_; rintro e w1 ⟨rfl, hb1⟩; refine Hid.out ?_)
      refine Lib.hid ?_
      have B1 := Lib.hid (B0.out.trans (hb1.mono B0.out.size))
      clear hb1
      go_wp2_with (go_at_call 30; refine (isDayNo d HD.out _).mono ?_; rintro e w' ⟨rfl, rfl⟩)
      go_ret2
      exact ⟨rfl, B1.out⟩
  · have HV := Lib.hid (validI A1 A2 n1 c1 n2 c2 we ho (w.alloc (.cells #[.slice A1 n1 c1, .slice A2 n2 c2] 26)) H0.out false (decide_eq_false hg))
    clear hg hn
    go_enter Try.func11, Try.ntmps11
    go_wp2_with (go_at_call 21; refine HV.out.mono ?_; rintro e w1 ⟨rfl, hb1⟩; refine Hid.out ?_)
    refine Lib.hid ?_
    have B1 := Lib.hid (B0.out.trans (hb1.mono B0.out.size))
    clear hb1
    go_wp2_with fail
    go_ret2
    exact ⟨rfl, B1.out⟩

theorem addI (A1 A2 : Option Addr) (n1 c1 n2 c2 : Nat) (we ho : List Int) (d n : Int) (w : World) (h : Cl w w.heap.size A1 n1 A2 n2 we ho) :
    Calls Try.prog 11 #[.agg #[.slice A1 n1 c1, .slice A2 n2 c2], .int .i64 d, .int .i64 n] w fun e w' => e = .returned (.tuple #[.int .i64 (addV we ho d n), .bool (addF we ho d n)]) ∧ Below w.heap.size w w' := by
  by_cases hn : AddOk we ho d n
  · obtain ⟨hg, hd, a, b⟩ := hn
    have e : addO we ho d n = addT we ho d n := if_pos ⟨hg, hd, a, b⟩
    unfold addV addF
    rw [e]
    unfold addT
    by_cases h0 : n < 0
    · rw [if_neg (by omega), if_neg (by omega)]
      obtain ⟨k, rfl⟩ : ∃ k : Nat, n = -(k : Int) := ⟨(-n).toNat, by omega⟩
      rw [show (- -(k : Int)).toNat = k by omega]
      exact addNeg A1 A2 n1 c1 n2 c2 we ho d k w h hg hd (by omega) (by omega) _ rfl
    · by_cases h1 : n = 0
      · rw [if_pos h1]
        subst h1
        exact addZero A1 A2 n1 c1 n2 c2 we ho d w h hg hd
      · rw [if_neg h1, if_pos (by omega)]
        obtain ⟨k, rfl⟩ : ∃ k : Nat, n = (k : Int) := ⟨n.toNat, by omega⟩
        rw [show ((k : Int)).toNat = k by omega]
        exact addPos A1 A2 n1 c1 n2 c2 we ho d k w h hg hd (by omega) (by omega) _ rfl
  · have e : addO we ho d n = none := if_neg hn
    unfold addV addF
    rw [e]
    exact addOut A1 A2 n1 c1 n2 c2 we ho d n w h hn

end Go.Proofs.Ytglpkanegehcbaa.AddI
