/-
  What the program's SplitString returns.
-/
import Derived.Test.YtokikbfhjhppmaaIter
import Derived.Test.YtokikbfhjhppmaaSplit
import Derived.Test.YtokikbfhjhppmaaRow
import Derived.Test.YtokikbfhjhppmaaJoinSpec
import Derived.Test.YtokikbfhjhppmaaShelf
import Derived.Shelf.RegionOpen
import Derived.OrdersIn
namespace Go.Proofs.Ytokikbfhjhppmaa.SplitImpl
open Go.RowKit Go.Shelf Go.Proofs.Ytokikbfhjhppmaa.Plain Go.Proofs.Ytokikbfhjhppmaa.Pieces Go.Proofs.Ytokikbfhjhppmaa.Iter Go.Proofs.Ytokikbfhjhppmaa.Split Go.Proofs.Ytokikbfhjhppmaa.Join
set_option linter.unusedVariables false

attribute [local go_sem] Oper.semAt_some

theorem clone (s : ByteArray) (w : World) (hs : s.size ≤ 1048576) :
    Calls Try.prog 28 #[.string s] w fun e w' => e = .returned (.string s) ∧ Below w.heap.size w w' := by
  go_enter Try.func28, Try.ntmps28
  go_wp2_with (go_at_call 40; refine (Try.stringslite_Clone s _ (by omega)).mono ?_; rintro e w' ⟨rfl, hb⟩)
  go_ret
  exact ⟨rfl, hb⟩

/-- append, at a step of a region that draws its order, inside a fence. -/
theorem step_append {F : Fence} {nF : Nat} {P : Program} (w : World) {ops : Array Oper} {o : Oper} {a : Act} {K : Act → World → Prop} {Q : Exit → Act → World → Prop} {E : Prop} (hgd : o.guard = none) (s x : Operand) (t : TypeId)
    (ho : o.op = .call { callee := .builtin .append, args := #[s, x], argTypes := #[t, t] })
    (base : Nat) (e : TypeId) (i : TypeInfo) (z : Value) (size bytes : Nat) (ht : P.underlying t = some (.slice e)) (hi : P.info? e = some i) (hz : i.zero = some z)
    (hsize : i.size = size) (hby : i.bytes = bytes) (hzs : z.cells.size = size) (hsz : 0 < size)
    (v : Value) (n : Nat) (xs : List Value) (hs : a.eval s = v) (hown : w.ownsRow base e size v n xs)
    (ad : Addr) (m c : Nat) (news : List Value) (hx : a.eval x = .slice (some ad) m c) (hl : news.length = m * size) (hnews : ∀ j u, news[j]? = some u → w.cell? (ad.add j) = some u) (h1 : ∀ u ∈ news, u.oneCell' = true)
    (h63 : n + m ≤ maxLen) (hbytes : (n + m) * bytes ≤ 140737488355328) (hbase : base ≤ w.heap.size)
    (h : ∀ v' w', w'.ownsRow base e size v' (n + m) (xs ++ news) → w.grownBy w' v.ownBlock → (v'.ownBlock = v.ownBlock ∨ v'.ownBlock = some w.heap.size) → K (a.put o.dst v') w') :
    if Region.wanted o (yielded ops a.tmps) = true then Oper.wpIn F nF P o a w K Q else E := by
  have hw : Region.wanted o (yielded ops a.tmps) = true := by simp [Region.wanted, hgd]
  rw [if_pos hw]
  obtain ⟨v', w', hr, h2, h3, _, h5⟩ := run_append_own_at (P := P) w base t o.type e i z size bytes ht hi hz hsize hby hzs hsz v n xs hown ad m c news hl hnews h1 h63 hbytes hbase
  unfold Oper.wpIn
  refine ⟨by simp [Oper.about, ho, resolve, Target.leads, Sem.run_pure], ?_⟩
  rw [Oper.semAt_plain F _ _ (by rw [ho]; intro c hc'; cases hc')]
  simp [execOp, ho, resolve, invoke, builtin, hs, hx, hr, Result.andThen]
  exact h v' w' h2 h3 h5

theorem own_below {w w' : World} {base e size n : Nat} {v : Value} {xs : List Value} (h : w.ownsRow base e size v n xs) (hb : Below w.heap.size w w') : w'.ownsRow base e size v n xs := by
  refine ⟨h.1, ?_⟩
  rcases h.2 with h2 | ⟨g, cap, cur, h1, h2, h3, h4⟩
  · exact .inl h2
  · exact .inr ⟨g, cap, cur, h1, h2, (hb.block g (Array.getElem?_eq_some_iff.1 h3).1).trans h3, h4⟩

theorem boxed_below {w w' : World} {B : Nat} {t : TypeId} {v : Value} (h : Boxed w B t v) (hb : Below w.heap.size w w') : Boxed w' B t v := (hb.block B h.lt).trans h

theorem others_below {w w' : World} (hb : Below w.heap.size w w') : KeepsOthers w w' := ⟨hb.size, fun k o h _ => (hb.block k (Array.getElem?_eq_some_iff.1 h).1).trans h⟩

/-- The bodies of the pieces, as values. -/
def vals (D : List Pc) : List Value := D.map fun p => .string p.1

theorem vals_split {D : List Pc} {b : UInt8} {l : List UInt8} (h : D.map bytesOf = split b l) : vals D = (split b l).map strV := by
  rw [← h, List.map_map]
  rfl

/-- What a round owes. -/
theorem round_end {w w2 W w3 w4 : World} {pre : List Pc} {q : ByteArray} {hq : q.size ≤ 4000} {v v' : Value} {o : Obj} (s2 : w2.heap.size = w.heap.size + 4) (hB : Below w.heap.size w2 W) (hb4 : Below W.heap.size W w3)
    (hne : v.ownBlock ≠ some (w.heap.size + 2) ∧ v.ownBlock ≠ some (w.heap.size + 3)) (hat : v'.ownBlock = v.ownBlock ∨ v'.ownBlock = some (w3.alloc o).heap.size) (hgrow : (w3.alloc o).grownBy w4 v.ownBlock)
    (hv2 : Boxed (w4.setCell ⟨w.heap.size + 1, 0, none⟩ v') (w.heap.size + 1) 26 v') (hr2 : (w4.setCell ⟨w.heap.size + 1, 0, none⟩ v').ownsRow w.heap.size 9 1 v' (pre.length + 1) (vals pre ++ [.string q]))
    (hk2 : KeepsOthers w3 (w4.setCell ⟨w.heap.size + 1, 0, none⟩ v')) (hb5 : Below w.heap.size w3 (w4.setCell ⟨w.heap.size + 1, 0, none⟩ v')) :
    KeepsFrom w2.heap.size W (w4.setCell ⟨w.heap.size + 1, 0, none⟩ v') ∧ Keep2 (w.heap.size + 2) (w.heap.size + 3) W (w4.setCell ⟨w.heap.size + 1, 0, none⟩ v') ∧
      (∃ v, Boxed (w4.setCell ⟨w.heap.size + 1, 0, none⟩ v') (w.heap.size + 1) 26 v ∧ (w4.setCell ⟨w.heap.size + 1, 0, none⟩ v').ownsRow w.heap.size 9 1 v (pre ++ [(⟨q, hq⟩ : Pc)]).length (vals (pre ++ [(⟨q, hq⟩ : Pc)])) ∧ (v.ownBlock ≠ some (w.heap.size + 2) ∧ v.ownBlock ≠ some (w.heap.size + 3))) ∧ Below w.heap.size w2 (w4.setCell ⟨w.heap.size + 1, 0, none⟩ v') := by
  have z1 := hB.size
  have z2 := hb4.size
  have cells : ∀ k, k < w2.heap.size → k ≠ w.heap.size + 1 → v.ownBlock ≠ some k → (w4.setCell ⟨w.heap.size + 1, 0, none⟩ v').cell? ⟨k, 0, none⟩ = W.cell? ⟨k, 0, none⟩ := fun k hk hk1 hk2 => World.cell?_of_block
    ((Below.heap_setCell w4 ⟨w.heap.size + 1, 0, none⟩ v' k hk1).trans ((hgrow.block k (by simp; omega) (Ne.symm hk2)).trans ((Below.heap_alloc w3 o k (by omega)).trans (hb4.block k (by omega)))))
  refine ⟨((others_below hb4).trans hk2).from _, ⟨cells _ (by omega) (by omega) hne.1, cells _ (by omega) (by omega) hne.2⟩, ⟨v', hv2, by simpa [vals] using hr2, ?_, ?_⟩, hB.trans ((hb4.mono (by omega)).trans hb5)⟩
  · rcases hat with e | e <;> rw [e]
    · exact hne.1
    · rw [World.size_alloc]; intro h; injection h with h; omega
  · rcases hat with e | e <;> rw [e]
    · exact hne.2
    · rw [World.size_alloc]; intro h; injection h with h; omega

theorem keep_put {Bs Bb : Nat} {w : World} (h1 : Bs < w.heap.size) (h2 : Bb < w.heap.size) (W : World) (l : Nat) (o o' : Obj) (hl : w.heap.size ≤ l) (h : W.heap[l]? = some o) (_ : o.isCells = false) (_ : o.isWalk = false) : Keep2 Bs Bb W (W.putObj l o') := by
  have hb : Below w.heap.size W (W.putObj l o') := belowK_b (w := w) (Nat.le_refl _) W l o o' hl h (by assumption) (by assumption)
  exact ⟨hb.cell (p := ⟨Bs, 0, none⟩) h1, hb.cell (p := ⟨Bb, 0, none⟩) h2⟩

set_option maxRecDepth 100000 in
set_option maxHeartbeats 2000000 in
theorem yes_in (n : Nat) (hn : 4 ≤ n) (s sep : ByteArray) (b : UInt8) (hsep : Sep sep b) (hs : s.size ≤ 4000) (w : World) :
    CallsIn Fence.wide n Try.prog 10 #[.string s, .string sep] w fun e w' =>
      ∃ v, e = .returned (.tuple #[v, .bool true]) ∧ w'.ownsRow w.heap.size 9 1 v (split b s.data.toList).length ((split b s.data.toList).map strV) ∧ Below w.heap.size w w' := by
  have h1 : 1 ≤ n := by omega
  have hidx := sep_index hsep
  have h1a : sep.size ≤ 1 := by have := hsep.size; omega
  have h1b : 1 ≤ sep.size := by have := hsep.size; omega
  have hq1 : ((sep.size : Int) != 1) = false := by rw [bne_eq_false_iff_eq]; omega
  clear hsep
  obtain ⟨c, hc⟩ : ∃ c : Int, c = (b.toNat : Int) := ⟨_, rfl⟩
  rw [← hc] at hidx
  have HC := Lib.hid hc
  clear hc
  obtain ⟨i0, hi, hz0, hz1, hz2⟩ := info_parts infoStr
  have HZ := Lib.hid (And.intro hi (And.intro hz0 (And.intro hz1 hz2)))
  clear hi hz0 hz1 hz2
  have hF1 : Fence.wide.fn 27 := trivial
  have hF2 : Fence.wide.fn 28 := trivial
  have hF3 : ∀ l, (Fence.wide.inRound l).fn 28 := fun _ => trivial
  refine callsIn_of_wp_marks Try.func10 rfl trivial ?_ rfl
  simp only [Try.ntmps10, List.size_toArray, List.length_cons, List.length_nil, Nat.reduceAdd, Nat.reduceSub, Array.replicate_succ, Array.replicate_zero, List.push_toArray, List.append_toArray, List.nil_append, List.cons_append]
  gi_wp2_with (gi_at_call 27; refine (pieces_in (n - 1) s c _).mono ?_; rintro e w' ⟨rfl, rfl⟩)
  have hd0 : decide (4000 < (s.size : Int)) = false := by rw [decide_eq_false_iff_not]; omega
  try rw [hd0]
  have bO := Boxed.new (w.alloc (.cells #[] 9)) 26 (.slice (some ⟨w.heap.size, 0, none⟩) 0 0)
  rw [World.size_alloc] at bO
  have r0 : ((w.alloc (.cells #[] 9)).alloc (.cells #[.slice (some ⟨w.heap.size, 0, none⟩) 0 0] 26)).ownsRow w.heap.size 9 1 (.slice (some ⟨w.heap.size, 0, none⟩) 0 0) 0 [] := (World.ownsRow_made w #[] 0 (Nat.le_refl _) (by unfold maxLen; omega) rfl).alloc _
  generalize hw1 : ((w.alloc (.cells #[] 9)).alloc (.cells #[.slice (some ⟨w.heap.size, 0, none⟩) 0 0] 26)) = w1 at *
  have s1 : w1.heap.size = w.heap.size + 2 := by rw [← hw1]; simp
  have hB1 : Below w.heap.size w w1 := by rw [← hw1]; exact ((Below.refl _ w).alloc (Nat.le_refl _) _).alloc (by simp) _
  clear hw1
  have bS := Boxed.new w1 9 (.string s)
  have bB := Boxed.new (w1.alloc (.cells #[.string s] 9)) 5 (.int .u8 c)
  have cS := (bS.alloc (.cells #[.int .u8 c] 5)).cell
  have cB := bB.cell
  have b2 := (bO.alloc (.cells #[.string s] 9)).alloc (.cells #[.int .u8 c] 5)
  have r2 := (r0.alloc (.cells #[.string s] 9)).alloc (.cells #[.int .u8 c] 5)
  have hB2 : Below w.heap.size w ((w1.alloc (.cells #[.string s] 9)).alloc (.cells #[.int .u8 c] 5)) := (hB1.alloc (by omega) _).alloc (by simp; omega) _
  rw [World.size_alloc] at cB
  rw [s1] at cS cB
  have s2 : ((w1.alloc (.cells #[.string s] 9)).alloc (.cells #[.int .u8 c] 5)).heap.size = w.heap.size + 4 := by simp [s1]
  generalize ((w1.alloc (.cells #[.string s] 9)).alloc (.cells #[.int .u8 c] 5)) = w2 at *
  clear bS bB bO r0 hB1 s1
  refine wpIn_rangeFunc_ownG rfl h1 (gf := 39) (lb := #[.pointer (some ⟨w.heap.size + 2, 0, none⟩), .pointer (some ⟨w.heap.size + 3, 0, none⟩)]) rfl trivial (enters_of Try.func39 (by kernel_rfl) rfl)
    (stops (n - 1) (by omega) (w.heap.size + 2) (w.heap.size + 3) s b c HC.out hs w2 (by omega) (by omega) cS cB) Keep2.trans (keep_put (by omega) (by omega)) (Below.refl _ _) (fun _ => rfl)
    (fun pre W => (∃ v, Boxed W (w.heap.size + 1) 26 v ∧ W.ownsRow w.heap.size 9 1 v pre.length (vals pre) ∧ (v.ownBlock ≠ some (w.heap.size + 2) ∧ v.ownBlock ≠ some (w.heap.size + 3))) ∧ Below w.heap.size w2 W)
    (fun _ _ _ => False)
    (OwnFrom.and (Own.from (holdsRow_own w.heap.size (w.heap.size + 1) 26 9 1 (fun pre : List Pc => pre.length) (fun pre => vals pre) (fun _ v => v.ownBlock ≠ some (w.heap.size + 2) ∧ v.ownBlock ≠ some (w.heap.size + 3))) _) (ownFrom_below (by omega) (by omega)))
    (fun _ _ _ _ _ hs _ _ => hs)
    ⟨⟨_, b2, r2, by simp [Value.ownBlock], by simp [Value.ownBlock]⟩, Below.refl _ _⟩
    (fun x => { tmps := #[.string s, .string sep, undef, undef, .slice none 0 0, .bool false, .pointer (some ⟨w.heap.size + 1, 0, none⟩), .string x.1, .string s, .int .i64 s.size, .bool false, .bool false, .string sep, .int .i64 sep.size, .bool false, .bool false, undef, .slice (some ⟨w.heap.size, 0, none⟩) 0 0, .string s, .string sep, .int .u8 c, .func (.func 39) #[] #[.pointer (some ⟨w.heap.size + 2, 0, none⟩), .pointer (some ⟨w.heap.size + 3, 0, none⟩)], .string x.1, undef, undef, undef, undef, undef, undef], defers := [] }) ?assign ?body ?done ?stop
  case assign =>
    intro l x W K hK
    gi_wp2
    exact hK
  case body =>
    rintro l pre x W ⟨⟨v, hv, hrow, hne⟩, hB⟩ hlt
    have hd : 1 ≤ n - 1 - 1 := by omega
    have hmx : Try.prog.follows .mixedOrders = true := by kernel_rfl
    have hF4 := hF3 l
    have hsz := hB.size
    have c0 : W.drew.cell? ⟨w.heap.size + 1, 0, none⟩ = some v := hv.cell
    obtain ⟨q, hq⟩ := x
    dsimp only
    gi_wp2
    refine wpIn_region_any hmx ?_
    change wpAnyIn _ _ _ _ _ _ _ _ _ (World.drew _)
    refine wpAnyIn_ready (rs := [0, 1]) (by kernel_rfl) (by simp) ?_
    refine AllReadyIn.cons rfl (fun K hK => ?_) (AllReadyIn.cons rfl (fun K hK => ?_) AllReadyIn.nil)
    · go_simp
      refine hK _ _ ?_
      clear hK K
      refine wpAnyIn_ready (rs := [1]) (by kernel_rfl) (by simp) ?_
      refine AllReadyIn.cons rfl (fun K hK => ?_) AllReadyIn.nil
      go_simp
      refine hK _ _ ?_
      clear hK K
      refine wpAnyIn_ready (rs := [2]) (by kernel_rfl) (by simp) ?_
      refine AllReadyIn.cons rfl (fun K hK => ?_) AllReadyIn.nil
      go_simp
      gi_wp2_with (gi_at_call 28; refine (CallsIn.inRound l (callsIn_wide.2 (clone q W.drew (by omega)))).mono ?_; rintro e w3 ⟨rfl, hb3⟩)
      have hb4 : Below W.heap.size W w3 := ⟨hb3.os, hb3.tape, hb3.output, hb3.size, hb3.block⟩
      have s3 := hb4.size
      have bv3 := boxed_below hv hb4
      have c3 := bv3.cell
      have c4 := (bv3.alloc (.cells #[.string q] 9)).cell
      refine wpAnyIn_ready (rs := [3]) (by kernel_rfl) (by simp) ?_
      refine AllReadyIn.cons rfl (fun K hK => ?_) AllReadyIn.nil
      go_simp
      refine hK _ _ ?_
      clear hK K
      refine wpAnyIn_ready (rs := [4]) (by kernel_rfl) (by simp) ?_
      refine AllReadyIn.cons rfl (fun K hK => ?_) AllReadyIn.nil
      have hrow3 := own_below hrow hb4
      refine step_append _ rfl _ _ 26 rfl w.heap.size 9 i0 (.string ByteArray.empty) 1 16 Try.underlying26 HZ.out.1 HZ.out.2.1 HZ.out.2.2.1 HZ.out.2.2.2 rfl (by decide) v pre.length (vals pre) rfl (hrow3.alloc _) ⟨w3.heap.size, 0, none⟩ 1 1 [.string q] rfl rfl (cell_one_new _ _ _) (one_str _) (by unfold maxLen; omega) (by omega) (by simp; omega) ?_
      intro v' w4 hown' hgrow hat
      obtain ⟨g', cap', rfl⟩ := ownsRow_succ hown'
      obtain ⟨hv1, hv2, hr2, hk2, hb5⟩ := bv3.appended (by decide) hrow3 (by omega) (by omega) hown' hgrow
      have hc1 := hv1.cell
      have hf1 := hv1.frozen
      refine hK _ _ ?_
      clear hK K
      refine wpAnyIn_ready (rs := [5]) (by kernel_rfl) (by simp) ?_
      refine AllReadyIn.cons rfl (fun K hK => ?_) AllReadyIn.nil
      go_simp
      refine hK _ _ ?_
      clear hK K
      refine wpAnyIn_done (by kernel_rfl) ?_ _
      exact round_end s2 hB hb4 hne hat hgrow hv2 hr2 hk2 hb5
    · go_simp
      refine hK _ _ ?_
      clear hK K
      refine wpAnyIn_ready (rs := [0, 2]) (by kernel_rfl) (by simp) ?_
      refine AllReadyIn.cons rfl (fun K hK => ?_) (AllReadyIn.cons rfl (fun K hK => ?_) AllReadyIn.nil)
      · go_simp
        refine hK _ _ ?_
        clear hK K
        refine wpAnyIn_ready (rs := [2]) (by kernel_rfl) (by simp) ?_
        refine AllReadyIn.cons rfl (fun K hK => ?_) AllReadyIn.nil
        go_simp
        gi_wp2_with (gi_at_call 28; refine (CallsIn.inRound l (callsIn_wide.2 (clone q W.drew (by omega)))).mono ?_; rintro e w3 ⟨rfl, hb3⟩)
        have hb4 : Below W.heap.size W w3 := ⟨hb3.os, hb3.tape, hb3.output, hb3.size, hb3.block⟩
        have s3 := hb4.size
        have bv3 := boxed_below hv hb4
        have c3 := bv3.cell
        have c4 := (bv3.alloc (.cells #[.string q] 9)).cell
        refine wpAnyIn_ready (rs := [3]) (by kernel_rfl) (by simp) ?_
        refine AllReadyIn.cons rfl (fun K hK => ?_) AllReadyIn.nil
        go_simp
        refine hK _ _ ?_
        clear hK K
        refine wpAnyIn_ready (rs := [4]) (by kernel_rfl) (by simp) ?_
        refine AllReadyIn.cons rfl (fun K hK => ?_) AllReadyIn.nil
        have hrow3 := own_below hrow hb4
        refine step_append _ rfl _ _ 26 rfl w.heap.size 9 i0 (.string ByteArray.empty) 1 16 Try.underlying26 HZ.out.1 HZ.out.2.1 HZ.out.2.2.1 HZ.out.2.2.2 rfl (by decide) v pre.length (vals pre) rfl (hrow3.alloc _) ⟨w3.heap.size, 0, none⟩ 1 1 [.string q] rfl rfl (cell_one_new _ _ _) (one_str _) (by unfold maxLen; omega) (by omega) (by simp; omega) ?_
        intro v' w4 hown' hgrow hat
        obtain ⟨g', cap', rfl⟩ := ownsRow_succ hown'
        obtain ⟨hv1, hv2, hr2, hk2, hb5⟩ := bv3.appended (by decide) hrow3 (by omega) (by omega) hown' hgrow
        have hc1 := hv1.cell
        have hf1 := hv1.frozen
        refine hK _ _ ?_
        clear hK K
        refine wpAnyIn_ready (rs := [5]) (by kernel_rfl) (by simp) ?_
        refine AllReadyIn.cons rfl (fun K hK => ?_) AllReadyIn.nil
        go_simp
        refine hK _ _ ?_
        clear hK K
        refine wpAnyIn_done (by kernel_rfl) ?_ _
        exact round_end s2 hB hb4 hne hat hgrow hv2 hr2 hk2 hb5
      · go_simp
        gi_wp2_with (gi_at_call 28; refine (CallsIn.inRound l (callsIn_wide.2 (clone q W.drew (by omega)))).mono ?_; rintro e w3 ⟨rfl, hb3⟩)
        have hb4 : Below W.heap.size W w3 := ⟨hb3.os, hb3.tape, hb3.output, hb3.size, hb3.block⟩
        have s3 := hb4.size
        have bv3 := boxed_below hv hb4
        have c3 := bv3.cell
        have c4 := (bv3.alloc (.cells #[.string q] 9)).cell
        refine wpAnyIn_ready (rs := [0, 3]) (by kernel_rfl) (by simp) ?_
        refine AllReadyIn.cons rfl (fun K hK => ?_) (AllReadyIn.cons rfl (fun K hK => ?_) AllReadyIn.nil)
        · go_simp
          refine hK _ _ ?_
          clear hK K
          refine wpAnyIn_ready (rs := [3]) (by kernel_rfl) (by simp) ?_
          refine AllReadyIn.cons rfl (fun K hK => ?_) AllReadyIn.nil
          go_simp
          refine hK _ _ ?_
          clear hK K
          refine wpAnyIn_ready (rs := [4]) (by kernel_rfl) (by simp) ?_
          refine AllReadyIn.cons rfl (fun K hK => ?_) AllReadyIn.nil
          have hrow3 := own_below hrow hb4
          refine step_append _ rfl _ _ 26 rfl w.heap.size 9 i0 (.string ByteArray.empty) 1 16 Try.underlying26 HZ.out.1 HZ.out.2.1 HZ.out.2.2.1 HZ.out.2.2.2 rfl (by decide) v pre.length (vals pre) rfl (hrow3.alloc _) ⟨w3.heap.size, 0, none⟩ 1 1 [.string q] rfl rfl (cell_one_new _ _ _) (one_str _) (by unfold maxLen; omega) (by omega) (by simp; omega) ?_
          intro v' w4 hown' hgrow hat
          obtain ⟨g', cap', rfl⟩ := ownsRow_succ hown'
          obtain ⟨hv1, hv2, hr2, hk2, hb5⟩ := bv3.appended (by decide) hrow3 (by omega) (by omega) hown' hgrow
          have hc1 := hv1.cell
          have hf1 := hv1.frozen
          refine hK _ _ ?_
          clear hK K
          refine wpAnyIn_ready (rs := [5]) (by kernel_rfl) (by simp) ?_
          refine AllReadyIn.cons rfl (fun K hK => ?_) AllReadyIn.nil
          go_simp
          refine hK _ _ ?_
          clear hK K
          refine wpAnyIn_done (by kernel_rfl) ?_ _
          exact round_end s2 hB hb4 hne hat hgrow hv2 hr2 hk2 hb5
        · go_simp
          refine hK _ _ ?_
          clear hK K
          refine wpAnyIn_ready (rs := [0]) (by kernel_rfl) (by simp) ?_
          refine AllReadyIn.cons rfl (fun K hK => ?_) AllReadyIn.nil
          go_simp
          refine hK _ _ ?_
          clear hK K
          refine wpAnyIn_ready (rs := [4]) (by kernel_rfl) (by simp) ?_
          refine AllReadyIn.cons rfl (fun K hK => ?_) AllReadyIn.nil
          have hrow3 := own_below hrow hb4
          refine step_append _ rfl _ _ 26 rfl w.heap.size 9 i0 (.string ByteArray.empty) 1 16 Try.underlying26 HZ.out.1 HZ.out.2.1 HZ.out.2.2.1 HZ.out.2.2.2 rfl (by decide) v pre.length (vals pre) rfl (hrow3.alloc _) ⟨w3.heap.size, 0, none⟩ 1 1 [.string q] rfl rfl (cell_one_new _ _ _) (one_str _) (by unfold maxLen; omega) (by omega) (by simp; omega) ?_
          intro v' w4 hown' hgrow hat
          obtain ⟨g', cap', rfl⟩ := ownsRow_succ hown'
          obtain ⟨hv1, hv2, hr2, hk2, hb5⟩ := bv3.appended (by decide) hrow3 (by omega) (by omega) hown' hgrow
          have hc1 := hv1.cell
          have hf1 := hv1.frozen
          refine hK _ _ ?_
          clear hK K
          refine wpAnyIn_ready (rs := [5]) (by kernel_rfl) (by simp) ?_
          refine AllReadyIn.cons rfl (fun K hK => ?_) AllReadyIn.nil
          go_simp
          refine hK _ _ ?_
          clear hK K
          refine wpAnyIn_done (by kernel_rfl) ?_ _
          exact round_end s2 hB hb4 hne hat hgrow hv2 hr2 hk2 hb5
  case done =>
    rintro D ys W hD hys ⟨⟨v, hv, hrow, _⟩, hB⟩ hK
    have hc := hv.cell
    gi_wp2
    refine ⟨by simp, .inl ⟨_, _, rfl, run_takeDeferred hK, ?_⟩⟩
    have e1 : ys.length = (split b s.data.toList).length := by rw [← hys]; simp
    exact ⟨_, results_tmp2 rfl _ _ _, v, rfl, by rw [← e1, ← vals_split hys]; exact ownsRow_putObj hrow _ hK rfl, hB2.trans (hB.trans (belowK_b (w := w2) (by omega) W D _ _ hD hK rfl rfl))⟩
  case stop =>
    rintro D c pre W _ _ h _
    exact h.elim

end Go.Proofs.Ytokikbfhjhppmaa.SplitImpl
