/-
  Both FormatCondition.
-/
import Derived.Test.YtbpoalhiaedcgaaDoorTxt
namespace Go.Proofs.YtbpoalhiaedcgaaDoor.FmF
open Go.RowKit Go.Proofs.YtbpoalhiaedcgaaDoor.Cond Go.Proofs.YtbpoalhiaedcgaaDoor.Txt Go.Proofs.YtbpoalhiaedcgaaDoor.FmtDate Go.Proofs.YtbpoalhiaedcgaaDoor.Tab
set_option linter.unusedVariables false

/-- What FormatCondition answers. -/
structure FmIs (c : C) (t : ByteArray) (y : Bool) : Prop where
  no : c.good = false → t = ⟨#[]⟩ ∧ y = false
  yes : ∀ q : Q, c = q.c → c.good = true → t = ⟨(txt q).toArray⟩ ∧ y = true
theorem c_inj : ∀ {a b : Q}, a.c = b.c → a = b := by
  intro a
  induction a with
  | tru => intro b h; cases b <;> simp [Q.c] at h <;> simp_all
  | fact s => intro b h; cases b <;> simp [Q.c] at h <;> simp_all
  | frm d => intro b h; cases b <;> simp [Q.c] at h <;> simp_all
  | neg a ih => intro b h; cases b <;> simp [Q.c] at h; rw [ih h]
  | and a a' ih ih' => intro b h; cases b <;> simp [Q.c] at h; rw [ih h.1, ih' h.2]
  | or a a' ih ih' => intro b h; cases b <;> simp [Q.c] at h; rw [ih h.1, ih' h.2]
theorem fm_is (c : C) : ∃ t y, FmIs c t y := by
  cases h : c.good with
  | false => exact ⟨⟨#[]⟩, false, ⟨fun _ => ⟨rfl, rfl⟩, fun q _ h2 => (by rw [h] at h2; cases h2)⟩⟩
  | true =>
    obtain ⟨q, hq, _⟩ := good_q h
    exact ⟨⟨(txt q).toArray⟩, true, ⟨fun h2 => (by rw [h] at h2; cases h2), fun q' hq' _ => (by rw [c_inj (hq'.symm.trans hq)]; exact ⟨rfl, rfl⟩)⟩⟩

set_option maxHeartbeats 4000000 in
theorem specFm (k : K) (w : World) (hin : Lies w w.heap.size k) (hw : k.cond.wt ≤ 1048576) (t : ByteArray) (y : Bool) (hx : FmIs k.cond t y) :
    Calls Tryd.prog 6 #[k.val] w fun e w' => e = .returned (.tuple #[.string t, .bool y]) ∧ Below w.heap.size w w' := by
  have B0 := Lib.hid (below1 w (.cells #[.int .i64 k.op, .string k.nm, .int .i64 k.day, .slice k.A k.ps.length k.cap] 30))
  have X0 := Lib.hid (B4.new w (.int .i64 k.op) (.string k.nm) (.int .i64 k.day) (.slice k.A k.ps.length k.cap) 30)
  have HG := l5Good k _ (hin.on B0.out) hw
  have HX := Lib.hid hx
  have HIN := Lib.hid hin
  clear hin hw hx
  obtain ⟨g, hg⟩ : ∃ g, g = k.cond.good := ⟨_, rfl⟩
  rw [← hg] at HG
  have HGG := Lib.hid hg
  have HGH := Lib.hid HG
  clear hg HG
  cases g
  · have HE := Lib.hid (HX.out.no HGG.out.symm)
    go_enter Tryd.func6, Tryd.ntmps6
    go_wp2_with (go_at_call 15; refine HGH.out.mono ?_; rintro e w2 ⟨rfl, hb2⟩)
    go_ret2
    exact ⟨by rw [HE.out.1, HE.out.2]; rfl, B0.out.trans (hb2.mono B0.out.size)⟩
  obtain ⟨q, hq, hok, hs⟩ := good_q HGG.out.symm
  have HE := Lib.hid (HX.out.yes q hq HGG.out.symm)
  have HTX : Hid (∀ v, Below w.heap.size w v → Calls Tryd.prog 16 #[k.val] v fun e w' => e = .returned (.string ⟨(txt q).toArray⟩) ∧ Below v.heap.size v w') := Lib.hid fun v hb => l5Text w q hok (by omega) k v hb hq (HIN.out.on hb)
  clear hq hok hs
  go_enter Tryd.func6, Tryd.ntmps6
  go_wp2_with (go_at_call 15; refine HGH.out.mono ?_; rintro e w2 ⟨rfl, hb2⟩; refine Hid.out ?_)
  refine Lib.hid ?_
  have B2 := Lib.hid (B0.out.trans (hb2.mono B0.out.size))
  have X2 := Lib.hid (X0.out.on hb2)
  obtain ⟨_, x0, x1, x2, x3, _⟩ := X2.out
  have HT2 := Lib.hid (HTX.out w2 B2.out)
  clear hb2
  go_wp2_with (go_at_call 16; refine HT2.out.mono ?_; rintro e w3 ⟨rfl, hb3⟩)
  go_ret2
  exact ⟨by rw [HE.out.1, HE.out.2]; rfl, B2.out.trans (hb3.mono B2.out.size)⟩

set_option maxHeartbeats 4000000 in
theorem implFm (k : K) (w : World) (hin : Lies w w.heap.size k) (hw : k.cond.wt ≤ 1048576) (hT : Tab w) (hP : Pow w) (t : ByteArray) (y : Bool) (hx : FmIs k.cond t y) :
    Calls Tryd.prog 8 #[k.val] w fun e w' => e = .returned (.tuple #[.string t, .bool y]) ∧ Below w.heap.size w w' := by
  have B0 := Lib.hid (below1 w (.cells #[.int .i64 k.op, .string k.nm, .int .i64 k.day, .slice k.A k.ps.length k.cap] 30))
  have X0 := Lib.hid (B4.new w (.int .i64 k.op) (.string k.nm) (.int .i64 k.day) (.slice k.A k.ps.length k.cap) 30)
  have HG := implGood k _ (hin.on B0.out) hw
  have HX := Lib.hid hx
  have HIN := Lib.hid hin
  have HTT := Lib.hid (And.intro hT hP)
  clear hin hw hx hT hP
  obtain ⟨g, hg⟩ : ∃ g, g = k.cond.good := ⟨_, rfl⟩
  rw [← hg] at HG
  have HGG := Lib.hid hg
  have HGH := Lib.hid HG
  clear hg HG
  cases g
  · have HE := Lib.hid (HX.out.no HGG.out.symm)
    go_enter Tryd.func8, Tryd.ntmps8
    go_wp2_with (go_at_call 18; refine HGH.out.mono ?_; rintro e w2 ⟨rfl, hb2⟩)
    go_ret2
    exact ⟨by rw [HE.out.1, HE.out.2]; rfl, B0.out.trans (hb2.mono B0.out.size)⟩
  obtain ⟨q, hq, hok, hs⟩ := good_q HGG.out.symm
  have HE := Lib.hid (HX.out.yes q hq HGG.out.symm)
  have HTX : Hid (∀ v, Below w.heap.size w v → Calls Tryd.prog 19 #[k.val] v fun e w' => e = .returned (.string ⟨(txt q).toArray⟩) ∧ Below v.heap.size v w') := Lib.hid fun v hb => implText w HTT.out.1 HTT.out.2 q hok (by omega) k v hb hq (HIN.out.on hb)
  clear hq hok hs
  go_enter Tryd.func8, Tryd.ntmps8
  go_wp2_with (go_at_call 18; refine HGH.out.mono ?_; rintro e w2 ⟨rfl, hb2⟩; refine Hid.out ?_)
  refine Lib.hid ?_
  have B2 := Lib.hid (B0.out.trans (hb2.mono B0.out.size))
  have X2 := Lib.hid (X0.out.on hb2)
  obtain ⟨_, x0, x1, x2, x3, _⟩ := X2.out
  have HT2 := Lib.hid (HTX.out w2 B2.out)
  clear hb2
  go_wp2_with (go_at_call 19; refine HT2.out.mono ?_; rintro e w3 ⟨rfl, hb3⟩)
  go_ret2
  exact ⟨by rw [HE.out.1, HE.out.2]; rfl, B2.out.trans (hb3.mono B2.out.size)⟩

end Go.Proofs.YtbpoalhiaedcgaaDoor.FmF
