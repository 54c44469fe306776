/-
  What FormatInt, ParseInt and AppendChecksum return, of the model and of the program alike.
-/
import Derived.Test.YtokikbfhjhppmaaDoorParse
import Derived.Test.YtokikbfhjhppmaaDoorAppend
namespace Go.Proofs.YtokikbfhjhppmaaDoor.StrRes
open Go.RowKit Go.Proofs.YtokikbfhjhppmaaDoor.Plain Go.Proofs.YtokikbfhjhppmaaDoor.Fmt Go.Proofs.YtokikbfhjhppmaaDoor.IntText Go.Proofs.YtokikbfhjhppmaaDoor.Read Go.Proofs.YtokikbfhjhppmaaDoor.Parse

def FRes (n : Int) (s : ByteArray) (f : Bool) : Prop :=
  (-999999 ≤ n ∧ n ≤ 999999 ∧ s = ⟨(Lib.itoa n).toArray⟩ ∧ f = true) ∨ ((n < -999999 ∨ 999999 < n) ∧ s = ⟨#[]⟩ ∧ f = false)

theorem fres_is (n : Int) : ∃ s f, FRes n s f := by
  by_cases h : -999999 ≤ n ∧ n ≤ 999999
  · exact ⟨_, _, .inl ⟨h.1, h.2, rfl, rfl⟩⟩
  · exact ⟨_, _, .inr ⟨by omega, rfl, rfl⟩⟩

theorem fres_size {n : Int} {s : ByteArray} {f : Bool} (h : FRes n s f) : s.size ≤ 7 := by
  rcases h with ⟨h0, h1, rfl, _⟩ | ⟨_, rfl, _⟩
  · show (Lib.itoa n).toArray.size ≤ 7
    rw [List.size_toArray]; exact itoa_le n h0 h1
  · show (0 : Nat) ≤ 7; omega

theorem specF {n : Int} {s : ByteArray} {f : Bool} (h : FRes n s f) (w : World) :
    Calls Tryd.prog 11 #[.int .i64 n] w fun e w' => e = .returned (.tuple #[.string s, .bool f]) ∧ Below w.heap.size w w' := by
  rcases h with ⟨h0, h1, rfl, rfl⟩ | ⟨h0, rfl, rfl⟩
  · exact (specIn n h0 h1 w).mono fun e w' ⟨he, m, hw⟩ => ⟨he, by rw [hw]; exact below_drewN (Below.refl _ _) m⟩
  · exact (specOut n h0 w).mono fun e w' ⟨he, hw⟩ => ⟨he, by rw [← hw]; exact Below.refl _ _⟩

theorem implF {n : Int} {s : ByteArray} {f : Bool} (h : FRes n s f) (w : World) (hL : Lies w) :
    Calls Tryd.prog 10 #[.int .i64 n] w fun e w' => e = .returned (.tuple #[.string s, .bool f]) ∧ Below w.heap.size w w' := by
  rcases h with ⟨h0, h1, rfl, rfl⟩ | ⟨h0, rfl, rfl⟩
  · exact implIn n h0 h1 w hL.tab
  · exact (implOut n h0 w).mono fun e w' ⟨he, hw⟩ => ⟨he, by rw [← hw]; exact Below.refl _ _⟩

def PRes (s : ByteArray) (n : Int) (f : Bool) : Prop := (Is s n ∧ f = true) ∨ ((∀ k, ¬ Is s k) ∧ n = 0 ∧ f = false)

theorem pres_is (s : ByteArray) : ∃ n f, PRes s n f := by
  by_cases h : ∃ n, Is s n
  · obtain ⟨n, hn⟩ := h; exact ⟨n, true, .inl ⟨hn, rfl⟩⟩
  · exact ⟨0, false, .inr ⟨fun k hk => h ⟨k, hk⟩, rfl, rfl⟩⟩

theorem is_one {s : ByteArray} {n k : Int} (h : Is s n) (h' : Is s k) : k = n := by
  have h1 := h'.atoi; rw [h.atoi] at h1; injection h1 with h1; exact h1.symm

theorem specP {s : ByteArray} {n : Int} {f : Bool} (h : PRes s n f) (w : World) (hs : s.size ≤ 2000000) :
    Calls Tryd.prog 14 #[.string s] w fun e w' => e = .returned (.tuple #[.int .i64 n, .bool f]) ∧ Below w.heap.size w w' :=
  (specParse s w (by unfold maxLen; omega)).mono fun e w' hh => by
    obtain ⟨⟨m, hw⟩, hh⟩ := hh
    refine ⟨?_, by rw [hw]; exact below_drewN (Below.refl _ _) m⟩
    rcases h with ⟨h1, rfl⟩ | ⟨h1, rfl, rfl⟩ <;> rcases hh with ⟨k, hk, rfl⟩ | ⟨hno, rfl⟩
    · rw [is_one h1 hk]
    · exact absurd h1 (hno n)
    · exact absurd hk (h1 k)
    · rfl

theorem implP {s : ByteArray} {n : Int} {f : Bool} (h : PRes s n f) (w : World) (hs : s.size ≤ 2000000) (hL : Lies w) :
    Calls Tryd.prog 13 #[.string s] w fun e w' => e = .returned (.tuple #[.int .i64 n, .bool f]) ∧ Below w.heap.size w w' :=
  (implParse s w hs hL).mono fun e w' hh => by
    obtain ⟨hb, hh⟩ := hh
    refine ⟨?_, hb⟩
    rcases h with ⟨h1, rfl⟩ | ⟨h1, rfl, rfl⟩ <;> rcases hh with ⟨k, hk, rfl⟩ | ⟨hno, rfl⟩
    · rw [is_one h1 hk]
    · exact absurd h1 (hno n)
    · exact absurd hk (h1 k)
    · rfl

def ARes (x y : ByteArray) (f : Bool) : Prop := (Seal.Fits x ∧ y = Seal.sealS x ∧ f = true) ∨ (¬ Seal.Fits x ∧ y = ⟨#[]⟩ ∧ f = false)

theorem specA {x y : ByteArray} {f : Bool} (h : ARes x y f) (w : World) (hs : x.size ≤ 2000000) :
    Calls Tryd.prog 17 #[.string x] w fun e w' => e = .returned (.tuple #[.string y, .bool f]) ∧ Below w.heap.size w w' := by
  have hm : x.size ≤ maxLen := by unfold maxLen; omega
  rcases h with ⟨h1, rfl, rfl⟩ | ⟨h1, rfl, rfl⟩
  · exact (Seal.specYes x h1 w hm).mono fun e w' ⟨he, m, hw⟩ => ⟨he, by rw [hw]; exact below_drewN (Below.refl _ _) m⟩
  · exact (Seal.specNo x h1 w hm).mono fun e w' ⟨he, m, hw⟩ => ⟨he, by rw [hw]; exact below_drewN (Below.refl _ _) m⟩

theorem implA {x y : ByteArray} {f : Bool} (h : ARes x y f) (w : World) (hs : x.size ≤ 2000000) (hL : Lies w) :
    Calls Tryd.prog 16 #[.string x] w fun e w' => e = .returned (.tuple #[.string y, .bool f]) ∧ Below w.heap.size w w' := by
  have hm : x.size ≤ maxLen := by unfold maxLen; omega
  rcases h with ⟨h1, rfl, rfl⟩ | ⟨h1, rfl, rfl⟩
  · exact Seal.implYes x h1 w hm hL.tab
  · exact Seal.implNo x h1 w hm hL.tab

end Go.Proofs.YtokikbfhjhppmaaDoor.StrRes
