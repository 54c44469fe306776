/-
  The walk of the law FnExactJoinCalendars, at every two calendars.
-/
import Derived.Test.YtglpkanegehcbaaJoinW
import Derived.Test.YtglpkanegehcbaaJoinI
import Derived.Test.YtglpkanegehcbaaJoinS
namespace Go.Proofs.Ytglpkanegehcbaa.JoinX
open Go.RowKit Go.Proofs.Ytglpkanegehcbaa.IRow Go.Proofs.Ytglpkanegehcbaa.Cal Go.Proofs.Ytglpkanegehcbaa.Biz Go.Proofs.Ytglpkanegehcbaa.Asc Go.Proofs.Ytglpkanegehcbaa.CalLaw Go.Proofs.Ytglpkanegehcbaa.UniMath Go.Proofs.Ytglpkanegehcbaa.JoinB Go.Proofs.Ytglpkanegehcbaa.JoinW

theorem toAns {W H : List Int} {f : Bool} {w : World} {e : Ending} {w' : World} (h : JAns W H f w e w') : Ans W H W.length H.length f w e w' := by
  obtain ⟨C1, k1, d1, C2, k2, d2, rfl, rfl, rfl, o1, o2, ne, hb⟩ := h
  exact ⟨C1, d1, C2, d2, rfl, o1, o2, ne, hb⟩

theorem walk (A1 A2 B1 B2 : Option Addr) (n1 c1 n2 c2 m1 e1 m2 e2 : Nat) (we ho we' ho' : List Int) (w : World) (h1 : n1 = we.length) (q1 : n1 ≤ maxLen) (r1 : Is w w.heap.size A1 we) (h2 : n2 = ho.length) (q2 : n2 ≤ maxLen) (r2 : Is w w.heap.size A2 ho)
    (h3 : m1 = we'.length) (q3 : m1 ≤ maxLen) (r3 : Is w w.heap.size B1 we') (h4 : m2 = ho'.length) (q4 : m2 ≤ maxLen) (r4 : Is w w.heap.size B2 ho') :
    Calls Try.prog 8 #[.agg #[.slice A1 n1 c1, .slice A2 n2 c2], .agg #[.slice B1 m1 e1, .slice B2 m2 e2]] w fun e w' => e = .returned (.bool true) ∧ Below w.heap.size w w' := by
  by_cases hm : n1 + n2 + (m1 + m2) ≤ 1048576
  · by_cases hg : GoodC we ho
    · by_cases hg' : GoodC we' ho'
      · by_cases hj : GoodC (uni we we') (uni ho ho')
        · exact walkAux A1 A2 B1 B2 n1 c1 n2 c2 m1 e1 m2 e2 _ _ we ho we' ho' (uni we we') (uni ho ho') true w h1 h2 h3 h4 rfl rfl hm (by have := hj.1.1; omega) (by have := hj.2.1; omega) r1 r2 r3 r4
            (Lib.hid fun a1 a2 b1 b2 w h h' => (JoinS.joinYes (some a1) (some a2) (some b1) (some b2) n1 n1 n2 n2 m1 m1 m2 m2 we ho we' ho' w h h' (fun e => by cases e) (fun e => by cases e) (fun e => by cases e) (fun e => by cases e) hg hg' hj).mono fun _ _ => toAns)
            (Lib.hid fun a1 a2 b1 b2 w h h' => (JoinI.joinYes (some a1) (some a2) (some b1) (some b2) n1 n1 n2 n2 m1 m1 m2 m2 we ho we' ho' w h h' (fun e => by cases e) (fun e => by cases e) (fun e => by cases e) (fun e => by cases e) hg hg' hj).mono fun _ _ => toAns)
        · exact walkAux A1 A2 B1 B2 n1 c1 n2 c2 m1 e1 m2 e2 _ _ we ho we' ho' [] [] false w h1 h2 h3 h4 rfl rfl hm (Nat.zero_le _) (Nat.zero_le _) r1 r2 r3 r4
            (Lib.hid fun a1 a2 b1 b2 w h h' => (JoinS.joinNo (some a1) (some a2) (some b1) (some b2) n1 n1 n2 n2 m1 m1 m2 m2 we ho we' ho' w h h' (fun e => by cases e) (fun e => by cases e) (fun e => by cases e) (fun e => by cases e) hg hg' hj).mono fun _ _ => toAns)
            (Lib.hid fun a1 a2 b1 b2 w h h' => (JoinI.joinNo (some a1) (some a2) (some b1) (some b2) n1 n1 n2 n2 m1 m1 m2 m2 we ho we' ho' w h h' (fun e => by cases e) (fun e => by cases e) (fun e => by cases e) (fun e => by cases e) hg hg' hj).mono fun _ _ => toAns)
      · exact walkAux A1 A2 B1 B2 n1 c1 n2 c2 m1 e1 m2 e2 _ _ we ho we' ho' [] [] false w h1 h2 h3 h4 rfl rfl hm (Nat.zero_le _) (Nat.zero_le _) r1 r2 r3 r4
          (Lib.hid fun a1 a2 b1 b2 w h h' => (JoinS.joinBadB (some a1) (some a2) (some b1) (some b2) n1 n1 n2 n2 m1 m1 m2 m2 we ho we' ho' w h h' hg hg').mono fun _ _ => toAns)
          (Lib.hid fun a1 a2 b1 b2 w h h' => (JoinI.joinBadB (some a1) (some a2) (some b1) (some b2) n1 n1 n2 n2 m1 m1 m2 m2 we ho we' ho' w h h' hg hg').mono fun _ _ => toAns)
    · exact walkAux A1 A2 B1 B2 n1 c1 n2 c2 m1 e1 m2 e2 _ _ we ho we' ho' [] [] false w h1 h2 h3 h4 rfl rfl hm (Nat.zero_le _) (Nat.zero_le _) r1 r2 r3 r4
        (Lib.hid fun a1 a2 b1 b2 w h h' => (JoinS.joinBadA (some a1) (some a2) (some b1) (some b2) n1 n1 n2 n2 m1 m1 m2 m2 we ho we' ho' w h h' hg).mono fun _ _ => toAns)
        (Lib.hid fun a1 a2 b1 b2 w h h' => (JoinI.joinBadA (some a1) (some a2) (some b1) (some b2) n1 n1 n2 n2 m1 m1 m2 m2 we ho we' ho' w h h' hg).mono fun _ _ => toAns)
  · exact over A1 A2 B1 B2 n1 c1 n2 c2 m1 e1 m2 e2 q1 q2 q3 q4 (by omega) w

end Go.Proofs.Ytglpkanegehcbaa.JoinX
