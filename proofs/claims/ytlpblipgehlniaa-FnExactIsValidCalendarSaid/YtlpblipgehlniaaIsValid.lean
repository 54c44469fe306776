/-
  The walk of the law FnExactIsValidCalendar, at every calendar.
-/
import Derived.Test.YtlpblipgehlniaaIsValidCalendarW
namespace Go.Proofs.Ytlpblipgehlniaa.IsValid
open Go.RowKit Go.Proofs.Ytlpblipgehlniaa.IRow Go.Proofs.Ytlpblipgehlniaa.Cal Go.Proofs.Ytlpblipgehlniaa.Biz Go.Proofs.Ytlpblipgehlniaa.Asc Go.Proofs.Ytlpblipgehlniaa.CalLaw

theorem specValid (A1 A2 : Option Addr) (n1 c1 n2 c2 : Nat) (we ho : List Int) (w : World) (h : Cl w w.heap.size A1 n1 A2 n2 we ho) :
    Calls Try.prog 19 #[.agg #[.slice A1 n1 c1, .slice A2 n2 c2]] w fun e w' => e = .returned (.bool (decide (GoodC we ho))) ∧ Below w.heap.size w w' := by
  have b1 := below1 w (.cells #[.slice A1 n1 c1, .slice A2 n2 c2] 26)
  by_cases hg : GoodC we ho
  · rw [decide_eq_true hg]
    have H := Lib.hid (goodYes A1 A2 n1 c1 n2 c2 we ho (w.alloc (.cells #[.slice A1 n1 c1, .slice A2 n2 c2] 26)) w.heap.size (h.below b1) (by simp) hg)
    clear h hg b1
    go_enter Try.func19, Try.ntmps19
    go_wp2_with (go_at_call 33; refine H.out.mono ?_; rintro e w' ⟨rfl, m, rfl⟩)
    go_ret
    exact ⟨rfl, below_drewN ((below1 _ _).alloc (by simp) _) _⟩
  · rw [decide_eq_false hg]
    have H := Lib.hid (goodNo A1 A2 n1 c1 n2 c2 we ho (w.alloc (.cells #[.slice A1 n1 c1, .slice A2 n2 c2] 26)) w.heap.size (h.below b1) (by simp) hg)
    clear h hg b1
    go_enter Try.func19, Try.ntmps19
    go_wp2_with (go_at_call 33; refine H.out.mono ?_; rintro e w' ⟨rfl, m, rfl⟩)
    go_ret
    exact ⟨rfl, below_drewN ((below1 _ _).alloc (by simp) _) _⟩

theorem implValid (A1 A2 : Option Addr) (n1 c1 n2 c2 : Nat) (we ho : List Int) (w : World) (h : Cl w w.heap.size A1 n1 A2 n2 we ho) :
    Calls Try.prog 21 #[.agg #[.slice A1 n1 c1, .slice A2 n2 c2]] w fun e w' => e = .returned (.bool (decide (GoodC we ho))) ∧ Below w.heap.size w w' := by
  by_cases hg : GoodC we ho
  · rw [decide_eq_true hg]
    exact (validYes A1 A2 n1 c1 n2 c2 we ho w _ h (Nat.le_refl _) hg).mono fun _ _ ⟨a, b⟩ => ⟨a, by rw [← b]; exact below1 _ _⟩
  · rw [decide_eq_false hg]
    exact (validNo A1 A2 n1 c1 n2 c2 we ho w _ h (Nat.le_refl _) hg).mono fun _ _ ⟨a, b⟩ => ⟨a, by rw [← b]; exact below1 _ _⟩

theorem walk (A1 A2 : Option Addr) (n1 c1 n2 c2 : Nat) (we ho : List Int) (w : World) (h1 : n1 = we.length) (q1 : n1 ≤ maxLen) (r1 : Is w w.heap.size A1 we) (h2 : n2 = ho.length) (q2 : n2 ≤ maxLen) (r2 : Is w w.heap.size A2 ho) :
    Calls Try.prog 4 #[.agg #[.slice A1 n1 c1, .slice A2 n2 c2]] w fun e w' => e = .returned (.bool true) ∧ Below w.heap.size w w' := by
  by_cases hm : n1 + n2 ≤ 1048576
  · exact IsValidCalendarW.walkAux A1 A2 n1 c1 n2 c2 we ho (decide (GoodC we ho)) w h1 h2 hm r1 r2 (Lib.hid fun B1 B2 w h => specValid B1 B2 n1 n1 n2 n2 we ho w h) (Lib.hid fun B1 B2 w h => implValid B1 B2 n1 n1 n2 n2 we ho w h)
  · exact IsValidCalendarW.over A1 A2 n1 c1 n2 c2 q1 q2 (by omega) w

end Go.Proofs.Ytlpblipgehlniaa.IsValid
