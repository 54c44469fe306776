/-
  What the program's checks of a contract come to, in plain facts.
-/
import Derived.Test.YtlionlbihmldlaaClNu
namespace Go.Proofs.Ytlionlbihmldlaa.Cl
open Go.RowKit Go.Proofs.Ytlionlbihmldlaa.Cond Go.Proofs.Ytlionlbihmldlaa.Gx Go.Proofs.Ytlionlbihmldlaa.NdI Go.Proofs.Ytlionlbihmldlaa.NdS Go.Proofs.Ytlionlbihmldlaa.SrtR
set_option linter.unusedVariables false

theorem cols_nms : ∀ (cs : List C) (s : Sg), (∀ c ∈ cs, ∃ q : Q, c = q.c) → (cols cs s).1 = s.1 ++ cs.flatMap nms
  | [], s, _ => by simp [cols]
  | c :: cs, s, h => by
    obtain ⟨q, rfl⟩ := h c (by simp)
    have h2 := cols_nms cs (col q.c s) (fun c hc => h c (by simp [hc]))
    show (cols cs (col q.c s)).1 = _
    rw [h2, col_q]; simp
theorem names_all (ls : List L) : UniTM.uni [] (UniTM.uni [] (ls.flatMap fun x => nms x.c) ++ ls.map fun x => x.act.toList) = Cl.names ls := by
  refine UniTM.eq_of_mem (UniTM.pair_uni _ List.Pairwise.nil) (UniTM.pair_uni _ List.Pairwise.nil) fun m => ?_
  rw [show Cl.names ls = UniTM.uni [] (nmsC ls) from rfl]
  simp only [UniTM.mem_uni, List.mem_append, nmsC, List.mem_flatMap, List.mem_map, List.mem_cons, List.not_mem_nil, false_or]
  constructor
  · rintro (⟨x, hx, h⟩ | ⟨x, hx, h⟩)
    · exact ⟨x, hx, .inr h⟩
    · exact ⟨x, hx, .inl h.symm⟩
  · rintro ⟨x, hx, h | h⟩
    · exact .inr ⟨x, hx, h.symm⟩
    · exact .inl ⟨x, hx, h⟩
theorem names_pure (ls : List L) (h : ∀ x ∈ ls, x.c.good = true) :
    Lib.compact (srtT (Lib.compact (srtT (cols (ls.map L.c) ([], [])).1) ++ ls.map fun x => x.act.toList)) = Cl.names ls := by
  rw [comp_nms, comp_nms, cols_nms, ← names_all]
  · simp [List.flatMap_map]
  · intro c hc
    obtain ⟨x, hx, rfl⟩ := List.mem_map.1 hc
    obtain ⟨q, hq, _, _⟩ := good_q (h x hx)
    exact ⟨q, hq⟩

/-- A clause by itself; np parties. -/
def okV (np : Nat) (x : L) : Bool := okC np x && okA x && (!decide (x.kind = 3) || decide (x.rep.toList = []))
/-- Its Repair. -/
def okP (ls : List L) (i : Nat) (x : L) : Bool := decide (x.rep.toList = []) || (decide (fnd ls x.rep < ls.length) && !decide (fnd ls x.rep = i) && decide (kindAt ls (fnd ls x.rep) = 1))
theorem okL_is (np : Nat) (ls : List L) (i : Nat) (x : L) : okL np ls i x = (okV np x && okP ls i x) := by
  unfold okL okV okP okR
  cases okC np x <;> cases okA x <;> cases decide (x.rep.toList = []) <;> cases decide (x.kind = 3) <;> simp
theorem fnd_take {ls : List L} {i : Nat} (hi : i < ls.length) : fnd ls ls[i].id = i ↔ ¬ fnd (ls.take i) ls[i].id < (ls.take i).length := by
  have hl : (ls.take i).length = i := by simp; omega
  have e : ls = ls.take i ++ (ls[i] :: ls.drop (i + 1)) := by simp
  have h1 : hasId ls[i].id ls[i] = true := decide_eq_true rfl
  have h2 : fnd ls ls[i].id = if fnd (ls.take i) ls[i].id < (ls.take i).length then fnd (ls.take i) ls[i].id else i := by
    have h3 : fnd (ls.take i ++ (ls[i] :: ls.drop (i + 1))) ls[i].id = if fnd (ls.take i) ls[i].id < (ls.take i).length then fnd (ls.take i) ls[i].id else i := by
      unfold fnd
      rw [List.findIdx_append]
      split
      · rfl
      · rw [List.findIdx_cons, h1, hl]; simp
    rwa [← e] at h3
  rw [h2]
  split
  · constructor <;> intro _ <;> omega
  · exact ⟨fun _ => ‹_›, fun _ => rfl⟩
theorem okI_is {np : Nat} {ls : List L} {i : Nat} (hi : i < ls.length) : okI np ls i ls[i] = (!numB (ls.take i) ls[i].id && okV np ls[i] && okP ls i ls[i]) := by
  unfold okI
  rw [okL_is, ← Bool.and_assoc]
  congr 1
  congr 1
  unfold numB
  rw [decide_eq_decide.2 (fnd_take hi), decide_not]
theorem take_snoc {ls : List L} {i : Nat} (hi : i < ls.length) : ls.take i ++ [ls[i]] = ls.take (i + 1) := by simp

end Go.Proofs.Ytlionlbihmldlaa.Cl
