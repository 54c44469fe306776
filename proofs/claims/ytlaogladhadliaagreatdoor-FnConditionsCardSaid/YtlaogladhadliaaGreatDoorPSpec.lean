/-
  ParseDate of the model; the walk of the law FnExactParseDate.
-/
import Derived.Test.YtlaogladhadliaaGreatDoorPImpl
namespace Go.Proofs.YtlaogladhadliaaGreatDoor.PSpec
open Go.RowKit Go.Proofs.YtlaogladhadliaaGreatDoor.Cal Go.Proofs.YtlaogladhadliaaGreatDoor.Tab Go.Proofs.YtlaogladhadliaaGreatDoor.Wd Go.Proofs.YtlaogladhadliaaGreatDoor.Len Go.Proofs.YtlaogladhadliaaGreatDoor.Valid Go.Proofs.YtlaogladhadliaaGreatDoor.DayOf Go.Proofs.YtlaogladhadliaaGreatDoor.DateOf Go.Proofs.YtlaogladhadliaaGreatDoor.FmtPlain Go.Proofs.YtlaogladhadliaaGreatDoor.LiesD Go.Proofs.YtlaogladhadliaaGreatDoor.DPlain Go.Proofs.YtlaogladhadliaaGreatDoor.PImpl Go.Proofs.YtlaogladhadliaaGreatDoor.IntText Go.Proofs.YtlaogladhadliaaGreatDoor.Plain
set_option linter.unusedVariables false
set_option linter.unusedSimpArgs false

theorem Ans.det {s : ByteArray} : ∃ (v : Int) (b : Bool), ∀ e, Ans s e → e = .returned (.tuple #[.int .i64 v, .bool b]) := by
  by_cases h : ∃ x, Is s.data.toList x
  · obtain ⟨x, hx⟩ := h
    refine ⟨x, true, fun e he => ?_⟩
    rcases he with ⟨y, hy, rfl⟩ | ⟨hn, rfl⟩
    · rw [hx.uniq hy]
    · exact absurd hx (hn x)
  · refine ⟨0, false, fun e he => ?_⟩
    rcases he with ⟨y, hy, rfl⟩ | ⟨hn, rfl⟩
    · exact absurd ⟨y, hy⟩ h
    · rfl

end Go.Proofs.YtlaogladhadliaaGreatDoor.PSpec
