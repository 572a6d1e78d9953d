import Derived.Test.YtdcnfbhfpfikjaaDoorRulesM
namespace Go.Proofs.YtdcnfbhfpfikjaaDoor
open Go.RowKit
theorem split2 {La Lb : List RAt} (hp : La.map RAt.plain = Lb.map RAt.plain) (j : Nat) (h : j < La.length) : ∃ D r T D' r' T', La = D ++ r :: T ∧ Lb = D' ++ r' :: T' ∧ D.length = j ∧ D'.length = j ∧ r.plain = r'.plain := by
  have hl : La.length = Lb.length := by simpa using congrArg List.length hp
  obtain ⟨D, r, T, e1, h1⟩ := split1 La j h
  obtain ⟨D', r', T', e2, h2⟩ := split1 Lb j (by omega)
  refine ⟨D, r, T, D', r', T', e1, e2, h1, h2, ?_⟩
  subst e1 e2
  have := congrArg (fun l => l[j]?) hp
  simp only [List.map_append, List.map_cons] at this
  rw [List.getElem?_append_right (by simp; omega), List.getElem?_append_right (by simp; omega)] at this
  simpa [h1, h2] using this
end Go.Proofs.YtdcnfbhfpfikjaaDoor
