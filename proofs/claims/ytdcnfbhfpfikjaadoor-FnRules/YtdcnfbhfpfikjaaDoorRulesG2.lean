import Derived.Test.YtdcnfbhfpfikjaaDoorFitsG
namespace Go.Proofs.YtdcnfbhfpfikjaaDoor
open Go.RowKit
open Go.Lib (decDigits)
theorem dig100 : decDigits 100 = [49, 48, 48] := by
  rw [decDigits, dif_neg (by decide), decDigits, dif_neg (by decide), decDigits, dif_pos (by decide)]; rfl
theorem dig1000 : decDigits 1000 = [49, 48, 48, 48] := by
  rw [decDigits, dif_neg (by decide), show 1000 / 10 = 100 from rfl, dig100]; rfl
theorem dig1 : decDigits 1 = [49] := by rw [decDigits, dif_pos (by decide)]; rfl
theorem dig0 : decDigits 0 = [48] := by rw [decDigits, dif_pos (by decide)]; rfl
theorem num100 : numB [49, 48, 48] = true := (numB_iff _).2 ⟨100, by omega, dig100.symm⟩
theorem num1000 : numB [49, 48, 48, 48] = true := (numB_iff _).2 ⟨1000, by omega, dig1000.symm⟩
theorem num1 : numB [49] = true := (numB_iff _).2 ⟨1, by omega, dig1.symm⟩
theorem num0 : numB [48] = true := (numB_iff _).2 ⟨0, by omega, dig0.symm⟩
theorem nameZ : nameB [122] = true := by decide
theorem nameCore : nameB [99, 111, 114, 101] = true := by decide
theorem apartNone : apartB [110, 111, 110, 101] = true := by decide
theorem yesNo : yesB [110, 111] = true := by decide
/-- What a key is by default fits it. -/
def GoodR (R : List Plain) : Prop := ∀ p ∈ R, p.2.2.1 = false → fitsIn R p.1 p.2.2.2 = true
set_option maxHeartbeats 1000000 in
theorem good_team : GoodR teamRules := by
  intro p hp
  simp only [teamRules, List.mem_cons, List.not_mem_nil, or_false] at hp
  rcases hp with rfl | rfl <;> intro _ <;> simp [fitsIn, pickR, teamRules, fitsWords, fitsB, ByteArray.toList_eq, num100, num1000]
set_option maxHeartbeats 1000000 in
theorem good_berth : GoodR berthRules := by
  intro p hp
  simp only [berthRules, List.mem_cons, List.not_mem_nil, or_false] at hp
  rcases hp with rfl | rfl | rfl | rfl <;> intro hm <;> first | (cases hm; done) | simp [fitsIn, pickR, berthRules, fitsWords, fitsB, ByteArray.toList_eq, num100, nameZ]
set_option maxHeartbeats 2000000 in
theorem good_service : GoodR serviceRules := by
  intro p hp
  simp only [serviceRules, List.mem_cons, List.not_mem_nil, or_false] at hp
  rcases hp with rfl | rfl | rfl | rfl | rfl | rfl | rfl | rfl | rfl | rfl | rfl | rfl <;> intro hm <;> first | (cases hm; done) | simp [fitsIn, pickR, serviceRules, fitsWords, fitsB, ByteArray.toList_eq, num1, num0, nameCore, apartNone, yesNo]
theorem rulesOf_good (kind : ByteArray) : GoodR (rulesOf kind) := by
  unfold rulesOf
  split
  · exact good_team
  · split
    · exact good_berth
    · split
      · exact good_service
      · intro p hp; simp at hp
def SmallD (R : List Plain) : Prop := ∀ p ∈ R, p.2.2.2.length ≤ 3 ∧ ∀ d ∈ p.2.2.2, d.length ≤ 200
theorem rulesOf_smallD (kind : ByteArray) : SmallD (rulesOf kind) := by
  unfold rulesOf
  split
  · unfold SmallD; decide
  · split
    · unfold SmallD; decide
    · split
      · unfold SmallD; decide
      · intro p hp; simp at hp
end Go.Proofs.YtdcnfbhfpfikjaaDoor
