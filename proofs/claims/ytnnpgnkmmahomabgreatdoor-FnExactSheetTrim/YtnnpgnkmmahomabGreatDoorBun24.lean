import Derived.Test.YtnnpgnkmmahomabGreatDoorBun23
import Derived.Test.YtnnpgnkmmahomabGreatDoorBun16
namespace Go.Proofs.YtnnpgnkmmahomabGreatDoor
open Go.RowKit
theorem words_same (xs ys : List (List UInt8)) : (!decide (xs < ys) && !decide (ys < xs)) = decide (xs = ys) := by
  by_cases h : xs = ys
  · subst h
    have := Tot.irr xs
    simp [this]
  · by_cases h1 : xs < ys
    · simp [h, h1]
    · by_cases h2 : ys < xs
      · simp [h, h2]
      · exact absurd (Tot.tri _ _ h1 h2) h
set_option maxHeartbeats 1000000 in
set_option maxRecDepth 100000 in
theorem l3Words_any {va vb : Value} {xs ys : List (List UInt8)} {w : World} (h1 : HasRow w va xs.length 1 (strs xs)) (h2 : HasRow w vb ys.length 1 (strs ys)) (hn : xs.length ≤ 1048576) (hm : ys.length ≤ 1048576) : Calls Tryz.prog 60 #[va, vb] w fun e w' => e = .returned (.bool (decide (xs = ys))) ∧ Below w.heap.size w w' := by
  obtain ⟨ao, ca, rfl⟩ := h1.form
  obtain ⟨bo, cb, rfl⟩ := h2.form
  have HL := fun W hW => l3Less_any (w := W) (h1.below hW) (h2.below hW) hn hm
  have HM := fun W hW => l3Less_any (w := W) (h2.below hW) (h1.below hW) hm hn
  have hE := words_same xs ys
  generalize decide (xs = ys) = E at *
  clear h1 h2
  generalize xs.length = n at *
  generalize ys.length = m at *
  cases hd : decide (xs < ys)
  · rw [hd] at HL hE
    go_enter Tryz.func60, Tryz.ntmps60
    go_wp2_with (go_at_call 119; refine (HL _ (Below.refl _ _)).mono ?_)
    first | rintro e w2 rfl q rfl | rintro e w2 ⟨rfl, q, rfl⟩
    have B1 : Below w.heap.size w (w.drewN q) := below_drewN (Below.refl _ _) q
    have HM2 := HM _ B1
    have hE2 := hid_in hE
    clear HL hE
    generalize decide (ys < xs) = E2 at *
    go_wp2_with (go_at_call 119; refine HM2.mono ?_)
    first | rintro e w3 rfl q3 rfl | rintro e w3 ⟨rfl, q3, rfl⟩
    clear HM HM2
    go_wp2
    go_ret
    exact ⟨ret_bool (by have := hE2.out; simpa using this), below_drewN (Below.refl _ _) _⟩
  · rw [hd] at HL hE
    have hE2 := hid_in hE
    clear HM hE
    go_enter Tryz.func60, Tryz.ntmps60
    go_wp2_with (go_at_call 119; refine (HL _ (Below.refl _ _)).mono ?_)
    first | rintro e w2 rfl q rfl | rintro e w2 ⟨rfl, q, rfl⟩
    have B1 : Below w.heap.size w (w.drewN q) := below_drewN (Below.refl _ _) q
    clear HL
    go_wp2
    go_ret
    exact ⟨ret_bool (by have := hE2.out; simpa using this), B1⟩
end Go.Proofs.YtnnpgnkmmahomabGreatDoor
