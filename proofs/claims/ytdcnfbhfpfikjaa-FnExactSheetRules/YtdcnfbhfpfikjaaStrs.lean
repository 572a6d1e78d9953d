import Derived.Test.YtdcnfbhfpfikjaaWordsF
namespace Go.Proofs.Ytdcnfbhfpfikjaa
open Go.RowKit
theorem own_form {w : World} {base : Nat} {e : TypeId} {size : Nat} {v : Value} {n : Nat} {xs : List Value} (h : w.ownsRow base e size v n xs) : ∃ ao cap, v = .slice ao n cap ∧ (n = 0 ∨ ∃ g, ao = some ⟨g, 0, none⟩) := by
  rcases h.2 with ⟨rfl, rfl⟩ | ⟨g, cap, cur, rfl, _⟩
  · exact ⟨none, 0, rfl, Or.inl rfl⟩
  · exact ⟨_, _, rfl, Or.inr ⟨g, rfl⟩⟩
set_option maxHeartbeats 400000 in
theorem eqStrings_zero (ao bo : Option Addr) (cap cap' : Nat) (w : World) : Calls Try.prog 32 #[.slice ao 0 cap, .slice bo 0 cap'] w fun e w' => e = .returned (.bool true) ∧ ∃ q, w' = w.drewN q := by
  go_enter Try.func32, Try.ntmps32
  go_wp2
  refine wp_loop_rounds 1 ?_
  rw [rounds_succ]
  go_wp2
  go_ret
  exact ⟨rfl, 0, rfl⟩
set_option maxHeartbeats 400000 in
theorem markStrings_zero (ao : Option Addr) (cap k : Nat) (w : World) : Calls Try.prog 24 #[.slice ao 0 cap, .int .i64 (k : Int)] w fun e w' => e = .returned (.int .i64 (k : Int)) ∧ w' = w := by
  go_enter Try.func24, Try.ntmps24
  go_wp2
  refine wp_loop_rounds 1 ?_
  rw [rounds_succ]
  go_wp2
  go_ret
  exact ⟨rfl, rfl⟩
set_option maxHeartbeats 400000 in
theorem heldStrings_zero (ao : Option Addr) (cap k : Nat) (w : World) : Calls Try.prog 26 #[.slice ao 0 cap, .int .i64 (k : Int)] w fun e w' => e = .returned (.int .i64 (k : Int)) ∧ w' = w := by
  go_enter Try.func26, Try.ntmps26
  go_wp2
  refine wp_loop_rounds 1 ?_
  rw [rounds_succ]
  go_wp2
  go_ret
  exact ⟨rfl, rfl⟩
/-- Two rows with the same words. -/
theorem eqStrings_own {A B n : Nat} {va vb : Value} {xs : List (List UInt8)} {w : World} (ha : w.ownsRow A 9 1 va n (strs xs)) (hb : w.ownsRow B 9 1 vb n (strs xs)) (hn : n ≤ 1048576) :
    Calls Try.prog 32 #[va, vb] w fun e w' => e = .returned (.bool true) ∧ ∃ q, w' = w.drewN q := by
  obtain ⟨ao, cap, rfl, h1⟩ := own_form ha
  obtain ⟨bo, cap', rfl, h2⟩ := own_form hb
  by_cases h0 : n = 0
  · subst h0; exact eqStrings_zero _ _ _ _ _
  · rcases h1 with h1 | ⟨g, rfl⟩
    · exact absurd h1 h0
    · rcases h2 with h2 | ⟨h, rfl⟩
      · exact absurd h2 h0
      · exact eqStrings_any _ _ _ _ _ _ _ _ _ ha hb hn
theorem markStrings_own {B n k : Nat} {v : Value} {xs : List Value} {w : World} (hown : w.ownsRow B 9 1 v n xs) (h1 : 1 ≤ k) (h2 : k + n ≤ 4294967296) :
    Calls Try.prog 24 #[v, .int .i64 (k : Int)] w fun e w' => e = .returned (.int .i64 ((k : Int) + (n : Int))) ∧ w'.ownsRow B 9 1 v n (strs (marks k n)) ∧ w.grownBy w' v.ownBlock := by
  obtain ⟨ao, cap, rfl, hf⟩ := own_form hown
  by_cases h0 : n = 0
  · subst h0
    refine (markStrings_zero ao cap k w).mono ?_
    rintro e w' ⟨rfl, rfl⟩
    refine ⟨by simp, ?_, World.grownBy.refl _ _⟩
    have : xs = strs (marks k 0) := by have := hown.1; simp at this; subst this; rfl
    rw [← this]; exact hown
  · rcases hf with hf | ⟨g, rfl⟩
    · exact absurd hf h0
    · exact markStrings_any B g cap n k xs w hown h1 h2
theorem heldStrings_own {B n k : Nat} {v : Value} {w : World} (hown : w.ownsRow B 9 1 v n (strs (marks k n))) (h1 : 1 ≤ k) (h2 : k + n ≤ 4294967296) :
    Calls Try.prog 26 #[v, .int .i64 (k : Int)] w fun e w' => e = .returned (.int .i64 ((k : Int) + (n : Int))) ∧ Below w.heap.size w w' := by
  obtain ⟨ao, cap, rfl, hf⟩ := own_form hown
  by_cases h0 : n = 0
  · subst h0
    refine (heldStrings_zero ao cap k w).mono ?_
    rintro e w' ⟨rfl, rfl⟩
    exact ⟨by simp, Below.refl _ _⟩
  · rcases hf with hf | ⟨g, rfl⟩
    · exact absurd hf h0
    · exact heldStrings_any B g cap n k w hown h1 h2
end Go.Proofs.Ytdcnfbhfpfikjaa
