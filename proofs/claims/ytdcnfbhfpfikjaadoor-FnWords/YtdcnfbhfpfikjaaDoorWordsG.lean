import Derived.Test.YtdcnfbhfpfikjaaDoorWordsF
namespace Go.Proofs.YtdcnfbhfpfikjaaDoor
open Go.RowKit
theorem own_form {w : World} {base : Nat} {e : TypeId} {size : Nat} {v : Value} {n : Nat} {xs : List Value} (h : w.ownsRow base e size v n xs) : ∃ ao cap, v = .slice ao n cap ∧ (n = 0 ∨ ∃ g, ao = some ⟨g, 0, none⟩) := by
  rcases h.2 with ⟨rfl, rfl⟩ | ⟨g, cap, cur, rfl, _⟩
  · exact ⟨none, 0, rfl, Or.inl rfl⟩
  · exact ⟨_, _, rfl, Or.inr ⟨g, rfl⟩⟩
set_option maxHeartbeats 400000 in
theorem eqStrings_zero (ao bo : Option Addr) (cap cap' : Nat) (w : World) : Calls Tryd.prog 46 #[.slice ao 0 cap, .slice bo 0 cap'] w fun e w' => e = .returned (.bool true) ∧ ∃ q, w' = w.drewN q := by
  go_enter Tryd.func46, Tryd.ntmps46
  go_wp2
  refine wp_loop_rounds 1 ?_
  rw [rounds_succ]
  go_wp2
  go_ret
  exact ⟨rfl, 0, rfl⟩
set_option maxHeartbeats 400000 in
theorem markStrings_zero (ao : Option Addr) (cap k : Nat) (w : World) : Calls Tryd.prog 47 #[.slice ao 0 cap, .int .i64 (k : Int)] w fun e w' => e = .returned (.int .i64 (k : Int)) ∧ w' = w := by
  go_enter Tryd.func47, Tryd.ntmps47
  go_wp2
  refine wp_loop_rounds 1 ?_
  rw [rounds_succ]
  go_wp2
  go_ret
  exact ⟨rfl, rfl⟩
set_option maxHeartbeats 400000 in
theorem heldStrings_zero (ao : Option Addr) (cap k : Nat) (w : World) : Calls Tryd.prog 48 #[.slice ao 0 cap, .int .i64 (k : Int)] w fun e w' => e = .returned (.int .i64 (k : Int)) ∧ w' = w := by
  go_enter Tryd.func48, Tryd.ntmps48
  go_wp2
  refine wp_loop_rounds 1 ?_
  rw [rounds_succ]
  go_wp2
  go_ret
  exact ⟨rfl, rfl⟩
/-- Two rows with the same words. -/
theorem eqStrings_own {A B n : Nat} {va vb : Value} {xs : List (List UInt8)} {w : World} (ha : w.ownsRow A 9 1 va n (strs xs)) (hb : w.ownsRow B 9 1 vb n (strs xs)) (hn : n ≤ 1048576) :
    Calls Tryd.prog 46 #[va, vb] w fun e w' => e = .returned (.bool true) ∧ ∃ q, w' = w.drewN q := by
  obtain ⟨ao, cap, rfl, h1⟩ := own_form ha
  obtain ⟨bo, cap', rfl, h2⟩ := own_form hb
  by_cases h0 : n = 0
  · subst h0; exact eqStrings_zero _ _ _ _ _
  · rcases h1 with h1 | ⟨g, rfl⟩
    · exact absurd h1 h0
    · rcases h2 with h2 | ⟨h, rfl⟩
      · exact absurd h2 h0
      · exact eqStrings_any _ _ _ _ _ _ _ _ _ ha hb hn
theorem markStrings_own {B n k : Nat} {v : Value} {xs : List Value} {w : World} (hown : w.ownsRow B 9 1 v n xs) (h1 : 1 ≤ k) (h2 : k + n ≤ 4294967296) :
    Calls Tryd.prog 47 #[v, .int .i64 (k : Int)] w fun e w' => e = .returned (.int .i64 ((k : Int) + (n : Int))) ∧ w'.ownsRow B 9 1 v n (strs (marks k n)) ∧ w.grownBy w' v.ownBlock := by
  obtain ⟨ao, cap, rfl, hf⟩ := own_form hown
  by_cases h0 : n = 0
  · subst h0
    refine (markStrings_zero ao cap k w).mono ?_
    rintro e w' ⟨rfl, rfl⟩
    refine ⟨by simp, ?_, World.grownBy.refl _ _⟩
    have : xs = strs (marks k 0) := by have := hown.1; simp at this; subst this; rfl
    rw [← this]; exact hown
  · rcases hf with hf | ⟨g, rfl⟩
    · exact absurd hf h0
    · exact markStrings_any B g cap n k xs w hown h1 h2
theorem heldStrings_own {B n k : Nat} {v : Value} {w : World} (hown : w.ownsRow B 9 1 v n (strs (marks k n))) (h1 : 1 ≤ k) (h2 : k + n ≤ 4294967296) :
    Calls Tryd.prog 48 #[v, .int .i64 (k : Int)] w fun e w' => e = .returned (.int .i64 ((k : Int) + (n : Int))) ∧ Below w.heap.size w w' := by
  obtain ⟨ao, cap, rfl, hf⟩ := own_form hown
  by_cases h0 : n = 0
  · subst h0
    refine (heldStrings_zero ao cap k w).mono ?_
    rintro e w' ⟨rfl, rfl⟩
    exact ⟨by simp, Below.refl _ _⟩
  · rcases hf with hf | ⟨g, rfl⟩
    · exact absurd hf h0
    · exact heldStrings_any B g cap n k w hown h1 h2
set_option maxHeartbeats 400000 in
theorem eqCut_own {A B n : Nat} {ao bo : Option Addr} {cap cap' : Nat} {xs : List (List UInt8)} {b : Bool} {w : World} (ha : w.ownsRow A 9 1 (.slice ao n cap) n (strs xs)) (hb : w.ownsRow B 9 1 (.slice bo n cap') n (strs xs)) (hn : n ≤ 1048576) :
    Calls Tryd.prog 19 #[.agg #[.slice ao n cap, .bool b], .agg #[.slice bo n cap', .bool b]] w fun e w' => e = .returned (.bool true) ∧ Below w.heap.size w w' := by
  have H := eqStrings_own ((ha.alloc (.cells #[.slice ao n cap, .bool b] 26)).alloc (.cells #[.slice bo n cap', .bool b] 26)) ((hb.alloc (.cells #[.slice ao n cap, .bool b] 26)).alloc (.cells #[.slice bo n cap', .bool b] 26)) hn
  have hbb : (b != b) = false := by simp
  go_enter Tryd.func19, Tryd.ntmps19
  go_wp2_with (go_at_call 46; refine H.mono ?_)
  rintro e w' ⟨rfl, q, rfl⟩
  go_wp2
  go_ret
  exact ⟨rfl, below_drewN (((Below.refl _ w).alloc (Nat.le_refl _) _).alloc (by simp) _) q⟩
set_option maxHeartbeats 400000 in
theorem markCut_own {B n k : Nat} {ao : Option Addr} {cap : Nat} {xs : List Value} {b : Bool} {w : World} (hown : w.ownsRow B 9 1 (.slice ao n cap) n xs) (h1 : 1 ≤ k) (h2 : k + n ≤ 4294967296) :
    Calls Tryd.prog 20 #[.agg #[.slice ao n cap, .bool b], .int .i64 (k : Int)] w fun e w' => e = .returned (.int .i64 ((k : Int) + (n : Int))) ∧ w'.ownsRow B 9 1 (.slice ao n cap) n (strs (marks k n)) ∧ w.grownBy w' (Value.slice ao n cap).ownBlock := by
  have H := markStrings_own (k := k) (hown.alloc (.cells #[.slice ao n cap, .bool b] 26)) h1 h2
  go_enter Tryd.func20, Tryd.ntmps20
  go_wp2_with (go_at_call 47; refine H.mono ?_)
  rintro e w' ⟨rfl, ho, hg⟩
  go_wp2
  go_ret
  exact ⟨rfl, ho, grown_trans (World.grownBy_alloc _ _ _) hg⟩
set_option maxHeartbeats 400000 in
theorem heldCut_own {B n k : Nat} {ao : Option Addr} {cap : Nat} {b : Bool} {w : World} (hown : w.ownsRow B 9 1 (.slice ao n cap) n (strs (marks k n))) (h1 : 1 ≤ k) (h2 : k + n ≤ 4294967296) :
    Calls Tryd.prog 21 #[.agg #[.slice ao n cap, .bool b], .int .i64 (k : Int)] w fun e w' => e = .returned (.int .i64 ((k : Int) + (n : Int))) ∧ Below w.heap.size w w' := by
  have H := heldStrings_own (hown.alloc (.cells #[.slice ao n cap, .bool b] 26)) h1 h2
  have hpos : (0 : Int) ≤ (k : Int) + (n : Int) := by omega
  go_enter Tryd.func21, Tryd.ntmps21
  go_wp2_with (go_at_call 48; refine H.mono ?_)
  rintro e w' ⟨rfl, hb⟩
  go_wp2
  go_ret
  exact ⟨rfl, ((Below.refl _ w).alloc (Nat.le_refl _) _).trans (hb.mono (by simp))⟩
end Go.Proofs.YtdcnfbhfpfikjaaDoor
