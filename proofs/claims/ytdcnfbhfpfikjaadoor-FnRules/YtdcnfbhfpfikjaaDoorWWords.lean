import Derived.Test.YtdcnfbhfpfikjaaDoorBase
namespace Go.Proofs.YtdcnfbhfpfikjaaDoor
open Go.RowKit
set_option maxHeartbeats 1000000 in
set_option maxRecDepth 100000 in
theorem wWords_any (A B g h cap cap' n : Nat) (xs : List (List UInt8)) (w : World) (ha : w.ownsRow A 9 1 (.slice (some ⟨g, 0, none⟩) n cap) n (strs xs)) (hb : w.ownsRow B 9 1 (.slice (some ⟨h, 0, none⟩) n cap') n (strs xs)) (hn : n ≤ 1048576) :
    Calls Tryd.prog 9 #[.slice (some ⟨g, 0, none⟩) n cap, .slice (some ⟨h, 0, none⟩) n cap'] w fun e w' => e = .returned (.bool true) ∧ ∃ q, w' = w.drewN q := by
  have hxl : xs.length = n := by have := ha.1; rw [strs_length] at this; omega
  have hn0 : ((n : Int) != (n : Int)) = false := by simp
  go_enter Tryd.func9, Tryd.ntmps9
  go_wp2
  go_loopw [5] (fun i wr => ∃ j q : Nat, j ≤ n ∧ i = .int .i64 (j : Int) ∧ wr = w.drewN q) (fun i _ => n - (intOf i).toNat)
  case atStart => exact ⟨0, 0, by omega, rfl, rfl⟩
  case round =>
    obtain ⟨j, q, hj, rfl, rfl⟩ := hrel
    by_cases hlt : j < n
    · have ca := ha.cellAt j (by omega)
      have cb := hb.cellAt j (by omega)
      rw [strs_at xs j (by omega)] at ca cb
      generalize (⟨(xs[j]'(by omega)).toArray⟩ : ByteArray) = x at *
      go_wp2
      go_quiet (fail)
      go_wp2
      go_roundw
      case rel => exact ⟨j + 1, _, by omega, by go_num, by first | rfl | exact World.drewN_drewN _ _ _⟩
      case measure => simp [intOf]; omega
    · obtain rfl : j = n := by omega
      go_wp2
      go_ret
      exact ⟨rfl, q, rfl⟩
set_option maxHeartbeats 400000 in
theorem wWords_zero (ao bo : Option Addr) (cap cap' : Nat) (w : World) : Calls Tryd.prog 9 #[.slice ao 0 cap, .slice bo 0 cap'] w fun e w' => e = .returned (.bool true) ∧ ∃ q, w' = w.drewN q := by
  go_enter Tryd.func9, Tryd.ntmps9
  go_wp2
  refine wp_loop_rounds 1 ?_
  rw [rounds_succ]
  go_wp2
  go_ret
  exact ⟨rfl, 0, rfl⟩
/-- Two rows with the same words. -/
theorem wWords_own {A B n : Nat} {va vb : Value} {xs : List (List UInt8)} {w : World} (ha : w.ownsRow A 9 1 va n (strs xs)) (hb : w.ownsRow B 9 1 vb n (strs xs)) (hn : n ≤ 1048576) :
    Calls Tryd.prog 9 #[va, vb] w fun e w' => e = .returned (.bool true) ∧ ∃ q, w' = w.drewN q := by
  obtain ⟨ao, cap, rfl, h1⟩ := own_form ha
  obtain ⟨bo, cap', rfl, h2⟩ := own_form hb
  by_cases h0 : n = 0
  · subst h0; exact wWords_zero _ _ _ _ _
  · rcases h1 with h1 | ⟨g, rfl⟩
    · exact absurd h1 h0
    · rcases h2 with h2 | ⟨h, rfl⟩
      · exact absurd h2 h0
      · exact wWords_any _ _ _ _ _ _ _ _ _ ha hb hn
end Go.Proofs.YtdcnfbhfpfikjaaDoor
