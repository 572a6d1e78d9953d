import Derived.Test.YtdcnfbhfpfikjaaStrs
import Derived.Test.YtdcnfbhfpfikjaaMem
namespace Go.Proofs.Ytdcnfbhfpfikjaa
open Go.RowKit
/-- n marks from k on. -/
def marksI (k n : Nat) : List Int := (List.range n).map fun (i : Nat) => (k : Int) + (i : Int)
theorem marksI_length (k n : Nat) : (marksI k n).length = n := by simp [marksI]
theorem marksI_succ (k n : Nat) : marksI k (n + 1) = marksI k n ++ [(k : Int) + (n : Int)] := by simp [marksI, List.range_succ]
def partI (k i : Nat) (xs : List Value) : List Value := intsV (marksI k i) ++ xs.drop i
theorem partI_set (k i : Nat) (xs : List Value) (h : i < xs.length) : (partI k i xs).set i (.int .i64 ((k : Int) + (i : Int))) = partI k (i + 1) xs := by
  unfold partI
  have e : xs.drop i = xs[i] :: xs.drop (i + 1) := List.drop_eq_getElem_cons h
  have hl : (intsV (marksI k i)).length = i := by rw [intsV_length, marksI_length]
  rw [e, List.set_append_right _ _ (by omega), hl, Nat.sub_self, List.set_cons_zero, marksI_succ]
  simp [intsV]
theorem partI_zero (k : Nat) (xs : List Value) : partI k 0 xs = xs := by simp [partI, marksI, intsV]
theorem partI_all (k n : Nat) (xs : List Value) (h : xs.length = n) : partI k n xs = intsV (marksI k n) := by
  unfold partI; rw [List.drop_of_length_le (by omega), List.append_nil]
theorem ints_at (l : List Int) (j : Nat) (h : j < l.length) : (intsV l)[j]? = some (.int .i64 l[j]) := by simp [intsV, h]
theorem marksI_at (k n j : Nat) (h : j < n) : (intsV (marksI k n))[j]? = some (.int .i64 ((k : Int) + (j : Int))) := by simp [intsV, marksI, h]
set_option maxHeartbeats 1000000 in
set_option maxRecDepth 100000 in
theorem markInts_any (B g cap n k : Nat) (xs : List Value) (w : World) (hown : w.ownsRow B 3 1 (.slice (some ⟨g, 0, none⟩) n cap) n xs) (h2 : k + n ≤ 4294967296) :
    Calls Try.prog 23 #[.slice (some ⟨g, 0, none⟩) n cap, .int .i64 (k : Int)] w fun e w' => e = .returned (.int .i64 ((k : Int) + (n : Int))) ∧ w'.ownsRow B 3 1 (.slice (some ⟨g, 0, none⟩) n cap) n (intsV (marksI k n)) ∧ w.grownBy w' (some g) := by
  have hxl : xs.length = n := by have := hown.1; omega
  go_enter Try.func23, Try.ntmps23
  go_wp2
  go_loopw [1, 5] (fun q i wr => ∃ j : Nat, j ≤ n ∧ i = .int .i64 (j : Int) ∧ q = .int .i64 ((k : Int) + (j : Int)) ∧ wr.ownsRow B 3 1 (.slice (some ⟨g, 0, none⟩) n cap) n (partI k j xs) ∧ w.grownBy wr (some g)) (fun _ i _ => n - (intOf i).toNat)
  case atStart => exact ⟨0, by omega, rfl, by simp, by rw [partI_zero]; exact hown, World.grownBy.refl _ _⟩
  case round =>
    obtain ⟨j, hj, rfl, rfl, hown1, hgr⟩ := hrel
    by_cases hlt : j < n
    · have HP : Hid _ := partI_set k j xs (by omega)
      have hc := hown1.cellAt j (by omega)
      have hcs : ∃ u, (partI k j xs)[j]? = some u := ⟨_, List.getElem?_eq_getElem (by have := hown1.1; omega)⟩
      obtain ⟨u, hu⟩ := hcs
      rw [hu] at hc
      have hf := hown1.frozenAt j
      have hst := hown1.stored j (.int .i64 ((k : Int) + (j : Int)))
      clear hu
      go_wp2
      go_roundw
      case rel =>
        refine ⟨j + 1, by omega, by go_num, by go_num, ?_, grown_trans hgr hst.2⟩
        rw [← HP.out]; exact hst.1
      case measure => simp [intOf]; omega
    · obtain rfl : j = n := by omega
      rw [partI_all k j xs hxl] at hown1
      go_wp2
      go_ret
      exact ⟨rfl, hown1, hgr⟩
set_option maxHeartbeats 1000000 in
set_option maxRecDepth 100000 in
theorem heldInts_any (B g cap n k : Nat) (w : World) (hown : w.ownsRow B 3 1 (.slice (some ⟨g, 0, none⟩) n cap) n (intsV (marksI k n))) (h2 : k + n ≤ 4294967296) :
    Calls Try.prog 25 #[.slice (some ⟨g, 0, none⟩) n cap, .int .i64 (k : Int)] w fun e w' => e = .returned (.int .i64 ((k : Int) + (n : Int))) ∧ w' = w := by
  go_enter Try.func25, Try.ntmps25
  go_wp2
  go_loopw [1, 5] (fun q i wr => ∃ j : Nat, j ≤ n ∧ i = .int .i64 (j : Int) ∧ q = .int .i64 ((k : Int) + (j : Int)) ∧ wr = w) (fun _ i _ => n - (intOf i).toNat)
  case atStart => exact ⟨0, by omega, rfl, by simp, rfl⟩
  case round =>
    obtain ⟨j, hj, rfl, rfl, rfl⟩ := hrel
    by_cases hlt : j < n
    · have hc : wr.cell? ⟨g, j, none⟩ = some (.int .i64 ((k : Int) + (j : Int))) := by
        have := hown.cellAt j (by omega)
        rw [this, marksI_at k n j hlt]
      have hne : (((k : Int) + (j : Int)) != ((k : Int) + (j : Int))) = false := by simp
      go_wp2
      go_roundw
      case rel => exact ⟨j + 1, by omega, by go_num, by go_num, trivial⟩
      case measure => simp [intOf]; omega
    · obtain rfl : j = n := by omega
      go_wp2
      go_ret
      exact ⟨rfl, rfl⟩
set_option maxHeartbeats 1000000 in
set_option maxRecDepth 100000 in
theorem eqInts_any (A B g h cap cap' n : Nat) (xs : List Int) (w : World) (ha : w.ownsRow A 3 1 (.slice (some ⟨g, 0, none⟩) n cap) n (intsV xs)) (hb : w.ownsRow B 3 1 (.slice (some ⟨h, 0, none⟩) n cap') n (intsV xs)) (hn : n ≤ 1048576) :
    Calls Try.prog 31 #[.slice (some ⟨g, 0, none⟩) n cap, .slice (some ⟨h, 0, none⟩) n cap'] w fun e w' => e = .returned (.bool true) ∧ ∃ q, w' = w.drewN q := by
  have hxl : xs.length = n := by have := ha.1; rw [intsV_length] at this; omega
  have hn0 : ((n : Int) != (n : Int)) = false := by simp
  go_enter Try.func31, Try.ntmps31
  go_wp2
  go_loopw [5] (fun i wr => ∃ j q : Nat, j ≤ n ∧ i = .int .i64 (j : Int) ∧ wr = w.drewN q) (fun i _ => n - (intOf i).toNat)
  case atStart => exact ⟨0, 0, by omega, rfl, rfl⟩
  case round =>
    obtain ⟨j, q, hj, rfl, rfl⟩ := hrel
    by_cases hlt : j < n
    · have ca := ha.cellAt j (by omega)
      have cb := hb.cellAt j (by omega)
      rw [ints_at xs j (by omega)] at ca cb
      generalize (xs[j]'(by omega)) = x at *
      have hne : (x != x) = false := by simp
      go_wp2
      go_quiet (fail)
      go_wp2
      go_roundw
      case rel => exact ⟨j + 1, _, by omega, by go_num, by first | rfl | exact World.drewN_drewN _ _ _⟩
      case measure => simp [intOf]; omega
    · obtain rfl : j = n := by omega
      go_wp2
      go_ret
      exact ⟨rfl, q, rfl⟩
set_option maxHeartbeats 400000 in
theorem eqInts_zero (ao bo : Option Addr) (cap cap' : Nat) (w : World) : Calls Try.prog 31 #[.slice ao 0 cap, .slice bo 0 cap'] w fun e w' => e = .returned (.bool true) ∧ ∃ q, w' = w.drewN q := by
  go_enter Try.func31, Try.ntmps31
  go_wp2
  refine wp_loop_rounds 1 ?_
  rw [rounds_succ]
  go_wp2
  go_ret
  exact ⟨rfl, 0, rfl⟩
set_option maxHeartbeats 400000 in
theorem markInts_zero (ao : Option Addr) (cap k : Nat) (w : World) : Calls Try.prog 23 #[.slice ao 0 cap, .int .i64 (k : Int)] w fun e w' => e = .returned (.int .i64 (k : Int)) ∧ w' = w := by
  go_enter Try.func23, Try.ntmps23
  go_wp2
  refine wp_loop_rounds 1 ?_
  rw [rounds_succ]
  go_wp2
  go_ret
  exact ⟨rfl, rfl⟩
set_option maxHeartbeats 400000 in
theorem heldInts_zero (ao : Option Addr) (cap k : Nat) (w : World) : Calls Try.prog 25 #[.slice ao 0 cap, .int .i64 (k : Int)] w fun e w' => e = .returned (.int .i64 (k : Int)) ∧ w' = w := by
  go_enter Try.func25, Try.ntmps25
  go_wp2
  refine wp_loop_rounds 1 ?_
  rw [rounds_succ]
  go_wp2
  go_ret
  exact ⟨rfl, rfl⟩
theorem eqInts_own {A B n : Nat} {va vb : Value} {xs : List Int} {w : World} (ha : w.ownsRow A 3 1 va n (intsV xs)) (hb : w.ownsRow B 3 1 vb n (intsV xs)) (hn : n ≤ 1048576) :
    Calls Try.prog 31 #[va, vb] w fun e w' => e = .returned (.bool true) ∧ ∃ q, w' = w.drewN q := by
  obtain ⟨ao, cap, rfl, h1⟩ := own_form ha
  obtain ⟨bo, cap', rfl, h2⟩ := own_form hb
  by_cases h0 : n = 0
  · subst h0; exact eqInts_zero _ _ _ _ _
  · rcases h1 with h1 | ⟨g, rfl⟩
    · exact absurd h1 h0
    · rcases h2 with h2 | ⟨h, rfl⟩
      · exact absurd h2 h0
      · exact eqInts_any _ _ _ _ _ _ _ _ _ ha hb hn
theorem markInts_own {B n k : Nat} {v : Value} {xs : List Value} {w : World} (hown : w.ownsRow B 3 1 v n xs) (h2 : k + n ≤ 4294967296) :
    Calls Try.prog 23 #[v, .int .i64 (k : Int)] w fun e w' => e = .returned (.int .i64 ((k : Int) + (n : Int))) ∧ w'.ownsRow B 3 1 v n (intsV (marksI k n)) ∧ w.grownBy w' v.ownBlock := by
  obtain ⟨ao, cap, rfl, hf⟩ := own_form hown
  by_cases h0 : n = 0
  · subst h0
    refine (markInts_zero ao cap k w).mono ?_
    rintro e w' ⟨rfl, rfl⟩
    refine ⟨by simp, ?_, World.grownBy.refl _ _⟩
    have : xs = intsV (marksI k 0) := by have := hown.1; simp at this; subst this; rfl
    rw [← this]; exact hown
  · rcases hf with hf | ⟨g, rfl⟩
    · exact absurd hf h0
    · exact markInts_any B g cap n k xs w hown h2
theorem heldInts_own {B n k : Nat} {v : Value} {w : World} (hown : w.ownsRow B 3 1 v n (intsV (marksI k n))) (h2 : k + n ≤ 4294967296) :
    Calls Try.prog 25 #[v, .int .i64 (k : Int)] w fun e w' => e = .returned (.int .i64 ((k : Int) + (n : Int))) ∧ w' = w := by
  obtain ⟨ao, cap, rfl, hf⟩ := own_form hown
  by_cases h0 : n = 0
  · subst h0
    refine (heldInts_zero ao cap k w).mono ?_
    rintro e w' ⟨rfl, rfl⟩
    exact ⟨by simp, rfl⟩
  · rcases hf with hf | ⟨g, rfl⟩
    · exact absurd hf h0
    · exact heldInts_any B g cap n k w hown h2
end Go.Proofs.Ytdcnfbhfpfikjaa
