import Derived.Test.YtdcnfbhfpfikjaaRulesF
import Derived.Test.YtdcnfbhfpfikjaaRulesD
namespace Go.Proofs.Ytdcnfbhfpfikjaa
open Go.RowKit
set_option maxHeartbeats 400000 in
theorem eqRules_zero (ao bo : Option Addr) (cap cap' : Nat) (w : World) : Calls Try.prog 9 #[.slice ao 0 cap, .slice bo 0 cap'] w fun e w' => e = .returned (.bool true) ∧ w' = w := by
  go_enter Try.func9, Try.ntmps9
  go_wp2
  refine wp_loop_rounds 1 ?_
  rw [rounds_succ]
  go_wp2
  go_ret
  exact ⟨rfl, rfl⟩
set_option maxHeartbeats 400000 in
theorem markRules_zero (ao : Option Addr) (cap k : Nat) (w : World) : Calls Try.prog 10 #[.slice ao 0 cap, .int .i64 (k : Int)] w fun e w' => e = .returned (.int .i64 (k : Int)) ∧ w' = w := by
  go_enter Try.func10, Try.ntmps10
  go_wp2
  refine wp_loop_rounds 1 ?_
  rw [rounds_succ]
  go_wp2
  go_ret
  exact ⟨rfl, rfl⟩
set_option maxHeartbeats 400000 in
theorem heldRules_zero (ao : Option Addr) (cap k : Nat) (w : World) : Calls Try.prog 11 #[.slice ao 0 cap, .int .i64 (k : Int)] w fun e w' => e = .returned (.int .i64 (k : Int)) ∧ w' = w := by
  go_enter Try.func11, Try.ntmps11
  go_wp2
  refine wp_loop_rounds 1 ?_
  rw [rounds_succ]
  go_wp2
  go_ret
  exact ⟨rfl, rfl⟩
theorem RM.form {B : Nat} {w : World} {v : Value} {L : List RAt} {rest : List MRow} (h : RM B w v L rest) : ∃ ao cap, v = .slice ao L.length cap ∧ (L = [] ∨ ∃ g, ao = some ⟨g, 0, none⟩) := by
  obtain ⟨ao, cap, hv, hf⟩ := own_form (Mem.head h)
  refine ⟨ao, cap, hv, hf.imp (fun h0 => List.length_eq_zero_iff.1 h0) id⟩
theorem eqRules_own {A B : Nat} {va vb : Value} {La Lb : List RAt} {ra rb : List MRow} {w : World} (ha : RM A w va La ra) (hb : RM B w vb Lb rb) (hp : La.map RAt.plain = Lb.map RAt.plain) (hn2 : La.length ≤ 1000) (hs : ∀ r ∈ La, r.ns.length ≤ 1000 ∧ r.ds.length ≤ 1000) :
    Calls Try.prog 9 #[va, vb] w fun e w' => e = .returned (.bool true) ∧ Below w.heap.size w w' := by
  have hl : La.length = Lb.length := by simpa using congrArg List.length hp
  obtain ⟨ao, cap, rfl, h1⟩ := ha.form
  obtain ⟨bo, cap', rfl, h2⟩ := hb.form
  rcases h1 with rfl | ⟨g, rfl⟩
  · obtain rfl : Lb = [] := List.length_eq_zero_iff.1 hl.symm
    exact (eqRules_zero ao bo cap cap' w).mono fun e w' h => ⟨h.1, by rw [h.2]; exact Below.refl _ _⟩
  · rcases h2 with rfl | ⟨h, rfl⟩
    · obtain rfl : La = [] := List.length_eq_zero_iff.1 hl
      exact (eqRules_zero _ bo cap cap' w).mono fun e w' h => ⟨h.1, by rw [h.2]; exact Below.refl _ _⟩
    · have ha' := ha.rules
      have hb' := hb.rules
      rw [← hl] at hb' ⊢
      exact eqRules_any ha' hb' hp rfl hn2 hs
theorem markRules_own {B k : Nat} {v : Value} {L : List RAt} {rest : List MRow} {w : World} (hB : B ≤ w.heap.size) (h : RM B w v L rest) (hn2 : L.length ≤ 1000) (h1 : 1 ≤ k) (h2 : endK k L ≤ 1000000) :
    Calls Try.prog 10 #[v, .int .i64 (k : Int)] w fun e w' => e = .returned (.int .i64 (endK k L : Int)) ∧ RM B w' v (markRs k L) rest ∧ Below B w w' := by
  obtain ⟨ao, cap, rfl, hf⟩ := h.form
  rcases hf with rfl | ⟨g, rfl⟩
  · exact (markRules_zero ao cap k w).mono fun e w' h' => ⟨h'.1, by rw [h'.2]; exact h, by rw [h'.2]; exact Below.refl _ _⟩
  · exact markRules_any hB h rfl hn2 h1 h2
theorem heldRules_own {B k : Nat} {v : Value} {L : List RAt} {rest : List MRow} {w : World} (h : RM B w v (markRs k L) rest) (hn2 : L.length ≤ 1000) (h1 : 1 ≤ k) (h2 : endK k L ≤ 1000000) :
    Calls Try.prog 11 #[v, .int .i64 (k : Int)] w fun e w' => e = .returned (.int .i64 (endK k L : Int)) ∧ Below w.heap.size w w' := by
  obtain ⟨ao, cap, rfl, hf⟩ := h.form
  rw [markRs_length] at *
  rcases hf with h0 | ⟨g, rfl⟩
  · obtain rfl : L = [] := List.length_eq_zero_iff.1 (by rw [← markRs_length L k, h0]; rfl)
    exact (heldRules_zero ao cap k w).mono fun e w' h' => ⟨h'.1, by rw [h'.2]; exact Below.refl _ _⟩
  · exact heldRules_any h rfl hn2 h1 h2
/-- What is needed of the lists' sizes. -/
def Small (R : List Plain) : Prop := R.length ≤ 12 ∧ ∀ r ∈ R, r.2.1.length ≤ 3 ∧ r.2.2.2.length ≤ 3
theorem rulesOf_small (kind : ByteArray) : Small (rulesOf kind) := by
  unfold rulesOf
  split
  · exact ⟨by decide, by decide⟩
  · split
    · exact ⟨by decide, by decide⟩
    · split
      · exact ⟨by decide, by decide⟩
      · exact ⟨by decide, by simp⟩
theorem small_len {L : List RAt} {R : List Plain} (h : L.map RAt.plain = R) (hs : Small R) : L.length ≤ 12 ∧ ∀ r ∈ L, r.ns.length ≤ 3 ∧ r.ds.length ≤ 3 := by
  subst h
  refine ⟨by simpa using hs.1, fun r hr => ?_⟩
  have := hs.2 r.plain (List.mem_map_of_mem hr)
  exact this
theorem endK_small : ∀ (L : List RAt) (k : Nat), (∀ r ∈ L, r.ns.length ≤ 3 ∧ r.ds.length ≤ 3) → endK k L ≤ k + 8 * L.length
  | [], k, _ => by simp [endK]
  | r :: L, k, h => by
    have h1 := h r (by simp)
    have h2 := endK_small L (nextK k r) (fun x hx => h x (by simp [hx]))
    simp only [endK, List.length_cons]
    unfold nextK at h2 ⊢
    omega
end Go.Proofs.Ytdcnfbhfpfikjaa
