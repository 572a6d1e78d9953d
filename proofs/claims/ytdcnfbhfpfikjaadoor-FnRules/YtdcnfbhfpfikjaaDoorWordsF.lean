import Derived.Test.YtdcnfbhfpfikjaaDoorBase
namespace Go.Proofs.YtdcnfbhfpfikjaaDoor
open Go.RowKit
/-- The last digit of k. -/
def digB (k : Nat) : UInt8 := UInt8.ofNat (48 + k % 10)
/-- The digits of k ahead of out. -/
def digs : Nat → Nat → List UInt8 → List UInt8
  | 0, _, out => out
  | f + 1, k, out => if k = 0 then out else digs f (k / 10) (digB k :: out)
/-- What markText gives at a number from 1 on. -/
def markL (k : Nat) : List UInt8 := 109 :: digs k k []
theorem digs_zero (f : Nat) (out : List UInt8) : digs f 0 out = out := by cases f <;> simp [digs]
theorem digs_step (f k : Nat) (out : List UInt8) (hk : k ≠ 0) : digs (f + 1) k out = digs f (k / 10) (digB k :: out) := by simp [digs, hk]
theorem dig_byte (k : Nat) : ((digB k).toNat : Int) = 48 + (k : Int) % 10 := by
  unfold digB
  have : (UInt8.ofNat (48 + k % 10)).toNat = 48 + k % 10 := by rw [UInt8.toNat_ofNat']; omega
  rw [this]; omega
set_option maxHeartbeats 1000000 in
set_option maxRecDepth 100000 in
theorem markText_any (k : Nat) (w : World) (h1 : 1 ≤ k) (h2 : k ≤ 4294967296) : Calls Tryd.prog 62 #[.int .i64 (k : Int)] w fun e w' => e = .returned (.string ⟨(markL k).toArray⟩) ∧ Below w.heap.size w w' := by
  obtain ⟨D, hD⟩ : ∃ D, digs k k [] = D := ⟨_, rfl⟩
  have HM : Hid (digs k k [] = D) := hD
  have HD : Hid (markL k = 109 :: D) := by show _ = _; rw [markL, hD]
  clear hD
  rw [HD.out]
  clear HD
  have hk0 : ¬ (k : Int) ≤ 0 := by omega
  go_enter Tryd.func62, Tryd.ntmps62
  go_wp2
  go_loopw [0, 3] (fun i o wr => ∃ (j f : Nat) (out : List UInt8), j ≤ f ∧ j ≤ 4294967296 ∧ out.length + f ≤ k ∧ i = .int .i64 (j : Int) ∧ o = .string ⟨out.toArray⟩ ∧ Hid (digs f j out = D) ∧ Below w.heap.size w wr) (fun i _ _ => (intOf i).toNat)
  case atStart => exact ⟨k, k, [], Nat.le_refl _, by omega, by simp, rfl, rfl, HM, Below.refl _ _⟩
  case round =>
    obtain ⟨j, f, out, hjf, hj, hol, rfl, rfl, hD, hbw⟩ := hrel
    clear HM
    by_cases hj0 : j = 0
    · subst hj0
      have HF : Hid (out = D) := by show _ = _; rw [← hD.out, digs_zero]
      clear hD
      go_wp2
      go_ret
      exact ⟨by rw [← HF.out]; exact ret_val (congrArg Value.string (cat_bytes [109] out)), hbw⟩
    · have hj1 : (0 : Int) < (j : Int) := by omega
      obtain ⟨f', rfl⟩ : ∃ f', f = f' + 1 := ⟨f - 1, by omega⟩
      have HS : Hid (digs f' (j / 10) (digB j :: out) = D) := by show _ = _; rw [← hD.out, digs_step _ _ _ hj0]
      clear hD
      have hcv := conv_one wr (digB j)
      rw [dig_byte] at hcv
      go_wp2
      go_roundw
      case rel =>
        exact ⟨j / 10, f', digB j :: out, by omega, by omega, by simp; omega, by go_num, congrArg Value.string (cat_bytes [digB j] out), HS, hbw.alloc hbw.size _⟩
      case measure => simp [intOf]; omega
/-- The marks of n words from k on. -/
def marks (k n : Nat) : List (List UInt8) := (List.range n).map fun i => markL (k + i)
theorem marks_length (k n : Nat) : (marks k n).length = n := by simp [marks]
theorem marks_succ (k n : Nat) : marks k (n + 1) = marks k n ++ [markL (k + n)] := by simp [marks, List.range_succ]
/-- A row of which the first i words are marked. -/
def part (k i : Nat) (xs : List Value) : List Value := strs (marks k i) ++ xs.drop i
theorem part_set (k i : Nat) (xs : List Value) (h : i < xs.length) : (part k i xs).set i (.string ⟨(markL (k + i)).toArray⟩) = part k (i + 1) xs := by
  unfold part
  have e : xs.drop i = xs[i] :: xs.drop (i + 1) := List.drop_eq_getElem_cons h
  have hl : (strs (marks k i)).length = i := by rw [strs_length, marks_length]
  rw [e, List.set_append_right _ _ (by omega), hl, Nat.sub_self, List.set_cons_zero, marks_succ, strs_append]
  simp [strs]
theorem part_zero (k : Nat) (xs : List Value) : part k 0 xs = xs := by simp [part, marks, strs]
theorem part_all (k n : Nat) (xs : List Value) (h : xs.length = n) : part k n xs = strs (marks k n) := by
  unfold part; rw [List.drop_of_length_le (by omega), List.append_nil]
theorem marks_at (k n j : Nat) (h : j < n) : (strs (marks k n))[j]? = some (.string ⟨(markL (k + j)).toArray⟩) := by
  simp [strs, marks, h]
set_option maxHeartbeats 1000000 in
set_option maxRecDepth 100000 in
theorem markStrings_any (B g cap n k : Nat) (xs : List Value) (w : World) (hown : w.ownsRow B 9 1 (.slice (some ⟨g, 0, none⟩) n cap) n xs) (h1 : 1 ≤ k) (h2 : k + n ≤ 4294967296) :
    Calls Tryd.prog 47 #[.slice (some ⟨g, 0, none⟩) n cap, .int .i64 (k : Int)] w fun e w' => e = .returned (.int .i64 ((k : Int) + (n : Int))) ∧ w'.ownsRow B 9 1 (.slice (some ⟨g, 0, none⟩) n cap) n (strs (marks k n)) ∧ w.grownBy w' (some g) := by
  have hxl : xs.length = n := by have := hown.1; omega
  go_enter Tryd.func47, Tryd.ntmps47
  go_wp2
  go_loopw [1, 5] (fun q i wr => ∃ j : Nat, j ≤ n ∧ i = .int .i64 (j : Int) ∧ q = .int .i64 ((k : Int) + (j : Int)) ∧ wr.ownsRow B 9 1 (.slice (some ⟨g, 0, none⟩) n cap) n (part k j xs) ∧ w.grownBy wr (some g)) (fun _ i _ => n - (intOf i).toNat)
  case atStart => exact ⟨0, by omega, rfl, by simp, by rw [part_zero]; exact hown, World.grownBy.refl _ _⟩
  case round =>
    obtain ⟨j, hj, rfl, rfl, hown1, hgr⟩ := hrel
    by_cases hlt : j < n
    · have HM := fun W => markText_any (k + j) W (by omega) (by omega)
      have ek : ((k + j : Nat) : Int) = (k : Int) + (j : Int) := by omega
      rw [ek] at HM
      have HP : Hid _ := part_set k j xs (by omega)
      clear ek
      go_wp2_with (go_at_call 62; refine (HM _).mono ?_)
      rintro e w1 ⟨rfl, b1⟩
      have hown2 := own_below hown1 b1
      have hc := hown2.cellAt j (by omega)
      have hcs : ∃ u, (part k j xs)[j]? = some u := ⟨_, List.getElem?_eq_getElem (by have := hown1.1; omega)⟩
      obtain ⟨u, hu⟩ := hcs
      rw [hu] at hc
      have hf := hown2.frozenAt j
      have hst := hown2.stored j (.string ⟨(markL (k + j)).toArray⟩)
      clear HM hu
      go_wp2
      go_roundw
      case rel =>
        refine ⟨j + 1, by omega, by go_num, by go_num, ?_, grown_trans (grown_trans hgr (grown_of_below b1 _)) hst.2⟩
        rw [← HP.out]; exact hst.1
      case measure => simp [intOf]; omega
    · obtain rfl : j = n := by omega
      rw [part_all k j xs hxl] at hown1
      go_wp2
      go_ret
      exact ⟨rfl, hown1, hgr⟩
set_option maxHeartbeats 1000000 in
set_option maxRecDepth 100000 in
theorem heldStrings_any (B g cap n k : Nat) (w : World) (hown : w.ownsRow B 9 1 (.slice (some ⟨g, 0, none⟩) n cap) n (strs (marks k n))) (h1 : 1 ≤ k) (h2 : k + n ≤ 4294967296) :
    Calls Tryd.prog 48 #[.slice (some ⟨g, 0, none⟩) n cap, .int .i64 (k : Int)] w fun e w' => e = .returned (.int .i64 ((k : Int) + (n : Int))) ∧ Below w.heap.size w w' := by
  go_enter Tryd.func48, Tryd.ntmps48
  go_wp2
  go_loopw [1, 5] (fun q i wr => ∃ j : Nat, j ≤ n ∧ i = .int .i64 (j : Int) ∧ q = .int .i64 ((k : Int) + (j : Int)) ∧ Below w.heap.size w wr) (fun _ i _ => n - (intOf i).toNat)
  case atStart => exact ⟨0, by omega, rfl, by simp, Below.refl _ _⟩
  case round =>
    obtain ⟨j, hj, rfl, rfl, hbw⟩ := hrel
    by_cases hlt : j < n
    · have HM := fun W => markText_any (k + j) W (by omega) (by omega)
      have ek : ((k + j : Nat) : Int) = (k : Int) + (j : Int) := by omega
      rw [ek] at HM
      clear ek
      have hc : wr.cell? ⟨g, j, none⟩ = some (.string ⟨(markL (k + j)).toArray⟩) := by
        have := (own_below hown hbw).cellAt j (by omega)
        rw [this, marks_at k n j hlt]
      have hlg := World.block_lt_of_cell? wr _ hc
      generalize (⟨(markL (k + j)).toArray⟩ : ByteArray) = M at *
      go_wp2
      go_region_held3 (fun w' => w'.cell? ⟨g, j, none⟩ = some (.string M)) (first | go_keep | (rw [b1.cell (by simp; omega)]; go_keep))
        (first | (go_at_call 62; refine (HM _).mono ?_; rintro e w1 ⟨rfl, b1⟩))
      all_goals
        go_wp2
        go_roundw
        case rel => exact ⟨j + 1, by omega, by go_num, by go_num, hbw.trans (((Below.refl wr.heap.size wr).drew.trans b1).mono hbw.size)⟩
        case measure => simp [intOf]; omega
    · obtain rfl : j = n := by omega
      go_wp2
      go_ret
      exact ⟨rfl, hbw⟩
end Go.Proofs.YtdcnfbhfpfikjaaDoor
