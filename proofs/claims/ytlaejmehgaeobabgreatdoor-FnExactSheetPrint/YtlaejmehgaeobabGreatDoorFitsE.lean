import Derived.Test.YtlaejmehgaeobabGreatDoorFitsD
namespace Go.Proofs.YtlaejmehgaeobabGreatDoor
open Go.RowKit
theorem name_len {s : ByteArray} (h : NamesTo s s.size) : nameB s.data.toList = (decide ((1 : Int) ≤ (s.size : Int)) && decide ((s.size : Int) ≤ 20)) := by
  rw [nameB_all s h.all]
  congr 1 <;> exact decide_eq_decide.2 (by omega)
set_option maxHeartbeats 1000000 in
set_option maxRecDepth 100000 in
theorem isName_any (s : ByteArray) (w : World) (hs : s.size ≤ 1048576) : Calls Tryz.prog 123 #[.string s] w fun e w' => e = .returned (.bool (nameB s.data.toList)) ∧ w' = w := by
  go_enter Tryz.func123, Tryz.ntmps123
  go_wp2
  go_loop [6] (fun i => ∃ k : Nat, k ≤ s.size ∧ i = .int .i64 (k : Int) ∧ NamesTo s k) (fun i => s.size - (intOf i).toNat)
  case atStart => exact ⟨0, Nat.zero_le _, rfl, NamesTo.zero s⟩
  case round =>
    obtain ⟨k, hk, rfl, hA⟩ := hrel
    by_cases hlt : k < s.size
    · have hc : s[k].toNat < 256 := s[k].toNat_lt
      cases hb : nameByte s[k]
      · have HB := hid_in (nameB_no s (all_no nameByte s k hlt hb)).symm
        have H1 := fun W => isNameByte_any s[k] W
        rw [hb] at H1
        clear hA hb
        go_wp2_with (go_at_call 150; refine (H1 _).mono ?_; rintro e w ⟨rfl, rfl⟩)
        go_ret
        exact ⟨ret_bool HB.out, rfl⟩
      · have HA := hA.succ hlt hb
        have H1 := fun W => isNameByte_any s[k] W
        rw [hb] at H1
        clear hA hb
        go_wp2_with (go_at_call 150; refine (H1 _).mono ?_; rintro e w ⟨rfl, rfl⟩)
        go_round
        case rel => exact ⟨k + 1, by omega, by go_num, HA⟩
        case measure => simp [intOf]; omega
    · obtain rfl : k = s.size := by omega
      have HB := hid_in (name_len hA).symm
      clear hA
      by_cases h1 : (1 : Int) ≤ (s.size : Int)
      · have HB' := hid_in (show decide ((s.size : Int) ≤ 20) = nameB s.data.toList by rw [← HB.out, decide_eq_true h1, Bool.true_and])
        clear HB
        go_wp2
        go_ret
        exact ⟨ret_bool HB'.out, rfl⟩
      · have HB' := hid_in (show false = nameB s.data.toList by rw [← HB.out, decide_eq_false h1, Bool.false_and])
        clear HB
        go_wp2
        go_ret
        exact ⟨ret_bool HB'.out, rfl⟩
theorem takes_1 (s : ByteArray) (w : World) (hs : s.size ≤ 1048576) (hst : StdAt w) : Calls Tryz.prog 169 #[.int .i64 1, .string s] w fun e w' => e = .returned (.bool (numB s.data.toList)) ∧ Below w.heap.size w w' := by
  have H := isDecimal_any s 0 w hs hst
  rw [decB_zero] at H
  go_enter Tryz.func169, Tryz.ntmps169
  go_wp2_with (go_at_call 181; refine H.mono ?_; rintro e w1 ⟨rfl, b1⟩)
  go_ret
  exact ⟨rfl, b1⟩
theorem takes_2 (s : ByteArray) (w : World) (hs : s.size ≤ 1048576) (hst : StdAt w) : Calls Tryz.prog 169 #[.int .i64 2, .string s] w fun e w' => e = .returned (.bool (signB s.data.toList)) ∧ Below w.heap.size w w' := by
  have H := isDecimal_any s (-1000000) w hs hst
  rw [decB_signed] at H
  go_enter Tryz.func169, Tryz.ntmps169
  go_wp2_with (go_at_call 181; refine H.mono ?_; rintro e w1 ⟨rfl, b1⟩)
  go_ret
  exact ⟨rfl, b1⟩
theorem takes_3 (s : ByteArray) (w : World) (hs : s.size ≤ 1048576) : Calls Tryz.prog 169 #[.int .i64 3, .string s] w fun e w' => e = .returned (.bool (nameB s.data.toList)) ∧ Below w.heap.size w w' := by
  go_enter Tryz.func169, Tryz.ntmps169
  go_wp2_with (go_at_call 123; refine (isName_any s _ hs).mono ?_; rintro e w1 ⟨rfl, rfl⟩)
  go_ret
  exact ⟨rfl, Below.refl _ _⟩
theorem takes_4 (s : ByteArray) (w : World) : Calls Tryz.prog 169 #[.int .i64 4, .string s] w fun e w' => e = .returned (.bool (decide (s.data.toList.length ≤ 200))) ∧ Below w.heap.size w w' := by
  have e : s.data.toList.length = s.size := by simp
  rw [e]
  go_enter Tryz.func169, Tryz.ntmps169
  go_wp2
  go_ret
  exact ⟨ret_bool (decide_eq_decide.2 (by omega)), Below.refl _ _⟩
theorem takes_5 (s : ByteArray) (w : World) : Calls Tryz.prog 169 #[.int .i64 5, .string s] w fun e w' => e = .returned (.bool (yesB s.data.toList)) ∧ Below w.heap.size w w' := by
  rw [← ByteArray.toList_eq]
  generalize hL : s.toList = L
  by_cases h1 : L = [121, 101, 115]
  · have h1' : (s.toList == [121, 101, 115]) = true := by rw [hL, beq_iff_eq]; exact h1
    have HB : yesB L = true := by subst h1; decide
    go_enter Tryz.func169, Tryz.ntmps169
    go_wp2
    go_ret
    exact ⟨ret_bool HB.symm, Below.refl _ _⟩
  · have h1' : (s.toList == [121, 101, 115]) = false := by rw [hL, beq_eq_false_iff_ne]; exact h1
    go_enter Tryz.func169, Tryz.ntmps169
    go_wp2
    go_ret
    exact ⟨ret_bool rfl, Below.refl _ _⟩
theorem takes_6 (s : ByteArray) (w : World) : Calls Tryz.prog 169 #[.int .i64 6, .string s] w fun e w' => e = .returned (.bool (apartB s.data.toList)) ∧ Below w.heap.size w w' := by
  rw [← ByteArray.toList_eq]
  generalize hL : s.toList = L
  by_cases h1 : L = [110, 111, 110, 101]
  · have h1' : (s.toList == [110, 111, 110, 101]) = true := by rw [hL, beq_iff_eq]; exact h1
    have HB : apartB L = true := by subst h1; decide
    go_enter Tryz.func169, Tryz.ntmps169
    go_wp2
    go_ret
    exact ⟨ret_bool HB.symm, Below.refl _ _⟩
  · have h1' : (s.toList == [110, 111, 110, 101]) = false := by rw [hL, beq_eq_false_iff_ne]; exact h1
    by_cases h2 : L = [98, 101, 114, 116, 104]
    · have h2' : (s.toList == [98, 101, 114, 116, 104]) = true := by rw [hL, beq_iff_eq]; exact h2
      have HB : apartB L = true := by subst h2; decide
      go_enter Tryz.func169, Tryz.ntmps169
      go_wp2
      go_ret
      exact ⟨ret_bool HB.symm, Below.refl _ _⟩
    · have h2' : (s.toList == [98, 101, 114, 116, 104]) = false := by rw [hL, beq_eq_false_iff_ne]; exact h2
      go_enter Tryz.func169, Tryz.ntmps169
      go_wp2
      go_ret
      exact ⟨ret_bool rfl, Below.refl _ _⟩
theorem takes_any (t : Int) (h1 : 1 ≤ t) (h6 : t ≤ 6) (s : ByteArray) (w : World) (hs : s.size ≤ 1048576) (hst : StdAt w) : Calls Tryz.prog 169 #[.int .i64 t, .string s] w fun e w' => e = .returned (.bool (fitsB t s.data.toList)) ∧ Below w.heap.size w w' := by
  rcases six h1 h6 with rfl | rfl | rfl | rfl | rfl | rfl
  · exact takes_1 s w hs hst
  · exact takes_2 s w hs hst
  · exact takes_3 s w hs
  · exact takes_4 s w
  · exact takes_5 s w
  · exact takes_6 s w
end Go.Proofs.YtlaejmehgaeobabGreatDoor
