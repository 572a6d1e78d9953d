import Derived.Test.YtlaejmehgaeobabGreatDoorWordImplA
namespace Go.Proofs.YtlaejmehgaeobabGreatDoor
open Go.RowKit
theorem wordL_yes {l : List UInt8} (h : bareL l = true) : wordL l = l := by simp [wordL, h]
theorem wordL_no {l : List UInt8} (h : bareL l = false) : wordL l = quoteL l := by simp [wordL, h]
theorem str_eq (s : ByteArray) : (⟨s.data.toList.toArray⟩ : ByteArray) = s := rfl
set_option maxHeartbeats 1000000 in
theorem implWord_any (s : ByteArray) (w : World) (hs : s.size ≤ 1048576) : Calls Tryz.prog 127 #[.string s] w fun e w' => e = .returned (.string ⟨(wordL s.data.toList).toArray⟩) ∧ Below w.heap.size w w' := by
  have H := isBareWord_any s w hs
  cases hb : bareL s.data.toList <;> rw [hb] at H
  · rw [wordL_no hb]
    clear hb
    have hf := Lib.fresh_isBuilder 79 5 w
    go_enter Tryz.func127, Tryz.ntmps127
    go_wp2_with (go_at_call 155; refine H.mono ?_; rintro e w' ⟨rfl, rfl⟩)
    refine (writeByte _ _ _ _ _ hf (by simp) (by simp)).mono ?_
    rintro e w1 ⟨rfl, h1, b1⟩
    have b1' : Below w'.heap.size w' w1 := ((Below.refl _ _).alloc (Nat.le_refl _) _).trans b1
    clear hf b1 H
    go_wp2_with fail
    go_loopw [4, 12] (fun _ c wr => ∃ k : Nat, k ≤ s.size ∧ c = .int .i64 k ∧ Lib.IsBuilder 79 5 w'.heap.size w'.heap.size (Lib.byteCells (34 :: (s.data.toList.take k).flatMap qb)) wr ∧ Below w'.heap.size w' wr) (fun _ c _ => s.size - (intOf c).toNat)
    case atStart => exact ⟨0, Nat.zero_le _, rfl, Or.inr (by simpa [Lib.byteCells] using h1), b1'⟩
    case round =>
      obtain ⟨k, hk, rfl, hI, hbw⟩ := hrel
      have hsz := hbw.size
      have hfl := flat_len (s.data.toList.take k)
      have hln : (s.data.toList.take k).length ≤ k := List.length_take_le _ _
      by_cases hlt : k < s.size
      · have HS : Hid ((s.data.toList.take (k + 1)).flatMap qb = (s.data.toList.take k).flatMap qb ++ qb s[k]) := flat_snoc s k hlt
        go_wp2_with (go_at_call 157; refine (writeQuoted_any _ _ _ s[k] _ hI (by rw [Lib.byteCells_length, List.length_cons]; omega) (by omega)).mono ?_; rintro e w2 ⟨rfl, h2, b2⟩)
        go_roundw
        case rel =>
          refine ⟨k + 1, by omega, by go_num, ?_, hbw.trans b2⟩
          rw [HS.out, ← List.cons_append, Lib.byteCells_append]; exact h2
        case measure => simp [intOf]; omega
      · have hk2 : k = s.size := by omega
        subst hk2
        go_wp2_with fail
        refine (writeByte _ _ _ _ _ hI (by rw [Lib.byteCells_length, List.length_cons]; omega) (by omega)).mono ?_
        rintro e w2 ⟨rfl, h2, b2⟩
        have hs2 := b2.size
        go_wp2_with fail
        have h3 : Lib.IsBuilder 79 5 w'.heap.size w'.heap.size (Lib.byteCells (quoteL s.data.toList)) w2 := by
          rw [take_all s] at h2; refine Or.inr ?_
          simpa [quoteL, Lib.byteCells] using h2
        refine (builderString _ _ _ _ h3 (by omega)).mono ?_
        rintro e w3 ⟨rfl, b3⟩
        go_wp2
        go_ret
        exact ⟨rfl, hbw.trans (b2.trans b3)⟩
  · rw [wordL_yes hb]
    clear hb
    go_enter Tryz.func127, Tryz.ntmps127
    go_wp2_with (first | (go_at_call 155; refine H.mono ?_; rintro e w' ⟨rfl, rfl⟩) | (go_at_call 156; refine (clone_any s _ hs).mono ?_; rintro e w1 ⟨rfl, hb⟩))
    go_ret
    exact ⟨rfl, hb⟩
end Go.Proofs.YtlaejmehgaeobabGreatDoor
