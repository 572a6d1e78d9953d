import Derived.Test.YtlaejmehgaeobabGreatDoorWordsPlain
namespace Go.Proofs.YtlaejmehgaeobabGreatDoor
theorem hexV_hexB (n : Nat) (h : n < 16) : hexV (hexB n) = n := by
  have : ∀ n, n < 16 → hexV (hexB n) = n := by decide
  exact this n h
theorem byte_back (c : UInt8) : UInt8.ofNat (16 * (c.toNat / 16) + c.toNat % 16) = c := by
  apply UInt8.toNat_inj.1
  have := c.toNat_lt
  rw [UInt8.toNat_ofNat', show 16 * (c.toNat / 16) + c.toNat % 16 = c.toNat from by omega]
  omega
theorem unq_written (w : List UInt8) (rest : List UInt8) : unq (w.flatMap qb ++ 34 :: rest) = some (w, (w.flatMap qb).length + 1) := by
  induction w with
  | nil => rw [List.flatMap_nil, List.nil_append, unq_cons]; simp
  | cons c r ih =>
    rw [List.flatMap_cons, List.append_assoc]
    by_cases hp : plainB c = true
    · have h := plainB_true hp
      rw [show qb c = [c] from by simp [qb, hp], List.singleton_append, unq_cons, if_neg (by omega), if_neg (by omega), if_pos (by omega), ih]
      simp
    · have hq : qb c = [92, hexB (c.toNat / 16), hexB (c.toNat % 16)] := by simp [qb, hp]
      have hc := c.toNat_lt
      rw [hq, show ([92, hexB (c.toNat / 16), hexB (c.toNat % 16)] ++ (r.flatMap qb ++ 34 :: rest)) = 92 :: (hexB (c.toNat / 16) :: hexB (c.toNat % 16) :: (r.flatMap qb ++ 34 :: rest)) from rfl, unq_cons, if_neg (by decide), if_pos (by decide), unqH, hexV_hexB _ (by omega), hexV_hexB _ (by omega), if_pos (by omega), ih, byte_back]
      simp
theorem takeWhile_stop (w rest : List UInt8) (h : w.all bareB = true) : (w ++ 32 :: rest).takeWhile bareB = w := by
  rw [List.takeWhile_append_of_pos (List.all_eq_true.1 h), List.takeWhile_cons, if_neg (by decide), List.append_nil]
/-- A word as it is written, with a blank behind it, is read as the word. -/
theorem word_written (w rest : List UInt8) : ∃ c r, wordL w ++ 32 :: rest = c :: r ∧ c.toNat ≠ 32 ∧ c.toNat ≠ 35 ∧ wordOf (c :: r) = some (w, (wordL w).length) ∧ (c :: r).drop (wordL w).length = 32 :: rest := by
  by_cases hb : bareL w = true
  · have hw : wordL w = w := by simp [wordL, hb]
    unfold bareL at hb
    rw [Bool.and_eq_true] at hb
    rw [hw]
    match w, hb with
    | c :: r, hb =>
      have hc : bareB c = true := List.all_eq_true.1 hb.2 c (by simp)
      have h := bareB_true hc
      refine ⟨c, r ++ 32 :: rest, rfl, by omega, by omega, ?_, ?_⟩
      · have ht := takeWhile_stop (c :: r) rest hb.2
        rw [List.cons_append] at ht
        rw [wordOf, if_neg (by omega), if_neg (by rw [hc]; decide), ht]
      · rw [← List.cons_append, List.drop_left]
    | [], hb => simp at hb
  · have hw : wordL w = quoteL w := by simp [wordL, hb]
    have hl : (quoteL w).length = (w.flatMap qb).length + 2 := by
      simp only [quoteL, List.length_append, List.length_cons, List.length_nil]
    refine ⟨34, w.flatMap qb ++ 34 :: 32 :: rest, ?_, by decide, by decide, ?_, ?_⟩
    · rw [hw]; simp [quoteL]
    · rw [wordOf, if_pos (by decide), unq_written, hw, hl]; simp
    · rw [hw, hl, show (w.flatMap qb).length + 2 = ((w.flatMap qb).length + 1) + 1 from rfl, List.drop_succ_cons, List.drop_append]
      simp
/-- Words written one behind the other. -/
def outL (ws : List (List UInt8)) : List UInt8 := ws.flatMap fun w => wordL w ++ [32]
theorem Cut.written {R : Option (List (List UInt8))} : ∀ (ws acc : List (List UInt8)), (∀ w ∈ ws, w.length ≤ 200) → acc.length + ws.length ≤ 8 → Cut acc (outL ws) R → R = some (acc ++ ws)
  | [], acc, _, _, h => by rw [List.append_nil]; exact Cut.nil h
  | w :: ws, acc, h200, h8, h => by
    have e : outL (w :: ws) = wordL w ++ 32 :: outL ws := by simp [outL]
    rw [e] at h
    obtain ⟨c, r, hcr, h1, h2, hw, hd⟩ := word_written w (outL ws)
    rw [hcr] at h
    have hok : endOk ((c :: r).drop (wordL w).length) = true ∧ w.length ≤ 200 ∧ acc.length < 8 := ⟨by rw [hd]; rfl, h200 w (by simp), by simp at h8; omega⟩
    have hc := h.word h1 h2 hw hok
    rw [hd] at hc
    have hs := hc.space (by decide)
    have := Cut.written ws (acc ++ [w]) (fun x hx => h200 x (by simp [hx])) (by simp at h8 ⊢; omega) hs
    rw [this, List.append_assoc]; rfl
theorem cutL_written (ws : List (List UInt8)) (h200 : ∀ w ∈ ws, w.length ≤ 200) (h8 : ws.length ≤ 8) : cutL (outL ws) = some ws := by
  have := Cut.written ws [] h200 (by simpa using h8) (Cut.start _)
  simpa using this
theorem cutW_200 : ∀ (f : Nat) (acc : List (List UInt8)) (l : List UInt8), (∀ w ∈ acc, w.length ≤ 200) → ∀ w ∈ (cutW f acc l).getD [], w.length ≤ 200
  | 0, acc, [], h => by simpa [cutW] using h
  | 0, acc, _ :: _, h => by simp [cutW]
  | f + 1, acc, [], h => by simpa [cutW] using h
  | f + 1, acc, c :: r, h => by
    rw [cutW]
    split
    · exact cutW_200 f acc r h
    · split
      · simpa using h
      · split
        · simp
        · rename_i x n _
          split
          · rename_i hc
            refine cutW_200 f _ _ ?_
            intro w hw
            rcases List.mem_append.1 hw with h1 | h1
            · exact h w h1
            · rw [List.mem_singleton.1 h1]; exact hc.2.1
          · simp
theorem cutL_200 (l : List UInt8) : ∀ w ∈ (cutL l).getD [], w.length ≤ 200 := cutW_200 _ _ _ (by simp)
theorem outL_snoc (ws : List (List UInt8)) (w : List UInt8) : outL (ws ++ [w]) = outL ws ++ wordL w ++ [32] := by simp [outL]
end Go.Proofs.YtlaejmehgaeobabGreatDoor
