import Derived.Test.YtlaejmehgaeobabGreatDoorParseP
import Derived.Test.YtlaejmehgaeobabGreatDoorWordsP1
namespace Go.Proofs.YtlaejmehgaeobabGreatDoor
/-- A sheet as it is written. -/
def lineL (a : PLine) : List UInt8 := a.key.data.toList ++ a.ws.flatMap (fun w => 32 :: wordL w)
def headL (b : PBlock) : List UInt8 := b.kind.data.toList ++ 32 :: b.name.data.toList
def blockL (b : PBlock) : List UInt8 := headL b ++ 10 :: (b.lines.flatMap (fun a => 32 :: 32 :: lineL a ++ [10]) ++ [101, 110, 100, 10])
def sheetL (bs : List PBlock) : List UInt8 := bs.flatMap blockL
def tooLongL (t : List UInt8) : Prop := 20000 < t.length ∨ 400 < (textLines t).length
instance (t : List UInt8) : Decidable (tooLongL t) := by unfold tooLongL; infer_instance
noncomputable def printL (bs : List PBlock) : List UInt8 := if sheetB bs = false ∨ tooLongL (sheetL bs) then [] else sheetL bs
theorem parseT_long {t : List UInt8} (h : tooLongL t) : parseT t = .bad 0 11 := if_pos h
theorem parseT_go {t : List UInt8} (h : ¬ tooLongL t) : parseT t = parseGo 0 [] none (textLines t) := if_neg h
/-- One line ahead of a text. -/
theorem linesFrom_line (l rest : List UInt8) (h : (10 : UInt8) ∉ l) : ∀ acc, linesFrom acc (l ++ 10 :: rest) = (acc ++ l) :: linesFrom [] rest := by
  induction l with
  | nil => intro acc; simp [linesFrom]
  | cons c l ih =>
    intro acc
    have hc : ¬ c = 10 := fun e => h (by simp [e])
    rw [List.cons_append, linesFrom, if_neg hc, ih (fun e => h (by simp [e]))]
    simp
theorem textLines_line (l rest : List UInt8) (h : (10 : UInt8) ∉ l) : textLines (l ++ 10 :: rest) = l :: textLines rest := by
  unfold textLines; rw [linesFrom_line l rest h]; rfl
theorem bareB_ten {l : List UInt8} (h : l.all bareB = true) : (10 : UInt8) ∉ l := by
  intro e
  have := bareB_true (List.all_eq_true.1 h _ e)
  simp at this
theorem hexB_ten (n : Nat) (h : n < 16) : hexB n ≠ 10 := by
  have : ∀ n, n < 16 → hexB n ≠ 10 := by decide
  exact this n h
theorem qb_ten (c : UInt8) : (10 : UInt8) ∉ qb c := by
  have hc := c.toNat_lt
  unfold qb
  split
  · rename_i hp
    have := plainB_true hp
    intro e
    rw [← List.mem_singleton.1 e] at this
    simp at this
  · intro e
    simp only [List.mem_cons, List.not_mem_nil, or_false] at e
    rcases e with e | e | e
    · cases e
    · exact hexB_ten _ (by omega) e.symm
    · exact hexB_ten _ (by omega) e.symm
theorem wordL_ten (w : List UInt8) : (10 : UInt8) ∉ wordL w := by
  unfold wordL
  split
  · rename_i h
    unfold bareL at h
    rw [Bool.and_eq_true] at h
    exact bareB_ten h.2
  · intro e
    simp only [quoteL, List.cons_append, List.mem_cons, List.mem_append, List.mem_flatMap, List.not_mem_nil, or_false] at e
    rcases e with e | ⟨c, _, e⟩ | e
    · cases e
    · exact qb_ten c e
    · cases e
/-- A word as it is written, with no word directly behind it, is read as the word. -/
theorem wordOf_end (w : List UInt8) (rest : List UInt8) (hr : endOk rest = true) : ∃ c r, wordL w ++ rest = c :: r ∧ c.toNat ≠ 32 ∧ c.toNat ≠ 35 ∧ wordOf (c :: r) = some (w, (wordL w).length) ∧ (c :: r).drop (wordL w).length = rest := by
  have hstop : ∀ l : List UInt8, l.all bareB = true → (l ++ rest).takeWhile bareB = l := by
    intro l hl
    rw [List.takeWhile_append_of_pos (List.all_eq_true.1 hl)]
    cases rest with
    | nil => simp
    | cons c r =>
      have hc : bareB c = false := by
        simp only [endOk, decide_eq_true_eq] at hr
        exact bareB_no (by omega)
      rw [List.takeWhile_cons, hc]; simp
  by_cases hb : bareL w = true
  · have hw : wordL w = w := by simp [wordL, hb]
    unfold bareL at hb
    rw [Bool.and_eq_true] at hb
    rw [hw]
    match w, hb with
    | c :: r, hb =>
      have hc : bareB c = true := List.all_eq_true.1 hb.2 c (by simp)
      have h := bareB_true hc
      refine ⟨c, r ++ rest, rfl, by omega, by omega, ?_, ?_⟩
      · have ht := hstop (c :: r) hb.2
        rw [List.cons_append] at ht
        rw [wordOf, if_neg (by omega), if_neg (by rw [hc]; decide), ht]
      · rw [← List.cons_append, List.drop_left]
    | [], hb => simp at hb
  · have hw : wordL w = quoteL w := by simp [wordL, hb]
    have hl : (quoteL w).length = (w.flatMap qb).length + 2 := by
      simp only [quoteL, List.length_append, List.length_cons, List.length_nil]
    refine ⟨34, w.flatMap qb ++ 34 :: rest, ?_, by decide, by decide, ?_, ?_⟩
    · rw [hw]; simp [quoteL]
    · rw [wordOf, if_pos (by decide), unq_written, hw, hl]; simp
    · rw [hw, hl, show (w.flatMap qb).length + 2 = ((w.flatMap qb).length + 1) + 1 from rfl, List.drop_succ_cons, List.drop_append]
      simp
theorem Cut.tail {R : Option (List (List UInt8))} : ∀ (ws acc : List (List UInt8)), (∀ w ∈ ws, w.length ≤ 200) → acc.length + ws.length ≤ 8 → Cut acc (ws.flatMap fun w => 32 :: wordL w) R → R = some (acc ++ ws)
  | [], acc, _, _, h => by rw [List.append_nil]; exact Cut.nil h
  | w :: ws, acc, h200, h8, h => by
    rw [List.flatMap_cons, List.cons_append] at h
    have h := h.space (by decide)
    have hr : endOk (ws.flatMap fun w => 32 :: wordL w) = true := by
      cases ws with
      | nil => rfl
      | cons x ws => rw [List.flatMap_cons, List.cons_append]; rfl
    obtain ⟨c, r, hcr, h1, h2, hw, hd⟩ := wordOf_end w _ hr
    rw [hcr] at h
    have hok : endOk ((c :: r).drop (wordL w).length) = true ∧ w.length ≤ 200 ∧ acc.length < 8 := ⟨by rw [hd]; exact hr, h200 w (by simp), by simp at h8; omega⟩
    have h' := h.word h1 h2 hw hok
    rw [hd] at h'
    have := Cut.tail ws (acc ++ [w]) (fun x hx => h200 x (by simp [hx])) (by simp at h8 ⊢; omega) h'
    rw [this, List.append_assoc]; rfl
/-- Words written behind a bare one. -/
theorem cutL_line (pre k : List UInt8) (ws : List (List UInt8)) (hp : ∀ c ∈ pre, c = 32) (hk : bareL k = true) (hk2 : k.length ≤ 200) (h200 : ∀ w ∈ ws, w.length ≤ 200) (h8 : ws.length ≤ 7) : cutL (pre ++ (k ++ ws.flatMap fun w => 32 :: wordL w)) = some (k :: ws) := by
  have hc := Cut.start (pre ++ (k ++ ws.flatMap fun w => 32 :: wordL w))
  generalize hR : cutL (pre ++ (k ++ ws.flatMap fun w => 32 :: wordL w)) = R at hc
  clear hR
  have hpre : ∀ (pre : List UInt8), (∀ c ∈ pre, c = 32) → Cut [] (pre ++ (k ++ ws.flatMap fun w => 32 :: wordL w)) R → Cut [] (k ++ ws.flatMap fun w => 32 :: wordL w) R := by
    intro pre
    induction pre with
    | nil => intro _ h; exact h
    | cons c pre ih =>
      intro hp h
      refine ih (fun x hx => hp x (by simp [hx])) (Cut.space h ?_)
      rw [hp c (by simp)]; decide
  have h := hpre pre hp hc
  have h' : Cut [] ((k :: ws).flatMap fun w => 32 :: wordL w) R := by
    obtain ⟨f, hf, hR⟩ := h
    refine ⟨f + 1, ?_, ?_⟩
    · rw [List.flatMap_cons, show wordL k = k from by simp [wordL, hk]]; simp at hf ⊢; omega
    · rw [List.flatMap_cons, List.cons_append, cutW, if_pos (by decide), show wordL k = k from by simp [wordL, hk]]; exact hR
  have := Cut.tail (k :: ws) [] (fun x hx => by rcases List.mem_cons.1 hx with rfl | hx; exact hk2; exact h200 x hx) (by simp; omega) h'
  simpa using this
/-- What the kinds' keys are like. -/
def KeysOk (R : List Plain) : Prop := ∀ p ∈ R, bareL p.1.data.toList = true ∧ p.1.data.toList.length ≤ 200 ∧ p.1.data.toList ≠ [101, 110, 100] ∧ p.2.1.length ≤ 3 ∧ ∀ t ∈ p.2.1, 1 ≤ t ∧ t ≤ 6
theorem keysOk (kind : ByteArray) : KeysOk (rulesOf kind) := by
  have := rulesOf_like kind
  have hk : ∀ p ∈ rulesOf kind, bareL p.1.data.toList = true ∧ p.1.data.toList.length ≤ 200 ∧ p.1.data.toList ≠ [101, 110, 100] := by
    unfold rulesOf
    split
    · unfold teamRules; decide
    · split
      · unfold berthRules; decide
      · split
        · unfold serviceRules; decide
        · simp
  intro p hp
  exact ⟨(hk p hp).1, (hk p hp).2.1, (hk p hp).2.2, (this.2 p hp).1, (this.2 p hp).2⟩
theorem kind_bare {kind : ByteArray} (h : (rulesOf kind).length ≠ 0) : bareL kind.data.toList = true ∧ kind.data.toList.length ≤ 200 := by
  rw [← ByteArray.toList_eq]
  unfold rulesOf at h
  split at h
  · rename_i e; rw [e]; decide
  · split at h
    · rename_i e; rw [e]; decide
    · split at h
      · rename_i e; rw [e]; decide
      · simp at h
theorem name_bare {l : List UInt8} (h : nameB l = true) : bareL l = true ∧ l.length ≤ 200 := by
  unfold nameB at h
  rw [Bool.and_eq_true, Bool.and_eq_true, decide_eq_true_eq, decide_eq_true_eq] at h
  refine ⟨?_, by omega⟩
  unfold bareL
  rw [Bool.and_eq_true]
  refine ⟨?_, ?_⟩
  · cases l with
    | nil => simp at h
    | cons c l => rfl
  · rw [List.all_eq_true]
    intro c hc
    have := List.all_eq_true.1 h.1 c hc
    unfold nameByte at this
    simp only [Bool.or_eq_true, Bool.and_eq_true, decide_eq_true_eq] at this
    exact bareB_mk (by omega)
theorem numB_len7 {l : List UInt8} (h : numB l = true) : l.length ≤ 7 := by
  unfold numB at h
  simp only [Bool.and_eq_true, decide_eq_true_eq] at h
  exact h.1.1.2
theorem fitsB_len {t : Int} {w : List UInt8} (h1 : 1 ≤ t) (h6 : t ≤ 6) (h : fitsB t w = true) : w.length ≤ 200 := by
  rcases six h1 h6 with rfl | rfl | rfl | rfl | rfl | rfl <;> unfold fitsB at h <;> simp at h
  · have := numB_len7 h; omega
  · unfold signB at h
    simp only [Bool.or_eq_true, Bool.and_eq_true] at h
    rcases h with h | h
    · have := numB_len7 h; omega
    · have := numB_len7 h.2
      simp at this
      omega
  · have := (name_bare h).2; exact this
  · exact h
  · unfold yesB at h
    simp only [Bool.or_eq_true, beq_iff_eq] at h
    rcases h with rfl | rfl <;> decide
  · unfold apartB at h
    simp only [Bool.or_eq_true, beq_iff_eq] at h
    rcases h with (rfl | rfl) | rfl <;> decide
/-- A line that fits is one that is read back. -/
theorem fits_line {kind : ByteArray} {a : PLine} (h : fitsIn (rulesOf kind) a.key a.ws = true) : bareL a.key.data.toList = true ∧ a.key.data.toList.length ≤ 200 ∧ a.key.data.toList ≠ [101, 110, 100] ∧ a.ws.length ≤ 3 ∧ ∀ w ∈ a.ws, w.length ≤ 200 := by
  cases hp : pickR (rulesOf kind) a.key with
  | none => rw [fitsIn_none _ hp] at h; cases h
  | some p =>
    obtain ⟨i, _, hi, hk⟩ := pick_place hp
    have hm : p ∈ rulesOf kind := List.mem_of_getElem? hi
    obtain ⟨k1, k2, k3, k4, k5⟩ := keysOk kind p hm
    rw [fitsIn_some _ hp] at h
    unfold fitsWords at h
    rw [Bool.and_eq_true, decide_eq_true_eq] at h
    rw [hk] at k1 k2 k3
    refine ⟨k1, k2, k3, by omega, fun w hw => ?_⟩
    obtain ⟨j, hj, rfl⟩ := List.mem_iff_getElem.1 hw
    have hz : fitsB (p.2.1[j]'(by omega)) a.ws[j] = true := by
      have := List.all_eq_true.1 h.2 (fitsB (p.2.1[j]'(by omega)) a.ws[j]) (List.mem_iff_getElem.2 ⟨j, by simp; omega, by simp⟩)
      simpa using this
    have ht := k5 _ (List.getElem_mem (by omega : j < p.2.1.length))
    exact fitsB_len ht.1 ht.2 hz
theorem keyOf_data (k : ByteArray) : keyOf k.data.toList = k := by
  unfold keyOf; simp
/-- The lines of a written block. -/
def blockLs (b : PBlock) : List (List UInt8) := headL b :: (b.lines.map (fun a => 32 :: 32 :: lineL a) ++ [[101, 110, 100]])
/-- What writing a block asks of it. -/
def WriteOk (b : PBlock) : Prop := (rulesOf b.kind).length ≠ 0 ∧ nameB b.name.data.toList = true ∧ ∀ a ∈ b.lines, fitsIn (rulesOf b.kind) a.key a.ws = true
theorem bareL_ten {l : List UInt8} (h : bareL l = true) : (10 : UInt8) ∉ l := by
  unfold bareL at h
  rw [Bool.and_eq_true] at h
  exact bareB_ten h.2
theorem lineL_ten {a : PLine} (h : bareL a.key.data.toList = true) : (10 : UInt8) ∉ lineL a := by
  unfold lineL
  intro e
  rcases List.mem_append.1 e with e | e
  · exact bareL_ten h e
  · obtain ⟨w, _, hw⟩ := List.mem_flatMap.1 e
    rcases List.mem_cons.1 hw with hw | hw
    · cases hw
    · exact wordL_ten w hw
theorem textLines_lines (ls : List PLine) (h : ∀ a ∈ ls, bareL a.key.data.toList = true) (rest : List UInt8) : textLines (ls.flatMap (fun a => 32 :: 32 :: lineL a ++ [10]) ++ rest) = ls.map (fun a => 32 :: 32 :: lineL a) ++ textLines rest := by
  induction ls with
  | nil => rfl
  | cons a ls ih =>
    rw [List.flatMap_cons, List.append_assoc, List.append_assoc, List.singleton_append, textLines_line, ih (fun b hb => h b (by simp [hb]))]
    · rfl
    · intro e
      rcases List.mem_cons.1 e with e | e
      · cases e
      rcases List.mem_cons.1 e with e | e
      · cases e
      exact lineL_ten (h a (by simp)) e
theorem textLines_block (b : PBlock) (h : WriteOk b) (rest : List UInt8) : textLines (blockL b ++ rest) = blockLs b ++ textLines rest := by
  unfold blockL blockLs
  rw [List.append_assoc, List.cons_append, textLines_line, List.append_assoc, textLines_lines]
  · rw [show ([101, 110, 100, 10] ++ rest : List UInt8) = [101, 110, 100] ++ 10 :: rest from rfl, textLines_line _ _ (by decide)]
    simp
  · intro a ha; exact (fits_line (h.2.2 a ha)).1
  · intro e
    rcases List.mem_append.1 e with e | e
    · exact bareL_ten (kind_bare h.1).1 e
    · rcases List.mem_cons.1 e with e | e
      · cases e
      · exact bareL_ten (name_bare h.2.1).1 e
theorem textLines_sheet : ∀ (bs : List PBlock), (∀ b ∈ bs, WriteOk b) → textLines (sheetL bs) = bs.flatMap blockLs
  | [], _ => rfl
  | b :: bs, h => by
    rw [sheetL, List.flatMap_cons, textLines_block b (h b (by simp)), ← sheetL, textLines_sheet bs (fun c hc => h c (by simp [hc])), List.flatMap_cons]
theorem cutL_head {b : PBlock} (h : WriteOk b) : cutL (headL b) = some [b.kind.data.toList, b.name.data.toList] := by
  have h1 := kind_bare h.1
  have h2 := name_bare h.2.1
  have := cutL_line [] b.kind.data.toList [b.name.data.toList] (by simp) h1.1 h1.2 (by simpa using h2.2) (by simp)
  rw [← this]
  simp [headL, wordL, h2.1]
theorem cutL_in {kind : ByteArray} {a : PLine} (h : fitsIn (rulesOf kind) a.key a.ws = true) : cutL (32 :: 32 :: lineL a) = some (a.key.data.toList :: a.ws) := by
  obtain ⟨h1, h2, _, h4, h5⟩ := fits_line h
  exact cutL_line [32, 32] a.key.data.toList a.ws (by simp) h1 h2 h5 (by omega)
theorem cutL_end : cutL [101, 110, 100] = some [[101, 110, 100]] := by
  have := cutL_line [] [101, 110, 100] [] (by simp) (by decide) (by decide) (by simp) (by simp)
  simpa using this
theorem parseGo_words {n : Nat} {done : List PBlock} {op : Option PBlock} {l w : List UInt8} {rest ws : List (List UInt8)} (hc : cutL l = some (w :: ws)) (h0 : (stepW done op w ws).1 = 0) : parseGo n done op (l :: rest) = parseGo (n + 1) (stepW done op w ws).2.1 (stepW done op w ws).2.2 rest := by
  rw [parseGo, hc]
  simp only
  rw [if_neg (by simp [h0])]
/-- Written lines of a block are read behind those that there are. -/
theorem parse_lines : ∀ (ls es : List PLine) (n : Nat) (done : List PBlock) (kind name : ByteArray) (rest : List (List UInt8)), GoodLs (rulesOf kind) (es ++ ls) → parseGo n done (some ⟨kind, name, es⟩) (ls.map (fun a => 32 :: 32 :: lineL a) ++ rest) = parseGo (n + ls.length) done (some ⟨kind, name, es ++ ls⟩) rest
  | [], es, n, done, kind, name, rest, _ => by simp
  | a :: ls, es, n, done, kind, name, rest, h => by
    have h' : GoodLs (rulesOf kind) ((es ++ [a]) ++ ls) := by rw [List.append_assoc]; exact h
    have hf : lineFault (rulesOf kind) es a = 0 := by
      have := h es.length a (by rw [List.getElem?_append_right (Nat.le_refl _)]; simp)
      rwa [List.take_append_of_le_length (Nat.le_refl _), List.take_length] at this
    have hfit := (lineFault_zero.1 hf).1
    have hne := (fits_line hfit).2.2.1
    have hst := stepW_in (done := done) (b := ⟨kind, name, es⟩) (w := a.key.data.toList) (ws := a.ws) (fun e => hne e.1)
    rw [keyOf_data] at hst
    rw [List.map_cons, List.cons_append, parseGo_words (cutL_in hfit) (by rw [hst]; exact hf), hst]
    show parseGo (n + 1) done (some ⟨kind, name, es ++ [a]⟩) _ = _
    rw [parse_lines ls (es ++ [a]) (n + 1) done kind name rest h', List.append_assoc]
    simp only [List.singleton_append, List.length_cons]
    rw [show n + 1 + ls.length = n + (ls.length + 1) by omega]
theorem parse_blocks : ∀ (bs done : List PBlock) (n : Nat), GoodBs (done ++ bs) → parseGo n done none (bs.flatMap blockLs) = .good (done ++ bs)
  | [], done, n, _ => by simp [parseGo]
  | b :: bs, done, n, h => by
    have h' : GoodBs ((done ++ [b]) ++ bs) := by rw [List.append_assoc]; exact h
    have hh : headFault done b.kind b.name = 0 := by
      have := h.1 done.length b (by rw [List.getElem?_append_right (Nat.le_refl _)]; simp)
      rwa [List.take_append_of_le_length (Nat.le_refl _), List.take_length] at this
    have hg : GoodLs (rulesOf b.kind) b.lines := h.2 b (by simp)
    have hz := headFault_zero.1 hh
    have hw : WriteOk b := ⟨hz.1, hz.2.1, hg.fits⟩
    have hst := stepW_head done b.kind.data.toList b.name.data.toList
    rw [keyOf_data, keyOf_data] at hst
    rw [List.flatMap_cons, blockLs, List.cons_append, parseGo_words (cutL_head hw) (by rw [hst]; exact hh), hst, List.append_assoc]
    show parseGo (n + 1) done (some ⟨b.kind, b.name, []⟩) _ = _
    rw [parse_lines b.lines [] (n + 1) done b.kind b.name _ (by simpa using hg), List.nil_append, List.singleton_append, parseGo_words cutL_end (by rw [stepW_end]), stepW_end]
    show parseGo _ (done ++ [b]) none _ = _
    rw [parse_blocks bs (done ++ [b]) _ h', List.append_assoc]; rfl
theorem SheetOk.good {bs : List PBlock} (h : SheetOk bs) : GoodBs bs := by
  have hi := (impl_sheetOk h).1
  refine ⟨fun i b hb => (hi i b hb).1, fun b hb => ?_⟩
  exact (impl_linesOk (h.2.1 b hb).2.2).1
theorem normLs_id {R : List Plain} {ls : List PLine} (h : LinesOk R ls) : normLs R ls = ls :=
  (sorted_unique (lineLt_irr R) (lineLt_trans R) h.2.1 (normLs_sorted ls (impl_linesOk h).1) (normLs_perm R ls).symm).symm
theorem normBs_id {bs : List PBlock} (h : SheetOk bs) : normBs bs = bs := by
  have hm : bs.map normB = bs := by
    conv => rhs; rw [← List.map_id bs]
    refine List.map_congr_left fun b hb => ?_
    show normB b = b
    unfold normB
    rw [normLs_id (h.2.1 b hb).2.2]
  have hp := normBs_perm bs
  rw [hm] at hp
  exact (sorted_unique blockLt_irr blockLt_trans h.2.2 (normBs_sorted bs h.good) hp.symm).symm
/-- A valid sheet that is not too long is read back. -/
theorem parse_print {bs : List PBlock} (h : SheetOk bs) (hl : ¬ tooLongL (sheetL bs)) : parseT (sheetL bs) = .good bs := by
  have hw : ∀ b ∈ bs, WriteOk b := fun b hb => ⟨(h.2.1 b hb).1, (h.2.1 b hb).2.1, (h.2.1 b hb).2.2.1⟩
  rw [parseT_go hl, textLines_sheet bs hw]
  exact parse_blocks bs [] 0 h.good
theorem linesN_sheet (bs : List PBlock) : (bs.flatMap blockLs).length = (bs.map fun b => b.lines.length + 2).sum := by
  induction bs with
  | nil => rfl
  | cons b bs ih => rw [List.flatMap_cons, List.length_append, ih, List.map_cons, List.sum_cons]; simp [blockLs]
/-- A fault of a line does not hang on what stands behind it. -/
theorem parseGo_behind : ∀ (ls ms : List (List UInt8)) (n : Nat) (done : List PBlock) (op : Option PBlock) (k : Nat) (c : Int), parseGo n done op ls = .bad k c → k ≤ n + ls.length → parseGo n done op (ls ++ ms) = .bad k c
  | [], ms, n, done, none, k, c, e, _ => by cases e
  | [], ms, n, done, some b, k, c, e, hk => by cases e; exact absurd hk (by simp)
  | l :: ls, ms, n, done, op, k, c, e, hk => by
    rw [List.cons_append]
    unfold parseGo at e ⊢
    split at e
    · exact e
    · exact parseGo_behind ls ms _ _ _ k c e (by simp at hk; omega)
    · split at e
      · rename_i h0; rw [if_pos h0]; exact e
      · rename_i h0
        rw [if_neg h0]
        exact parseGo_behind ls ms _ _ _ k c e (by simp at hk; omega)
/-- The line of a fault is one of the text, but where a block is not ended. -/
theorem parseGo_line : ∀ (ls : List (List UInt8)) (n : Nat) (done : List PBlock) (op : Option PBlock) (k : Nat) (c : Int), parseGo n done op ls = .bad k c → n < k ∧ (k ≤ n + ls.length ∨ k = n + ls.length + 1 ∧ c = 8)
  | [], n, done, none, k, c, e => by cases e
  | [], n, done, some b, k, c, e => by cases e; simp
  | l :: ls, n, done, op, k, c, e => by
    unfold parseGo at e
    split at e
    · cases e; simp
    · have := parseGo_line ls _ _ _ k c e; simp; omega
    · split at e
      · cases e; simp
      · have := parseGo_line ls _ _ _ k c e; simp; omega
/-- A fault of a line is met with the lines up to it alone. -/
theorem parseGo_upto : ∀ (ls : List (List UInt8)) (n : Nat) (done : List PBlock) (op : Option PBlock) (k : Nat) (c : Int) (ms : List (List UInt8)), parseGo n done op ls = .bad k c → k ≤ n + ls.length → parseGo n done op (ls.take (k - n) ++ ms) = .bad k c
  | [], n, done, op, k, c, ms, e, hk => by
    have := (parseGo_line [] n done op k c e).1
    simp at hk; omega
  | l :: ls, n, done, op, k, c, ms, e, hk => by
    have hlt := (parseGo_line (l :: ls) n done op k c e).1
    rw [show k - n = (k - (n + 1)) + 1 by omega, List.take_succ_cons, List.cons_append]
    unfold parseGo at e ⊢
    split at e
    · exact e
    · exact parseGo_upto ls _ _ _ k c ms e (by simp at hk; omega)
    · split at e
      · rename_i h0; rw [if_pos h0]; exact e
      · rename_i h0
        rw [if_neg h0]
        exact parseGo_upto ls _ _ _ k c ms e (by simp at hk; omega)
end Go.Proofs.YtlaejmehgaeobabGreatDoor
