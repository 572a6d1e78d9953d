import Derived.Test.YtlaejmehgaeobabGreatDoorSheetP
import Derived.Test.YtlaejmehgaeobabGreatDoorWordsPlain
namespace Go.Proofs.YtlaejmehgaeobabGreatDoor
/-- No line of a block has a fault behind those before it. -/
def GoodLs (R : List Plain) (ls : List PLine) : Prop := ∀ i a, ls[i]? = some a → lineFault R (ls.take i) a = 0
theorem GoodLs.nil (R : List Plain) : GoodLs R [] := by intro i a h; simp at h
theorem GoodLs.snoc {R : List Plain} {ls : List PLine} {a : PLine} (h : GoodLs R ls) (ha : lineFault R ls a = 0) : GoodLs R (ls ++ [a]) := by
  intro i b hb
  by_cases hi : i < ls.length
  · rw [List.getElem?_append_left hi] at hb
    rw [List.take_append_of_le_length (by omega)]
    exact h i b hb
  · rw [List.getElem?_append_right (by omega)] at hb
    have h0 : i - ls.length = 0 := by
      by_cases h0 : i - ls.length = 0
      · exact h0
      · rw [List.getElem?_eq_none (by simp; omega)] at hb; cases hb
    rw [h0] at hb
    cases hb
    rw [show i = ls.length by omega, List.take_append_of_le_length (Nat.le_refl _), List.take_length]
    exact ha
theorem GoodLs.front {R : List Plain} {ls : List PLine} {a : PLine} (h : GoodLs R (ls ++ [a])) : GoodLs R ls ∧ lineFault R ls a = 0 := by
  constructor
  · intro i b hb
    have hi := (List.getElem?_eq_some_iff.1 hb).1
    have := h i b (by rw [List.getElem?_append_left hi]; exact hb)
    rwa [List.take_append_of_le_length (by omega)] at this
  · have := h ls.length a (by rw [List.getElem?_append_right (Nat.le_refl _)]; simp)
    rwa [List.take_append_of_le_length (Nat.le_refl _), List.take_length] at this
theorem keyN_perm {l m : List PLine} (h : l.Perm m) (k : ByteArray) : keyN l k = keyN m k := h.countP_eq _
theorem any_perm {α : Type} {l m : List α} (h : l.Perm m) (p : α → Bool) : l.any p = m.any p := by
  rw [Bool.eq_iff_iff, List.any_eq_true, List.any_eq_true]
  exact ⟨fun ⟨x, hx, hp⟩ => ⟨x, h.mem_iff.1 hx, hp⟩, fun ⟨x, hx, hp⟩ => ⟨x, h.mem_iff.2 hx, hp⟩⟩
theorem lineFault_perm {R : List Plain} {l m : List PLine} (h : l.Perm m) (a : PLine) : lineFault R l a = lineFault R m a := by
  unfold lineFault
  rw [keyN_perm h, any_perm h]
/-- The lines of a block put in their order one by one. -/
def normLs (R : List Plain) (ls : List PLine) : List PLine := ls.foldl (fun acc a => putIn (lineLt R) a acc) []
theorem normLs_snoc (R : List Plain) (ls : List PLine) (a : PLine) : normLs R (ls ++ [a]) = putIn (lineLt R) a (normLs R ls) := by simp [normLs]
theorem fold_perm {α : Type} (lt : α → α → Bool) : ∀ (ls acc : List α), (ls.foldl (fun acc a => putIn lt a acc) acc).Perm (acc ++ ls)
  | [], acc => by simp
  | a :: ls, acc => by
    rw [List.foldl_cons]
    refine (fold_perm lt ls _).trans ?_
    refine ((putIn_perm lt a acc).append_right ls).trans ?_
    exact (List.perm_middle (a := a) (l₁ := acc) (l₂ := ls)).symm
theorem normLs_perm (R : List Plain) (ls : List PLine) : (normLs R ls).Perm ls := by
  have := fold_perm (lineLt R) ls []
  simpa [normLs] using this
theorem pairwise_putIn {α : Type} {lt : α → α → Bool} (ht : ∀ a b c, lt a b = true → lt b c = true → lt a c = true) (x : α) : ∀ (l : List α), l.Pairwise (fun a b => lt a b = true) → (∀ y ∈ l, lt y x = false → lt x y = true) → (putIn lt x l).Pairwise (fun a b => lt a b = true)
  | [], _, _ => List.pairwise_singleton _ _
  | y :: l, h, hx => by
    have h1 := List.pairwise_cons.1 h
    unfold putIn
    split
    · rename_i hy
      refine List.pairwise_cons.2 ⟨fun z hz => ?_, pairwise_putIn ht x l h1.2 fun z hz => hx z (List.mem_cons_of_mem _ hz)⟩
      rcases List.mem_cons.1 ((putIn_perm lt x l).mem_iff.1 hz) with rfl | hz
      · exact hy
      · exact h1.1 z hz
    · rename_i hy
      have hxy := hx y (List.mem_cons_self ..) (by simpa using hy)
      refine List.pairwise_cons.2 ⟨fun z hz => ?_, h⟩
      rcases List.mem_cons.1 hz with rfl | hz
      · exact hxy
      · exact ht _ _ _ hxy (h1.1 z hz)
/-- A line that is no fault is parted from each other one. -/
theorem lineLt_tri {R : List Plain} {es : List PLine} {a b : PLine} (hb : b ∈ es) (hfb : fitsIn R b.key b.ws = true) (h : lineFault R es a = 0) (hn : lineLt R b a = false) : lineLt R a b = true := by
  have hz := lineFault_zero.1 h
  rw [← Bool.not_eq_true, lineLt_iff] at hn
  rw [lineLt_iff]
  have hka : pickR R a.key ≠ none := fun e => by have := hz.1; rw [fitsIn_none _ e] at this; cases this
  have hkb : pickR R b.key ≠ none := fun e => by rw [fitsIn_none _ e] at hfb; cases hfb
  by_cases hp : placeI R a.key = placeI R b.key
  · have hk := place_same hka hkb hp
    have hw := (hz.2.1 b hb hk.symm).2
    refine .inr ⟨hp, ?_⟩
    by_cases hlt : a.ws < b.ws
    · exact hlt
    · exact absurd (Tot.tri _ _ (fun q => hn (.inr ⟨hp.symm, q⟩)) hlt) hw
  · left
    have : ¬ placeI R b.key < placeI R a.key := fun q => hn (.inl q)
    omega
theorem GoodLs.fits {R : List Plain} {ls : List PLine} (h : GoodLs R ls) : ∀ a ∈ ls, fitsIn R a.key a.ws = true := by
  intro a ha
  obtain ⟨i, hi, rfl⟩ := List.mem_iff_getElem.1 ha
  exact (lineFault_zero.1 (h i _ (List.getElem?_eq_getElem hi))).1
theorem snoc_induct {α : Type} {P : List α → Prop} (h0 : P []) (h1 : ∀ l a, P l → P (l ++ [a])) (l : List α) : P l := by
  rw [← List.reverse_reverse l]
  induction l.reverse with
  | nil => exact h0
  | cons a m ih => rw [List.reverse_cons]; exact h1 _ _ ih
theorem normLs_sorted {R : List Plain} (ls : List PLine) : GoodLs R ls → (normLs R ls).Pairwise (fun a b => lineLt R a b = true) := by
  refine snoc_induct (P := fun ls => GoodLs R ls → (normLs R ls).Pairwise (fun a b => lineLt R a b = true)) (fun _ => .nil) (fun l a ih h => ?_) ls
  have hf := h.front
  rw [normLs_snoc]
  refine pairwise_putIn (lineLt_trans R) a _ (ih hf.1) fun y hy hn => ?_
  have hm := (normLs_perm R l).mem_iff.1 hy
  exact lineLt_tri hm (hf.1.fits y hm) hf.2 hn
theorem GoodLs.counts {R : List Plain} (ls : List PLine) : GoodLs R ls → ∀ a ∈ ls, (manyR R a.key = true ∨ keyN ls a.key ≤ 1) ∧ keyN ls a.key ≤ 10 := by
  refine snoc_induct (P := fun ls => GoodLs R ls → ∀ a ∈ ls, (manyR R a.key = true ∨ keyN ls a.key ≤ 1) ∧ keyN ls a.key ≤ 10) (fun _ a ha => by simp at ha) (fun l b ih h a ha => ?_) ls
  have hf := h.front
  rw [keyN_append, keyN_one]
  by_cases hk : b.key = a.key
  · rw [if_pos hk, ← hk]
    have hz := lineFault_zero.1 hf.2
    refine ⟨?_, by omega⟩
    by_cases hm : manyR R b.key = true
    · exact .inl hm
    · right
      have : keyN l b.key = 0 := by
        unfold keyN
        rw [List.countP_eq_zero]
        intro o ho hk'
        exact hm (hz.2.1 o ho (toList_inj (by simpa using hk'))).1
      omega
  · rw [if_neg hk, Nat.add_zero]
    rcases List.mem_append.1 ha with h1 | h1
    · exact ih hf.1 a h1
    · exact absurd (List.mem_singleton.1 h1).symm (fun e => hk (by rw [e]))
/-- In their order, the lines of a block that has no fault are valid. -/
theorem normLs_ok {R : List Plain} {ls : List PLine} (h : GoodLs R ls) : LinesOk R (normLs R ls) := by
  have hp := normLs_perm R ls
  refine ⟨fun a ha => h.fits a (hp.mem_iff.1 ha), normLs_sorted ls h, fun a ha => ?_⟩
  rw [keyN_perm hp]
  exact h.counts ls a (hp.mem_iff.1 ha)
/-- However they are put in order, it is this one. -/
theorem normLs_unique {R : List Plain} {ls ms : List PLine} (h : GoodLs R ls) (hp : ms.Perm ls) (hs : ∀ i j : Nat, i < j → ∀ a b, ms[i]? = some a → ms[j]? = some b → lineLt R b a = false) : ms = normLs R ls := by
  have hstrict : ms.Pairwise (fun a b => lineLt R a b = true) := by
    have hN := normLs_ok h
    have hmem : ∀ a ∈ ms, a ∈ normLs R ls := fun a ha => (normLs_perm R ls).mem_iff.2 (hp.mem_iff.1 ha)
    have hnd : ms.Nodup := by
      have hq : (normLs R ls).Nodup := hN.2.1.imp (fun {a b} hab e => by subst e; exact lineLt_irr R _ hab)
      exact (hp.trans (normLs_perm R ls).symm).nodup_iff.2 hq
    rw [List.pairwise_iff_getElem]
    intro i j hi hj hij
    have hn := hs i j hij _ _ (List.getElem?_eq_getElem hi) (List.getElem?_eq_getElem hj)
    obtain ⟨x, hx, ex⟩ := List.mem_iff_getElem.1 (hmem _ (List.getElem_mem hi))
    obtain ⟨y, hy, ey⟩ := List.mem_iff_getElem.1 (hmem _ (List.getElem_mem hj))
    have hne : x ≠ y := by
      intro e; subst e
      have : ms[i] = ms[j] := ex.symm.trans ey
      exact (List.pairwise_iff_getElem.1 hnd) i j hi hj hij this
    rw [← ex, ← ey] at hn ⊢
    rcases Nat.lt_or_gt_of_ne hne with h1 | h1
    · exact (List.pairwise_iff_getElem.1 hN.2.1) x y hx hy h1
    · rw [(List.pairwise_iff_getElem.1 hN.2.1) y x hy hx h1] at hn; cases hn
  exact sorted_unique (lineLt_irr R) (lineLt_trans R) hstrict (normLs_sorted ls h) (hp.trans (normLs_perm R ls).symm)
/-- Blocks as they are read one behind the other: no head has a fault. -/
def GoodBs (bs : List PBlock) : Prop := (∀ i b, bs[i]? = some b → headFault (bs.take i) b.kind b.name = 0) ∧ ∀ b ∈ bs, GoodLs (rulesOf b.kind) b.lines
theorem GoodBs.nil : GoodBs [] := ⟨by intro i a h; simp at h, by simp⟩
theorem GoodBs.snoc {bs : List PBlock} {b : PBlock} (h : GoodBs bs) (hb : headFault bs b.kind b.name = 0) (hl : GoodLs (rulesOf b.kind) b.lines) : GoodBs (bs ++ [b]) := by
  refine ⟨?_, fun c hc => ?_⟩
  · intro i c hc
    by_cases hi : i < bs.length
    · rw [List.getElem?_append_left hi] at hc
      rw [List.take_append_of_le_length (by omega)]
      exact h.1 i c hc
    · rw [List.getElem?_append_right (by omega)] at hc
      have h0 : i - bs.length = 0 := by
        by_cases h0 : i - bs.length = 0
        · exact h0
        · rw [List.getElem?_eq_none (by simp; omega)] at hc; cases hc
      rw [h0] at hc
      cases hc
      rw [show i = bs.length by omega, List.take_append_of_le_length (Nat.le_refl _), List.take_length]
      exact hb
  · rcases List.mem_append.1 hc with h1 | h1
    · exact h.2 c h1
    · rw [List.mem_singleton.1 h1]; exact hl
theorem GoodBs.front {bs : List PBlock} {b : PBlock} (h : GoodBs (bs ++ [b])) : GoodBs bs ∧ headFault bs b.kind b.name = 0 ∧ GoodLs (rulesOf b.kind) b.lines := by
  refine ⟨⟨?_, fun c hc => h.2 c (List.mem_append_left _ hc)⟩, ?_, h.2 b (by simp)⟩
  · intro i c hc
    have hi := (List.getElem?_eq_some_iff.1 hc).1
    have := h.1 i c (by rw [List.getElem?_append_left hi]; exact hc)
    rwa [List.take_append_of_le_length (by omega)] at this
  · have := h.1 bs.length b (by rw [List.getElem?_append_right (Nat.le_refl _)]; simp)
    rwa [List.take_append_of_le_length (Nat.le_refl _), List.take_length] at this
def normB (b : PBlock) : PBlock := ⟨b.kind, b.name, normLs (rulesOf b.kind) b.lines⟩
/-- Blocks put in their order one by one, each with its lines in order. -/
def normBs (bs : List PBlock) : List PBlock := (bs.map normB).foldl (fun acc a => putIn blockLt a acc) []
theorem normBs_snoc (bs : List PBlock) (b : PBlock) : normBs (bs ++ [b]) = putIn blockLt (normB b) (normBs bs) := by simp [normBs]
theorem normBs_perm (bs : List PBlock) : (normBs bs).Perm (bs.map normB) := by
  have := fold_perm blockLt (bs.map normB) []
  simpa [normBs] using this
theorem headFault_perm {l m : List PBlock} (h : (l.map fun b => (b.kind, b.name)).Perm (m.map fun b => (b.kind, b.name))) (kind name : ByteArray) : headFault l kind name = headFault m kind name := by
  have e1 : ∀ l : List PBlock, l.any (fun o => o.kind.toList == kind.toList && o.name.toList == name.toList) = (l.map fun b => (b.kind, b.name)).any (fun p => p.1.toList == kind.toList && p.2.toList == name.toList) := by
    intro l; rw [List.any_map]; rfl
  have e2 : l.length = m.length := by have := h.length_eq; simpa using this
  unfold headFault
  rw [e1 l, e1 m, any_perm h, e2]
theorem headFault_norm (bs : List PBlock) (kind name : ByteArray) : headFault (normBs bs) kind name = headFault bs kind name := by
  refine headFault_perm ?_ kind name
  refine ((normBs_perm bs).map _).trans ?_
  rw [List.map_map]
  exact .refl _
theorem blockLt_tri {es : List PBlock} {a b : PBlock} (hb : b ∈ es) (h : headFault es a.kind a.name = 0) (hn : blockLt b a = false) : blockLt a b = true := by
  have hz := (headFault_zero.1 h).2.2.1 b hb
  rw [← Bool.not_eq_true, blockLt_iff] at hn
  rw [blockLt_iff]
  by_cases h3 : a.kind.toList < b.kind.toList
  · exact .inl h3
  · have e1 := Tot.tri _ _ (fun q => hn (.inl q)) h3
    refine .inr ⟨e1.symm, ?_⟩
    by_cases h4 : a.name.toList < b.name.toList
    · exact h4
    · have e2 := Tot.tri _ _ (fun q => hn (.inr ⟨e1, q⟩)) h4
      exact absurd ⟨toList_inj e1, toList_inj e2⟩ hz
theorem normBs_sorted (bs : List PBlock) : GoodBs bs → (normBs bs).Pairwise (fun a b => blockLt a b = true) := by
  refine snoc_induct (P := fun bs => GoodBs bs → (normBs bs).Pairwise (fun a b => blockLt a b = true)) (fun _ => .nil) (fun l a ih h => ?_) bs
  have hf := h.front
  rw [normBs_snoc]
  refine pairwise_putIn blockLt_trans _ _ (ih hf.1) fun y hy hn => ?_
  have := headFault_norm l a.kind a.name
  rw [hf.2.1] at this
  exact blockLt_tri (a := normB a) hy this hn
/-- What is read without a fault is, in its order, a valid sheet. -/
theorem normBs_ok {bs : List PBlock} (h : GoodBs bs) : SheetOk (normBs bs) := by
  have hp := normBs_perm bs
  refine ⟨?_, fun b hb => ?_, normBs_sorted bs h⟩
  · rw [hp.length_eq, List.length_map]
    by_cases h0 : bs.length = 0
    · omega
    · have := (headFault_zero.1 (h.1 (bs.length - 1) bs[bs.length - 1] (List.getElem?_eq_getElem (by omega)))).2.2.2
      simp at this
      omega
  · obtain ⟨c, hc, rfl⟩ := List.mem_map.1 (hp.mem_iff.1 hb)
    obtain ⟨i, hi, rfl⟩ := List.mem_iff_getElem.1 hc
    have hz := headFault_zero.1 (h.1 i _ (List.getElem?_eq_getElem hi))
    exact ⟨hz.1, hz.2.1, normLs_ok (h.2 _ hc)⟩
theorem normBs_unique {bs ms : List PBlock} (h : GoodBs bs) (hp : ms.Perm (bs.map normB)) (hs : ∀ i j : Nat, i < j → ∀ a b, ms[i]? = some a → ms[j]? = some b → blockLt b a = false) : ms = normBs bs := by
  have hstrict : ms.Pairwise (fun a b => blockLt a b = true) := by
    have hN := normBs_sorted bs h
    have hmem : ∀ a ∈ ms, a ∈ normBs bs := fun a ha => (normBs_perm bs).mem_iff.2 (hp.mem_iff.1 ha)
    have hnd : ms.Nodup := by
      have hq : (normBs bs).Nodup := hN.imp (fun {a b} hab e => by subst e; exact blockLt_irr _ hab)
      exact (hp.trans (normBs_perm bs).symm).nodup_iff.2 hq
    rw [List.pairwise_iff_getElem]
    intro i j hi hj hij
    have hn := hs i j hij _ _ (List.getElem?_eq_getElem hi) (List.getElem?_eq_getElem hj)
    obtain ⟨x, hx, ex⟩ := List.mem_iff_getElem.1 (hmem _ (List.getElem_mem hi))
    obtain ⟨y, hy, ey⟩ := List.mem_iff_getElem.1 (hmem _ (List.getElem_mem hj))
    have hne : x ≠ y := by
      intro e; subst e
      have : ms[i] = ms[j] := ex.symm.trans ey
      exact (List.pairwise_iff_getElem.1 hnd) i j hi hj hij this
    rw [← ex, ← ey] at hn ⊢
    rcases Nat.lt_or_gt_of_ne hne with h1 | h1
    · exact (List.pairwise_iff_getElem.1 hN) x y hx hy h1
    · rw [(List.pairwise_iff_getElem.1 hN) y x hy hx h1] at hn; cases hn
  exact sorted_unique blockLt_irr blockLt_trans hstrict (normBs_sorted bs h) (hp.trans (normBs_perm bs).symm)
/-- A text's lines; a last piece that is empty is none. -/
def linesFrom : List UInt8 → List UInt8 → List (List UInt8)
  | acc, [] => if acc = [] then [] else [acc]
  | acc, c :: l => if c = 10 then acc :: linesFrom [] l else linesFrom (acc ++ [c]) l
def textLines (l : List UInt8) : List (List UInt8) := linesFrom [] l
/-- What reading comes to: a line and a code, or blocks as they stand in the text. -/
inductive PRes where
  | bad (line : Nat) (code : Int)
  | good (bs : List PBlock)
def keyOf (w : List UInt8) : ByteArray := ⟨w.toArray⟩
/-- One line with words: w, and ws behind it. -/
def stepW (done : List PBlock) : Option PBlock → List UInt8 → List (List UInt8) → Int × List PBlock × Option PBlock
  | none, w, ws => match ws with
    | [n] => (headFault done (keyOf w) (keyOf n), done, some ⟨keyOf w, keyOf n, []⟩)
    | _ => (2, done, none)
  | some b, w, ws => if w = [101, 110, 100] ∧ ws = [] then (0, done ++ [b], none) else (lineFault (rulesOf b.kind) b.lines ⟨keyOf w, ws⟩, done, some ⟨b.kind, b.name, b.lines ++ [⟨keyOf w, ws⟩]⟩)
def parseGo : Nat → List PBlock → Option PBlock → List (List UInt8) → PRes
  | n, done, op, [] => match op with
    | none => .good done
    | some _ => .bad (n + 1) 8
  | n, done, op, l :: rest => match cutL l with
    | none => .bad (n + 1) 1
    | some [] => parseGo (n + 1) done op rest
    | some (w :: ws) => if (stepW done op w ws).1 ≠ 0 then .bad (n + 1) (stepW done op w ws).1 else parseGo (n + 1) (stepW done op w ws).2.1 (stepW done op w ws).2.2 rest
def parseT (text : List UInt8) : PRes := if 20000 < text.length ∨ 400 < (textLines text).length then .bad 0 11 else parseGo 0 [] none (textLines text)
/-- What holds of blocks and an open one as they are read. -/
def GoodSt (done : List PBlock) : Option PBlock → Prop
  | none => GoodBs done
  | some b => GoodBs done ∧ headFault done b.kind b.name = 0 ∧ GoodLs (rulesOf b.kind) b.lines
theorem stepW_end (done : List PBlock) (b : PBlock) : stepW done (some b) [101, 110, 100] [] = (0, done ++ [b], none) := rfl
theorem stepW_in {done : List PBlock} {b : PBlock} {w : List UInt8} {ws : List (List UInt8)} (h : ¬ (w = [101, 110, 100] ∧ ws = [])) : stepW done (some b) w ws = (lineFault (rulesOf b.kind) b.lines ⟨keyOf w, ws⟩, done, some ⟨b.kind, b.name, b.lines ++ [⟨keyOf w, ws⟩]⟩) := by
  show (if _ then _ else _) = _
  rw [if_neg h]
theorem stepW_out {done : List PBlock} {w : List UInt8} {ws : List (List UInt8)} (h : ws.length ≠ 1) : stepW done none w ws = (2, done, none) := by
  match ws, h with
  | [], _ => rfl
  | _ :: _ :: _, _ => rfl
theorem stepW_head (done : List PBlock) (w n : List UInt8) : stepW done none w [n] = (headFault done (keyOf w) (keyOf n), done, some ⟨keyOf w, keyOf n, []⟩) := rfl
theorem GoodSt.step {done : List PBlock} {op : Option PBlock} {w : List UInt8} {ws : List (List UInt8)} (h : GoodSt done op) (h0 : (stepW done op w ws).1 = 0) : GoodSt (stepW done op w ws).2.1 (stepW done op w ws).2.2 := by
  cases op with
  | none =>
    by_cases hl : ws.length = 1
    · match ws, hl with
      | [n], _ => exact ⟨h, h0, GoodLs.nil _⟩
    · rw [stepW_out hl] at h0; cases h0
  | some b =>
    obtain ⟨h1, h2, h3⟩ := h
    by_cases he : w = [101, 110, 100] ∧ ws = []
    · obtain ⟨rfl, rfl⟩ := he
      exact h1.snoc h2 h3
    · rw [stepW_in he] at h0 ⊢
      exact ⟨h1, h2, h3.snoc h0⟩
theorem parseGo_good : ∀ (ls : List (List UInt8)) (n : Nat) (done : List PBlock) (op : Option PBlock), GoodSt done op → ∀ bs, parseGo n done op ls = .good bs → GoodBs bs
  | [], n, done, none, h, bs, e => by cases e; exact h
  | [], n, done, some b, h, bs, e => by cases e
  | l :: rest, n, done, op, h, bs, e => by
    unfold parseGo at e
    split at e
    · cases e
    · exact parseGo_good rest _ _ _ h bs e
    · split at e
      · cases e
      · rename_i h0
        exact parseGo_good rest _ _ _ (h.step (by simpa using h0)) bs e
theorem parseT_good {text : List UInt8} {bs : List PBlock} (h : parseT text = .good bs) : GoodBs bs := by
  unfold parseT at h
  split at h
  · cases h
  · exact parseGo_good _ _ [] none GoodBs.nil bs h
end Go.Proofs.YtlaejmehgaeobabGreatDoor
