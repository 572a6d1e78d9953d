import Derived.Test.YtpdahhnjhggocabGreatDoorBun16
import Derived.Test.YtpdahhnjhggocabGreatDoorBun4
import Derived.Test.YtpdahhnjhggocabGreatDoorBun1
namespace Go.Proofs.YtpdahhnjhggocabGreatDoor
/-- A line, a block: as plain values. -/
structure PLine where
  key : ByteArray
  ws : List (List UInt8)
structure PBlock where
  kind : ByteArray
  name : ByteArray
  lines : List PLine
theorem toList_inj {a b : ByteArray} (h : a.toList = b.toList) : a = b := by
  rw [ByteArray.toList_eq, ByteArray.toList_eq] at h
  exact ByteArray.ext (Array.toList_inj.1 h)
/-- The place of a key among rules, -1 if it is none. -/
def placeI (R : List Plain) (key : ByteArray) : Int := match R.findIdx? (fun p => p.1.toList == key.toList) with
  | some i => (i : Int)
  | none => -1
def manyR (R : List Plain) (key : ByteArray) : Bool := match pickR R key with
  | some p => p.2.2.1
  | none => false
theorem pick_place {R : List Plain} {key : ByteArray} {p : Plain} (h : pickR R key = some p) : ∃ i : Nat, placeI R key = (i : Int) ∧ R[i]? = some p ∧ p.1 = key := by
  unfold pickR at h
  obtain ⟨hp, i, hi, rfl, hj⟩ := List.find?_eq_some_iff_getElem.1 h
  refine ⟨i, ?_, List.getElem?_eq_getElem hi, toList_inj (by simpa using hp)⟩
  unfold placeI
  rw [List.findIdx?_eq_some_iff_getElem.2 ⟨hi, hp, fun j hj' => by simpa using hj j hj'⟩]
theorem place_same {R : List Plain} {a b : ByteArray} (ha : pickR R a ≠ none) (hb : pickR R b ≠ none) (h : placeI R a = placeI R b) : a = b := by
  obtain ⟨p, hp⟩ := Option.ne_none_iff_exists'.1 ha
  obtain ⟨q, hq⟩ := Option.ne_none_iff_exists'.1 hb
  obtain ⟨i, hi, gi, rfl⟩ := pick_place hp
  obtain ⟨j, hj, gj, rfl⟩ := pick_place hq
  have : i = j := by omega
  subst this
  rw [gi] at gj
  rw [Option.some.inj gj]
/-- Whether a line is ahead of another one. -/
def lineLt (R : List Plain) (a b : PLine) : Bool := decide (placeI R a.key < placeI R b.key) || (decide (placeI R a.key = placeI R b.key) && decide (a.ws < b.ws))
theorem lineLt_iff {R : List Plain} {a b : PLine} : lineLt R a b = true ↔ placeI R a.key < placeI R b.key ∨ placeI R a.key = placeI R b.key ∧ a.ws < b.ws := by simp [lineLt]
theorem lineLt_irr (R : List Plain) (a : PLine) : ¬ lineLt R a a = true := by
  rw [lineLt_iff]
  rintro (h | ⟨_, h⟩)
  · omega
  · exact Tot.irr _ h
theorem lineLt_trans (R : List Plain) (a b c : PLine) (h : lineLt R a b = true) (k : lineLt R b c = true) : lineLt R a c = true := by
  rw [lineLt_iff] at *
  rcases h with h | ⟨h, h'⟩ <;> rcases k with k | ⟨k, k'⟩
  · left; omega
  · left; omega
  · left; omega
  · right; exact ⟨by omega, Tot.trans _ _ _ h' k'⟩
/-- How many lines have a key. -/
def keyN (ls : List PLine) (k : ByteArray) : Nat := ls.countP (fun a => a.key.toList == k.toList)
/-- The first fault of a line behind earlier ones of its block. -/
def lineFault (R : List Plain) (es : List PLine) (a : PLine) : Int :=
  if pickR R a.key = none then 5 else if fitsIn R a.key a.ws = false then 7
  else if es.any (fun o => o.key.toList == a.key.toList && (!manyR R a.key || decide (o.ws = a.ws))) = true then 6
  else if 10 ≤ keyN es a.key then 10 else 0
theorem lineFault_zero {R : List Plain} {es : List PLine} {a : PLine} : lineFault R es a = 0 ↔ fitsIn R a.key a.ws = true ∧ (∀ o ∈ es, o.key = a.key → manyR R a.key = true ∧ o.ws ≠ a.ws) ∧ keyN es a.key < 10 := by
  unfold lineFault
  constructor
  · intro h
    split at h
    · omega
    split at h
    · omega
    split at h
    · omega
    split at h
    · omega
    rename_i h1 h2 h3 h4
    refine ⟨by simpa using h2, fun o ho hk => ?_, by omega⟩
    simp only [List.any_eq_true, not_exists, not_and, Bool.not_eq_true] at h3
    have := h3 o ho
    rw [hk] at this
    simpa using this
  · rintro ⟨h1, h2, h3⟩
    have h0 : ¬ pickR R a.key = none := fun h => by rw [fitsIn_none _ h] at h1; cases h1
    rw [if_neg h0, if_neg (by simp [h1]), if_neg ?_, if_neg (by omega)]
    simp only [List.any_eq_true, not_exists, not_and, Bool.not_eq_true]
    intro o ho
    by_cases hk : o.key = a.key
    · have := h2 o ho hk
      simp [this.1, this.2]
    · have : (o.key.toList == a.key.toList) = false := by
        rw [beq_eq_false_iff_ne]; exact fun e => hk (toList_inj e)
      simp [this]
/-- The lines of a block are as they must be. -/
def LinesOk (R : List Plain) (ls : List PLine) : Prop := (∀ a ∈ ls, fitsIn R a.key a.ws = true) ∧ ls.Pairwise (fun a b => lineLt R a b = true) ∧ ∀ a ∈ ls, (manyR R a.key = true ∨ keyN ls a.key ≤ 1) ∧ keyN ls a.key ≤ 10
/-- A line at its place, as the model looks at it. -/
def SpecAt (R : List Plain) (ls : List PLine) (i : Nat) : Prop := ∃ a, ls[i]? = some a ∧ fitsIn R a.key a.ws = true ∧ (i = 0 ∨ ∃ b, ls[i - 1]? = some b ∧ lineLt R b a = true) ∧ (manyR R a.key = true ∨ keyN (ls.take (i + 1)) a.key ≤ 1) ∧ keyN (ls.take (i + 1)) a.key ≤ 10
theorem keyN_append (l m : List PLine) (k : ByteArray) : keyN (l ++ m) k = keyN l k + keyN m k := by simp [keyN]
theorem keyN_take (ls : List PLine) (i : Nat) (k : ByteArray) : keyN (ls.take i) k ≤ keyN ls k := by
  have := keyN_append (ls.take i) (ls.drop i) k
  rw [List.take_append_drop] at this
  omega
theorem keyN_one (a : PLine) (k : ByteArray) : keyN [a] k = if a.key = k then 1 else 0 := by
  unfold keyN
  by_cases h : a.key = k
  · simp [h]
  · have : (a.key.toList == k.toList) = false := by
      rw [beq_eq_false_iff_ne]; exact fun e => h (toList_inj e)
    simp [h, this]
theorem keyN_succ {ls : List PLine} {i : Nat} {a : PLine} (h : ls[i]? = some a) (k : ByteArray) : keyN (ls.take (i + 1)) k = keyN (ls.take i) k + if a.key = k then 1 else 0 := by
  rw [List.take_add_one, h, keyN_append]
  simp only [Option.toList, keyN_one]
theorem take_succ_mem {α : Type} {ls : List α} {i : Nat} {a b : α} (h : ls[i]? = some a) : b ∈ ls.take (i + 1) ↔ b ∈ ls.take i ∨ b = a := by
  rw [List.take_add_one, h]; simp
theorem linesOk_spec {R : List Plain} {ls : List PLine} (h : ∀ i, i < ls.length → SpecAt R ls i) : LinesOk R ls := by
  refine ⟨fun a ha => ?_, ?_, ?_⟩
  · obtain ⟨i, hi, rfl⟩ := List.mem_iff_getElem.1 ha
    obtain ⟨b, hb, hf, _⟩ := h i hi
    rw [List.getElem?_eq_getElem hi] at hb
    rw [Option.some.inj hb]; exact hf
  · refine pairwise_adj (lineLt_trans R) ls fun i a b ha hb => ?_
    obtain ⟨hi, _⟩ := List.getElem?_eq_some_iff.1 hb
    obtain ⟨b', hb', _, hadj, _⟩ := h (i + 1) hi
    rw [hb] at hb'; cases hb'
    rcases hadj with h0 | ⟨c, hc, hl⟩
    · omega
    · rw [Nat.add_sub_cancel, ha] at hc; cases hc; exact hl
  · have key : ∀ j, j ≤ ls.length → ∀ a ∈ ls.take j, (manyR R a.key = true ∨ keyN (ls.take j) a.key ≤ 1) ∧ keyN (ls.take j) a.key ≤ 10 := by
      intro j
      induction j with
      | zero => intro _ a ha; simp at ha
      | succ j ih =>
        intro hj a ha
        obtain ⟨b, hb, hs⟩ := h j (by omega)
        by_cases hk : b.key = a.key
        · rw [← hk]; exact hs.2.2
        · have := keyN_succ hb a.key
          rw [if_neg hk, Nat.add_zero] at this
          rw [this]
          rcases (take_succ_mem hb).1 ha with h1 | rfl
          · exact ih (by omega) a h1
          · exact absurd rfl hk
    intro a ha
    have := key ls.length (Nat.le_refl _) a (by rw [List.take_length]; exact ha)
    rwa [List.take_length] at this
theorem spec_linesOk {R : List Plain} {ls : List PLine} (h : LinesOk R ls) (i : Nat) (hi : i < ls.length) : SpecAt R ls i := by
  refine ⟨ls[i], List.getElem?_eq_getElem hi, h.1 _ (List.getElem_mem _), ?_, ?_, ?_⟩
  · by_cases h0 : i = 0
    · exact .inl h0
    · exact .inr ⟨ls[i - 1], List.getElem?_eq_getElem _, adj_pairwise h.2.1 (i - 1) i (by omega) _ _ (List.getElem?_eq_getElem _) (List.getElem?_eq_getElem hi)⟩
  · have := keyN_take ls (i + 1) ls[i].key
    rcases (h.2.2 ls[i] (List.getElem_mem _)).1 with h1 | h1
    · exact .inl h1
    · exact .inr (by omega)
  · have := keyN_take ls (i + 1) ls[i].key
    have := (h.2.2 ls[i] (List.getElem_mem _)).2
    omega
/-- The same as the program looks at it: no fault, and no line ahead of the one before it. -/
theorem linesOk_impl {R : List Plain} {ls : List PLine} (h : ∀ i a, ls[i]? = some a → lineFault R (ls.take i) a = 0) (hs : ∀ i a b, ls[i]? = some a → ls[i + 1]? = some b → lineLt R b a = false) : LinesOk R ls := by
  refine linesOk_spec fun i hi => ?_
  have hz := lineFault_zero.1 (h i ls[i] (List.getElem?_eq_getElem hi))
  refine ⟨ls[i], List.getElem?_eq_getElem hi, hz.1, ?_, ?_, ?_⟩
  · by_cases h0 : i = 0
    · exact .inl h0
    right
    have hz' := lineFault_zero.1 (h (i - 1) ls[i - 1] (List.getElem?_eq_getElem (by omega)))
    refine ⟨ls[i - 1], List.getElem?_eq_getElem _, ?_⟩
    have hn := hs (i - 1) ls[i - 1] ls[i] (List.getElem?_eq_getElem _) (by rw [show i - 1 + 1 = i by omega]; exact List.getElem?_eq_getElem hi)
    have hm : ls[i - 1] ∈ ls.take i := by
      rw [List.mem_iff_getElem]; exact ⟨i - 1, by simp; omega, by simp⟩
    have h2 := hz.2.1 _ hm
    generalize ls[i - 1] = b at *
    generalize ls[i] = a at *
    rw [← Bool.not_eq_true, lineLt_iff] at hn
    rw [lineLt_iff]
    have hka : pickR R a.key ≠ none := fun e => by have := hz.1; rw [fitsIn_none _ e] at this; cases this
    have hkb : pickR R b.key ≠ none := fun e => by have := hz'.1; rw [fitsIn_none _ e] at this; cases this
    by_cases hp : placeI R b.key = placeI R a.key
    · have hk := place_same hkb hka hp
      have hw := (h2 hk).2
      refine .inr ⟨hp, ?_⟩
      by_cases hlt : b.ws < a.ws
      · exact hlt
      · exact absurd (Tot.tri _ _ hlt (fun q => hn (.inr ⟨hp.symm, q⟩))) hw
    · left
      have : ¬ placeI R a.key < placeI R b.key := fun q => hn (.inl q)
      omega
  · rw [keyN_succ (List.getElem?_eq_getElem hi), if_pos rfl]
    by_cases hm : manyR R ls[i].key = true
    · exact .inl hm
    · right
      have : keyN (ls.take i) ls[i].key = 0 := by
        unfold keyN
        rw [List.countP_eq_zero]
        intro o ho hk
        exact hm (hz.2.1 o ho (toList_inj (by simpa using hk))).1
      omega
  · rw [keyN_succ (List.getElem?_eq_getElem hi), if_pos rfl]
    have := hz.2.2
    omega
theorem impl_linesOk {R : List Plain} {ls : List PLine} (h : LinesOk R ls) : (∀ i a, ls[i]? = some a → lineFault R (ls.take i) a = 0) ∧ ∀ i a b, ls[i]? = some a → ls[i + 1]? = some b → lineLt R b a = false := by
  constructor
  · intro i a ha
    obtain ⟨hi, rfl⟩ := List.getElem?_eq_some_iff.1 ha
    have hc := h.2.2 ls[i] (List.getElem_mem _)
    have h1 := keyN_take ls (i + 1) ls[i].key
    rw [keyN_succ (List.getElem?_eq_getElem hi), if_pos rfl] at h1
    refine lineFault_zero.2 ⟨h.1 _ (List.getElem_mem _), fun o ho hk => ⟨?_, ?_⟩, by omega⟩
    · rcases hc.1 with h2 | h2
      · exact h2
      · have : keyN (ls.take i) ls[i].key = 0 := by omega
        unfold keyN at this
        rw [List.countP_eq_zero] at this
        exact absurd (by simp [hk]) (this o ho)
    · intro e
      obtain ⟨j, hj, rfl⟩ := List.mem_iff_getElem.1 ho
      simp only [List.length_take, List.getElem_take] at hj e hk
      have := adj_pairwise h.2.1 j i (by omega) _ _ (List.getElem?_eq_getElem (by omega)) (List.getElem?_eq_getElem hi)
      rw [lineLt_iff, hk, e] at this
      rcases this with q | ⟨_, q⟩
      · omega
      · exact Tot.irr _ q
  · intro i a b ha hb
    have := adj_pairwise h.2.1 i (i + 1) (by omega) a b ha hb
    rw [← Bool.not_eq_true]
    exact fun k => lineLt_irr R _ (lineLt_trans R _ _ _ this k)
/-- Whether a block is ahead of another one. -/
def blockLt (a b : PBlock) : Bool := decide (a.kind.toList < b.kind.toList) || (decide (a.kind.toList = b.kind.toList) && decide (a.name.toList < b.name.toList))
theorem blockLt_iff {a b : PBlock} : blockLt a b = true ↔ a.kind.toList < b.kind.toList ∨ a.kind.toList = b.kind.toList ∧ a.name.toList < b.name.toList := by simp [blockLt]
theorem blockLt_irr (a : PBlock) : ¬ blockLt a a = true := by
  rw [blockLt_iff]
  rintro (h | ⟨_, h⟩)
  · exact Tot.irr _ h
  · exact Tot.irr _ h
theorem blockLt_trans (a b c : PBlock) (h : blockLt a b = true) (k : blockLt b c = true) : blockLt a c = true := by
  rw [blockLt_iff] at *
  rcases h with h | ⟨h, h'⟩ <;> rcases k with k | ⟨k, k'⟩
  · exact .inl (Tot.trans _ _ _ h k)
  · exact .inl (k ▸ h)
  · exact .inl (h ▸ k)
  · exact .inr ⟨h.trans k, Tot.trans _ _ _ h' k'⟩
/-- The first fault of a block's head behind earlier ones. -/
def headFault (es : List PBlock) (kind name : ByteArray) : Int :=
  if (rulesOf kind).length = 0 then 3 else if nameB name.data.toList = false then 4
  else if es.any (fun o => o.kind.toList == kind.toList && o.name.toList == name.toList) = true then 9
  else if 60 ≤ es.length then 10 else 0
theorem headFault_zero {es : List PBlock} {kind name : ByteArray} : headFault es kind name = 0 ↔ (rulesOf kind).length ≠ 0 ∧ nameB name.data.toList = true ∧ (∀ o ∈ es, ¬ (o.kind = kind ∧ o.name = name)) ∧ es.length < 60 := by
  unfold headFault
  constructor
  · intro h
    split at h
    · omega
    split at h
    · omega
    split at h
    · omega
    split at h
    · omega
    rename_i h1 h2 h3 h4
    refine ⟨h1, by simpa using h2, fun o ho hk => ?_, by omega⟩
    apply h3
    rw [List.any_eq_true]
    exact ⟨o, ho, by simp [hk.1, hk.2]⟩
  · rintro ⟨h1, h2, h3, h4⟩
    rw [if_neg h1, if_neg (by simp [h2]), if_neg ?_, if_neg (by omega)]
    rw [List.any_eq_true]
    rintro ⟨o, ho, hk⟩
    simp only [Bool.and_eq_true, beq_iff_eq] at hk
    exact h3 o ho ⟨toList_inj hk.1, toList_inj hk.2⟩
/-- A valid sheet. -/
def SheetOk (bs : List PBlock) : Prop := bs.length ≤ 60 ∧ (∀ b ∈ bs, (rulesOf b.kind).length ≠ 0 ∧ nameB b.name.data.toList = true ∧ LinesOk (rulesOf b.kind) b.lines) ∧ bs.Pairwise (fun a b => blockLt a b = true)
/-- A block at its place, as the model looks at it. -/
def SpecBlock (bs : List PBlock) (i : Nat) : Prop := ∃ b, bs[i]? = some b ∧ (rulesOf b.kind).length ≠ 0 ∧ nameB b.name.data.toList = true ∧ LinesOk (rulesOf b.kind) b.lines ∧ (i = 0 ∨ ∃ a, bs[i - 1]? = some a ∧ blockLt a b = true)
theorem sheetOk_spec {bs : List PBlock} (hl : bs.length ≤ 60) (h : ∀ i, i < bs.length → SpecBlock bs i) : SheetOk bs := by
  refine ⟨hl, fun b hb => ?_, ?_⟩
  · obtain ⟨i, hi, rfl⟩ := List.mem_iff_getElem.1 hb
    obtain ⟨c, hc, h1, h2, h3, _⟩ := h i hi
    rw [List.getElem?_eq_getElem hi] at hc
    rw [Option.some.inj hc]; exact ⟨h1, h2, h3⟩
  · refine pairwise_adj blockLt_trans bs fun i a b ha hb => ?_
    obtain ⟨hi, _⟩ := List.getElem?_eq_some_iff.1 hb
    obtain ⟨b', hb', _, _, _, hadj⟩ := h (i + 1) hi
    rw [hb] at hb'; cases hb'
    rcases hadj with h0 | ⟨c, hc, hl⟩
    · omega
    · rw [Nat.add_sub_cancel, ha] at hc; cases hc; exact hl
theorem spec_sheetOk {bs : List PBlock} (h : SheetOk bs) (i : Nat) (hi : i < bs.length) : SpecBlock bs i := by
  have hb := h.2.1 bs[i] (List.getElem_mem _)
  refine ⟨bs[i], List.getElem?_eq_getElem hi, hb.1, hb.2.1, hb.2.2, ?_⟩
  by_cases h0 : i = 0
  · exact .inl h0
  · exact .inr ⟨bs[i - 1], List.getElem?_eq_getElem _, adj_pairwise h.2.2 (i - 1) i (by omega) _ _ (List.getElem?_eq_getElem _) (List.getElem?_eq_getElem hi)⟩
theorem sheetOk_impl {bs : List PBlock} (h : ∀ i b, bs[i]? = some b → headFault (bs.take i) b.kind b.name = 0 ∧ LinesOk (rulesOf b.kind) b.lines) (hs : ∀ i a b, bs[i]? = some a → bs[i + 1]? = some b → blockLt b a = false) : SheetOk bs := by
  have hl : bs.length ≤ 60 := by
    by_cases h0 : bs.length = 0
    · omega
    · have := (headFault_zero.1 (h (bs.length - 1) bs[bs.length - 1] (List.getElem?_eq_getElem (by omega))).1).2.2.2
      simp at this
      omega
  refine sheetOk_spec hl fun i hi => ?_
  have hb := h i bs[i] (List.getElem?_eq_getElem hi)
  have hz := headFault_zero.1 hb.1
  refine ⟨bs[i], List.getElem?_eq_getElem hi, hz.1, hz.2.1, hb.2, ?_⟩
  by_cases h0 : i = 0
  · exact .inl h0
  right
  refine ⟨bs[i - 1], List.getElem?_eq_getElem _, ?_⟩
  have hn := hs (i - 1) bs[i - 1] bs[i] (List.getElem?_eq_getElem _) (by rw [show i - 1 + 1 = i by omega]; exact List.getElem?_eq_getElem hi)
  have hm : bs[i - 1] ∈ bs.take i := by
    rw [List.mem_iff_getElem]; exact ⟨i - 1, by simp; omega, by simp⟩
  have h2 := hz.2.2.1 _ hm
  generalize bs[i - 1] = a at *
  generalize bs[i] = b at *
  rw [← Bool.not_eq_true, blockLt_iff] at hn
  rw [blockLt_iff]
  by_cases h3 : a.kind.toList < b.kind.toList
  · exact .inl h3
  · have e1 := Tot.tri _ _ h3 (fun q => hn (.inl q))
    refine .inr ⟨e1, ?_⟩
    by_cases h4 : a.name.toList < b.name.toList
    · exact h4
    · have e2 := Tot.tri _ _ h4 (fun q => hn (.inr ⟨e1.symm, q⟩))
      exact absurd ⟨toList_inj e1, toList_inj e2⟩ h2
theorem impl_sheetOk {bs : List PBlock} (h : SheetOk bs) : (∀ i b, bs[i]? = some b → headFault (bs.take i) b.kind b.name = 0 ∧ LinesOk (rulesOf b.kind) b.lines) ∧ ∀ i a b, bs[i]? = some a → bs[i + 1]? = some b → blockLt b a = false := by
  constructor
  · intro i b hb
    obtain ⟨hi, rfl⟩ := List.getElem?_eq_some_iff.1 hb
    have hk := h.2.1 bs[i] (List.getElem_mem _)
    refine ⟨headFault_zero.2 ⟨hk.1, hk.2.1, fun o ho e => ?_, by have := h.1; simp; omega⟩, hk.2.2⟩
    obtain ⟨j, hj, rfl⟩ := List.mem_iff_getElem.1 ho
    simp only [List.length_take, List.getElem_take] at hj e
    have := adj_pairwise h.2.2 j i (by omega) _ _ (List.getElem?_eq_getElem (by omega)) (List.getElem?_eq_getElem hi)
    rw [blockLt_iff, e.1, e.2] at this
    rcases this with q | ⟨_, q⟩ <;> exact Tot.irr _ q
  · intro i a b ha hb
    have := adj_pairwise h.2.2 i (i + 1) (by omega) a b ha hb
    rw [← Bool.not_eq_true]
    exact fun k => blockLt_irr _ (blockLt_trans _ _ _ this k)
open Classical in
noncomputable def linesB (R : List Plain) (ls : List PLine) : Bool := decide (LinesOk R ls)
open Classical in
noncomputable def sheetB (bs : List PBlock) : Bool := decide (SheetOk bs)
theorem linesB_iff {R : List Plain} {ls : List PLine} : linesB R ls = true ↔ LinesOk R ls := by simp [linesB]
theorem sheetB_iff {bs : List PBlock} : sheetB bs = true ↔ SheetOk bs := by simp [sheetB]
end Go.Proofs.YtpdahhnjhggocabGreatDoor
namespace Go.Proofs.YtpdahhnjhggocabGreatDoor
/-- No line of a block has a fault behind those before it. -/
def GoodLs (R : List Plain) (ls : List PLine) : Prop := ∀ i a, ls[i]? = some a → lineFault R (ls.take i) a = 0
theorem GoodLs.nil (R : List Plain) : GoodLs R [] := by intro i a h; simp at h
theorem GoodLs.snoc {R : List Plain} {ls : List PLine} {a : PLine} (h : GoodLs R ls) (ha : lineFault R ls a = 0) : GoodLs R (ls ++ [a]) := by
  intro i b hb
  by_cases hi : i < ls.length
  · rw [List.getElem?_append_left hi] at hb
    rw [List.take_append_of_le_length (by omega)]
    exact h i b hb
  · rw [List.getElem?_append_right (by omega)] at hb
    have h0 : i - ls.length = 0 := by
      by_cases h0 : i - ls.length = 0
      · exact h0
      · rw [List.getElem?_eq_none (by simp; omega)] at hb; cases hb
    rw [h0] at hb
    cases hb
    rw [show i = ls.length by omega, List.take_append_of_le_length (Nat.le_refl _), List.take_length]
    exact ha
theorem GoodLs.front {R : List Plain} {ls : List PLine} {a : PLine} (h : GoodLs R (ls ++ [a])) : GoodLs R ls ∧ lineFault R ls a = 0 := by
  constructor
  · intro i b hb
    have hi := (List.getElem?_eq_some_iff.1 hb).1
    have := h i b (by rw [List.getElem?_append_left hi]; exact hb)
    rwa [List.take_append_of_le_length (by omega)] at this
  · have := h ls.length a (by rw [List.getElem?_append_right (Nat.le_refl _)]; simp)
    rwa [List.take_append_of_le_length (Nat.le_refl _), List.take_length] at this
theorem keyN_perm {l m : List PLine} (h : l.Perm m) (k : ByteArray) : keyN l k = keyN m k := h.countP_eq _
theorem any_perm {α : Type} {l m : List α} (h : l.Perm m) (p : α → Bool) : l.any p = m.any p := by
  rw [Bool.eq_iff_iff, List.any_eq_true, List.any_eq_true]
  exact ⟨fun ⟨x, hx, hp⟩ => ⟨x, h.mem_iff.1 hx, hp⟩, fun ⟨x, hx, hp⟩ => ⟨x, h.mem_iff.2 hx, hp⟩⟩
theorem lineFault_perm {R : List Plain} {l m : List PLine} (h : l.Perm m) (a : PLine) : lineFault R l a = lineFault R m a := by
  unfold lineFault
  rw [keyN_perm h, any_perm h]
/-- The lines of a block put in their order one by one. -/
def normLs (R : List Plain) (ls : List PLine) : List PLine := ls.foldl (fun acc a => putIn (lineLt R) a acc) []
theorem normLs_snoc (R : List Plain) (ls : List PLine) (a : PLine) : normLs R (ls ++ [a]) = putIn (lineLt R) a (normLs R ls) := by simp [normLs]
theorem fold_perm {α : Type} (lt : α → α → Bool) : ∀ (ls acc : List α), (ls.foldl (fun acc a => putIn lt a acc) acc).Perm (acc ++ ls)
  | [], acc => by simp
  | a :: ls, acc => by
    rw [List.foldl_cons]
    refine (fold_perm lt ls _).trans ?_
    refine ((putIn_perm lt a acc).append_right ls).trans ?_
    exact (List.perm_middle (a := a) (l₁ := acc) (l₂ := ls)).symm
theorem normLs_perm (R : List Plain) (ls : List PLine) : (normLs R ls).Perm ls := by
  have := fold_perm (lineLt R) ls []
  simpa [normLs] using this
theorem pairwise_putIn {α : Type} {lt : α → α → Bool} (ht : ∀ a b c, lt a b = true → lt b c = true → lt a c = true) (x : α) : ∀ (l : List α), l.Pairwise (fun a b => lt a b = true) → (∀ y ∈ l, lt y x = false → lt x y = true) → (putIn lt x l).Pairwise (fun a b => lt a b = true)
  | [], _, _ => List.pairwise_singleton _ _
  | y :: l, h, hx => by
    have h1 := List.pairwise_cons.1 h
    unfold putIn
    split
    · rename_i hy
      refine List.pairwise_cons.2 ⟨fun z hz => ?_, pairwise_putIn ht x l h1.2 fun z hz => hx z (List.mem_cons_of_mem _ hz)⟩
      rcases List.mem_cons.1 ((putIn_perm lt x l).mem_iff.1 hz) with rfl | hz
      · exact hy
      · exact h1.1 z hz
    · rename_i hy
      have hxy := hx y (List.mem_cons_self ..) (by simpa using hy)
      refine List.pairwise_cons.2 ⟨fun z hz => ?_, h⟩
      rcases List.mem_cons.1 hz with rfl | hz
      · exact hxy
      · exact ht _ _ _ hxy (h1.1 z hz)
/-- A line that is no fault is parted from each other one. -/
theorem lineLt_tri {R : List Plain} {es : List PLine} {a b : PLine} (hb : b ∈ es) (hfb : fitsIn R b.key b.ws = true) (h : lineFault R es a = 0) (hn : lineLt R b a = false) : lineLt R a b = true := by
  have hz := lineFault_zero.1 h
  rw [← Bool.not_eq_true, lineLt_iff] at hn
  rw [lineLt_iff]
  have hka : pickR R a.key ≠ none := fun e => by have := hz.1; rw [fitsIn_none _ e] at this; cases this
  have hkb : pickR R b.key ≠ none := fun e => by rw [fitsIn_none _ e] at hfb; cases hfb
  by_cases hp : placeI R a.key = placeI R b.key
  · have hk := place_same hka hkb hp
    have hw := (hz.2.1 b hb hk.symm).2
    refine .inr ⟨hp, ?_⟩
    by_cases hlt : a.ws < b.ws
    · exact hlt
    · exact absurd (Tot.tri _ _ (fun q => hn (.inr ⟨hp.symm, q⟩)) hlt) hw
  · left
    have : ¬ placeI R b.key < placeI R a.key := fun q => hn (.inl q)
    omega
theorem GoodLs.fits {R : List Plain} {ls : List PLine} (h : GoodLs R ls) : ∀ a ∈ ls, fitsIn R a.key a.ws = true := by
  intro a ha
  obtain ⟨i, hi, rfl⟩ := List.mem_iff_getElem.1 ha
  exact (lineFault_zero.1 (h i _ (List.getElem?_eq_getElem hi))).1
theorem snoc_induct {α : Type} {P : List α → Prop} (h0 : P []) (h1 : ∀ l a, P l → P (l ++ [a])) (l : List α) : P l := by
  rw [← List.reverse_reverse l]
  induction l.reverse with
  | nil => exact h0
  | cons a m ih => rw [List.reverse_cons]; exact h1 _ _ ih
theorem normLs_sorted {R : List Plain} (ls : List PLine) : GoodLs R ls → (normLs R ls).Pairwise (fun a b => lineLt R a b = true) := by
  refine snoc_induct (P := fun ls => GoodLs R ls → (normLs R ls).Pairwise (fun a b => lineLt R a b = true)) (fun _ => .nil) (fun l a ih h => ?_) ls
  have hf := h.front
  rw [normLs_snoc]
  refine pairwise_putIn (lineLt_trans R) a _ (ih hf.1) fun y hy hn => ?_
  have hm := (normLs_perm R l).mem_iff.1 hy
  exact lineLt_tri hm (hf.1.fits y hm) hf.2 hn
theorem GoodLs.counts {R : List Plain} (ls : List PLine) : GoodLs R ls → ∀ a ∈ ls, (manyR R a.key = true ∨ keyN ls a.key ≤ 1) ∧ keyN ls a.key ≤ 10 := by
  refine snoc_induct (P := fun ls => GoodLs R ls → ∀ a ∈ ls, (manyR R a.key = true ∨ keyN ls a.key ≤ 1) ∧ keyN ls a.key ≤ 10) (fun _ a ha => by simp at ha) (fun l b ih h a ha => ?_) ls
  have hf := h.front
  rw [keyN_append, keyN_one]
  by_cases hk : b.key = a.key
  · rw [if_pos hk, ← hk]
    have hz := lineFault_zero.1 hf.2
    refine ⟨?_, by omega⟩
    by_cases hm : manyR R b.key = true
    · exact .inl hm
    · right
      have : keyN l b.key = 0 := by
        unfold keyN
        rw [List.countP_eq_zero]
        intro o ho hk'
        exact hm (hz.2.1 o ho (toList_inj (by simpa using hk'))).1
      omega
  · rw [if_neg hk, Nat.add_zero]
    rcases List.mem_append.1 ha with h1 | h1
    · exact ih hf.1 a h1
    · exact absurd (List.mem_singleton.1 h1).symm (fun e => hk (by rw [e]))
/-- In their order, the lines of a block that has no fault are valid. -/
theorem normLs_ok {R : List Plain} {ls : List PLine} (h : GoodLs R ls) : LinesOk R (normLs R ls) := by
  have hp := normLs_perm R ls
  refine ⟨fun a ha => h.fits a (hp.mem_iff.1 ha), normLs_sorted ls h, fun a ha => ?_⟩
  rw [keyN_perm hp]
  exact h.counts ls a (hp.mem_iff.1 ha)
/-- However they are put in order, it is this one. -/
theorem normLs_unique {R : List Plain} {ls ms : List PLine} (h : GoodLs R ls) (hp : ms.Perm ls) (hs : ∀ i j : Nat, i < j → ∀ a b, ms[i]? = some a → ms[j]? = some b → lineLt R b a = false) : ms = normLs R ls := by
  have hstrict : ms.Pairwise (fun a b => lineLt R a b = true) := by
    have hN := normLs_ok h
    have hmem : ∀ a ∈ ms, a ∈ normLs R ls := fun a ha => (normLs_perm R ls).mem_iff.2 (hp.mem_iff.1 ha)
    have hnd : ms.Nodup := by
      have hq : (normLs R ls).Nodup := hN.2.1.imp (fun {a b} hab e => by subst e; exact lineLt_irr R _ hab)
      exact (hp.trans (normLs_perm R ls).symm).nodup_iff.2 hq
    rw [List.pairwise_iff_getElem]
    intro i j hi hj hij
    have hn := hs i j hij _ _ (List.getElem?_eq_getElem hi) (List.getElem?_eq_getElem hj)
    obtain ⟨x, hx, ex⟩ := List.mem_iff_getElem.1 (hmem _ (List.getElem_mem hi))
    obtain ⟨y, hy, ey⟩ := List.mem_iff_getElem.1 (hmem _ (List.getElem_mem hj))
    have hne : x ≠ y := by
      intro e; subst e
      have : ms[i] = ms[j] := ex.symm.trans ey
      exact (List.pairwise_iff_getElem.1 hnd) i j hi hj hij this
    rw [← ex, ← ey] at hn ⊢
    rcases Nat.lt_or_gt_of_ne hne with h1 | h1
    · exact (List.pairwise_iff_getElem.1 hN.2.1) x y hx hy h1
    · rw [(List.pairwise_iff_getElem.1 hN.2.1) y x hy hx h1] at hn; cases hn
  exact sorted_unique (lineLt_irr R) (lineLt_trans R) hstrict (normLs_sorted ls h) (hp.trans (normLs_perm R ls).symm)
/-- Blocks as they are read one behind the other: no head has a fault. -/
def GoodBs (bs : List PBlock) : Prop := (∀ i b, bs[i]? = some b → headFault (bs.take i) b.kind b.name = 0) ∧ ∀ b ∈ bs, GoodLs (rulesOf b.kind) b.lines
theorem GoodBs.nil : GoodBs [] := ⟨by intro i a h; simp at h, by simp⟩
theorem GoodBs.snoc {bs : List PBlock} {b : PBlock} (h : GoodBs bs) (hb : headFault bs b.kind b.name = 0) (hl : GoodLs (rulesOf b.kind) b.lines) : GoodBs (bs ++ [b]) := by
  refine ⟨?_, fun c hc => ?_⟩
  · intro i c hc
    by_cases hi : i < bs.length
    · rw [List.getElem?_append_left hi] at hc
      rw [List.take_append_of_le_length (by omega)]
      exact h.1 i c hc
    · rw [List.getElem?_append_right (by omega)] at hc
      have h0 : i - bs.length = 0 := by
        by_cases h0 : i - bs.length = 0
        · exact h0
        · rw [List.getElem?_eq_none (by simp; omega)] at hc; cases hc
      rw [h0] at hc
      cases hc
      rw [show i = bs.length by omega, List.take_append_of_le_length (Nat.le_refl _), List.take_length]
      exact hb
  · rcases List.mem_append.1 hc with h1 | h1
    · exact h.2 c h1
    · rw [List.mem_singleton.1 h1]; exact hl
theorem GoodBs.front {bs : List PBlock} {b : PBlock} (h : GoodBs (bs ++ [b])) : GoodBs bs ∧ headFault bs b.kind b.name = 0 ∧ GoodLs (rulesOf b.kind) b.lines := by
  refine ⟨⟨?_, fun c hc => h.2 c (List.mem_append_left _ hc)⟩, ?_, h.2 b (by simp)⟩
  · intro i c hc
    have hi := (List.getElem?_eq_some_iff.1 hc).1
    have := h.1 i c (by rw [List.getElem?_append_left hi]; exact hc)
    rwa [List.take_append_of_le_length (by omega)] at this
  · have := h.1 bs.length b (by rw [List.getElem?_append_right (Nat.le_refl _)]; simp)
    rwa [List.take_append_of_le_length (Nat.le_refl _), List.take_length] at this
def normB (b : PBlock) : PBlock := ⟨b.kind, b.name, normLs (rulesOf b.kind) b.lines⟩
/-- Blocks put in their order one by one, each with its lines in order. -/
def normBs (bs : List PBlock) : List PBlock := (bs.map normB).foldl (fun acc a => putIn blockLt a acc) []
theorem normBs_snoc (bs : List PBlock) (b : PBlock) : normBs (bs ++ [b]) = putIn blockLt (normB b) (normBs bs) := by simp [normBs]
theorem normBs_perm (bs : List PBlock) : (normBs bs).Perm (bs.map normB) := by
  have := fold_perm blockLt (bs.map normB) []
  simpa [normBs] using this
theorem headFault_perm {l m : List PBlock} (h : (l.map fun b => (b.kind, b.name)).Perm (m.map fun b => (b.kind, b.name))) (kind name : ByteArray) : headFault l kind name = headFault m kind name := by
  have e1 : ∀ l : List PBlock, l.any (fun o => o.kind.toList == kind.toList && o.name.toList == name.toList) = (l.map fun b => (b.kind, b.name)).any (fun p => p.1.toList == kind.toList && p.2.toList == name.toList) := by
    intro l; rw [List.any_map]; rfl
  have e2 : l.length = m.length := by have := h.length_eq; simpa using this
  unfold headFault
  rw [e1 l, e1 m, any_perm h, e2]
theorem headFault_norm (bs : List PBlock) (kind name : ByteArray) : headFault (normBs bs) kind name = headFault bs kind name := by
  refine headFault_perm ?_ kind name
  refine ((normBs_perm bs).map _).trans ?_
  rw [List.map_map]
  exact .refl _
theorem blockLt_tri {es : List PBlock} {a b : PBlock} (hb : b ∈ es) (h : headFault es a.kind a.name = 0) (hn : blockLt b a = false) : blockLt a b = true := by
  have hz := (headFault_zero.1 h).2.2.1 b hb
  rw [← Bool.not_eq_true, blockLt_iff] at hn
  rw [blockLt_iff]
  by_cases h3 : a.kind.toList < b.kind.toList
  · exact .inl h3
  · have e1 := Tot.tri _ _ (fun q => hn (.inl q)) h3
    refine .inr ⟨e1.symm, ?_⟩
    by_cases h4 : a.name.toList < b.name.toList
    · exact h4
    · have e2 := Tot.tri _ _ (fun q => hn (.inr ⟨e1, q⟩)) h4
      exact absurd ⟨toList_inj e1, toList_inj e2⟩ hz
theorem normBs_sorted (bs : List PBlock) : GoodBs bs → (normBs bs).Pairwise (fun a b => blockLt a b = true) := by
  refine snoc_induct (P := fun bs => GoodBs bs → (normBs bs).Pairwise (fun a b => blockLt a b = true)) (fun _ => .nil) (fun l a ih h => ?_) bs
  have hf := h.front
  rw [normBs_snoc]
  refine pairwise_putIn blockLt_trans _ _ (ih hf.1) fun y hy hn => ?_
  have := headFault_norm l a.kind a.name
  rw [hf.2.1] at this
  exact blockLt_tri (a := normB a) hy this hn
/-- What is read without a fault is, in its order, a valid sheet. -/
theorem normBs_ok {bs : List PBlock} (h : GoodBs bs) : SheetOk (normBs bs) := by
  have hp := normBs_perm bs
  refine ⟨?_, fun b hb => ?_, normBs_sorted bs h⟩
  · rw [hp.length_eq, List.length_map]
    by_cases h0 : bs.length = 0
    · omega
    · have := (headFault_zero.1 (h.1 (bs.length - 1) bs[bs.length - 1] (List.getElem?_eq_getElem (by omega)))).2.2.2
      simp at this
      omega
  · obtain ⟨c, hc, rfl⟩ := List.mem_map.1 (hp.mem_iff.1 hb)
    obtain ⟨i, hi, rfl⟩ := List.mem_iff_getElem.1 hc
    have hz := headFault_zero.1 (h.1 i _ (List.getElem?_eq_getElem hi))
    exact ⟨hz.1, hz.2.1, normLs_ok (h.2 _ hc)⟩
theorem normBs_unique {bs ms : List PBlock} (h : GoodBs bs) (hp : ms.Perm (bs.map normB)) (hs : ∀ i j : Nat, i < j → ∀ a b, ms[i]? = some a → ms[j]? = some b → blockLt b a = false) : ms = normBs bs := by
  have hstrict : ms.Pairwise (fun a b => blockLt a b = true) := by
    have hN := normBs_sorted bs h
    have hmem : ∀ a ∈ ms, a ∈ normBs bs := fun a ha => (normBs_perm bs).mem_iff.2 (hp.mem_iff.1 ha)
    have hnd : ms.Nodup := by
      have hq : (normBs bs).Nodup := hN.imp (fun {a b} hab e => by subst e; exact blockLt_irr _ hab)
      exact (hp.trans (normBs_perm bs).symm).nodup_iff.2 hq
    rw [List.pairwise_iff_getElem]
    intro i j hi hj hij
    have hn := hs i j hij _ _ (List.getElem?_eq_getElem hi) (List.getElem?_eq_getElem hj)
    obtain ⟨x, hx, ex⟩ := List.mem_iff_getElem.1 (hmem _ (List.getElem_mem hi))
    obtain ⟨y, hy, ey⟩ := List.mem_iff_getElem.1 (hmem _ (List.getElem_mem hj))
    have hne : x ≠ y := by
      intro e; subst e
      have : ms[i] = ms[j] := ex.symm.trans ey
      exact (List.pairwise_iff_getElem.1 hnd) i j hi hj hij this
    rw [← ex, ← ey] at hn ⊢
    rcases Nat.lt_or_gt_of_ne hne with h1 | h1
    · exact (List.pairwise_iff_getElem.1 hN) x y hx hy h1
    · rw [(List.pairwise_iff_getElem.1 hN) y x hy hx h1] at hn; cases hn
  exact sorted_unique blockLt_irr blockLt_trans hstrict (normBs_sorted bs h) (hp.trans (normBs_perm bs).symm)
/-- A text's lines; a last piece that is empty is none. -/
def linesFrom : List UInt8 → List UInt8 → List (List UInt8)
  | acc, [] => if acc = [] then [] else [acc]
  | acc, c :: l => if c = 10 then acc :: linesFrom [] l else linesFrom (acc ++ [c]) l
def textLines (l : List UInt8) : List (List UInt8) := linesFrom [] l
/-- What reading comes to: a line and a code, or blocks as they stand in the text. -/
inductive PRes where
  | bad (line : Nat) (code : Int)
  | good (bs : List PBlock)
def keyOf (w : List UInt8) : ByteArray := ⟨w.toArray⟩
/-- One line with words: w, and ws behind it. -/
def stepW (done : List PBlock) : Option PBlock → List UInt8 → List (List UInt8) → Int × List PBlock × Option PBlock
  | none, w, ws => match ws with
    | [n] => (headFault done (keyOf w) (keyOf n), done, some ⟨keyOf w, keyOf n, []⟩)
    | _ => (2, done, none)
  | some b, w, ws => if w = [101, 110, 100] ∧ ws = [] then (0, done ++ [b], none) else (lineFault (rulesOf b.kind) b.lines ⟨keyOf w, ws⟩, done, some ⟨b.kind, b.name, b.lines ++ [⟨keyOf w, ws⟩]⟩)
def parseGo : Nat → List PBlock → Option PBlock → List (List UInt8) → PRes
  | n, done, op, [] => match op with
    | none => .good done
    | some _ => .bad (n + 1) 8
  | n, done, op, l :: rest => match cutL l with
    | none => .bad (n + 1) 1
    | some [] => parseGo (n + 1) done op rest
    | some (w :: ws) => if (stepW done op w ws).1 ≠ 0 then .bad (n + 1) (stepW done op w ws).1 else parseGo (n + 1) (stepW done op w ws).2.1 (stepW done op w ws).2.2 rest
def parseT (text : List UInt8) : PRes := if 20000 < text.length ∨ 400 < (textLines text).length then .bad 0 11 else parseGo 0 [] none (textLines text)
/-- What holds of blocks and an open one as they are read. -/
def GoodSt (done : List PBlock) : Option PBlock → Prop
  | none => GoodBs done
  | some b => GoodBs done ∧ headFault done b.kind b.name = 0 ∧ GoodLs (rulesOf b.kind) b.lines
theorem stepW_end (done : List PBlock) (b : PBlock) : stepW done (some b) [101, 110, 100] [] = (0, done ++ [b], none) := rfl
theorem stepW_in {done : List PBlock} {b : PBlock} {w : List UInt8} {ws : List (List UInt8)} (h : ¬ (w = [101, 110, 100] ∧ ws = [])) : stepW done (some b) w ws = (lineFault (rulesOf b.kind) b.lines ⟨keyOf w, ws⟩, done, some ⟨b.kind, b.name, b.lines ++ [⟨keyOf w, ws⟩]⟩) := by
  show (if _ then _ else _) = _
  rw [if_neg h]
theorem stepW_out {done : List PBlock} {w : List UInt8} {ws : List (List UInt8)} (h : ws.length ≠ 1) : stepW done none w ws = (2, done, none) := by
  match ws, h with
  | [], _ => rfl
  | _ :: _ :: _, _ => rfl
theorem stepW_head (done : List PBlock) (w n : List UInt8) : stepW done none w [n] = (headFault done (keyOf w) (keyOf n), done, some ⟨keyOf w, keyOf n, []⟩) := rfl
theorem GoodSt.step {done : List PBlock} {op : Option PBlock} {w : List UInt8} {ws : List (List UInt8)} (h : GoodSt done op) (h0 : (stepW done op w ws).1 = 0) : GoodSt (stepW done op w ws).2.1 (stepW done op w ws).2.2 := by
  cases op with
  | none =>
    by_cases hl : ws.length = 1
    · match ws, hl with
      | [n], _ => exact ⟨h, h0, GoodLs.nil _⟩
    · rw [stepW_out hl] at h0; cases h0
  | some b =>
    obtain ⟨h1, h2, h3⟩ := h
    by_cases he : w = [101, 110, 100] ∧ ws = []
    · obtain ⟨rfl, rfl⟩ := he
      exact h1.snoc h2 h3
    · rw [stepW_in he] at h0 ⊢
      exact ⟨h1, h2, h3.snoc h0⟩
theorem parseGo_good : ∀ (ls : List (List UInt8)) (n : Nat) (done : List PBlock) (op : Option PBlock), GoodSt done op → ∀ bs, parseGo n done op ls = .good bs → GoodBs bs
  | [], n, done, none, h, bs, e => by cases e; exact h
  | [], n, done, some b, h, bs, e => by cases e
  | l :: rest, n, done, op, h, bs, e => by
    unfold parseGo at e
    split at e
    · cases e
    · exact parseGo_good rest _ _ _ h bs e
    · split at e
      · cases e
      · rename_i h0
        exact parseGo_good rest _ _ _ (h.step (by simpa using h0)) bs e
theorem parseT_good {text : List UInt8} {bs : List PBlock} (h : parseT text = .good bs) : GoodBs bs := by
  unfold parseT at h
  split at h
  · cases h
  · exact parseGo_good _ _ [] none GoodBs.nil bs h
end Go.Proofs.YtpdahhnjhggocabGreatDoor
namespace Go.Proofs.YtpdahhnjhggocabGreatDoor
/-- A sheet as it is written. -/
def lineL (a : PLine) : List UInt8 := a.key.data.toList ++ a.ws.flatMap (fun w => 32 :: wordL w)
def headL (b : PBlock) : List UInt8 := b.kind.data.toList ++ 32 :: b.name.data.toList
def blockL (b : PBlock) : List UInt8 := headL b ++ 10 :: (b.lines.flatMap (fun a => 32 :: 32 :: lineL a ++ [10]) ++ [101, 110, 100, 10])
def sheetL (bs : List PBlock) : List UInt8 := bs.flatMap blockL
def tooLongL (t : List UInt8) : Prop := 20000 < t.length ∨ 400 < (textLines t).length
instance (t : List UInt8) : Decidable (tooLongL t) := by unfold tooLongL; infer_instance
noncomputable def printL (bs : List PBlock) : List UInt8 := if sheetB bs = false ∨ tooLongL (sheetL bs) then [] else sheetL bs
theorem parseT_long {t : List UInt8} (h : tooLongL t) : parseT t = .bad 0 11 := if_pos h
theorem parseT_go {t : List UInt8} (h : ¬ tooLongL t) : parseT t = parseGo 0 [] none (textLines t) := if_neg h
/-- One line ahead of a text. -/
theorem linesFrom_line (l rest : List UInt8) (h : (10 : UInt8) ∉ l) : ∀ acc, linesFrom acc (l ++ 10 :: rest) = (acc ++ l) :: linesFrom [] rest := by
  induction l with
  | nil => intro acc; simp [linesFrom]
  | cons c l ih =>
    intro acc
    have hc : ¬ c = 10 := fun e => h (by simp [e])
    rw [List.cons_append, linesFrom, if_neg hc, ih (fun e => h (by simp [e]))]
    simp
theorem textLines_line (l rest : List UInt8) (h : (10 : UInt8) ∉ l) : textLines (l ++ 10 :: rest) = l :: textLines rest := by
  unfold textLines; rw [linesFrom_line l rest h]; rfl
theorem bareB_ten {l : List UInt8} (h : l.all bareB = true) : (10 : UInt8) ∉ l := by
  intro e
  have := bareB_true (List.all_eq_true.1 h _ e)
  simp at this
theorem hexB_ten (n : Nat) (h : n < 16) : hexB n ≠ 10 := by
  have : ∀ n, n < 16 → hexB n ≠ 10 := by decide
  exact this n h
theorem qb_ten (c : UInt8) : (10 : UInt8) ∉ qb c := by
  have hc := c.toNat_lt
  unfold qb
  split
  · rename_i hp
    have := plainB_true hp
    intro e
    rw [← List.mem_singleton.1 e] at this
    simp at this
  · intro e
    simp only [List.mem_cons, List.not_mem_nil, or_false] at e
    rcases e with e | e | e
    · cases e
    · exact hexB_ten _ (by omega) e.symm
    · exact hexB_ten _ (by omega) e.symm
theorem wordL_ten (w : List UInt8) : (10 : UInt8) ∉ wordL w := by
  unfold wordL
  split
  · rename_i h
    unfold bareL at h
    rw [Bool.and_eq_true] at h
    exact bareB_ten h.2
  · intro e
    simp only [quoteL, List.cons_append, List.mem_cons, List.mem_append, List.mem_flatMap, List.not_mem_nil, or_false] at e
    rcases e with e | ⟨c, _, e⟩ | e
    · cases e
    · exact qb_ten c e
    · cases e
/-- A word as it is written, with no word directly behind it, is read as the word. -/
theorem wordOf_end (w : List UInt8) (rest : List UInt8) (hr : endOk rest = true) : ∃ c r, wordL w ++ rest = c :: r ∧ c.toNat ≠ 32 ∧ c.toNat ≠ 35 ∧ wordOf (c :: r) = some (w, (wordL w).length) ∧ (c :: r).drop (wordL w).length = rest := by
  have hstop : ∀ l : List UInt8, l.all bareB = true → (l ++ rest).takeWhile bareB = l := by
    intro l hl
    rw [List.takeWhile_append_of_pos (List.all_eq_true.1 hl)]
    cases rest with
    | nil => simp
    | cons c r =>
      have hc : bareB c = false := by
        simp only [endOk, decide_eq_true_eq] at hr
        exact bareB_no (by omega)
      rw [List.takeWhile_cons, hc]; simp
  by_cases hb : bareL w = true
  · have hw : wordL w = w := by simp [wordL, hb]
    unfold bareL at hb
    rw [Bool.and_eq_true] at hb
    rw [hw]
    match w, hb with
    | c :: r, hb =>
      have hc : bareB c = true := List.all_eq_true.1 hb.2 c (by simp)
      have h := bareB_true hc
      refine ⟨c, r ++ rest, rfl, by omega, by omega, ?_, ?_⟩
      · have ht := hstop (c :: r) hb.2
        rw [List.cons_append] at ht
        rw [wordOf, if_neg (by omega), if_neg (by rw [hc]; decide), ht]
      · rw [← List.cons_append, List.drop_left]
    | [], hb => simp at hb
  · have hw : wordL w = quoteL w := by simp [wordL, hb]
    have hl : (quoteL w).length = (w.flatMap qb).length + 2 := by
      simp only [quoteL, List.length_append, List.length_cons, List.length_nil]
    refine ⟨34, w.flatMap qb ++ 34 :: rest, ?_, by decide, by decide, ?_, ?_⟩
    · rw [hw]; simp [quoteL]
    · rw [wordOf, if_pos (by decide), unq_written, hw, hl]; simp
    · rw [hw, hl, show (w.flatMap qb).length + 2 = ((w.flatMap qb).length + 1) + 1 from rfl, List.drop_succ_cons, List.drop_append]
      simp
theorem Cut.tail {R : Option (List (List UInt8))} : ∀ (ws acc : List (List UInt8)), (∀ w ∈ ws, w.length ≤ 200) → acc.length + ws.length ≤ 8 → Cut acc (ws.flatMap fun w => 32 :: wordL w) R → R = some (acc ++ ws)
  | [], acc, _, _, h => by rw [List.append_nil]; exact Cut.nil h
  | w :: ws, acc, h200, h8, h => by
    rw [List.flatMap_cons, List.cons_append] at h
    have h := h.space (by decide)
    have hr : endOk (ws.flatMap fun w => 32 :: wordL w) = true := by
      cases ws with
      | nil => rfl
      | cons x ws => rw [List.flatMap_cons, List.cons_append]; rfl
    obtain ⟨c, r, hcr, h1, h2, hw, hd⟩ := wordOf_end w _ hr
    rw [hcr] at h
    have hok : endOk ((c :: r).drop (wordL w).length) = true ∧ w.length ≤ 200 ∧ acc.length < 8 := ⟨by rw [hd]; exact hr, h200 w (by simp), by simp at h8; omega⟩
    have h' := h.word h1 h2 hw hok
    rw [hd] at h'
    have := Cut.tail ws (acc ++ [w]) (fun x hx => h200 x (by simp [hx])) (by simp at h8 ⊢; omega) h'
    rw [this, List.append_assoc]; rfl
/-- Words written behind a bare one. -/
theorem cutL_line (pre k : List UInt8) (ws : List (List UInt8)) (hp : ∀ c ∈ pre, c = 32) (hk : bareL k = true) (hk2 : k.length ≤ 200) (h200 : ∀ w ∈ ws, w.length ≤ 200) (h8 : ws.length ≤ 7) : cutL (pre ++ (k ++ ws.flatMap fun w => 32 :: wordL w)) = some (k :: ws) := by
  have hc := Cut.start (pre ++ (k ++ ws.flatMap fun w => 32 :: wordL w))
  generalize hR : cutL (pre ++ (k ++ ws.flatMap fun w => 32 :: wordL w)) = R at hc
  clear hR
  have hpre : ∀ (pre : List UInt8), (∀ c ∈ pre, c = 32) → Cut [] (pre ++ (k ++ ws.flatMap fun w => 32 :: wordL w)) R → Cut [] (k ++ ws.flatMap fun w => 32 :: wordL w) R := by
    intro pre
    induction pre with
    | nil => intro _ h; exact h
    | cons c pre ih =>
      intro hp h
      refine ih (fun x hx => hp x (by simp [hx])) (Cut.space h ?_)
      rw [hp c (by simp)]; decide
  have h := hpre pre hp hc
  have h' : Cut [] ((k :: ws).flatMap fun w => 32 :: wordL w) R := by
    obtain ⟨f, hf, hR⟩ := h
    refine ⟨f + 1, ?_, ?_⟩
    · rw [List.flatMap_cons, show wordL k = k from by simp [wordL, hk]]; simp at hf ⊢; omega
    · rw [List.flatMap_cons, List.cons_append, cutW, if_pos (by decide), show wordL k = k from by simp [wordL, hk]]; exact hR
  have := Cut.tail (k :: ws) [] (fun x hx => by rcases List.mem_cons.1 hx with rfl | hx; exact hk2; exact h200 x hx) (by simp; omega) h'
  simpa using this
/-- What the kinds' keys are like. -/
def KeysOk (R : List Plain) : Prop := ∀ p ∈ R, bareL p.1.data.toList = true ∧ p.1.data.toList.length ≤ 200 ∧ p.1.data.toList ≠ [101, 110, 100] ∧ p.2.1.length ≤ 3 ∧ ∀ t ∈ p.2.1, 1 ≤ t ∧ t ≤ 6
theorem keysOk (kind : ByteArray) : KeysOk (rulesOf kind) := by
  have := rulesOf_like kind
  have hk : ∀ p ∈ rulesOf kind, bareL p.1.data.toList = true ∧ p.1.data.toList.length ≤ 200 ∧ p.1.data.toList ≠ [101, 110, 100] := by
    unfold rulesOf
    split
    · unfold teamRules; decide
    · split
      · unfold berthRules; decide
      · split
        · unfold serviceRules; decide
        · simp
  intro p hp
  exact ⟨(hk p hp).1, (hk p hp).2.1, (hk p hp).2.2, (this.2 p hp).1, (this.2 p hp).2⟩
theorem kind_bare {kind : ByteArray} (h : (rulesOf kind).length ≠ 0) : bareL kind.data.toList = true ∧ kind.data.toList.length ≤ 200 := by
  rw [← ByteArray.toList_eq]
  unfold rulesOf at h
  split at h
  · rename_i e; rw [e]; decide
  · split at h
    · rename_i e; rw [e]; decide
    · split at h
      · rename_i e; rw [e]; decide
      · simp at h
theorem name_bare {l : List UInt8} (h : nameB l = true) : bareL l = true ∧ l.length ≤ 200 := by
  unfold nameB at h
  rw [Bool.and_eq_true, Bool.and_eq_true, decide_eq_true_eq, decide_eq_true_eq] at h
  refine ⟨?_, by omega⟩
  unfold bareL
  rw [Bool.and_eq_true]
  refine ⟨?_, ?_⟩
  · cases l with
    | nil => simp at h
    | cons c l => rfl
  · rw [List.all_eq_true]
    intro c hc
    have := List.all_eq_true.1 h.1 c hc
    unfold nameByte at this
    simp only [Bool.or_eq_true, Bool.and_eq_true, decide_eq_true_eq] at this
    exact bareB_mk (by omega)
theorem numB_len7 {l : List UInt8} (h : numB l = true) : l.length ≤ 7 := by
  unfold numB at h
  simp only [Bool.and_eq_true, decide_eq_true_eq] at h
  exact h.1.1.2
theorem fitsB_len {t : Int} {w : List UInt8} (h1 : 1 ≤ t) (h6 : t ≤ 6) (h : fitsB t w = true) : w.length ≤ 200 := by
  rcases six h1 h6 with rfl | rfl | rfl | rfl | rfl | rfl <;> unfold fitsB at h <;> simp at h
  · have := numB_len7 h; omega
  · unfold signB at h
    simp only [Bool.or_eq_true, Bool.and_eq_true] at h
    rcases h with h | h
    · have := numB_len7 h; omega
    · have := numB_len7 h.2
      simp at this
      omega
  · have := (name_bare h).2; exact this
  · exact h
  · unfold yesB at h
    simp only [Bool.or_eq_true, beq_iff_eq] at h
    rcases h with rfl | rfl <;> decide
  · unfold apartB at h
    simp only [Bool.or_eq_true, beq_iff_eq] at h
    rcases h with (rfl | rfl) | rfl <;> decide
/-- A line that fits is one that is read back. -/
theorem fits_line {kind : ByteArray} {a : PLine} (h : fitsIn (rulesOf kind) a.key a.ws = true) : bareL a.key.data.toList = true ∧ a.key.data.toList.length ≤ 200 ∧ a.key.data.toList ≠ [101, 110, 100] ∧ a.ws.length ≤ 3 ∧ ∀ w ∈ a.ws, w.length ≤ 200 := by
  cases hp : pickR (rulesOf kind) a.key with
  | none => rw [fitsIn_none _ hp] at h; cases h
  | some p =>
    obtain ⟨i, _, hi, hk⟩ := pick_place hp
    have hm : p ∈ rulesOf kind := List.mem_of_getElem? hi
    obtain ⟨k1, k2, k3, k4, k5⟩ := keysOk kind p hm
    rw [fitsIn_some _ hp] at h
    unfold fitsWords at h
    rw [Bool.and_eq_true, decide_eq_true_eq] at h
    rw [hk] at k1 k2 k3
    refine ⟨k1, k2, k3, by omega, fun w hw => ?_⟩
    obtain ⟨j, hj, rfl⟩ := List.mem_iff_getElem.1 hw
    have hz : fitsB (p.2.1[j]'(by omega)) a.ws[j] = true := by
      have := List.all_eq_true.1 h.2 (fitsB (p.2.1[j]'(by omega)) a.ws[j]) (List.mem_iff_getElem.2 ⟨j, by simp; omega, by simp⟩)
      simpa using this
    have ht := k5 _ (List.getElem_mem (by omega : j < p.2.1.length))
    exact fitsB_len ht.1 ht.2 hz
theorem keyOf_data (k : ByteArray) : keyOf k.data.toList = k := by
  unfold keyOf; simp
/-- The lines of a written block. -/
def blockLs (b : PBlock) : List (List UInt8) := headL b :: (b.lines.map (fun a => 32 :: 32 :: lineL a) ++ [[101, 110, 100]])
/-- What writing a block asks of it. -/
def WriteOk (b : PBlock) : Prop := (rulesOf b.kind).length ≠ 0 ∧ nameB b.name.data.toList = true ∧ ∀ a ∈ b.lines, fitsIn (rulesOf b.kind) a.key a.ws = true
theorem bareL_ten {l : List UInt8} (h : bareL l = true) : (10 : UInt8) ∉ l := by
  unfold bareL at h
  rw [Bool.and_eq_true] at h
  exact bareB_ten h.2
theorem lineL_ten {a : PLine} (h : bareL a.key.data.toList = true) : (10 : UInt8) ∉ lineL a := by
  unfold lineL
  intro e
  rcases List.mem_append.1 e with e | e
  · exact bareL_ten h e
  · obtain ⟨w, _, hw⟩ := List.mem_flatMap.1 e
    rcases List.mem_cons.1 hw with hw | hw
    · cases hw
    · exact wordL_ten w hw
theorem textLines_lines (ls : List PLine) (h : ∀ a ∈ ls, bareL a.key.data.toList = true) (rest : List UInt8) : textLines (ls.flatMap (fun a => 32 :: 32 :: lineL a ++ [10]) ++ rest) = ls.map (fun a => 32 :: 32 :: lineL a) ++ textLines rest := by
  induction ls with
  | nil => rfl
  | cons a ls ih =>
    rw [List.flatMap_cons, List.append_assoc, List.append_assoc, List.singleton_append, textLines_line, ih (fun b hb => h b (by simp [hb]))]
    · rfl
    · intro e
      rcases List.mem_cons.1 e with e | e
      · cases e
      rcases List.mem_cons.1 e with e | e
      · cases e
      exact lineL_ten (h a (by simp)) e
theorem textLines_block (b : PBlock) (h : WriteOk b) (rest : List UInt8) : textLines (blockL b ++ rest) = blockLs b ++ textLines rest := by
  unfold blockL blockLs
  rw [List.append_assoc, List.cons_append, textLines_line, List.append_assoc, textLines_lines]
  · rw [show ([101, 110, 100, 10] ++ rest : List UInt8) = [101, 110, 100] ++ 10 :: rest from rfl, textLines_line _ _ (by decide)]
    simp
  · intro a ha; exact (fits_line (h.2.2 a ha)).1
  · intro e
    rcases List.mem_append.1 e with e | e
    · exact bareL_ten (kind_bare h.1).1 e
    · rcases List.mem_cons.1 e with e | e
      · cases e
      · exact bareL_ten (name_bare h.2.1).1 e
theorem textLines_sheet : ∀ (bs : List PBlock), (∀ b ∈ bs, WriteOk b) → textLines (sheetL bs) = bs.flatMap blockLs
  | [], _ => rfl
  | b :: bs, h => by
    rw [sheetL, List.flatMap_cons, textLines_block b (h b (by simp)), ← sheetL, textLines_sheet bs (fun c hc => h c (by simp [hc])), List.flatMap_cons]
theorem cutL_head {b : PBlock} (h : WriteOk b) : cutL (headL b) = some [b.kind.data.toList, b.name.data.toList] := by
  have h1 := kind_bare h.1
  have h2 := name_bare h.2.1
  have := cutL_line [] b.kind.data.toList [b.name.data.toList] (by simp) h1.1 h1.2 (by simpa using h2.2) (by simp)
  rw [← this]
  simp [headL, wordL, h2.1]
theorem cutL_in {kind : ByteArray} {a : PLine} (h : fitsIn (rulesOf kind) a.key a.ws = true) : cutL (32 :: 32 :: lineL a) = some (a.key.data.toList :: a.ws) := by
  obtain ⟨h1, h2, _, h4, h5⟩ := fits_line h
  exact cutL_line [32, 32] a.key.data.toList a.ws (by simp) h1 h2 h5 (by omega)
theorem cutL_end : cutL [101, 110, 100] = some [[101, 110, 100]] := by
  have := cutL_line [] [101, 110, 100] [] (by simp) (by decide) (by decide) (by simp) (by simp)
  simpa using this
theorem parseGo_words {n : Nat} {done : List PBlock} {op : Option PBlock} {l w : List UInt8} {rest ws : List (List UInt8)} (hc : cutL l = some (w :: ws)) (h0 : (stepW done op w ws).1 = 0) : parseGo n done op (l :: rest) = parseGo (n + 1) (stepW done op w ws).2.1 (stepW done op w ws).2.2 rest := by
  rw [parseGo, hc]
  simp only
  rw [if_neg (by simp [h0])]
/-- Written lines of a block are read behind those that there are. -/
theorem parse_lines : ∀ (ls es : List PLine) (n : Nat) (done : List PBlock) (kind name : ByteArray) (rest : List (List UInt8)), GoodLs (rulesOf kind) (es ++ ls) → parseGo n done (some ⟨kind, name, es⟩) (ls.map (fun a => 32 :: 32 :: lineL a) ++ rest) = parseGo (n + ls.length) done (some ⟨kind, name, es ++ ls⟩) rest
  | [], es, n, done, kind, name, rest, _ => by simp
  | a :: ls, es, n, done, kind, name, rest, h => by
    have h' : GoodLs (rulesOf kind) ((es ++ [a]) ++ ls) := by rw [List.append_assoc]; exact h
    have hf : lineFault (rulesOf kind) es a = 0 := by
      have := h es.length a (by rw [List.getElem?_append_right (Nat.le_refl _)]; simp)
      rwa [List.take_append_of_le_length (Nat.le_refl _), List.take_length] at this
    have hfit := (lineFault_zero.1 hf).1
    have hne := (fits_line hfit).2.2.1
    have hst := stepW_in (done := done) (b := ⟨kind, name, es⟩) (w := a.key.data.toList) (ws := a.ws) (fun e => hne e.1)
    rw [keyOf_data] at hst
    rw [List.map_cons, List.cons_append, parseGo_words (cutL_in hfit) (by rw [hst]; exact hf), hst]
    show parseGo (n + 1) done (some ⟨kind, name, es ++ [a]⟩) _ = _
    rw [parse_lines ls (es ++ [a]) (n + 1) done kind name rest h', List.append_assoc]
    simp only [List.singleton_append, List.length_cons]
    rw [show n + 1 + ls.length = n + (ls.length + 1) by omega]
theorem parse_blocks : ∀ (bs done : List PBlock) (n : Nat), GoodBs (done ++ bs) → parseGo n done none (bs.flatMap blockLs) = .good (done ++ bs)
  | [], done, n, _ => by simp [parseGo]
  | b :: bs, done, n, h => by
    have h' : GoodBs ((done ++ [b]) ++ bs) := by rw [List.append_assoc]; exact h
    have hh : headFault done b.kind b.name = 0 := by
      have := h.1 done.length b (by rw [List.getElem?_append_right (Nat.le_refl _)]; simp)
      rwa [List.take_append_of_le_length (Nat.le_refl _), List.take_length] at this
    have hg : GoodLs (rulesOf b.kind) b.lines := h.2 b (by simp)
    have hz := headFault_zero.1 hh
    have hw : WriteOk b := ⟨hz.1, hz.2.1, hg.fits⟩
    have hst := stepW_head done b.kind.data.toList b.name.data.toList
    rw [keyOf_data, keyOf_data] at hst
    rw [List.flatMap_cons, blockLs, List.cons_append, parseGo_words (cutL_head hw) (by rw [hst]; exact hh), hst, List.append_assoc]
    show parseGo (n + 1) done (some ⟨b.kind, b.name, []⟩) _ = _
    rw [parse_lines b.lines [] (n + 1) done b.kind b.name _ (by simpa using hg), List.nil_append, List.singleton_append, parseGo_words cutL_end (by rw [stepW_end]), stepW_end]
    show parseGo _ (done ++ [b]) none _ = _
    rw [parse_blocks bs (done ++ [b]) _ h', List.append_assoc]; rfl
theorem SheetOk.good {bs : List PBlock} (h : SheetOk bs) : GoodBs bs := by
  have hi := (impl_sheetOk h).1
  refine ⟨fun i b hb => (hi i b hb).1, fun b hb => ?_⟩
  exact (impl_linesOk (h.2.1 b hb).2.2).1
theorem normLs_id {R : List Plain} {ls : List PLine} (h : LinesOk R ls) : normLs R ls = ls :=
  (sorted_unique (lineLt_irr R) (lineLt_trans R) h.2.1 (normLs_sorted ls (impl_linesOk h).1) (normLs_perm R ls).symm).symm
theorem normBs_id {bs : List PBlock} (h : SheetOk bs) : normBs bs = bs := by
  have hm : bs.map normB = bs := by
    conv => rhs; rw [← List.map_id bs]
    refine List.map_congr_left fun b hb => ?_
    show normB b = b
    unfold normB
    rw [normLs_id (h.2.1 b hb).2.2]
  have hp := normBs_perm bs
  rw [hm] at hp
  exact (sorted_unique blockLt_irr blockLt_trans h.2.2 (normBs_sorted bs h.good) hp.symm).symm
/-- A valid sheet that is not too long is read back. -/
theorem parse_print {bs : List PBlock} (h : SheetOk bs) (hl : ¬ tooLongL (sheetL bs)) : parseT (sheetL bs) = .good bs := by
  have hw : ∀ b ∈ bs, WriteOk b := fun b hb => ⟨(h.2.1 b hb).1, (h.2.1 b hb).2.1, (h.2.1 b hb).2.2.1⟩
  rw [parseT_go hl, textLines_sheet bs hw]
  exact parse_blocks bs [] 0 h.good
theorem linesN_sheet (bs : List PBlock) : (bs.flatMap blockLs).length = (bs.map fun b => b.lines.length + 2).sum := by
  induction bs with
  | nil => rfl
  | cons b bs ih => rw [List.flatMap_cons, List.length_append, ih, List.map_cons, List.sum_cons]; simp [blockLs]
/-- A fault of a line does not hang on what stands behind it. -/
theorem parseGo_behind : ∀ (ls ms : List (List UInt8)) (n : Nat) (done : List PBlock) (op : Option PBlock) (k : Nat) (c : Int), parseGo n done op ls = .bad k c → k ≤ n + ls.length → parseGo n done op (ls ++ ms) = .bad k c
  | [], ms, n, done, none, k, c, e, _ => by cases e
  | [], ms, n, done, some b, k, c, e, hk => by cases e; exact absurd hk (by simp)
  | l :: ls, ms, n, done, op, k, c, e, hk => by
    rw [List.cons_append]
    unfold parseGo at e ⊢
    split at e
    · exact e
    · exact parseGo_behind ls ms _ _ _ k c e (by simp at hk; omega)
    · split at e
      · rename_i h0; rw [if_pos h0]; exact e
      · rename_i h0
        rw [if_neg h0]
        exact parseGo_behind ls ms _ _ _ k c e (by simp at hk; omega)
/-- The line of a fault is one of the text, but where a block is not ended. -/
theorem parseGo_line : ∀ (ls : List (List UInt8)) (n : Nat) (done : List PBlock) (op : Option PBlock) (k : Nat) (c : Int), parseGo n done op ls = .bad k c → n < k ∧ (k ≤ n + ls.length ∨ k = n + ls.length + 1 ∧ c = 8)
  | [], n, done, none, k, c, e => by cases e
  | [], n, done, some b, k, c, e => by cases e; simp
  | l :: ls, n, done, op, k, c, e => by
    unfold parseGo at e
    split at e
    · cases e; simp
    · have := parseGo_line ls _ _ _ k c e; simp; omega
    · split at e
      · cases e; simp
      · have := parseGo_line ls _ _ _ k c e; simp; omega
/-- A fault of a line is met with the lines up to it alone. -/
theorem parseGo_upto : ∀ (ls : List (List UInt8)) (n : Nat) (done : List PBlock) (op : Option PBlock) (k : Nat) (c : Int) (ms : List (List UInt8)), parseGo n done op ls = .bad k c → k ≤ n + ls.length → parseGo n done op (ls.take (k - n) ++ ms) = .bad k c
  | [], n, done, op, k, c, ms, e, hk => by
    have := (parseGo_line [] n done op k c e).1
    simp at hk; omega
  | l :: ls, n, done, op, k, c, ms, e, hk => by
    have hlt := (parseGo_line (l :: ls) n done op k c e).1
    rw [show k - n = (k - (n + 1)) + 1 by omega, List.take_succ_cons, List.cons_append]
    unfold parseGo at e ⊢
    split at e
    · exact e
    · exact parseGo_upto ls _ _ _ k c ms e (by simp at hk; omega)
    · split at e
      · rename_i h0; rw [if_pos h0]; exact e
      · rename_i h0
        rw [if_neg h0]
        exact parseGo_upto ls _ _ _ k c ms e (by simp at hk; omega)
end Go.Proofs.YtpdahhnjhggocabGreatDoor
namespace Go.Proofs.YtpdahhnjhggocabGreatDoor
/-- Whether a line must be said. -/
def keepT (R : List Plain) (a : PLine) : Bool := match pickR R a.key with
  | some p => p.2.2.1 || !decide (a.ws = p.2.2.2)
  | none => true
def trimP (b : PBlock) : PBlock := ⟨b.kind, b.name, b.lines.filter (keepT (rulesOf b.kind))⟩
/-- What SheetTrim gives. -/
noncomputable def trimS (bs : List PBlock) : List PBlock := if sheetB bs = true then bs.map trimP else []
def hasK (ls : List PLine) (k : ByteArray) : Bool := ls.any (fun a => a.key.toList == k.toList)
def defL (p : Plain) : PLine := ⟨p.1, p.2.2.2⟩
def isUnsaid (ls : List PLine) (p : Plain) : Bool := !p.2.2.1 && !hasK ls p.1
def unsaid (R : List Plain) (ls : List PLine) : List PLine := (R.filter (isUnsaid ls)).map defL
def fillL (R : List Plain) (ls : List PLine) : List PLine := normLs R (ls ++ unsaid R ls)
def fillP (b : PBlock) : PBlock := ⟨b.kind, b.name, fillL (rulesOf b.kind) b.lines⟩
/-- What SheetFill gives. -/
noncomputable def fillS (bs : List PBlock) : List PBlock := if sheetB bs = true then bs.map fillP else []
/-- The lines of a key. -/
def ofK (ls : List PLine) (k : ByteArray) : List PLine := ls.filter (fun a => a.key.toList == k.toList)
/-- What a key of a block is. -/
def tellL (p : Plain) (ls : List PLine) : List PLine := if (ofK ls p.1).isEmpty && !p.2.2.1 then [defL p] else ofK ls p.1
def NodupK (R : List Plain) : Prop := R.Pairwise (fun p q => p.1 ≠ q.1)
theorem rulesOf_nodupK (kind : ByteArray) : NodupK (rulesOf kind) := by
  unfold rulesOf
  split
  · unfold NodupK; decide
  · split
    · unfold NodupK; decide
    · split
      · unfold NodupK; decide
      · exact .nil
theorem hasK_iff {ls : List PLine} {k : ByteArray} : hasK ls k = true ↔ ∃ a ∈ ls, a.key = k := by
  unfold hasK
  rw [List.any_eq_true]
  constructor
  · rintro ⟨a, ha, h⟩; exact ⟨a, ha, toList_inj (by simpa using h)⟩
  · rintro ⟨a, ha, rfl⟩; exact ⟨a, ha, by simp⟩
theorem hasK_false {ls : List PLine} {k : ByteArray} : hasK ls k = false ↔ ∀ a ∈ ls, a.key ≠ k := by
  rw [← Bool.not_eq_true, hasK_iff]
  constructor
  · exact fun h a ha e => h ⟨a, ha, e⟩
  · rintro h ⟨a, ha, e⟩; exact h a ha e
theorem hasK_perm {l m : List PLine} (h : l.Perm m) (k : ByteArray) : hasK l k = hasK m k := any_perm h _
theorem hasK_cons (a : PLine) (l : List PLine) (k : ByteArray) (h : a.key ≠ k) : hasK (a :: l) k = hasK l k := by
  unfold hasK
  rw [List.any_cons, show (a.key.toList == k.toList) = false from by rw [beq_eq_false_iff_ne]; exact fun e => h (toList_inj e), Bool.false_or]
theorem keyN_zero {ls : List PLine} {k : ByteArray} (h : ∀ a ∈ ls, a.key ≠ k) : keyN ls k = 0 := by
  unfold keyN
  rw [List.countP_eq_zero]
  intro a ha e
  exact h a ha (toList_inj (by simpa using e))
theorem good_more {R : List Plain} : ∀ (us ls : List PLine), GoodLs R ls → (∀ a ∈ us, fitsIn R a.key a.ws = true ∧ ∀ o ∈ ls, o.key ≠ a.key) → us.Pairwise (fun a b => a.key ≠ b.key) → GoodLs R (ls ++ us)
  | [], ls, h, _, _ => by rw [List.append_nil]; exact h
  | u :: us, ls, h, hu, hp => by
    have hq := List.pairwise_cons.1 hp
    have h1 : lineFault R ls u = 0 := by
      refine lineFault_zero.2 ⟨(hu u (by simp)).1, fun o ho e => absurd e ((hu u (by simp)).2 o ho), ?_⟩
      rw [keyN_zero (hu u (by simp)).2]; omega
    have := good_more us (ls ++ [u]) (h.snoc h1) (fun a ha => ⟨(hu a (by simp [ha])).1, fun o ho => by
      rcases List.mem_append.1 ho with ho | ho
      · exact (hu a (by simp [ha])).2 o ho
      · rw [List.mem_singleton.1 ho]; exact hq.1 a ha⟩) hq.2
    rwa [List.append_assoc] at this
theorem unsaid_mem {R : List Plain} {ls : List PLine} {a : PLine} (h : a ∈ unsaid R ls) : ∃ p ∈ R, p.2.2.1 = false ∧ hasK ls p.1 = false ∧ a = defL p := by
  obtain ⟨p, hp, rfl⟩ := List.mem_map.1 h
  rw [List.mem_filter] at hp
  have := hp.2
  simp only [isUnsaid, Bool.and_eq_true, Bool.not_eq_true'] at this
  exact ⟨p, hp.1, this.1, this.2, rfl⟩
theorem LinesOk.good {R : List Plain} {ls : List PLine} (h : LinesOk R ls) : GoodLs R ls := (impl_linesOk h).1
theorem fill_good {R : List Plain} {ls : List PLine} (h : LinesOk R ls) (hg : GoodR R) (hn : NodupK R) : GoodLs R (ls ++ unsaid R ls) := by
  refine good_more _ _ h.good (fun a ha => ?_) ?_
  · obtain ⟨p, hp, hm, hk, rfl⟩ := unsaid_mem ha
    exact ⟨hg p hp hm, hasK_false.1 hk⟩
  · unfold unsaid
    rw [List.pairwise_map]
    exact (hn.filter _).imp fun h => h
theorem fill_ok {R : List Plain} {ls : List PLine} (h : LinesOk R ls) (hg : GoodR R) (hn : NodupK R) : LinesOk R (fillL R ls) := normLs_ok (fill_good h hg hn)
/-- Key by key, as the model fills. -/
def stepF (R : List Plain) (acc : List PLine) (p : Plain) : List PLine := if isUnsaid acc p = true then putIn (lineLt R) (defL p) acc else acc
theorem steps_fold (R : List Plain) (ls : List PLine) : ∀ (Q : List Plain) (acc : List PLine), NodupK Q → (∀ p ∈ Q, hasK acc p.1 = hasK ls p.1) → Q.foldl (stepF R) acc = (unsaid Q ls).foldl (fun acc a => putIn (lineLt R) a acc) acc
  | [], acc, _, _ => rfl
  | p :: Q, acc, hn, hk => by
    have hq := List.pairwise_cons.1 hn
    have e : isUnsaid acc p = isUnsaid ls p := by unfold isUnsaid; rw [hk p (by simp)]
    rw [List.foldl_cons]
    cases hu : isUnsaid ls p
    · rw [show stepF R acc p = acc from by unfold stepF; rw [e, hu]; rfl, steps_fold R ls Q acc hq.2 (fun q hq' => hk q (by simp [hq'])), show unsaid (p :: Q) ls = unsaid Q ls from by unfold unsaid; rw [List.filter_cons, hu]; rfl]
    · rw [show stepF R acc p = putIn (lineLt R) (defL p) acc from by unfold stepF; rw [e, hu]; rfl, steps_fold R ls Q _ hq.2 (fun q hq' => ?_), show unsaid (p :: Q) ls = defL p :: unsaid Q ls from by unfold unsaid; rw [List.filter_cons, hu]; rfl, List.foldl_cons]
      rw [hasK_perm (putIn_perm _ _ _), hasK_cons _ _ _ (hq.1 q hq'), hk q (by simp [hq'])]
theorem steps_fill {R : List Plain} {ls : List PLine} (h : LinesOk R ls) (hn : NodupK R) : R.foldl (stepF R) ls = fillL R ls := by
  rw [steps_fold R ls R ls hn (fun _ _ => rfl)]
  unfold fillL
  rw [normLs, List.foldl_append]
  rw [show ls.foldl (fun acc a => putIn (lineLt R) a acc) [] = ls from normLs_id h]
theorem hasK_of (ls : List PLine) (k : ByteArray) : (ofK ls k).isEmpty = !hasK ls k := by
  unfold ofK hasK
  induction ls with
  | nil => rfl
  | cons a l ih =>
    rw [List.filter_cons, List.any_cons]
    cases (a.key.toList == k.toList)
    · simpa using ih
    · rfl
def isHead (kind name : ByteArray) (b : PBlock) : Bool := (b.kind.toList == kind.toList) && (b.name.toList == name.toList)
/-- What SheetGet tells. -/
noncomputable def getS (bs : List PBlock) (kind name key : ByteArray) : Bool × List PLine := if sheetB bs = true then
    match pickR (rulesOf kind) key, bs.find? (isHead kind name) with
    | some p, some b => (true, tellL p b.lines)
    | _, _ => (false, [])
  else (false, [])
theorem getS_bad {bs : List PBlock} (kind name key : ByteArray) (h : sheetB bs = false) : getS bs kind name key = (false, []) := by unfold getS; rw [h]; rfl
theorem getS_key {bs : List PBlock} {kind name key : ByteArray} (h : pickR (rulesOf kind) key = none) : getS bs kind name key = (false, []) := by unfold getS; rw [h]; split <;> rfl
theorem getS_head {bs : List PBlock} {kind name key : ByteArray} (h : bs.find? (isHead kind name) = none) : getS bs kind name key = (false, []) := by
  unfold getS; rw [h]
  split
  · split
    · rename_i h1; cases h1
    · rfl
  · rfl
theorem getS_hit {bs : List PBlock} {kind name key : ByteArray} {p : Plain} {b : PBlock} (h1 : sheetB bs = true) (h2 : pickR (rulesOf kind) key = some p) (h3 : bs.find? (isHead kind name) = some b) : getS bs kind name key = (true, tellL p b.lines) := by unfold getS; rw [h1, h2, h3]; rfl
/-- None of the first k blocks has the head. -/
def NoHead (bs : List PBlock) (kind name : ByteArray) (k : Nat) : Prop := ∀ b ∈ bs.take k, isHead kind name b = false
theorem NoHead.zero (bs : List PBlock) (kind name : ByteArray) : NoHead bs kind name 0 := by simp [NoHead]
theorem NoHead.succ {D T : List PBlock} {b : PBlock} {kind name : ByteArray} (h : NoHead (D ++ b :: T) kind name D.length) (hb : isHead kind name b = false) : NoHead (D ++ b :: T) kind name (D.length + 1) := by
  unfold NoHead at *
  rw [List.take_append_of_le_length (Nat.le_refl _), List.take_length] at h
  rw [List.take_append, List.take_of_length_le (by omega), show D.length + 1 - D.length = 1 from by omega]
  intro s hs
  simp only [List.take_succ_cons, List.take_zero, List.mem_append, List.mem_singleton] at hs
  rcases hs with hs | rfl
  · exact h s hs
  · exact hb
theorem NoHead.none {bs : List PBlock} {kind name : ByteArray} (h : NoHead bs kind name bs.length) : bs.find? (isHead kind name) = none := by
  unfold NoHead at h
  rw [List.take_length] at h
  rw [List.find?_eq_none]
  intro b hb; rw [h b hb]; decide
theorem NoHead.hit {D T : List PBlock} {b : PBlock} {kind name : ByteArray} (h : NoHead (D ++ b :: T) kind name D.length) (hb : isHead kind name b = true) : (D ++ b :: T).find? (isHead kind name) = some b := by
  unfold NoHead at h
  rw [List.take_append_of_le_length (Nat.le_refl _), List.take_length] at h
  rw [List.find?_append, List.find?_eq_none.2 (fun x hx => by rw [h x hx]; decide), Option.none_or, List.find?_cons_of_pos hb]
end Go.Proofs.YtpdahhnjhggocabGreatDoor
namespace Go.Proofs.YtpdahhnjhggocabGreatDoor
/-- A change as it reads. -/
structure PChange where
  what : Int
  kind : ByteArray
  name : ByteArray
  key : ByteArray
  lines : List PLine
open Classical in
/-- The change of one key of a block, if there is one. -/
noncomputable def diffK (kind name : ByteArray) (x y : List PLine) (key : ByteArray) : List PChange := if ofK x key = ofK y key then [] else [⟨if (ofK y key).isEmpty = true then 4 else 3, kind, name, key, ofK y key⟩]
/-- The changes of two blocks of one head, key by key. -/
noncomputable def diffB (x y : PBlock) : List PChange := (rulesOf x.kind).flatMap fun p => diffK x.kind x.name x.lines y.lines p.1
def goneOf (b : PBlock) : PChange := ⟨1, b.kind, b.name, ⟨#[]⟩, []⟩
def newOf (b : PBlock) : PChange := ⟨2, b.kind, b.name, ⟨#[]⟩, b.lines⟩
/-- What goes. -/
def goneS (A B : List PBlock) : List PChange := (A.filter fun a => (B.find? (isHead a.kind a.name)).isNone).map goneOf
/-- A block of the second sheet. -/
noncomputable def diffY (A : List PBlock) (y : PBlock) : List PChange := match A.find? (isHead y.kind y.name) with
  | none => [newOf y]
  | some x => diffB x y
/-- The differences of two sheets. -/
noncomputable def diffS (A B : List PBlock) : List PChange := if sheetB A = true ∧ sheetB B = true then goneS A B ++ B.flatMap (diffY A) else []
end Go.Proofs.YtpdahhnjhggocabGreatDoor
namespace Go.Proofs.YtpdahhnjhggocabGreatDoor
theorem flatm_len {α β : Type} (f : α → List β) (k : Nat) : ∀ l : List α, (∀ x ∈ l, (f x).length ≤ k) → (l.flatMap f).length ≤ k * l.length
  | [], _ => by simp
  | a :: l, h => by
    have h1 := h a (by simp)
    have h2 := flatm_len f k l (fun x hx => h x (by simp [hx]))
    rw [List.flatMap_cons, List.length_append, List.length_cons, Nat.mul_add]
    omega
theorem diffK_len (kind name : ByteArray) (x y : List PLine) (key : ByteArray) : (diffK kind name x y key).length ≤ 1 := by
  unfold diffK
  split <;> simp
theorem diffB_len (x y : PBlock) : (diffB x y).length ≤ (rulesOf x.kind).length := by
  have := flatm_len (fun p : Plain => diffK x.kind x.name x.lines y.lines p.1) 1 (rulesOf x.kind) (fun p _ => diffK_len _ _ _ _ _)
  unfold diffB
  omega
theorem diffY_len (A : List PBlock) (y : PBlock) : (diffY A y).length ≤ 12 := by
  unfold diffY
  split
  · simp
  · exact Nat.le_trans (diffB_len _ _) (rulesOf_like _).1
theorem goneS_len (A B : List PBlock) : (goneS A B).length ≤ A.length := by
  unfold goneS
  rw [List.length_map]
  exact List.length_filter_le _ _
theorem diffS_len (A B : List PBlock) : (diffS A B).length ≤ 780 := by
  unfold diffS
  split
  · rename_i h
    have h1 := (sheetB_iff.1 h.1).1
    have h2 := (sheetB_iff.1 h.2).1
    have h3 := goneS_len A B
    have h4 := flatm_len (diffY A) 12 B (fun y _ => diffY_len A y)
    rw [List.length_append]
    omega
  · simp
end Go.Proofs.YtpdahhnjhggocabGreatDoor
namespace Go.Proofs.YtpdahhnjhggocabGreatDoor
/-- Two sorted lists with the same members are one. -/
theorem sorted_ext {R : List Plain} {l m : List PLine} (hl : l.Pairwise (fun a b => lineLt R a b = true)) (hm : m.Pairwise (fun a b => lineLt R a b = true)) (h : ∀ a, a ∈ l ↔ a ∈ m) : l = m := by
  have nd : ∀ {l : List PLine}, l.Pairwise (fun a b => lineLt R a b = true) → l.Nodup := fun h => h.imp (fun {a b} hab e => by subst e; exact lineLt_irr R _ hab)
  exact sorted_unique (lineLt_irr R) (lineLt_trans R) hl hm ((List.perm_ext_iff_of_nodup (nd hl) (nd hm)).2 h)
def trimL (R : List Plain) (ls : List PLine) : List PLine := ls.filter (keepT R)
theorem LinesOk.sub {R : List Plain} {l m : List PLine} (h : LinesOk R m) (hs : l.Sublist m) : LinesOk R l := by
  refine ⟨fun a ha => h.1 a (hs.subset ha), h.2.1.sublist hs, fun a ha => ?_⟩
  have h3 := h.2.2 a (hs.subset ha)
  have hc : keyN l a.key ≤ keyN m a.key := hs.countP_le
  exact ⟨h3.1.imp id (fun h => Nat.le_trans hc h), Nat.le_trans hc h3.2⟩
theorem trim_ok {R : List Plain} {ls : List PLine} (h : LinesOk R ls) : LinesOk R (trimL R ls) := h.sub List.filter_sublist
theorem fill_mem {R : List Plain} {ls : List PLine} {a : PLine} : a ∈ fillL R ls ↔ a ∈ ls ∨ ∃ p ∈ R, p.2.2.1 = false ∧ hasK ls p.1 = false ∧ a = defL p := by
  unfold fillL
  rw [(normLs_perm _ _).mem_iff, List.mem_append]
  refine or_congr Iff.rfl ⟨unsaid_mem, ?_⟩
  rintro ⟨p, hp, h1, h2, rfl⟩
  unfold unsaid
  refine List.mem_map_of_mem (List.mem_filter.2 ⟨hp, ?_⟩)
  simp [isUnsaid, h1, h2]
theorem nodup_eq {R : List Plain} (hn : NodupK R) {p q : Plain} (hp : p ∈ R) (hq : q ∈ R) (e : p.1 = q.1) : p = q := by
  induction R with
  | nil => cases hp
  | cons r R ih =>
    have h := List.pairwise_cons.1 hn
    rcases List.mem_cons.1 hp with e1 | h1
    · rcases List.mem_cons.1 hq with e2 | h2
      · rw [e1, e2]
      · exact absurd (e1 ▸ e) (h.1 q h2)
    · rcases List.mem_cons.1 hq with e2 | h2
      · exact absurd (e2 ▸ e.symm) (h.1 p h1)
      · exact ih h.2 h1 h2
theorem pick_of {R : List Plain} (hn : NodupK R) {p : Plain} (hp : p ∈ R) : pickR R p.1 = some p := by
  unfold pickR
  have : (R.find? (fun q => q.1.toList == p.1.toList)).isSome = true := by
    rw [List.find?_isSome]; exact ⟨p, hp, by simp⟩
  obtain ⟨q, hq⟩ := Option.isSome_iff_exists.1 this
  have h1 := List.mem_of_find?_eq_some hq
  have h2 := List.find?_some hq
  have h3 : q.1 = p.1 := toList_inj (by simpa using h2)
  rw [hq, nodup_eq hn h1 hp h3]
theorem picked {R : List Plain} {key : ByteArray} {p : Plain} (h : pickR R key = some p) : p ∈ R ∧ p.1 = key := by
  unfold pickR at h
  have h2 := List.find?_some h
  exact ⟨List.mem_of_find?_eq_some h, toList_inj (by simpa using h2)⟩
theorem keepT_of {R : List Plain} (hn : NodupK R) {p : Plain} (hp : p ∈ R) {a : PLine} (hk : a.key = p.1) : keepT R a = (p.2.2.1 || !decide (a.ws = p.2.2.2)) := by
  unfold keepT; rw [hk, pick_of hn hp]
/-- A line that fits has its rule. -/
theorem LinesOk.rule {R : List Plain} {ls : List PLine} (h : LinesOk R ls) {a : PLine} (ha : a ∈ ls) : ∃ p ∈ R, p.1 = a.key := by
  have := h.1 a ha
  unfold fitsIn at this
  cases hp : pickR R a.key with
  | none => rw [hp] at this; cases this
  | some p => exact ⟨p, (picked hp).1, (picked hp).2⟩
/-- A key that is not many is said once at most. -/
theorem LinesOk.once {R : List Plain} (hn : NodupK R) {ls : List PLine} (h : LinesOk R ls) {p : Plain} (hp : p ∈ R) (hm : p.2.2.1 = false) {a b : PLine} (ha : a ∈ ls) (hb : b ∈ ls) (ka : a.key = p.1) (kb : b.key = p.1) : a = b := by
  have h1 : keyN ls p.1 ≤ 1 := by
    rcases (h.2.2 a ha).1 with h1 | h1
    · unfold manyR at h1; rw [ka, pick_of hn hp] at h1; simp [hm] at h1
    · rw [← ka]; exact h1
  unfold keyN at h1
  rw [List.countP_eq_length_filter] at h1
  have a1 : a ∈ ls.filter (fun a => a.key.toList == p.1.toList) := List.mem_filter.2 ⟨ha, by simp [ka]⟩
  have b1 : b ∈ ls.filter (fun a => a.key.toList == p.1.toList) := List.mem_filter.2 ⟨hb, by simp [kb]⟩
  generalize ls.filter (fun a => a.key.toList == p.1.toList) = F at *
  match F, h1 with
  | [], _ => cases a1
  | [x], _ => rw [List.mem_singleton.1 a1, List.mem_singleton.1 b1]
  | _ :: _ :: _, h1 => simp at h1
theorem trim_def {R : List Plain} (hn : NodupK R) {p : Plain} (hp : p ∈ R) (hm : p.2.2.1 = false) : keepT R (defL p) = false := by
  rw [keepT_of hn hp (a := defL p) rfl, hm]
  simp [defL]
theorem fill_fill {R : List Plain} {ls : List PLine} (h : LinesOk R ls) (hg : GoodR R) (hn : NodupK R) : fillL R (fillL R ls) = fillL R ls := by
  have h1 := fill_ok h hg hn
  have h2 := fill_ok h1 hg hn
  refine sorted_ext h2.2.1 h1.2.1 fun a => ?_
  rw [fill_mem]
  refine ⟨?_, .inl⟩
  rintro (h0 | ⟨p, hp, hm, hk, rfl⟩)
  · exact h0
  · exfalso
    have := hasK_false.1 hk
    cases hh : hasK ls p.1
    · exact this (defL p) (fill_mem.2 (.inr ⟨p, hp, hm, hh, rfl⟩)) rfl
    · obtain ⟨b, hb, e⟩ := hasK_iff.1 hh
      exact this b (fill_mem.2 (.inl hb)) e
theorem fill_trim {R : List Plain} {ls : List PLine} (h : LinesOk R ls) (hg : GoodR R) (hn : NodupK R) : fillL R (trimL R ls) = fillL R ls := by
  have h1 := fill_ok h hg hn
  have h2 := fill_ok (trim_ok h) hg hn
  refine sorted_ext h2.2.1 h1.2.1 fun a => ?_
  rw [fill_mem, fill_mem]
  unfold trimL
  constructor
  · rintro (h0 | ⟨p, hp, hm, hk, rfl⟩)
    · exact .inl (List.mem_filter.1 h0).1
    · cases hh : hasK ls p.1
      · exact .inr ⟨p, hp, hm, hh, rfl⟩
      · obtain ⟨b, hb, e⟩ := hasK_iff.1 hh
        have hno := hasK_false.1 hk b
        left
        have hkb : keepT R b = false := by
          cases hkb : keepT R b
          · rfl
          · exact absurd e (hno (List.mem_filter.2 ⟨hb, hkb⟩))
        rw [keepT_of hn hp e, hm] at hkb
        have : b.ws = p.2.2.2 := by simpa using hkb
        have : b = defL p := by cases b; simp only [defL] at *; subst e this; rfl
        rw [← this]; exact hb
  · rintro (h0 | ⟨p, hp, hm, hk, rfl⟩)
    · cases hka : keepT R a
      · obtain ⟨p, hp, e⟩ := h.rule h0
        rw [keepT_of hn hp e.symm] at hka
        simp only [Bool.or_eq_false_iff, Bool.not_eq_false', decide_eq_true_eq] at hka
        have ea : a = defL p := by cases a; simp only [defL] at *; obtain ⟨_, rfl⟩ := hka; subst e; rfl
        refine .inr ⟨p, hp, hka.1, hasK_false.2 fun b hb eb => ?_, ea⟩
        have hb' := List.mem_filter.1 hb
        have := h.once hn hp hka.1 h0 hb'.1 e.symm eb
        rw [← this, ea, trim_def hn hp hka.1] at hb'
        exact absurd hb'.2 (by decide)
      · exact .inl (List.mem_filter.2 ⟨h0, hka⟩)
    · exact .inr ⟨p, hp, hm, hasK_false.2 fun b hb => hasK_false.1 hk b (List.mem_filter.1 hb).1, rfl⟩
theorem trim_fill {R : List Plain} {ls : List PLine} (h : LinesOk R ls) (hg : GoodR R) (hn : NodupK R) : trimL R (fillL R ls) = trimL R ls := by
  refine sorted_ext (trim_ok (fill_ok h hg hn)).2.1 (trim_ok h).2.1 fun a => ?_
  unfold trimL
  rw [List.mem_filter, List.mem_filter, fill_mem]
  constructor
  · rintro ⟨h0 | ⟨p, hp, hm, hk, rfl⟩, hka⟩
    · exact ⟨h0, hka⟩
    · rw [trim_def hn hp hm] at hka; cases hka
  · exact fun h => ⟨.inl h.1, h.2⟩
theorem of_sorted {R : List Plain} {ls : List PLine} (h : LinesOk R ls) (k : ByteArray) : (ofK ls k).Pairwise (fun a b => lineLt R a b = true) := h.2.1.sublist List.filter_sublist
theorem of_mem {ls : List PLine} {k : ByteArray} {a : PLine} : a ∈ ofK ls k ↔ a ∈ ls ∧ a.key = k := by
  unfold ofK
  rw [List.mem_filter]
  refine and_congr Iff.rfl ⟨fun h => toList_inj (by simpa using h), fun h => by simp [h]⟩
theorem of_nil {ls : List PLine} {k : ByteArray} (h : hasK ls k = false) : ofK ls k = [] := by
  have := hasK_of ls k
  rw [h] at this
  simpa using this
theorem of_some {ls : List PLine} {k : ByteArray} (h : hasK ls k = true) : (ofK ls k).isEmpty = false := by rw [hasK_of, h]; rfl
/-- A key that is not many is told as one line. -/
theorem of_once {R : List Plain} (hn : NodupK R) {ls : List PLine} (h : LinesOk R ls) {p : Plain} (hp : p ∈ R) (hm : p.2.2.1 = false) {a : PLine} (ha : a ∈ ls) (ka : a.key = p.1) : ofK ls p.1 = [a] := by
  refine sorted_ext (R := R) (of_sorted h _) (List.pairwise_singleton _ _) fun b => ?_
  rw [of_mem, List.mem_singleton]
  exact ⟨fun hb => h.once hn hp hm hb.1 ha hb.2 ka, fun e => by rw [e]; exact ⟨ha, ka⟩⟩
theorem tell_one {R : List Plain} (hn : NodupK R) {ls : List PLine} (h : LinesOk R ls) {p : Plain} (hp : p ∈ R) (hm : p.2.2.1 = false) : (tellL p ls).length = 1 := by
  unfold tellL
  cases hk : hasK ls p.1
  · rw [of_nil hk, hm]; rfl
  · obtain ⟨a, ha, ka⟩ := hasK_iff.1 hk
    rw [of_once hn h hp hm ha ka]; rfl
theorem tell_many {p : Plain} {ls : List PLine} (hm : p.2.2.1 = true) : tellL p ls = ofK ls p.1 := by unfold tellL; simp [hm]
theorem tell_said {p : Plain} {ls : List PLine} (h : hasK ls p.1 = true) : tellL p ls = ofK ls p.1 := by unfold tellL; rw [of_some h]; rfl
theorem tell_unsaid {p : Plain} {ls : List PLine} (hm : p.2.2.1 = false) (h : hasK ls p.1 = false) : tellL p ls = [defL p] := by unfold tellL; rw [of_nil h, hm]; rfl
theorem tell_fill {R : List Plain} {ls : List PLine} (h : LinesOk R ls) (hg : GoodR R) (hn : NodupK R) {p : Plain} (hp : p ∈ R) : tellL p (fillL R ls) = tellL p ls := by
  have hf := fill_ok h hg hn
  cases hm : p.2.2.1
  · cases hk : hasK ls p.1
    · have hin : defL p ∈ fillL R ls := fill_mem.2 (.inr ⟨p, hp, hm, hk, rfl⟩)
      rw [tell_unsaid hm hk, tell_said (hasK_iff.2 ⟨_, hin, rfl⟩), of_once hn hf hp hm hin rfl]
    · obtain ⟨a, ha, ka⟩ := hasK_iff.1 hk
      have hin : a ∈ fillL R ls := fill_mem.2 (.inl ha)
      rw [tell_said hk, tell_said (hasK_iff.2 ⟨_, hin, ka⟩), of_once hn hf hp hm hin ka, of_once hn h hp hm ha ka]
  · rw [tell_many hm, tell_many hm]
    refine sorted_ext (R := R) (of_sorted hf _) (of_sorted h _) fun a => ?_
    rw [of_mem, of_mem, fill_mem]
    constructor
    · rintro ⟨h0 | ⟨q, hq, hqm, _, rfl⟩, ka⟩
      · exact ⟨h0, ka⟩
      · rw [nodup_eq hn hq hp ka, hm] at hqm; cases hqm
    · exact fun h => ⟨.inl h.1, h.2⟩
theorem tell_trim {R : List Plain} {ls : List PLine} (h : LinesOk R ls) (hn : NodupK R) {p : Plain} (hp : p ∈ R) : tellL p (trimL R ls) = tellL p ls := by
  have ht := trim_ok h
  cases hm : p.2.2.1
  · cases hk : hasK ls p.1
    · rw [tell_unsaid hm hk, tell_unsaid (ls := trimL R ls) hm (hasK_false.2 fun b hb => hasK_false.1 hk b (List.mem_filter.1 hb).1)]
    · obtain ⟨a, ha, ka⟩ := hasK_iff.1 hk
      rw [tell_said hk, of_once hn h hp hm ha ka]
      cases hka : keepT R a
      · have e := hka
        rw [keepT_of hn hp ka, hm] at e
        have e3 : a.ws = p.2.2.2 := by simpa using e
        clear e
        have ea : a = defL p := by cases a; simp only [defL] at *; subst ka e3; rfl
        rw [tell_unsaid (ls := trimL R ls) hm (hasK_false.2 fun b hb eb => ?_), ea]
        have hb' := List.mem_filter.1 hb
        rw [h.once hn hp hm hb'.1 ha eb ka, hka] at hb'
        exact absurd hb'.2 (by decide)
      · have hin : a ∈ trimL R ls := List.mem_filter.2 ⟨ha, hka⟩
        rw [tell_said (hasK_iff.2 ⟨_, hin, ka⟩), of_once hn ht hp hm hin ka]
  · rw [tell_many hm, tell_many hm]
    refine sorted_ext (R := R) (of_sorted ht _) (of_sorted h _) fun a => ?_
    rw [of_mem, of_mem]
    unfold trimL
    rw [List.mem_filter]
    refine ⟨fun h => ⟨h.1.1, h.2⟩, fun h => ⟨⟨h.1, ?_⟩, h.2⟩⟩
    rw [keepT_of hn hp h.2, hm]; rfl
/-- Sheets. -/
theorem map_ok {f : PBlock → PBlock} (hk : ∀ b, (f b).kind = b.kind) (hnm : ∀ b, (f b).name = b.name) {bs : List PBlock} (h : SheetOk bs) (hl : ∀ b ∈ bs, LinesOk (rulesOf b.kind) (f b).lines) : SheetOk (bs.map f) := by
  refine ⟨by simpa using h.1, fun b hb => ?_, ?_⟩
  · obtain ⟨a, ha, rfl⟩ := List.mem_map.1 hb
    have := h.2.1 a ha
    rw [hk, hnm]
    exact ⟨this.1, this.2.1, hl a ha⟩
  · rw [List.pairwise_map]
    refine h.2.2.imp fun {a b} hab => ?_
    rw [blockLt_iff] at *
    rw [hk, hk, hnm, hnm]; exact hab
theorem fillS_ok {bs : List PBlock} (h : SheetOk bs) : SheetOk (bs.map fillP) := map_ok (f := fillP) (fun _ => rfl) (fun _ => rfl) h fun b hb => fill_ok (h.2.1 b hb).2.2 (rulesOf_good b.kind) (rulesOf_nodupK b.kind)
theorem trimS_ok {bs : List PBlock} (h : SheetOk bs) : SheetOk (bs.map trimP) := map_ok (f := trimP) (fun _ => rfl) (fun _ => rfl) h fun b hb => trim_ok (h.2.1 b hb).2.2
theorem fillS_of {bs : List PBlock} (h : SheetOk bs) : fillS bs = bs.map fillP := by unfold fillS; rw [if_pos (sheetB_iff.2 h)]
theorem trimS_of {bs : List PBlock} (h : SheetOk bs) : trimS bs = bs.map trimP := by unfold trimS; rw [if_pos (sheetB_iff.2 h)]
theorem fillS_fill {bs : List PBlock} (h : SheetOk bs) : fillS (fillS bs) = fillS bs := by
  rw [fillS_of h, fillS_of (fillS_ok h), List.map_map]
  refine List.map_congr_left fun b hb => ?_
  show PBlock.mk _ _ _ = PBlock.mk _ _ _
  congr 1
  exact fill_fill (h.2.1 b hb).2.2 (rulesOf_good b.kind) (rulesOf_nodupK b.kind)
theorem fillS_trim {bs : List PBlock} (h : SheetOk bs) : fillS (trimS bs) = fillS bs := by
  rw [fillS_of h, trimS_of h, fillS_of (trimS_ok h), List.map_map]
  refine List.map_congr_left fun b hb => ?_
  show PBlock.mk _ _ _ = PBlock.mk _ _ _
  congr 1
  exact fill_trim (h.2.1 b hb).2.2 (rulesOf_good b.kind) (rulesOf_nodupK b.kind)
theorem trimS_fill {bs : List PBlock} (h : SheetOk bs) : trimS (fillS bs) = trimS bs := by
  rw [fillS_of h, trimS_of h, trimS_of (fillS_ok h), List.map_map]
  refine List.map_congr_left fun b hb => ?_
  show PBlock.mk _ _ _ = PBlock.mk _ _ _
  congr 1
  exact trim_fill (h.2.1 b hb).2.2 (rulesOf_good b.kind) (rulesOf_nodupK b.kind)
theorem find_map {f : PBlock → PBlock} (hk : ∀ b, (f b).kind = b.kind) (hnm : ∀ b, (f b).name = b.name) (bs : List PBlock) (kind name : ByteArray) : (bs.map f).find? (isHead kind name) = (bs.find? (isHead kind name)).map f := by
  rw [List.find?_map]
  congr 2
  funext b
  show isHead kind name (f b) = isHead kind name b
  unfold isHead; rw [hk, hnm]
theorem head_found {bs : List PBlock} {b : PBlock} (hb : b ∈ bs) : ∃ c ∈ bs, bs.find? (isHead b.kind b.name) = some c ∧ c.kind = b.kind := by
  have : (bs.find? (isHead b.kind b.name)).isSome = true := by
    rw [List.find?_isSome]; exact ⟨b, hb, by simp [isHead]⟩
  obtain ⟨c, hc⟩ := Option.isSome_iff_exists.1 this
  have h2 := List.find?_some hc
  unfold isHead at h2
  simp only [Bool.and_eq_true, beq_iff_eq] at h2
  exact ⟨c, List.mem_of_find?_eq_some hc, hc, toList_inj h2.1⟩
/-- What SheetGet tells of a block's key, as it stands, filled or trimmed. -/
theorem get_three {bs : List PBlock} (h : SheetOk bs) {b : PBlock} (hb : b ∈ bs) {p : Plain} (hp : p ∈ rulesOf b.kind) : ∃ T, getS bs b.kind b.name p.1 = (true, T) ∧ getS (fillS bs) b.kind b.name p.1 = (true, T) ∧ getS (trimS bs) b.kind b.name p.1 = (true, T) ∧ (p.2.2.1 = false → T.length = 1) := by
  obtain ⟨c, hc, hf, hk⟩ := head_found hb
  have hn := rulesOf_nodupK b.kind
  have hpk := pick_of hn hp
  have hok := (h.2.1 c hc).2.2
  rw [hk] at hok
  refine ⟨tellL p c.lines, getS_hit (sheetB_iff.2 h) hpk hf, ?_, ?_, tell_one hn hok hp⟩
  · rw [fillS_of h, getS_hit (sheetB_iff.2 (fillS_ok h)) hpk (b := fillP c) (by rw [find_map (f := fillP) (fun _ => rfl) (fun _ => rfl), hf]; rfl)]
    show (true, tellL p (fillL (rulesOf c.kind) c.lines)) = _
    rw [hk, tell_fill hok (rulesOf_good b.kind) hn hp]
  · rw [trimS_of h, getS_hit (sheetB_iff.2 (trimS_ok h)) hpk (b := trimP c) (by rw [find_map (f := trimP) (fun _ => rfl) (fun _ => rfl), hf]; rfl)]
    show (true, tellL p (trimL (rulesOf c.kind) c.lines)) = _
    rw [hk, tell_trim hok hn hp]
theorem keys_count : ∀ (R : List Plain) (ls : List PLine), (∀ a ∈ ls, ∃ p ∈ R, p.1 = a.key) → (∀ k, keyN ls k ≤ 10) → ls.length ≤ 10 * R.length
  | [], ls, h, _ => by
    cases ls with
    | nil => simp
    | cons a ls => obtain ⟨p, hp, _⟩ := h a (by simp); cases hp
  | p :: R, ls, h, hk => by
    have h1 := keys_count R (ls.filter (fun a => !(a.key.toList == p.1.toList))) (fun a ha => by
      have hf := List.mem_filter.1 ha
      obtain ⟨q, hq, e⟩ := h a hf.1
      rcases List.mem_cons.1 hq with rfl | hq
      · have := hf.2; rw [e] at this; simp at this
      · exact ⟨q, hq, e⟩) (fun k => by
        unfold keyN
        have := List.Sublist.countP_le (p := fun a : PLine => a.key.toList == k.toList) (List.filter_sublist (p := fun a : PLine => !(a.key.toList == p.1.toList)) (l := ls))
        have h2 := hk k
        unfold keyN at h2
        omega)
    have h2 := hk p.1
    unfold keyN at h2
    have h3 := List.length_eq_countP_add_countP (fun a : PLine => a.key.toList == p.1.toList) (l := ls)
    rw [← List.countP_eq_length_filter] at h1
    have h4 : ls.countP (fun a => !(a.key.toList == p.1.toList)) = ls.countP (fun a => decide ¬ ((a.key.toList == p.1.toList) = true)) := by
      congr 1; funext a; cases (a.key.toList == p.1.toList) <;> rfl
    rw [h4] at h1
    rw [List.length_cons]
    omega
theorem LinesOk.few {R : List Plain} {ls : List PLine} (h : LinesOk R ls) : ls.length ≤ 10 * R.length := by
  refine keys_count R ls (fun a ha => ?_) (fun k => ?_)
  · have hf := h.1 a ha
    have hp : pickR R a.key ≠ none := fun e => by rw [fitsIn_none _ e] at hf; cases hf
    obtain ⟨p, hp⟩ := Option.ne_none_iff_exists'.1 hp
    obtain ⟨i, _, hi, e⟩ := pick_place hp
    exact ⟨p, List.mem_of_getElem? hi, e⟩
  · by_cases hk : ∃ a ∈ ls, a.key = k
    · obtain ⟨a, ha, rfl⟩ := hk
      exact (h.2.2 a ha).2
    · rw [keyN_zero (fun a ha e => hk ⟨a, ha, e⟩)]; omega
end Go.Proofs.YtpdahhnjhggocabGreatDoor
namespace Go.Proofs.YtpdahhnjhggocabGreatDoor
/-- What the next line with words is. -/
inductive NW where
  | ended (m : Nat)
  | bad (m : Nat)
  | words (m : Nat) (w : List UInt8) (ws : List (List UInt8)) (rest : List (List UInt8))
def nextW : Nat → List (List UInt8) → NW
  | n, [] => .ended (n + 1)
  | n, l :: rest => match cutL l with
    | none => .bad (n + 1)
    | some [] => nextW (n + 1) rest
    | some (w :: ws) => .words (n + 1) w ws rest
/-- Reading goes on from there. -/
def goW (done : List PBlock) (op : Option PBlock) : NW → PRes
  | .ended m => match op with
    | none => .good done
    | some _ => .bad m 8
  | .bad m => .bad m 1
  | .words m w ws rest => if (stepW done op w ws).1 ≠ 0 then .bad m (stepW done op w ws).1 else parseGo m (stepW done op w ws).2.1 (stepW done op w ws).2.2 rest
theorem parseGo_next : ∀ (ls : List (List UInt8)) (n : Nat) (done : List PBlock) (op : Option PBlock), parseGo n done op ls = goW done op (nextW n ls)
  | [], n, done, none => rfl
  | [], n, done, some _ => rfl
  | l :: rest, n, done, op => by
    unfold parseGo
    split
    · rename_i hc
      rw [nextW, hc]; rfl
    · rename_i hc
      rw [nextW, hc]; exact parseGo_next rest (n + 1) done op
    · rename_i hc
      rw [nextW, hc]; rfl
theorem nextW_bad {l : List UInt8} {rest : List (List UInt8)} {n : Nat} (h : cutL l = none) : nextW n (l :: rest) = .bad (n + 1) := by unfold nextW; rw [h]
theorem nextW_blank {l : List UInt8} {rest : List (List UInt8)} {n : Nat} (h : cutL l = some []) : nextW n (l :: rest) = nextW (n + 1) rest := by rw [nextW]; rw [h]
theorem nextW_words {l w : List UInt8} {ws rest : List (List UInt8)} {n : Nat} (h : cutL l = some (w :: ws)) : nextW n (l :: rest) = .words (n + 1) w ws rest := by unfold nextW; rw [h]
theorem nextW_len : ∀ (ls : List (List UInt8)) (n m : Nat) (w : List UInt8) (ws rest : List (List UInt8)), nextW n ls = .words m w ws rest → rest.length < ls.length ∧ m + rest.length = n + ls.length
  | [], n, m, w, ws, rest, h => by cases h
  | l :: r, n, m, w, ws, rest, h => by
    unfold nextW at h
    split at h
    · cases h
    · have := nextW_len r (n + 1) m w ws rest h
      simp only [List.length_cons]; omega
    · cases h
      simp only [List.length_cons]; omega
theorem nextW_end : ∀ (ls : List (List UInt8)) (n m : Nat), nextW n ls = .ended m ∨ nextW n ls = .bad m → m ≤ n + ls.length + 1
  | [], n, m, h => by
    rcases h with h | h
    · cases h; simp
    · cases h
  | l :: r, n, m, h => by
    unfold nextW at h
    split at h
    · rcases h with h | h
      · cases h
      · cases h; simp only [List.length_cons]; omega
    · have := nextW_end r (n + 1) m h
      simp only [List.length_cons]; omega
    · rcases h with h | h <;> cases h
theorem linesFrom_no : ∀ (l acc : List UInt8), (10 : UInt8) ∉ l → linesFrom acc l = if acc ++ l = [] then [] else [acc ++ l]
  | [], acc, _ => by simp [linesFrom]
  | c :: l, acc, h => by
    have hc : c ≠ 10 := fun e => h (by rw [e]; simp)
    rw [linesFrom, if_neg hc, linesFrom_no l _ (fun e => h (List.mem_cons_of_mem _ e)), List.append_assoc]; rfl
theorem textLines_no {l : List UInt8} (h : (10 : UInt8) ∉ l) (h0 : l ≠ []) : textLines l = [l] := by
  unfold textLines; rw [linesFrom_no l [] h]; simp [h0]
theorem textLines_nil : textLines [] = [] := rfl
/-- A text cut at its first newline: before, behind. -/
def CutNl (s x y : List UInt8) : Prop := ((10 : UInt8) ∉ s ∧ x = s ∧ y = []) ∨ (s = x ++ 10 :: y ∧ (10 : UInt8) ∉ x)
theorem CutNl.lines {s x y : List UInt8} (h : CutNl s x y) (h0 : s ≠ []) : textLines s = x :: textLines y := by
  rcases h with ⟨h1, rfl, rfl⟩ | ⟨rfl, h2⟩
  · exact textLines_no h1 h0
  · exact textLines_line x y h2
theorem CutNl.len {s x y : List UInt8} (h : CutNl s x y) : x.length ≤ s.length ∧ y.length ≤ s.length := by
  rcases h with ⟨h1, rfl, rfl⟩ | ⟨rfl, h2⟩
  · simp
  · simp; omega
theorem CutNl.lt {s x y : List UInt8} (h : CutNl s x y) (h0 : s ≠ []) : y.length < s.length := by
  rcases h with ⟨h1, rfl, rfl⟩ | ⟨rfl, h2⟩
  · exact List.length_pos_iff.2 h0
  · simp; omega
theorem cutW_8 : ∀ (f : Nat) (acc : List (List UInt8)) (l : List UInt8), acc.length ≤ 8 → ((cutW f acc l).getD []).length ≤ 8
  | 0, acc, [], h => by simpa [cutW] using h
  | 0, acc, _ :: _, h => by simp [cutW]
  | f + 1, acc, [], h => by simpa [cutW] using h
  | f + 1, acc, c :: r, h => by
    rw [cutW]
    split
    · exact cutW_8 f acc r h
    · split
      · simpa using h
      · split
        · simp
        · split
          · rename_i hc
            exact cutW_8 f _ _ (by simp; omega)
          · simp
theorem nextW_small : ∀ (ls : List (List UInt8)) (n m : Nat) (w : List UInt8) (ws rest : List (List UInt8)), nextW n ls = .words m w ws rest → ws.length ≤ 7 ∧ ∀ y ∈ w :: ws, y.length ≤ 200
  | [], n, m, w, ws, rest, h => by cases h
  | l :: r, n, m, w, ws, rest, h => by
    unfold nextW at h
    split at h
    · cases h
    · exact nextW_small r (n + 1) m w ws rest h
    · rename_i hc
      cases h
      have h2 := cutL_200 l
      have h8 := cutW_8 l.length [] l (by simp)
      rw [hc] at h2
      rw [show cutW l.length [] l = cutL l from rfl, hc] at h8
      simp at h8
      exact ⟨h8, h2⟩
end Go.Proofs.YtpdahhnjhggocabGreatDoor
namespace Go.Proofs.YtpdahhnjhggocabGreatDoor
/-- The lines of a block that another one laid over it leaves. -/
def leftL (u o : List PLine) : List PLine := u.filter (fun a => !hasK o a.key)
/-- Lines laid over others. -/
def overL (R : List Plain) (u o : List PLine) : List PLine := normLs R (o ++ leftL u o)
theorem good_join {R : List Plain} {ls : List PLine} (h : GoodLs R ls) : ∀ us : List PLine, GoodLs R us → (∀ a ∈ us, ∀ o ∈ ls, o.key ≠ a.key) → GoodLs R (ls ++ us) := by
  refine snoc_induct (fun _ _ => by rw [List.append_nil]; exact h) ?_
  intro us a ih hu hd
  obtain ⟨h1, h2⟩ := hu.front
  rw [← List.append_assoc]
  refine (ih h1 (fun b hb => hd b (by simp [hb]))).snoc ?_
  obtain ⟨q1, q2, q3⟩ := lineFault_zero.1 h2
  refine lineFault_zero.2 ⟨q1, fun o ho => ?_, ?_⟩
  · rcases List.mem_append.1 ho with ho | ho
    · exact fun e => absurd e (hd a (by simp) o ho)
    · exact q2 o ho
  · rw [keyN_append, keyN_zero (hd a (by simp)), Nat.zero_add]; exact q3
theorem leftL_mem {u o : List PLine} {a : PLine} : a ∈ leftL u o ↔ a ∈ u ∧ hasK o a.key = false := by
  unfold leftL; rw [List.mem_filter]; simp
theorem over_good {R : List Plain} {u o : List PLine} (hu : LinesOk R u) (ho : LinesOk R o) : GoodLs R (o ++ leftL u o) := by
  refine good_join ho.good _ (hu.sub List.filter_sublist).good fun a ha b hb => ?_
  exact hasK_false.1 (leftL_mem.1 ha).2 b hb
theorem over_ok {R : List Plain} {u o : List PLine} (hu : LinesOk R u) (ho : LinesOk R o) : LinesOk R (overL R u o) := normLs_ok (over_good hu ho)
theorem over_mem {R : List Plain} {u o : List PLine} {a : PLine} : a ∈ overL R u o ↔ a ∈ o ∨ a ∈ u ∧ hasK o a.key = false := by
  unfold overL; rw [(normLs_perm _ _).mem_iff, List.mem_append, leftL_mem]
theorem over_has {R : List Plain} {u o : List PLine} {k : ByteArray} : hasK (overL R u o) k = true ↔ hasK o k = true ∨ hasK u k = true := by
  rw [hasK_iff, hasK_iff, hasK_iff]
  constructor
  · rintro ⟨a, ha, e⟩
    rcases over_mem.1 ha with h | h
    · exact .inl ⟨a, h, e⟩
    · exact .inr ⟨a, h.1, e⟩
  · rintro (⟨a, ha, e⟩ | ⟨a, ha, e⟩)
    · exact ⟨a, over_mem.2 (.inl ha), e⟩
    · cases hk : hasK o a.key
      · exact ⟨a, over_mem.2 (.inr ⟨ha, hk⟩), e⟩
      · obtain ⟨b, hb, eb⟩ := hasK_iff.1 hk
        exact ⟨b, over_mem.2 (.inl hb), eb.trans e⟩
theorem over_hasF {R : List Plain} {u o : List PLine} {k : ByteArray} : hasK (overL R u o) k = false ↔ hasK o k = false ∧ hasK u k = false := by
  rw [← Bool.not_eq_true, over_has, not_or, Bool.not_eq_true, Bool.not_eq_true]
theorem hasK_mem {ls : List PLine} {a : PLine} (h : a ∈ ls) : ¬ hasK ls a.key = false := fun e => hasK_false.1 e a h rfl
theorem ok_nil (R : List Plain) : LinesOk R [] := ⟨by simp, List.Pairwise.nil, by simp⟩
theorem over_ext {R : List Plain} {l m : List PLine} (hl : LinesOk R l) (hm : LinesOk R m) (h : ∀ a, a ∈ l ↔ a ∈ m) : l = m := sorted_ext hl.2.1 hm.2.1 h
theorem over_under {R : List Plain} {o : List PLine} (ho : LinesOk R o) : overL R [] o = o := over_ext (over_ok (ok_nil R) ho) ho fun a => by rw [over_mem]; simp
theorem over_self {R : List Plain} {o : List PLine} (ho : LinesOk R o) : overL R o o = o := over_ext (over_ok ho ho) ho fun a => by
  rw [over_mem]
  exact ⟨fun h => h.elim id (fun h => h.1), .inl⟩
theorem over_assoc {R : List Plain} {a b c : List PLine} (ha : LinesOk R a) (hb : LinesOk R b) (hc : LinesOk R c) : overL R (overL R a b) c = overL R a (overL R b c) := by
  refine over_ext (over_ok (over_ok ha hb) hc) (over_ok ha (over_ok hb hc)) fun x => ?_
  rw [over_mem, over_mem, over_mem, over_mem, over_hasF]
  constructor
  · rintro (h | ⟨h | ⟨h, h'⟩, h''⟩)
    · exact .inl (.inl h)
    · exact .inl (.inr ⟨h, h''⟩)
    · exact .inr ⟨h, h'', h'⟩
  · rintro ((h | ⟨h, h'⟩) | ⟨h, h', h''⟩)
    · exact .inl h
    · exact .inr ⟨.inl h, h'⟩
    · exact .inr ⟨.inr ⟨h, h''⟩, h'⟩
theorem over_twice {R : List Plain} {a b : List PLine} (ha : LinesOk R a) (hb : LinesOk R b) : overL R (overL R a b) b = overL R a b := by
  rw [over_assoc ha hb hb, over_self hb]
theorem fill_has {R : List Plain} {ls : List PLine} {p : Plain} (hp : p ∈ R) (hm : p.2.2.1 = false) : hasK (fillL R ls) p.1 = true := by
  cases hk : hasK ls p.1
  · exact hasK_iff.2 ⟨defL p, fill_mem.2 (.inr ⟨p, hp, hm, hk, rfl⟩), rfl⟩
  · obtain ⟨b, hb, e⟩ := hasK_iff.1 hk
    exact hasK_iff.2 ⟨b, fill_mem.2 (.inl hb), e⟩
/-- Filling and laying over (P7). -/
theorem fill_over {R : List Plain} {a b : List PLine} (ha : LinesOk R a) (hb : LinesOk R b) (hg : GoodR R) (hn : NodupK R) : fillL R (overL R a b) = fillL R (overL R (fillL R a) b) := by
  refine over_ext (fill_ok (over_ok ha hb) hg hn) (fill_ok (over_ok (fill_ok ha hg hn) hb) hg hn) fun x => ?_
  rw [fill_mem, fill_mem, over_mem, over_mem]
  constructor
  · rintro ((h | ⟨h, h'⟩) | ⟨p, hp, hm, hk, rfl⟩)
    · exact .inl (.inl h)
    · exact .inl (.inr ⟨fill_mem.2 (.inl h), h'⟩)
    · have := over_hasF.1 hk
      exact .inl (.inr ⟨fill_mem.2 (.inr ⟨p, hp, hm, this.2, rfl⟩), this.1⟩)
  · rintro ((h | ⟨h, h'⟩) | ⟨p, hp, hm, hk, rfl⟩)
    · exact .inl (.inl h)
    · rcases fill_mem.1 h with h | ⟨p, hp, hm, hk, rfl⟩
      · exact .inl (.inr ⟨h, h'⟩)
      · exact .inr ⟨p, hp, hm, over_hasF.2 ⟨h', hk⟩, rfl⟩
    · exact absurd (over_hasF.1 hk).2 (by rw [fill_has hp hm]; decide)
end Go.Proofs.YtpdahhnjhggocabGreatDoor
namespace Go.Proofs.YtpdahhnjhggocabGreatDoor
/-- Heads that differ. -/
def Heads (bs : List PBlock) : Prop := bs.Pairwise (fun a b => ¬ (a.kind = b.kind ∧ a.name = b.name))
theorem SheetOk.heads {bs : List PBlock} (h : SheetOk bs) : Heads bs := h.2.2.imp fun {a b} hab e => by
  rw [blockLt_iff, e.1, e.2] at hab
  rcases hab with q | ⟨_, q⟩ <;> exact Tot.irr _ q
def look (bs : List PBlock) (kind name : ByteArray) : Option PBlock := bs.find? (isHead kind name)
theorem isHead_iff {kind name : ByteArray} {b : PBlock} : isHead kind name b = true ↔ b.kind = kind ∧ b.name = name := by
  unfold isHead
  simp only [Bool.and_eq_true, beq_iff_eq]
  exact ⟨fun h => ⟨toList_inj h.1, toList_inj h.2⟩, fun h => by rw [h.1, h.2]; exact ⟨rfl, rfl⟩⟩
theorem look_some {bs : List PBlock} {kind name : ByteArray} {b : PBlock} (h : look bs kind name = some b) : b ∈ bs ∧ b.kind = kind ∧ b.name = name := ⟨List.mem_of_find?_eq_some h, isHead_iff.1 (List.find?_some h)⟩
theorem look_none {bs : List PBlock} {kind name : ByteArray} : look bs kind name = none ↔ ∀ b ∈ bs, ¬ (b.kind = kind ∧ b.name = name) := by
  unfold look
  rw [List.find?_eq_none]
  exact ⟨fun h b hb e => h b hb (isHead_iff.2 e), fun h b hb e => h b hb (isHead_iff.1 e)⟩
theorem look_of {bs : List PBlock} (h : Heads bs) {b : PBlock} (hb : b ∈ bs) : look bs b.kind b.name = some b := by
  induction bs with
  | nil => cases hb
  | cons a l ih =>
    have hp := List.pairwise_cons.1 h
    unfold look
    rw [List.find?_cons]
    cases hh : isHead b.kind b.name a
    · rcases List.mem_cons.1 hb with rfl | hb
      · rw [isHead_iff.2 ⟨rfl, rfl⟩] at hh; cases hh
      · exact ih hp.2 hb
    · rcases List.mem_cons.1 hb with rfl | hb
      · rfl
      · exact absurd (isHead_iff.1 hh) (hp.1 b hb)
theorem look_iff {bs : List PBlock} (h : Heads bs) {kind name : ByteArray} {b : PBlock} : look bs kind name = some b ↔ b ∈ bs ∧ b.kind = kind ∧ b.name = name := ⟨look_some, by rintro ⟨hb, rfl, rfl⟩; exact look_of h hb⟩
theorem block_ext {l m : List PBlock} (hl : l.Pairwise (fun a b => blockLt a b = true)) (hm : m.Pairwise (fun a b => blockLt a b = true)) (h : ∀ a, a ∈ l ↔ a ∈ m) : l = m := by
  have nd : ∀ {l : List PBlock}, l.Pairwise (fun a b => blockLt a b = true) → l.Nodup := fun h => h.imp (fun {a b} hab e => by subst e; exact blockLt_irr _ hab)
  exact sorted_unique blockLt_irr blockLt_trans hl hm ((List.perm_ext_iff_of_nodup (nd hl) (nd hm)).2 h)
/-- A valid sheet is what is found in it. -/
theorem sheet_ext {s t : List PBlock} (hs : SheetOk s) (ht : SheetOk t) (h : ∀ kind name, look s kind name = look t kind name) : s = t := by
  refine block_ext hs.2.2 ht.2.2 fun a => ?_
  have := h a.kind a.name
  constructor
  · intro ha
    rw [look_of hs.heads ha] at this
    exact (look_some this.symm).1
  · intro ha
    rw [look_of ht.heads ha] at this
    exact (look_some this).1
def overB (u o : PBlock) : PBlock := ⟨o.kind, o.name, overL (rulesOf o.kind) u.lines o.lines⟩
/-- A block laid over that of its head, if there is one. -/
def layB (us : List PBlock) (o : PBlock) : PBlock := match look us o.kind o.name with
  | some u => overB u o
  | none => o
def restU (us os : List PBlock) : List PBlock := us.filter (fun u => (look os u.kind u.name).isNone)
def overRaw (us os : List PBlock) : List PBlock := os.map (layB us) ++ restU us os
/-- What SheetOver gives. -/
noncomputable def overS (us os : List PBlock) : List PBlock := if sheetB us = true ∧ sheetB os = true ∧ (overRaw us os).length ≤ 60 then normBs (overRaw us os) else []
theorem layB_head (us : List PBlock) (o : PBlock) : (layB us o).kind = o.kind ∧ (layB us o).name = o.name := by unfold layB; split <;> exact ⟨rfl, rfl⟩
theorem layB_ok {us : List PBlock} (hu : SheetOk us) {o : PBlock} (ho : LinesOk (rulesOf o.kind) o.lines) : LinesOk (rulesOf o.kind) (layB us o).lines := by
  unfold layB
  split
  · rename_i u hl
    have h1 := look_some hl
    have := (hu.2.1 u h1.1).2.2
    rw [h1.2.1] at this
    exact over_ok this ho
  · exact ho
theorem restU_mem {us os : List PBlock} {b : PBlock} : b ∈ restU us os ↔ b ∈ us ∧ look os b.kind b.name = none := by
  unfold restU; rw [List.mem_filter, Option.isNone_iff_eq_none]
theorem overRaw_mem {us os : List PBlock} {b : PBlock} : b ∈ overRaw us os ↔ (∃ o ∈ os, b = layB us o) ∨ b ∈ us ∧ look os b.kind b.name = none := by
  unfold overRaw
  rw [List.mem_append, List.mem_map, restU_mem]
  exact or_congr ⟨fun ⟨o, h, e⟩ => ⟨o, h, e.symm⟩, fun ⟨o, h, e⟩ => ⟨o, h, e.symm⟩⟩ Iff.rfl
theorem overRaw_heads {us os : List PBlock} (hu : SheetOk us) (ho : SheetOk os) : Heads (overRaw us os) := by
  unfold Heads overRaw
  rw [List.pairwise_append]
  refine ⟨?_, hu.heads.sublist List.filter_sublist, fun a ha b hb => ?_⟩
  · rw [List.pairwise_map]
    refine ho.heads.imp fun {a b} hab => ?_
    rw [(layB_head us a).1, (layB_head us a).2, (layB_head us b).1, (layB_head us b).2]; exact hab
  · obtain ⟨o, h, rfl⟩ := List.mem_map.1 ha
    rw [(layB_head us o).1, (layB_head us o).2]
    exact fun e => look_none.1 (restU_mem.1 hb).2 o h e
theorem overRaw_each {us os : List PBlock} (hu : SheetOk us) (ho : SheetOk os) : ∀ b ∈ overRaw us os, (rulesOf b.kind).length ≠ 0 ∧ nameB b.name.data.toList = true ∧ LinesOk (rulesOf b.kind) b.lines := by
  intro b hb
  rcases overRaw_mem.1 hb with ⟨o, h, rfl⟩ | ⟨h, _⟩
  · have := ho.2.1 o h
    have h2 := layB_ok hu this.2.2
    rw [(layB_head us o).1, (layB_head us o).2]
    exact ⟨this.1, this.2.1, h2⟩
  · exact hu.2.1 b h
theorem good_of {bs : List PBlock} (hl : bs.length ≤ 60) (hh : Heads bs) (he : ∀ b ∈ bs, (rulesOf b.kind).length ≠ 0 ∧ nameB b.name.data.toList = true ∧ LinesOk (rulesOf b.kind) b.lines) : GoodBs bs := by
  refine ⟨fun i b hb => ?_, fun b hb => (he b hb).2.2.good⟩
  obtain ⟨hi, rfl⟩ := List.getElem?_eq_some_iff.1 hb
  have h1 := he bs[i] (List.getElem_mem _)
  refine headFault_zero.2 ⟨h1.1, h1.2.1, fun o ho e => ?_, by simp; omega⟩
  obtain ⟨j, hj, rfl⟩ := List.mem_iff_getElem.1 ho
  simp only [List.length_take, List.getElem_take] at hj e
  exact List.pairwise_iff_getElem.1 hh j i (by omega) hi (by omega) e
theorem norm_same {bs : List PBlock} (he : ∀ b ∈ bs, LinesOk (rulesOf b.kind) b.lines) : bs.map normB = bs := by
  conv => rhs; rw [← List.map_id bs]
  refine List.map_congr_left fun b hb => ?_
  unfold normB
  rw [normLs_id (he b hb)]; rfl
theorem norm_mem {bs : List PBlock} (he : ∀ b ∈ bs, LinesOk (rulesOf b.kind) b.lines) (b : PBlock) : b ∈ normBs bs ↔ b ∈ bs := by
  rw [(normBs_perm bs).mem_iff, norm_same he]
theorem overS_of {us os : List PBlock} (hu : SheetOk us) (ho : SheetOk os) (hl : (overRaw us os).length ≤ 60) : overS us os = normBs (overRaw us os) := by unfold overS; rw [if_pos ⟨sheetB_iff.2 hu, sheetB_iff.2 ho, hl⟩]
theorem overS_ok {us os : List PBlock} (hu : SheetOk us) (ho : SheetOk os) (hl : (overRaw us os).length ≤ 60) : SheetOk (overS us os) := by
  rw [overS_of hu ho hl]
  exact normBs_ok (good_of hl (overRaw_heads hu ho) (overRaw_each hu ho))
/-- What is found in a sheet laid over another one. -/
def overO : Option PBlock → Option PBlock → Option PBlock
  | some u, some o => some (overB u o)
  | some u, none => some u
  | none, r => r
theorem look_over {us os : List PBlock} (hu : SheetOk us) (ho : SheetOk os) (hl : (overRaw us os).length ≤ 60) (kind name : ByteArray) : look (overS us os) kind name = overO (look us kind name) (look os kind name) := by
  have hok := overS_ok hu ho hl
  have hmem : ∀ b, b ∈ overS us os ↔ b ∈ overRaw us os := by
    rw [overS_of hu ho hl]; exact norm_mem fun b hb => (overRaw_each hu ho b hb).2.2
  cases h2 : look os kind name with
  | some o =>
    obtain ⟨m2, e1, e2⟩ := look_some h2
    have hin : layB us o ∈ overS us os := (hmem _).2 (overRaw_mem.2 (.inl ⟨o, m2, rfl⟩))
    have := look_of hok.heads hin
    rw [(layB_head us o).1, (layB_head us o).2, e1, e2] at this
    rw [this]
    unfold layB
    rw [e1, e2]
    cases look us kind name <;> rfl
  | none =>
    cases h1 : look us kind name with
    | some u =>
      obtain ⟨m1, e1, e2⟩ := look_some h1
      refine (look_iff hok.heads).2 ⟨(hmem u).2 (overRaw_mem.2 (.inr ⟨m1, ?_⟩)), e1, e2⟩
      rw [e1, e2]; exact h2
    | none =>
      refine look_none.2 fun b hb e => ?_
      rcases overRaw_mem.1 ((hmem b).1 hb) with ⟨o, h, rfl⟩ | ⟨h, _⟩
      · rw [(layB_head us o).1, (layB_head us o).2] at e
        exact look_none.1 h2 o h e
      · exact look_none.1 h1 b h e
theorem look_ok {s : List PBlock} (h : SheetOk s) {kind name : ByteArray} {b : PBlock} (hb : look s kind name = some b) : b.kind = kind ∧ b.name = name ∧ LinesOk (rulesOf kind) b.lines := by
  obtain ⟨h1, h2, h3⟩ := look_some hb
  have := (h.2.1 b h1).2.2
  rw [h2] at this
  exact ⟨h2, h3, this⟩
theorem ok_empty : SheetOk [] := ⟨by simp, by simp, List.Pairwise.nil⟩
theorem raw_under (os : List PBlock) : overRaw [] os = os := by
  unfold overRaw restU
  have : os.map (layB []) = os := by
    conv => rhs; rw [← List.map_id os]
    exact List.map_congr_left fun b _ => rfl
  rw [this]; simp
theorem raw_over (us : List PBlock) : overRaw us [] = us := by
  unfold overRaw restU
  simp [look]
theorem raw_len (us os : List PBlock) : (overRaw us os).length ≤ us.length + os.length ∧ os.length ≤ (overRaw us os).length := by
  unfold overRaw restU
  have := List.length_filter_le (fun u => (look os u.kind u.name).isNone) us
  simp only [List.length_append, List.length_map]
  omega
theorem raw_self {s : List PBlock} (h : SheetOk s) : (overRaw s s).length ≤ 60 := by
  unfold overRaw restU
  rw [List.filter_eq_nil_iff.2 (fun a ha => by rw [look_of h.heads ha]; simp)]
  simpa using h.1
theorem over_S_under {s : List PBlock} (h : SheetOk s) : overS [] s = s := by
  have hl : (overRaw [] s).length ≤ 60 := by rw [raw_under]; exact h.1
  refine sheet_ext (overS_ok ok_empty h hl) h fun kind name => ?_
  rw [look_over ok_empty h hl]; rfl
theorem over_S_over {s : List PBlock} (h : SheetOk s) : overS s [] = s := by
  have hl : (overRaw s []).length ≤ 60 := by rw [raw_over]; exact h.1
  refine sheet_ext (overS_ok h ok_empty hl) h fun kind name => ?_
  rw [look_over h ok_empty hl]
  cases look s kind name <;> rfl
theorem over_S_self {s : List PBlock} (h : SheetOk s) : overS s s = s := by
  refine sheet_ext (overS_ok h h (raw_self h)) h fun kind name => ?_
  rw [look_over h h (raw_self h)]
  cases hk : look s kind name with
  | none => rfl
  | some b =>
    obtain ⟨e1, e2, e3⟩ := look_ok h hk
    show some (overB b b) = some b
    unfold overB
    rw [e1, over_self e3]
    subst e1; rfl
theorem overO_assoc {a b c : List PBlock} (ha : SheetOk a) (hb : SheetOk b) (hc : SheetOk c) (kind name : ByteArray) : overO (overO (look a kind name) (look b kind name)) (look c kind name) = overO (look a kind name) (overO (look b kind name) (look c kind name)) := by
  cases h1 : look a kind name with
  | none => cases h2 : look b kind name <;> cases h3 : look c kind name <;> rfl
  | some x =>
    cases h2 : look b kind name with
    | none => cases h3 : look c kind name <;> rfl
    | some y =>
      cases h3 : look c kind name with
      | none => rfl
      | some z =>
        obtain ⟨x1, x2, x3⟩ := look_ok ha h1
        obtain ⟨y1, y2, y3⟩ := look_ok hb h2
        obtain ⟨z1, z2, z3⟩ := look_ok hc h3
        show some (overB (overB x y) z) = some (overB x (overB y z))
        unfold overB
        simp only [z1, y1]
        rw [over_assoc x3 y3 z3]
/-- Of three it does not matter which two are laid first (P6). -/
theorem over_S_assoc {a b c : List PBlock} (ha : SheetOk a) (hb : SheetOk b) (hc : SheetOk c) (h1 : (overRaw a b).length ≤ 60) (h2 : (overRaw b c).length ≤ 60) (h3 : (overRaw (overS a b) c).length ≤ 60) (h4 : (overRaw a (overS b c)).length ≤ 60) : overS (overS a b) c = overS a (overS b c) := by
  have hab := overS_ok ha hb h1
  have hbc := overS_ok hb hc h2
  refine sheet_ext (overS_ok hab hc h3) (overS_ok ha hbc h4) fun kind name => ?_
  rw [look_over hab hc h3, look_over ha hb h1, look_over ha hbc h4, look_over hb hc h2, overO_assoc ha hb hc]
theorem over_S_twice {a b : List PBlock} (ha : SheetOk a) (hb : SheetOk b) (h1 : (overRaw a b).length ≤ 60) (h3 : (overRaw (overS a b) b).length ≤ 60) : overS (overS a b) b = overS a b := by
  have hab := overS_ok ha hb h1
  refine sheet_ext (overS_ok hab hb h3) hab fun kind name => ?_
  rw [look_over hab hb h3, look_over ha hb h1, overO_assoc ha hb hb, ← look_over hb hb (raw_self hb), over_S_self hb]
theorem overS_len {us os : List PBlock} (hu : SheetOk us) (ho : SheetOk os) (hl : (overRaw us os).length ≤ 60) : (overS us os).length = (overRaw us os).length := by
  rw [overS_of hu ho hl, (normBs_perm _).length_eq, List.length_map]
theorem look_fill {s : List PBlock} (h : SheetOk s) (kind name : ByteArray) : look (fillS s) kind name = (look s kind name).map fillP := by
  rw [fillS_of h]; exact find_map (f := fillP) (fun _ => rfl) (fun _ => rfl) s kind name
/-- Filling and laying over (P7). -/
theorem fill_S_over {a b : List PBlock} (ha : SheetOk a) (hb : SheetOk b) (h1 : (overRaw a b).length ≤ 60) (h2 : (overRaw (fillS a) b).length ≤ 60) : fillS (overS a b) = fillS (overS (fillS a) b) := by
  have hab := overS_ok ha hb h1
  have hfa : SheetOk (fillS a) := by rw [fillS_of ha]; exact fillS_ok ha
  have hfab := overS_ok hfa hb h2
  refine sheet_ext (by rw [fillS_of hab]; exact fillS_ok hab) (by rw [fillS_of hfab]; exact fillS_ok hfab) fun kind name => ?_
  rw [look_fill hab, look_fill hfab, look_over ha hb h1, look_over hfa hb h2, look_fill ha]
  cases k1 : look a kind name with
  | none => rfl
  | some x =>
    obtain ⟨x1, x2, x3⟩ := look_ok ha k1
    cases k2 : look b kind name with
    | none =>
      show some (fillP x) = some (fillP (fillP x))
      unfold fillP
      simp only [x1]
      rw [fill_fill x3 (rulesOf_good kind) (rulesOf_nodupK kind)]
    | some y =>
      obtain ⟨y1, y2, y3⟩ := look_ok hb k2
      show some (fillP (overB x y)) = some (fillP (overB (fillP x) y))
      unfold fillP overB
      simp only [y1, x1]
      rw [fill_over x3 y3 (rulesOf_good kind) (rulesOf_nodupK kind)]
end Go.Proofs.YtpdahhnjhggocabGreatDoor
