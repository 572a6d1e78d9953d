import Derived.Test.YtlaejmehgaeobabGreatDoorFitsG
import Derived.Test.YtlaejmehgaeobabGreatDoorOrd
namespace Go.Proofs.YtlaejmehgaeobabGreatDoor
/-- A line, a block: as plain values. -/
structure PLine where
  key : ByteArray
  ws : List (List UInt8)
structure PBlock where
  kind : ByteArray
  name : ByteArray
  lines : List PLine
theorem toList_inj {a b : ByteArray} (h : a.toList = b.toList) : a = b := by
  rw [ByteArray.toList_eq, ByteArray.toList_eq] at h
  exact ByteArray.ext (Array.toList_inj.1 h)
/-- The place of a key among rules, -1 if it is none. -/
def placeI (R : List Plain) (key : ByteArray) : Int := match R.findIdx? (fun p => p.1.toList == key.toList) with
  | some i => (i : Int)
  | none => -1
def manyR (R : List Plain) (key : ByteArray) : Bool := match pickR R key with
  | some p => p.2.2.1
  | none => false
theorem pick_place {R : List Plain} {key : ByteArray} {p : Plain} (h : pickR R key = some p) : ∃ i : Nat, placeI R key = (i : Int) ∧ R[i]? = some p ∧ p.1 = key := by
  unfold pickR at h
  obtain ⟨hp, i, hi, rfl, hj⟩ := List.find?_eq_some_iff_getElem.1 h
  refine ⟨i, ?_, List.getElem?_eq_getElem hi, toList_inj (by simpa using hp)⟩
  unfold placeI
  rw [List.findIdx?_eq_some_iff_getElem.2 ⟨hi, hp, fun j hj' => by simpa using hj j hj'⟩]
theorem place_same {R : List Plain} {a b : ByteArray} (ha : pickR R a ≠ none) (hb : pickR R b ≠ none) (h : placeI R a = placeI R b) : a = b := by
  obtain ⟨p, hp⟩ := Option.ne_none_iff_exists'.1 ha
  obtain ⟨q, hq⟩ := Option.ne_none_iff_exists'.1 hb
  obtain ⟨i, hi, gi, rfl⟩ := pick_place hp
  obtain ⟨j, hj, gj, rfl⟩ := pick_place hq
  have : i = j := by omega
  subst this
  rw [gi] at gj
  rw [Option.some.inj gj]
/-- Whether a line is ahead of another one. -/
def lineLt (R : List Plain) (a b : PLine) : Bool := decide (placeI R a.key < placeI R b.key) || (decide (placeI R a.key = placeI R b.key) && decide (a.ws < b.ws))
theorem lineLt_iff {R : List Plain} {a b : PLine} : lineLt R a b = true ↔ placeI R a.key < placeI R b.key ∨ placeI R a.key = placeI R b.key ∧ a.ws < b.ws := by simp [lineLt]
theorem lineLt_irr (R : List Plain) (a : PLine) : ¬ lineLt R a a = true := by
  rw [lineLt_iff]
  rintro (h | ⟨_, h⟩)
  · omega
  · exact Tot.irr _ h
theorem lineLt_trans (R : List Plain) (a b c : PLine) (h : lineLt R a b = true) (k : lineLt R b c = true) : lineLt R a c = true := by
  rw [lineLt_iff] at *
  rcases h with h | ⟨h, h'⟩ <;> rcases k with k | ⟨k, k'⟩
  · left; omega
  · left; omega
  · left; omega
  · right; exact ⟨by omega, Tot.trans _ _ _ h' k'⟩
/-- How many lines have a key. -/
def keyN (ls : List PLine) (k : ByteArray) : Nat := ls.countP (fun a => a.key.toList == k.toList)
/-- The first fault of a line behind earlier ones of its block. -/
def lineFault (R : List Plain) (es : List PLine) (a : PLine) : Int :=
  if pickR R a.key = none then 5 else if fitsIn R a.key a.ws = false then 7
  else if es.any (fun o => o.key.toList == a.key.toList && (!manyR R a.key || decide (o.ws = a.ws))) = true then 6
  else if 10 ≤ keyN es a.key then 10 else 0
theorem lineFault_zero {R : List Plain} {es : List PLine} {a : PLine} : lineFault R es a = 0 ↔ fitsIn R a.key a.ws = true ∧ (∀ o ∈ es, o.key = a.key → manyR R a.key = true ∧ o.ws ≠ a.ws) ∧ keyN es a.key < 10 := by
  unfold lineFault
  constructor
  · intro h
    split at h
    · omega
    split at h
    · omega
    split at h
    · omega
    split at h
    · omega
    rename_i h1 h2 h3 h4
    refine ⟨by simpa using h2, fun o ho hk => ?_, by omega⟩
    simp only [List.any_eq_true, not_exists, not_and, Bool.not_eq_true] at h3
    have := h3 o ho
    rw [hk] at this
    simpa using this
  · rintro ⟨h1, h2, h3⟩
    have h0 : ¬ pickR R a.key = none := fun h => by rw [fitsIn_none _ h] at h1; cases h1
    rw [if_neg h0, if_neg (by simp [h1]), if_neg ?_, if_neg (by omega)]
    simp only [List.any_eq_true, not_exists, not_and, Bool.not_eq_true]
    intro o ho
    by_cases hk : o.key = a.key
    · have := h2 o ho hk
      simp [this.1, this.2]
    · have : (o.key.toList == a.key.toList) = false := by
        rw [beq_eq_false_iff_ne]; exact fun e => hk (toList_inj e)
      simp [this]
/-- The lines of a block are as they must be. -/
def LinesOk (R : List Plain) (ls : List PLine) : Prop := (∀ a ∈ ls, fitsIn R a.key a.ws = true) ∧ ls.Pairwise (fun a b => lineLt R a b = true) ∧ ∀ a ∈ ls, (manyR R a.key = true ∨ keyN ls a.key ≤ 1) ∧ keyN ls a.key ≤ 10
/-- A line at its place, as the model looks at it. -/
def SpecAt (R : List Plain) (ls : List PLine) (i : Nat) : Prop := ∃ a, ls[i]? = some a ∧ fitsIn R a.key a.ws = true ∧ (i = 0 ∨ ∃ b, ls[i - 1]? = some b ∧ lineLt R b a = true) ∧ (manyR R a.key = true ∨ keyN (ls.take (i + 1)) a.key ≤ 1) ∧ keyN (ls.take (i + 1)) a.key ≤ 10
theorem keyN_append (l m : List PLine) (k : ByteArray) : keyN (l ++ m) k = keyN l k + keyN m k := by simp [keyN]
theorem keyN_take (ls : List PLine) (i : Nat) (k : ByteArray) : keyN (ls.take i) k ≤ keyN ls k := by
  have := keyN_append (ls.take i) (ls.drop i) k
  rw [List.take_append_drop] at this
  omega
theorem keyN_one (a : PLine) (k : ByteArray) : keyN [a] k = if a.key = k then 1 else 0 := by
  unfold keyN
  by_cases h : a.key = k
  · simp [h]
  · have : (a.key.toList == k.toList) = false := by
      rw [beq_eq_false_iff_ne]; exact fun e => h (toList_inj e)
    simp [h, this]
theorem keyN_succ {ls : List PLine} {i : Nat} {a : PLine} (h : ls[i]? = some a) (k : ByteArray) : keyN (ls.take (i + 1)) k = keyN (ls.take i) k + if a.key = k then 1 else 0 := by
  rw [List.take_add_one, h, keyN_append]
  simp only [Option.toList, keyN_one]
theorem take_succ_mem {α : Type} {ls : List α} {i : Nat} {a b : α} (h : ls[i]? = some a) : b ∈ ls.take (i + 1) ↔ b ∈ ls.take i ∨ b = a := by
  rw [List.take_add_one, h]; simp
theorem linesOk_spec {R : List Plain} {ls : List PLine} (h : ∀ i, i < ls.length → SpecAt R ls i) : LinesOk R ls := by
  refine ⟨fun a ha => ?_, ?_, ?_⟩
  · obtain ⟨i, hi, rfl⟩ := List.mem_iff_getElem.1 ha
    obtain ⟨b, hb, hf, _⟩ := h i hi
    rw [List.getElem?_eq_getElem hi] at hb
    rw [Option.some.inj hb]; exact hf
  · refine pairwise_adj (lineLt_trans R) ls fun i a b ha hb => ?_
    obtain ⟨hi, _⟩ := List.getElem?_eq_some_iff.1 hb
    obtain ⟨b', hb', _, hadj, _⟩ := h (i + 1) hi
    rw [hb] at hb'; cases hb'
    rcases hadj with h0 | ⟨c, hc, hl⟩
    · omega
    · rw [Nat.add_sub_cancel, ha] at hc; cases hc; exact hl
  · have key : ∀ j, j ≤ ls.length → ∀ a ∈ ls.take j, (manyR R a.key = true ∨ keyN (ls.take j) a.key ≤ 1) ∧ keyN (ls.take j) a.key ≤ 10 := by
      intro j
      induction j with
      | zero => intro _ a ha; simp at ha
      | succ j ih =>
        intro hj a ha
        obtain ⟨b, hb, hs⟩ := h j (by omega)
        by_cases hk : b.key = a.key
        · rw [← hk]; exact hs.2.2
        · have := keyN_succ hb a.key
          rw [if_neg hk, Nat.add_zero] at this
          rw [this]
          rcases (take_succ_mem hb).1 ha with h1 | rfl
          · exact ih (by omega) a h1
          · exact absurd rfl hk
    intro a ha
    have := key ls.length (Nat.le_refl _) a (by rw [List.take_length]; exact ha)
    rwa [List.take_length] at this
theorem spec_linesOk {R : List Plain} {ls : List PLine} (h : LinesOk R ls) (i : Nat) (hi : i < ls.length) : SpecAt R ls i := by
  refine ⟨ls[i], List.getElem?_eq_getElem hi, h.1 _ (List.getElem_mem _), ?_, ?_, ?_⟩
  · by_cases h0 : i = 0
    · exact .inl h0
    · exact .inr ⟨ls[i - 1], List.getElem?_eq_getElem _, adj_pairwise h.2.1 (i - 1) i (by omega) _ _ (List.getElem?_eq_getElem _) (List.getElem?_eq_getElem hi)⟩
  · have := keyN_take ls (i + 1) ls[i].key
    rcases (h.2.2 ls[i] (List.getElem_mem _)).1 with h1 | h1
    · exact .inl h1
    · exact .inr (by omega)
  · have := keyN_take ls (i + 1) ls[i].key
    have := (h.2.2 ls[i] (List.getElem_mem _)).2
    omega
/-- The same as the program looks at it: no fault, and no line ahead of the one before it. -/
theorem linesOk_impl {R : List Plain} {ls : List PLine} (h : ∀ i a, ls[i]? = some a → lineFault R (ls.take i) a = 0) (hs : ∀ i a b, ls[i]? = some a → ls[i + 1]? = some b → lineLt R b a = false) : LinesOk R ls := by
  refine linesOk_spec fun i hi => ?_
  have hz := lineFault_zero.1 (h i ls[i] (List.getElem?_eq_getElem hi))
  refine ⟨ls[i], List.getElem?_eq_getElem hi, hz.1, ?_, ?_, ?_⟩
  · by_cases h0 : i = 0
    · exact .inl h0
    right
    have hz' := lineFault_zero.1 (h (i - 1) ls[i - 1] (List.getElem?_eq_getElem (by omega)))
    refine ⟨ls[i - 1], List.getElem?_eq_getElem _, ?_⟩
    have hn := hs (i - 1) ls[i - 1] ls[i] (List.getElem?_eq_getElem _) (by rw [show i - 1 + 1 = i by omega]; exact List.getElem?_eq_getElem hi)
    have hm : ls[i - 1] ∈ ls.take i := by
      rw [List.mem_iff_getElem]; exact ⟨i - 1, by simp; omega, by simp⟩
    have h2 := hz.2.1 _ hm
    generalize ls[i - 1] = b at *
    generalize ls[i] = a at *
    rw [← Bool.not_eq_true, lineLt_iff] at hn
    rw [lineLt_iff]
    have hka : pickR R a.key ≠ none := fun e => by have := hz.1; rw [fitsIn_none _ e] at this; cases this
    have hkb : pickR R b.key ≠ none := fun e => by have := hz'.1; rw [fitsIn_none _ e] at this; cases this
    by_cases hp : placeI R b.key = placeI R a.key
    · have hk := place_same hkb hka hp
      have hw := (h2 hk).2
      refine .inr ⟨hp, ?_⟩
      by_cases hlt : b.ws < a.ws
      · exact hlt
      · exact absurd (Tot.tri _ _ hlt (fun q => hn (.inr ⟨hp.symm, q⟩))) hw
    · left
      have : ¬ placeI R a.key < placeI R b.key := fun q => hn (.inl q)
      omega
  · rw [keyN_succ (List.getElem?_eq_getElem hi), if_pos rfl]
    by_cases hm : manyR R ls[i].key = true
    · exact .inl hm
    · right
      have : keyN (ls.take i) ls[i].key = 0 := by
        unfold keyN
        rw [List.countP_eq_zero]
        intro o ho hk
        exact hm (hz.2.1 o ho (toList_inj (by simpa using hk))).1
      omega
  · rw [keyN_succ (List.getElem?_eq_getElem hi), if_pos rfl]
    have := hz.2.2
    omega
theorem impl_linesOk {R : List Plain} {ls : List PLine} (h : LinesOk R ls) : (∀ i a, ls[i]? = some a → lineFault R (ls.take i) a = 0) ∧ ∀ i a b, ls[i]? = some a → ls[i + 1]? = some b → lineLt R b a = false := by
  constructor
  · intro i a ha
    obtain ⟨hi, rfl⟩ := List.getElem?_eq_some_iff.1 ha
    have hc := h.2.2 ls[i] (List.getElem_mem _)
    have h1 := keyN_take ls (i + 1) ls[i].key
    rw [keyN_succ (List.getElem?_eq_getElem hi), if_pos rfl] at h1
    refine lineFault_zero.2 ⟨h.1 _ (List.getElem_mem _), fun o ho hk => ⟨?_, ?_⟩, by omega⟩
    · rcases hc.1 with h2 | h2
      · exact h2
      · have : keyN (ls.take i) ls[i].key = 0 := by omega
        unfold keyN at this
        rw [List.countP_eq_zero] at this
        exact absurd (by simp [hk]) (this o ho)
    · intro e
      obtain ⟨j, hj, rfl⟩ := List.mem_iff_getElem.1 ho
      simp only [List.length_take, List.getElem_take] at hj e hk
      have := adj_pairwise h.2.1 j i (by omega) _ _ (List.getElem?_eq_getElem (by omega)) (List.getElem?_eq_getElem hi)
      rw [lineLt_iff, hk, e] at this
      rcases this with q | ⟨_, q⟩
      · omega
      · exact Tot.irr _ q
  · intro i a b ha hb
    have := adj_pairwise h.2.1 i (i + 1) (by omega) a b ha hb
    rw [← Bool.not_eq_true]
    exact fun k => lineLt_irr R _ (lineLt_trans R _ _ _ this k)
/-- Whether a block is ahead of another one. -/
def blockLt (a b : PBlock) : Bool := decide (a.kind.toList < b.kind.toList) || (decide (a.kind.toList = b.kind.toList) && decide (a.name.toList < b.name.toList))
theorem blockLt_iff {a b : PBlock} : blockLt a b = true ↔ a.kind.toList < b.kind.toList ∨ a.kind.toList = b.kind.toList ∧ a.name.toList < b.name.toList := by simp [blockLt]
theorem blockLt_irr (a : PBlock) : ¬ blockLt a a = true := by
  rw [blockLt_iff]
  rintro (h | ⟨_, h⟩)
  · exact Tot.irr _ h
  · exact Tot.irr _ h
theorem blockLt_trans (a b c : PBlock) (h : blockLt a b = true) (k : blockLt b c = true) : blockLt a c = true := by
  rw [blockLt_iff] at *
  rcases h with h | ⟨h, h'⟩ <;> rcases k with k | ⟨k, k'⟩
  · exact .inl (Tot.trans _ _ _ h k)
  · exact .inl (k ▸ h)
  · exact .inl (h ▸ k)
  · exact .inr ⟨h.trans k, Tot.trans _ _ _ h' k'⟩
/-- The first fault of a block's head behind earlier ones. -/
def headFault (es : List PBlock) (kind name : ByteArray) : Int :=
  if (rulesOf kind).length = 0 then 3 else if nameB name.data.toList = false then 4
  else if es.any (fun o => o.kind.toList == kind.toList && o.name.toList == name.toList) = true then 9
  else if 60 ≤ es.length then 10 else 0
theorem headFault_zero {es : List PBlock} {kind name : ByteArray} : headFault es kind name = 0 ↔ (rulesOf kind).length ≠ 0 ∧ nameB name.data.toList = true ∧ (∀ o ∈ es, ¬ (o.kind = kind ∧ o.name = name)) ∧ es.length < 60 := by
  unfold headFault
  constructor
  · intro h
    split at h
    · omega
    split at h
    · omega
    split at h
    · omega
    split at h
    · omega
    rename_i h1 h2 h3 h4
    refine ⟨h1, by simpa using h2, fun o ho hk => ?_, by omega⟩
    apply h3
    rw [List.any_eq_true]
    exact ⟨o, ho, by simp [hk.1, hk.2]⟩
  · rintro ⟨h1, h2, h3, h4⟩
    rw [if_neg h1, if_neg (by simp [h2]), if_neg ?_, if_neg (by omega)]
    rw [List.any_eq_true]
    rintro ⟨o, ho, hk⟩
    simp only [Bool.and_eq_true, beq_iff_eq] at hk
    exact h3 o ho ⟨toList_inj hk.1, toList_inj hk.2⟩
/-- A valid sheet. -/
def SheetOk (bs : List PBlock) : Prop := bs.length ≤ 60 ∧ (∀ b ∈ bs, (rulesOf b.kind).length ≠ 0 ∧ nameB b.name.data.toList = true ∧ LinesOk (rulesOf b.kind) b.lines) ∧ bs.Pairwise (fun a b => blockLt a b = true)
/-- A block at its place, as the model looks at it. -/
def SpecBlock (bs : List PBlock) (i : Nat) : Prop := ∃ b, bs[i]? = some b ∧ (rulesOf b.kind).length ≠ 0 ∧ nameB b.name.data.toList = true ∧ LinesOk (rulesOf b.kind) b.lines ∧ (i = 0 ∨ ∃ a, bs[i - 1]? = some a ∧ blockLt a b = true)
theorem sheetOk_spec {bs : List PBlock} (hl : bs.length ≤ 60) (h : ∀ i, i < bs.length → SpecBlock bs i) : SheetOk bs := by
  refine ⟨hl, fun b hb => ?_, ?_⟩
  · obtain ⟨i, hi, rfl⟩ := List.mem_iff_getElem.1 hb
    obtain ⟨c, hc, h1, h2, h3, _⟩ := h i hi
    rw [List.getElem?_eq_getElem hi] at hc
    rw [Option.some.inj hc]; exact ⟨h1, h2, h3⟩
  · refine pairwise_adj blockLt_trans bs fun i a b ha hb => ?_
    obtain ⟨hi, _⟩ := List.getElem?_eq_some_iff.1 hb
    obtain ⟨b', hb', _, _, _, hadj⟩ := h (i + 1) hi
    rw [hb] at hb'; cases hb'
    rcases hadj with h0 | ⟨c, hc, hl⟩
    · omega
    · rw [Nat.add_sub_cancel, ha] at hc; cases hc; exact hl
theorem spec_sheetOk {bs : List PBlock} (h : SheetOk bs) (i : Nat) (hi : i < bs.length) : SpecBlock bs i := by
  have hb := h.2.1 bs[i] (List.getElem_mem _)
  refine ⟨bs[i], List.getElem?_eq_getElem hi, hb.1, hb.2.1, hb.2.2, ?_⟩
  by_cases h0 : i = 0
  · exact .inl h0
  · exact .inr ⟨bs[i - 1], List.getElem?_eq_getElem _, adj_pairwise h.2.2 (i - 1) i (by omega) _ _ (List.getElem?_eq_getElem _) (List.getElem?_eq_getElem hi)⟩
theorem sheetOk_impl {bs : List PBlock} (h : ∀ i b, bs[i]? = some b → headFault (bs.take i) b.kind b.name = 0 ∧ LinesOk (rulesOf b.kind) b.lines) (hs : ∀ i a b, bs[i]? = some a → bs[i + 1]? = some b → blockLt b a = false) : SheetOk bs := by
  have hl : bs.length ≤ 60 := by
    by_cases h0 : bs.length = 0
    · omega
    · have := (headFault_zero.1 (h (bs.length - 1) bs[bs.length - 1] (List.getElem?_eq_getElem (by omega))).1).2.2.2
      simp at this
      omega
  refine sheetOk_spec hl fun i hi => ?_
  have hb := h i bs[i] (List.getElem?_eq_getElem hi)
  have hz := headFault_zero.1 hb.1
  refine ⟨bs[i], List.getElem?_eq_getElem hi, hz.1, hz.2.1, hb.2, ?_⟩
  by_cases h0 : i = 0
  · exact .inl h0
  right
  refine ⟨bs[i - 1], List.getElem?_eq_getElem _, ?_⟩
  have hn := hs (i - 1) bs[i - 1] bs[i] (List.getElem?_eq_getElem _) (by rw [show i - 1 + 1 = i by omega]; exact List.getElem?_eq_getElem hi)
  have hm : bs[i - 1] ∈ bs.take i := by
    rw [List.mem_iff_getElem]; exact ⟨i - 1, by simp; omega, by simp⟩
  have h2 := hz.2.2.1 _ hm
  generalize bs[i - 1] = a at *
  generalize bs[i] = b at *
  rw [← Bool.not_eq_true, blockLt_iff] at hn
  rw [blockLt_iff]
  by_cases h3 : a.kind.toList < b.kind.toList
  · exact .inl h3
  · have e1 := Tot.tri _ _ h3 (fun q => hn (.inl q))
    refine .inr ⟨e1, ?_⟩
    by_cases h4 : a.name.toList < b.name.toList
    · exact h4
    · have e2 := Tot.tri _ _ h4 (fun q => hn (.inr ⟨e1.symm, q⟩))
      exact absurd ⟨toList_inj e1, toList_inj e2⟩ h2
theorem impl_sheetOk {bs : List PBlock} (h : SheetOk bs) : (∀ i b, bs[i]? = some b → headFault (bs.take i) b.kind b.name = 0 ∧ LinesOk (rulesOf b.kind) b.lines) ∧ ∀ i a b, bs[i]? = some a → bs[i + 1]? = some b → blockLt b a = false := by
  constructor
  · intro i b hb
    obtain ⟨hi, rfl⟩ := List.getElem?_eq_some_iff.1 hb
    have hk := h.2.1 bs[i] (List.getElem_mem _)
    refine ⟨headFault_zero.2 ⟨hk.1, hk.2.1, fun o ho e => ?_, by have := h.1; simp; omega⟩, hk.2.2⟩
    obtain ⟨j, hj, rfl⟩ := List.mem_iff_getElem.1 ho
    simp only [List.length_take, List.getElem_take] at hj e
    have := adj_pairwise h.2.2 j i (by omega) _ _ (List.getElem?_eq_getElem (by omega)) (List.getElem?_eq_getElem hi)
    rw [blockLt_iff, e.1, e.2] at this
    rcases this with q | ⟨_, q⟩ <;> exact Tot.irr _ q
  · intro i a b ha hb
    have := adj_pairwise h.2.2 i (i + 1) (by omega) a b ha hb
    rw [← Bool.not_eq_true]
    exact fun k => blockLt_irr _ (blockLt_trans _ _ _ this k)
open Classical in
noncomputable def linesB (R : List Plain) (ls : List PLine) : Bool := decide (LinesOk R ls)
open Classical in
noncomputable def sheetB (bs : List PBlock) : Bool := decide (SheetOk bs)
theorem linesB_iff {R : List Plain} {ls : List PLine} : linesB R ls = true ↔ LinesOk R ls := by simp [linesB]
theorem sheetB_iff {bs : List PBlock} : sheetB bs = true ↔ SheetOk bs := by simp [sheetB]
end Go.Proofs.YtlaejmehgaeobabGreatDoor
