import Derived.Test.YtpdahhnjhggocabGreatDoorBun16
import Derived.Test.YtpdahhnjhggocabGreatDoorBun4
import Derived.Test.YtpdahhnjhggocabGreatDoorBun1
namespace Go.Proofs.YtpdahhnjhggocabGreatDoor
structure PLine where
  key : ByteArray
  ws : List (List UInt8)
structure PBlock where
  kind : ByteArray
  name : ByteArray
  lines : List PLine
theorem toList_inj {a b : ByteArray} (h : a.toList = b.toList) : a = b := by
  rw [ByteArray.toList_eq, ByteArray.toList_eq] at h
  exact ByteArray.ext (Array.toList_inj.1 h)
def placeI (R : List Plain) (key : ByteArray) : Int := match R.findIdx? (fun p => p.1.toList == key.toList) with
  | some i => (i : Int)
  | none => -1
def manyR (R : List Plain) (key : ByteArray) : Bool := match pickR R key with
  | some p => p.2.2.1
  | none => false
theorem pick_place {R : List Plain} {key : ByteArray} {p : Plain} (h : pickR R key = some p) : ∃ i : Nat, placeI R key = (i : Int) ∧ R[i]? = some p ∧ p.1 = key := by
  unfold pickR at h
  obtain ⟨hp, i, hi, rfl, hj⟩ := List.find?_eq_some_iff_getElem.1 h
  refine ⟨i, ?_, List.getElem?_eq_getElem hi, toList_inj (by simpa using hp)⟩
  unfold placeI
  rw [List.findIdx?_eq_some_iff_getElem.2 ⟨hi, hp, fun j hj' => by simpa using hj j hj'⟩]
theorem place_same {R : List Plain} {a b : ByteArray} (ha : pickR R a ≠ none) (hb : pickR R b ≠ none) (h : placeI R a = placeI R b) : a = b := by
  obtain ⟨p, hp⟩ := Option.ne_none_iff_exists'.1 ha
  obtain ⟨q, hq⟩ := Option.ne_none_iff_exists'.1 hb
  obtain ⟨i, hi, gi, rfl⟩ := pick_place hp
  obtain ⟨j, hj, gj, rfl⟩ := pick_place hq
  have : i = j := by omega
  subst this
  rw [gi] at gj
  rw [Option.some.inj gj]
def lineLt (R : List Plain) (a b : PLine) : Bool := decide (placeI R a.key < placeI R b.key) || (decide (placeI R a.key = placeI R b.key) && decide (a.ws < b.ws))
theorem lineLt_iff {R : List Plain} {a b : PLine} : lineLt R a b = true ↔ placeI R a.key < placeI R b.key ∨ placeI R a.key = placeI R b.key ∧ a.ws < b.ws := by simp [lineLt]
theorem lineLt_irr (R : List Plain) (a : PLine) : ¬ lineLt R a a = true := by
  rw [lineLt_iff]
  rintro (h | ⟨_, h⟩)
  · omega
  · exact Tot.irr _ h
theorem lineLt_trans (R : List Plain) (a b c : PLine) (h : lineLt R a b = true) (k : lineLt R b c = true) : lineLt R a c = true := by
  rw [lineLt_iff] at *
  rcases h with h | ⟨h, h'⟩ <;> rcases k with k | ⟨k, k'⟩
  · left; omega
  · left; omega
  · left; omega
  · right; exact ⟨by omega, Tot.trans _ _ _ h' k'⟩
def keyN (ls : List PLine) (k : ByteArray) : Nat := ls.countP (fun a => a.key.toList == k.toList)
def lineFault (R : List Plain) (es : List PLine) (a : PLine) : Int :=
  if pickR R a.key = none then 5 else if fitsIn R a.key a.ws = false then 7
  else if es.any (fun o => o.key.toList == a.key.toList && (!manyR R a.key || decide (o.ws = a.ws))) = true then 6
  else if 10 ≤ keyN es a.key then 10 else 0
theorem lineFault_zero {R : List Plain} {es : List PLine} {a : PLine} : lineFault R es a = 0 ↔ fitsIn R a.key a.ws = true ∧ (∀ o ∈ es, o.key = a.key → manyR R a.key = true ∧ o.ws ≠ a.ws) ∧ keyN es a.key < 10 := by
  unfold lineFault
  constructor
  · intro h
    split at h
    · omega
    split at h
    · omega
    split at h
    · omega
    split at h
    · omega
    rename_i h1 h2 h3 h4
    refine ⟨by simpa using h2, fun o ho hk => ?_, by omega⟩
    simp only [List.any_eq_true, not_exists, not_and, Bool.not_eq_true] at h3
    have := h3 o ho
    rw [hk] at this
    simpa using this
  · rintro ⟨h1, h2, h3⟩
    have h0 : ¬ pickR R a.key = none := fun h => by rw [fitsIn_none _ h] at h1; cases h1
    rw [if_neg h0, if_neg (by simp [h1]), if_neg ?_, if_neg (by omega)]
    simp only [List.any_eq_true, not_exists, not_and, Bool.not_eq_true]
    intro o ho
    by_cases hk : o.key = a.key
    · have := h2 o ho hk
      simp [this.1, this.2]
    · have : (o.key.toList == a.key.toList) = false := by
        rw [beq_eq_false_iff_ne]; exact fun e => hk (toList_inj e)
      simp [this]
def LinesOk (R : List Plain) (ls : List PLine) : Prop := (∀ a ∈ ls, fitsIn R a.key a.ws = true) ∧ ls.Pairwise (fun a b => lineLt R a b = true) ∧ ∀ a ∈ ls, (manyR R a.key = true ∨ keyN ls a.key ≤ 1) ∧ keyN ls a.key ≤ 10
def SpecAt (R : List Plain) (ls : List PLine) (i : Nat) : Prop := ∃ a, ls[i]? = some a ∧ fitsIn R a.key a.ws = true ∧ (i = 0 ∨ ∃ b, ls[i - 1]? = some b ∧ lineLt R b a = true) ∧ (manyR R a.key = true ∨ keyN (ls.take (i + 1)) a.key ≤ 1) ∧ keyN (ls.take (i + 1)) a.key ≤ 10
theorem keyN_append (l m : List PLine) (k : ByteArray) : keyN (l ++ m) k = keyN l k + keyN m k := by simp [keyN]
theorem keyN_take (ls : List PLine) (i : Nat) (k : ByteArray) : keyN (ls.take i) k ≤ keyN ls k := by
  have := keyN_append (ls.take i) (ls.drop i) k
  rw [List.take_append_drop] at this
  omega
theorem keyN_one (a : PLine) (k : ByteArray) : keyN [a] k = if a.key = k then 1 else 0 := by
  unfold keyN
  by_cases h : a.key = k
  · simp [h]
  · have : (a.key.toList == k.toList) = false := by
      rw [beq_eq_false_iff_ne]; exact fun e => h (toList_inj e)
    simp [h, this]
theorem keyN_succ {ls : List PLine} {i : Nat} {a : PLine} (h : ls[i]? = some a) (k : ByteArray) : keyN (ls.take (i + 1)) k = keyN (ls.take i) k + if a.key = k then 1 else 0 := by
  rw [List.take_add_one, h, keyN_append]
  simp only [Option.toList, keyN_one]
theorem take_succ_mem {α : Type} {ls : List α} {i : Nat} {a b : α} (h : ls[i]? = some a) : b ∈ ls.take (i + 1) ↔ b ∈ ls.take i ∨ b = a := by
  rw [List.take_add_one, h]; simp
theorem linesOk_spec {R : List Plain} {ls : List PLine} (h : ∀ i, i < ls.length → SpecAt R ls i) : LinesOk R ls := by
  refine ⟨fun a ha => ?_, ?_, ?_⟩
  · obtain ⟨i, hi, rfl⟩ := List.mem_iff_getElem.1 ha
    obtain ⟨b, hb, hf, _⟩ := h i hi
    rw [List.getElem?_eq_getElem hi] at hb
    rw [Option.some.inj hb]; exact hf
  · refine pairwise_adj (lineLt_trans R) ls fun i a b ha hb => ?_
    obtain ⟨hi, _⟩ := List.getElem?_eq_some_iff.1 hb
    obtain ⟨b', hb', _, hadj, _⟩ := h (i + 1) hi
    rw [hb] at hb'; cases hb'
    rcases hadj with h0 | ⟨c, hc, hl⟩
    · omega
    · rw [Nat.add_sub_cancel, ha] at hc; cases hc; exact hl
  · have key : ∀ j, j ≤ ls.length → ∀ a ∈ ls.take j, (manyR R a.key = true ∨ keyN (ls.take j) a.key ≤ 1) ∧ keyN (ls.take j) a.key ≤ 10 := by
      intro j
      induction j with
      | zero => intro _ a ha; simp at ha
      | succ j ih =>
        intro hj a ha
        obtain ⟨b, hb, hs⟩ := h j (by omega)
        by_cases hk : b.key = a.key
        · rw [← hk]; exact hs.2.2
        · have := keyN_succ hb a.key
          rw [if_neg hk, Nat.add_zero] at this
          rw [this]
          rcases (take_succ_mem hb).1 ha with h1 | rfl
          · exact ih (by omega) a h1
          · exact absurd rfl hk
    intro a ha
    have := key ls.length (Nat.le_refl _) a (by rw [List.take_length]; exact ha)
    rwa [List.take_length] at this
theorem spec_linesOk {R : List Plain} {ls : List PLine} (h : LinesOk R ls) (i : Nat) (hi : i < ls.length) : SpecAt R ls i := by
  refine ⟨ls[i], List.getElem?_eq_getElem hi, h.1 _ (List.getElem_mem _), ?_, ?_, ?_⟩
  · by_cases h0 : i = 0
    · exact .inl h0
    · exact .inr ⟨ls[i - 1], List.getElem?_eq_getElem _, adj_pairwise h.2.1 (i - 1) i (by omega) _ _ (List.getElem?_eq_getElem _) (List.getElem?_eq_getElem hi)⟩
  · have := keyN_take ls (i + 1) ls[i].key
    rcases (h.2.2 ls[i] (List.getElem_mem _)).1 with h1 | h1
    · exact .inl h1
    · exact .inr (by omega)
  · have := keyN_take ls (i + 1) ls[i].key
    have := (h.2.2 ls[i] (List.getElem_mem _)).2
    omega
theorem linesOk_impl {R : List Plain} {ls : List PLine} (h : ∀ i a, ls[i]? = some a → lineFault R (ls.take i) a = 0) (hs : ∀ i a b, ls[i]? = some a → ls[i + 1]? = some b → lineLt R b a = false) : LinesOk R ls := by
  refine linesOk_spec fun i hi => ?_
  have hz := lineFault_zero.1 (h i ls[i] (List.getElem?_eq_getElem hi))
  refine ⟨ls[i], List.getElem?_eq_getElem hi, hz.1, ?_, ?_, ?_⟩
  · by_cases h0 : i = 0
    · exact .inl h0
    right
    have hz' := lineFault_zero.1 (h (i - 1) ls[i - 1] (List.getElem?_eq_getElem (by omega)))
    refine ⟨ls[i - 1], List.getElem?_eq_getElem _, ?_⟩
    have hn := hs (i - 1) ls[i - 1] ls[i] (List.getElem?_eq_getElem _) (by rw [show i - 1 + 1 = i by omega]; exact List.getElem?_eq_getElem hi)
    have hm : ls[i - 1] ∈ ls.take i := by
      rw [List.mem_iff_getElem]; exact ⟨i - 1, by simp; omega, by simp⟩
    have h2 := hz.2.1 _ hm
    generalize ls[i - 1] = b at *
    generalize ls[i] = a at *
    rw [← Bool.not_eq_true, lineLt_iff] at hn
    rw [lineLt_iff]
    have hka : pickR R a.key ≠ none := fun e => by have := hz.1; rw [fitsIn_none _ e] at this; cases this
    have hkb : pickR R b.key ≠ none := fun e => by have := hz'.1; rw [fitsIn_none _ e] at this; cases this
    by_cases hp : placeI R b.key = placeI R a.key
    · have hk := place_same hkb hka hp
      have hw := (h2 hk).2
      refine .inr ⟨hp, ?_⟩
      by_cases hlt : b.ws < a.ws
      · exact hlt
      · exact absurd (Tot.tri _ _ hlt (fun q => hn (.inr ⟨hp.symm, q⟩))) hw
    · left
      have : ¬ placeI R a.key < placeI R b.key := fun q => hn (.inl q)
      omega
  · rw [keyN_succ (List.getElem?_eq_getElem hi), if_pos rfl]
    by_cases hm : manyR R ls[i].key = true
    · exact .inl hm
    · right
      have : keyN (ls.take i) ls[i].key = 0 := by
        unfold keyN
        rw [List.countP_eq_zero]
        intro o ho hk
        exact hm (hz.2.1 o ho (toList_inj (by simpa using hk))).1
      omega
  · rw [keyN_succ (List.getElem?_eq_getElem hi), if_pos rfl]
    have := hz.2.2
    omega
theorem impl_linesOk {R : List Plain} {ls : List PLine} (h : LinesOk R ls) : (∀ i a, ls[i]? = some a → lineFault R (ls.take i) a = 0) ∧ ∀ i a b, ls[i]? = some a → ls[i + 1]? = some b → lineLt R b a = false := by
  constructor
  · intro i a ha
    obtain ⟨hi, rfl⟩ := List.getElem?_eq_some_iff.1 ha
    have hc := h.2.2 ls[i] (List.getElem_mem _)
    have h1 := keyN_take ls (i + 1) ls[i].key
    rw [keyN_succ (List.getElem?_eq_getElem hi), if_pos rfl] at h1
    refine lineFault_zero.2 ⟨h.1 _ (List.getElem_mem _), fun o ho hk => ⟨?_, ?_⟩, by omega⟩
    · rcases hc.1 with h2 | h2
      · exact h2
      · have : keyN (ls.take i) ls[i].key = 0 := by omega
        unfold keyN at this
        rw [List.countP_eq_zero] at this
        exact absurd (by simp [hk]) (this o ho)
    · intro e
      obtain ⟨j, hj, rfl⟩ := List.mem_iff_getElem.1 ho
      simp only [List.length_take, List.getElem_take] at hj e hk
      have := adj_pairwise h.2.1 j i (by omega) _ _ (List.getElem?_eq_getElem (by omega)) (List.getElem?_eq_getElem hi)
      rw [lineLt_iff, hk, e] at this
      rcases this with q | ⟨_, q⟩
      · omega
      · exact Tot.irr _ q
  · intro i a b ha hb
    have := adj_pairwise h.2.1 i (i + 1) (by omega) a b ha hb
    rw [← Bool.not_eq_true]
    exact fun k => lineLt_irr R _ (lineLt_trans R _ _ _ this k)
def blockLt (a b : PBlock) : Bool := decide (a.kind.toList < b.kind.toList) || (decide (a.kind.toList = b.kind.toList) && decide (a.name.toList < b.name.toList))
theorem blockLt_iff {a b : PBlock} : blockLt a b = true ↔ a.kind.toList < b.kind.toList ∨ a.kind.toList = b.kind.toList ∧ a.name.toList < b.name.toList := by simp [blockLt]
theorem blockLt_irr (a : PBlock) : ¬ blockLt a a = true := by
  rw [blockLt_iff]
  rintro (h | ⟨_, h⟩)
  · exact Tot.irr _ h
  · exact Tot.irr _ h
theorem blockLt_trans (a b c : PBlock) (h : blockLt a b = true) (k : blockLt b c = true) : blockLt a c = true := by
  rw [blockLt_iff] at *
  rcases h with h | ⟨h, h'⟩ <;> rcases k with k | ⟨k, k'⟩
  · exact .inl (Tot.trans _ _ _ h k)
  · exact .inl (k ▸ h)
  · exact .inl (h ▸ k)
  · exact .inr ⟨h.trans k, Tot.trans _ _ _ h' k'⟩
def headFault (es : List PBlock) (kind name : ByteArray) : Int :=
  if (rulesOf kind).length = 0 then 3 else if nameB name.data.toList = false then 4
  else if es.any (fun o => o.kind.toList == kind.toList && o.name.toList == name.toList) = true then 9
  else if 60 ≤ es.length then 10 else 0
theorem headFault_zero {es : List PBlock} {kind name : ByteArray} : headFault es kind name = 0 ↔ (rulesOf kind).length ≠ 0 ∧ nameB name.data.toList = true ∧ (∀ o ∈ es, ¬ (o.kind = kind ∧ o.name = name)) ∧ es.length < 60 := by
  unfold headFault
  constructor
  · intro h
    split at h
    · omega
    split at h
    · omega
    split at h
    · omega
    split at h
    · omega
    rename_i h1 h2 h3 h4
    refine ⟨h1, by simpa using h2, fun o ho hk => ?_, by omega⟩
    apply h3
    rw [List.any_eq_true]
    exact ⟨o, ho, by simp [hk.1, hk.2]⟩
  · rintro ⟨h1, h2, h3, h4⟩
    rw [if_neg h1, if_neg (by simp [h2]), if_neg ?_, if_neg (by omega)]
    rw [List.any_eq_true]
    rintro ⟨o, ho, hk⟩
    simp only [Bool.and_eq_true, beq_iff_eq] at hk
    exact h3 o ho ⟨toList_inj hk.1, toList_inj hk.2⟩
def SheetOk (bs : List PBlock) : Prop := bs.length ≤ 60 ∧ (∀ b ∈ bs, (rulesOf b.kind).length ≠ 0 ∧ nameB b.name.data.toList = true ∧ LinesOk (rulesOf b.kind) b.lines) ∧ bs.Pairwise (fun a b => blockLt a b = true)
def SpecBlock (bs : List PBlock) (i : Nat) : Prop := ∃ b, bs[i]? = some b ∧ (rulesOf b.kind).length ≠ 0 ∧ nameB b.name.data.toList = true ∧ LinesOk (rulesOf b.kind) b.lines ∧ (i = 0 ∨ ∃ a, bs[i - 1]? = some a ∧ blockLt a b = true)
theorem sheetOk_spec {bs : List PBlock} (hl : bs.length ≤ 60) (h : ∀ i, i < bs.length → SpecBlock bs i) : SheetOk bs := by
  refine ⟨hl, fun b hb => ?_, ?_⟩
  · obtain ⟨i, hi, rfl⟩ := List.mem_iff_getElem.1 hb
    obtain ⟨c, hc, h1, h2, h3, _⟩ := h i hi
    rw [List.getElem?_eq_getElem hi] at hc
    rw [Option.some.inj hc]; exact ⟨h1, h2, h3⟩
  · refine pairwise_adj blockLt_trans bs fun i a b ha hb => ?_
    obtain ⟨hi, _⟩ := List.getElem?_eq_some_iff.1 hb
    obtain ⟨b', hb', _, _, _, hadj⟩ := h (i + 1) hi
    rw [hb] at hb'; cases hb'
    rcases hadj with h0 | ⟨c, hc, hl⟩
    · omega
    · rw [Nat.add_sub_cancel, ha] at hc; cases hc; exact hl
theorem spec_sheetOk {bs : List PBlock} (h : SheetOk bs) (i : Nat) (hi : i < bs.length) : SpecBlock bs i := by
  have hb := h.2.1 bs[i] (List.getElem_mem _)
  refine ⟨bs[i], List.getElem?_eq_getElem hi, hb.1, hb.2.1, hb.2.2, ?_⟩
  by_cases h0 : i = 0
  · exact .inl h0
  · exact .inr ⟨bs[i - 1], List.getElem?_eq_getElem _, adj_pairwise h.2.2 (i - 1) i (by omega) _ _ (List.getElem?_eq_getElem _) (List.getElem?_eq_getElem hi)⟩
theorem sheetOk_impl {bs : List PBlock} (h : ∀ i b, bs[i]? = some b → headFault (bs.take i) b.kind b.name = 0 ∧ LinesOk (rulesOf b.kind) b.lines) (hs : ∀ i a b, bs[i]? = some a → bs[i + 1]? = some b → blockLt b a = false) : SheetOk bs := by
  have hl : bs.length ≤ 60 := by
    by_cases h0 : bs.length = 0
    · omega
    · have := (headFault_zero.1 (h (bs.length - 1) bs[bs.length - 1] (List.getElem?_eq_getElem (by omega))).1).2.2.2
      simp at this
      omega
  refine sheetOk_spec hl fun i hi => ?_
  have hb := h i bs[i] (List.getElem?_eq_getElem hi)
  have hz := headFault_zero.1 hb.1
  refine ⟨bs[i], List.getElem?_eq_getElem hi, hz.1, hz.2.1, hb.2, ?_⟩
  by_cases h0 : i = 0
  · exact .inl h0
  right
  refine ⟨bs[i - 1], List.getElem?_eq_getElem _, ?_⟩
  have hn := hs (i - 1) bs[i - 1] bs[i] (List.getElem?_eq_getElem _) (by rw [show i - 1 + 1 = i by omega]; exact List.getElem?_eq_getElem hi)
  have hm : bs[i - 1] ∈ bs.take i := by
    rw [List.mem_iff_getElem]; exact ⟨i - 1, by simp; omega, by simp⟩
  have h2 := hz.2.2.1 _ hm
  generalize bs[i - 1] = a at *
  generalize bs[i] = b at *
  rw [← Bool.not_eq_true, blockLt_iff] at hn
  rw [blockLt_iff]
  by_cases h3 : a.kind.toList < b.kind.toList
  · exact .inl h3
  · have e1 := Tot.tri _ _ h3 (fun q => hn (.inl q))
    refine .inr ⟨e1, ?_⟩
    by_cases h4 : a.name.toList < b.name.toList
    · exact h4
    · have e2 := Tot.tri _ _ h4 (fun q => hn (.inr ⟨e1.symm, q⟩))
      exact absurd ⟨toList_inj e1, toList_inj e2⟩ h2
theorem impl_sheetOk {bs : List PBlock} (h : SheetOk bs) : (∀ i b, bs[i]? = some b → headFault (bs.take i) b.kind b.name = 0 ∧ LinesOk (rulesOf b.kind) b.lines) ∧ ∀ i a b, bs[i]? = some a → bs[i + 1]? = some b → blockLt b a = false := by
  constructor
  · intro i b hb
    obtain ⟨hi, rfl⟩ := List.getElem?_eq_some_iff.1 hb
    have hk := h.2.1 bs[i] (List.getElem_mem _)
    refine ⟨headFault_zero.2 ⟨hk.1, hk.2.1, fun o ho e => ?_, by have := h.1; simp; omega⟩, hk.2.2⟩
    obtain ⟨j, hj, rfl⟩ := List.mem_iff_getElem.1 ho
    simp only [List.length_take, List.getElem_take] at hj e
    have := adj_pairwise h.2.2 j i (by omega) _ _ (List.getElem?_eq_getElem (by omega)) (List.getElem?_eq_getElem hi)
    rw [blockLt_iff, e.1, e.2] at this
    rcases this with q | ⟨_, q⟩ <;> exact Tot.irr _ q
  · intro i a b ha hb
    have := adj_pairwise h.2.2 i (i + 1) (by omega) a b ha hb
    rw [← Bool.not_eq_true]
    exact fun k => blockLt_irr _ (blockLt_trans _ _ _ this k)
open Classical in
noncomputable def linesB (R : List Plain) (ls : List PLine) : Bool := decide (LinesOk R ls)
open Classical in
noncomputable def sheetB (bs : List PBlock) : Bool := decide (SheetOk bs)
theorem linesB_iff {R : List Plain} {ls : List PLine} : linesB R ls = true ↔ LinesOk R ls := by simp [linesB]
theorem sheetB_iff {bs : List PBlock} : sheetB bs = true ↔ SheetOk bs := by simp [sheetB]
end Go.Proofs.YtpdahhnjhggocabGreatDoor
namespace Go.Proofs.YtpdahhnjhggocabGreatDoor
def GoodLs (R : List Plain) (ls : List PLine) : Prop := ∀ i a, ls[i]? = some a → lineFault R (ls.take i) a = 0
theorem GoodLs.nil (R : List Plain) : GoodLs R [] := by intro i a h; simp at h
theorem GoodLs.snoc {R : List Plain} {ls : List PLine} {a : PLine} (h : GoodLs R ls) (ha : lineFault R ls a = 0) : GoodLs R (ls ++ [a]) := by
  intro i b hb
  by_cases hi : i < ls.length
  · rw [List.getElem?_append_left hi] at hb
    rw [List.take_append_of_le_length (by omega)]
    exact h i b hb
  · rw [List.getElem?_append_right (by omega)] at hb
    have h0 : i - ls.length = 0 := by
      by_cases h0 : i - ls.length = 0
      · exact h0
      · rw [List.getElem?_eq_none (by simp; omega)] at hb; cases hb
    rw [h0] at hb
    cases hb
    rw [show i = ls.length by omega, List.take_append_of_le_length (Nat.le_refl _), List.take_length]
    exact ha
def normLs (R : List Plain) (ls : List PLine) : List PLine := ls.foldl (fun acc a => putIn (lineLt R) a acc) []
theorem GoodLs.fits {R : List Plain} {ls : List PLine} (h : GoodLs R ls) : ∀ a ∈ ls, fitsIn R a.key a.ws = true := by
  intro a ha
  obtain ⟨i, hi, rfl⟩ := List.mem_iff_getElem.1 ha
  exact (lineFault_zero.1 (h i _ (List.getElem?_eq_getElem hi))).1
def GoodBs (bs : List PBlock) : Prop := (∀ i b, bs[i]? = some b → headFault (bs.take i) b.kind b.name = 0) ∧ ∀ b ∈ bs, GoodLs (rulesOf b.kind) b.lines
theorem GoodBs.nil : GoodBs [] := ⟨by intro i a h; simp at h, by simp⟩
theorem GoodBs.snoc {bs : List PBlock} {b : PBlock} (h : GoodBs bs) (hb : headFault bs b.kind b.name = 0) (hl : GoodLs (rulesOf b.kind) b.lines) : GoodBs (bs ++ [b]) := by
  refine ⟨?_, fun c hc => ?_⟩
  · intro i c hc
    by_cases hi : i < bs.length
    · rw [List.getElem?_append_left hi] at hc
      rw [List.take_append_of_le_length (by omega)]
      exact h.1 i c hc
    · rw [List.getElem?_append_right (by omega)] at hc
      have h0 : i - bs.length = 0 := by
        by_cases h0 : i - bs.length = 0
        · exact h0
        · rw [List.getElem?_eq_none (by simp; omega)] at hc; cases hc
      rw [h0] at hc
      cases hc
      rw [show i = bs.length by omega, List.take_append_of_le_length (Nat.le_refl _), List.take_length]
      exact hb
  · rcases List.mem_append.1 hc with h1 | h1
    · exact h.2 c h1
    · rw [List.mem_singleton.1 h1]; exact hl
def linesFrom : List UInt8 → List UInt8 → List (List UInt8)
  | acc, [] => if acc = [] then [] else [acc]
  | acc, c :: l => if c = 10 then acc :: linesFrom [] l else linesFrom (acc ++ [c]) l
def textLines (l : List UInt8) : List (List UInt8) := linesFrom [] l
inductive PRes where
  | bad (line : Nat) (code : Int)
  | good (bs : List PBlock)
def keyOf (w : List UInt8) : ByteArray := ⟨w.toArray⟩
def stepW (done : List PBlock) : Option PBlock → List UInt8 → List (List UInt8) → Int × List PBlock × Option PBlock
  | none, w, ws => match ws with
    | [n] => (headFault done (keyOf w) (keyOf n), done, some ⟨keyOf w, keyOf n, []⟩)
    | _ => (2, done, none)
  | some b, w, ws => if w = [101, 110, 100] ∧ ws = [] then (0, done ++ [b], none) else (lineFault (rulesOf b.kind) b.lines ⟨keyOf w, ws⟩, done, some ⟨b.kind, b.name, b.lines ++ [⟨keyOf w, ws⟩]⟩)
def GoodSt (done : List PBlock) : Option PBlock → Prop
  | none => GoodBs done
  | some b => GoodBs done ∧ headFault done b.kind b.name = 0 ∧ GoodLs (rulesOf b.kind) b.lines
theorem stepW_in {done : List PBlock} {b : PBlock} {w : List UInt8} {ws : List (List UInt8)} (h : ¬ (w = [101, 110, 100] ∧ ws = [])) : stepW done (some b) w ws = (lineFault (rulesOf b.kind) b.lines ⟨keyOf w, ws⟩, done, some ⟨b.kind, b.name, b.lines ++ [⟨keyOf w, ws⟩]⟩) := by
  show (if _ then _ else _) = _
  rw [if_neg h]
theorem stepW_out {done : List PBlock} {w : List UInt8} {ws : List (List UInt8)} (h : ws.length ≠ 1) : stepW done none w ws = (2, done, none) := by
  match ws, h with
  | [], _ => rfl
  | _ :: _ :: _, _ => rfl
theorem GoodSt.step {done : List PBlock} {op : Option PBlock} {w : List UInt8} {ws : List (List UInt8)} (h : GoodSt done op) (h0 : (stepW done op w ws).1 = 0) : GoodSt (stepW done op w ws).2.1 (stepW done op w ws).2.2 := by
  cases op with
  | none =>
    by_cases hl : ws.length = 1
    · match ws, hl with
      | [n], _ => exact ⟨h, h0, GoodLs.nil _⟩
    · rw [stepW_out hl] at h0; cases h0
  | some b =>
    obtain ⟨h1, h2, h3⟩ := h
    by_cases he : w = [101, 110, 100] ∧ ws = []
    · obtain ⟨rfl, rfl⟩ := he
      exact h1.snoc h2 h3
    · rw [stepW_in he] at h0 ⊢
      exact ⟨h1, h2, h3.snoc h0⟩
end Go.Proofs.YtpdahhnjhggocabGreatDoor
namespace Go.Proofs.YtpdahhnjhggocabGreatDoor
def tooLongL (t : List UInt8) : Prop := 20000 < t.length ∨ 400 < (textLines t).length
instance (t : List UInt8) : Decidable (tooLongL t) := by unfold tooLongL; infer_instance
theorem linesFrom_line (l rest : List UInt8) (h : (10 : UInt8) ∉ l) : ∀ acc, linesFrom acc (l ++ 10 :: rest) = (acc ++ l) :: linesFrom [] rest := by
  induction l with
  | nil => intro acc; simp [linesFrom]
  | cons c l ih =>
    intro acc
    have hc : ¬ c = 10 := fun e => h (by simp [e])
    rw [List.cons_append, linesFrom, if_neg hc, ih (fun e => h (by simp [e]))]
    simp
theorem textLines_line (l rest : List UInt8) (h : (10 : UInt8) ∉ l) : textLines (l ++ 10 :: rest) = l :: textLines rest := by
  unfold textLines; rw [linesFrom_line l rest h]; rfl
theorem wordOf_end (w : List UInt8) (rest : List UInt8) (hr : endOk rest = true) : ∃ c r, wordL w ++ rest = c :: r ∧ c.toNat ≠ 32 ∧ c.toNat ≠ 35 ∧ wordOf (c :: r) = some (w, (wordL w).length) ∧ (c :: r).drop (wordL w).length = rest := by
  have hstop : ∀ l : List UInt8, l.all bareB = true → (l ++ rest).takeWhile bareB = l := by
    intro l hl
    rw [List.takeWhile_append_of_pos (List.all_eq_true.1 hl)]
    cases rest with
    | nil => simp
    | cons c r =>
      have hc : bareB c = false := by
        simp only [endOk, decide_eq_true_eq] at hr
        exact bareB_no (by omega)
      rw [List.takeWhile_cons, hc]; simp
  by_cases hb : bareL w = true
  · have hw : wordL w = w := by simp [wordL, hb]
    unfold bareL at hb
    rw [Bool.and_eq_true] at hb
    rw [hw]
    match w, hb with
    | c :: r, hb =>
      have hc : bareB c = true := List.all_eq_true.1 hb.2 c (by simp)
      have h := bareB_true hc
      refine ⟨c, r ++ rest, rfl, by omega, by omega, ?_, ?_⟩
      · have ht := hstop (c :: r) hb.2
        rw [List.cons_append] at ht
        rw [wordOf, if_neg (by omega), if_neg (by rw [hc]; decide), ht]
      · rw [← List.cons_append, List.drop_left]
    | [], hb => simp at hb
  · have hw : wordL w = quoteL w := by simp [wordL, hb]
    have hl : (quoteL w).length = (w.flatMap qb).length + 2 := by
      simp only [quoteL, List.length_append, List.length_cons, List.length_nil]
    refine ⟨34, w.flatMap qb ++ 34 :: rest, ?_, by decide, by decide, ?_, ?_⟩
    · rw [hw]; simp [quoteL]
    · rw [wordOf, if_pos (by decide), unq_written, hw, hl]; simp
    · rw [hw, hl, show (w.flatMap qb).length + 2 = ((w.flatMap qb).length + 1) + 1 from rfl, List.drop_succ_cons, List.drop_append]
      simp
theorem Cut.tail {R : Option (List (List UInt8))} : ∀ (ws acc : List (List UInt8)), (∀ w ∈ ws, w.length ≤ 200) → acc.length + ws.length ≤ 8 → Cut acc (ws.flatMap fun w => 32 :: wordL w) R → R = some (acc ++ ws)
  | [], acc, _, _, h => by rw [List.append_nil]; exact Cut.nil h
  | w :: ws, acc, h200, h8, h => by
    rw [List.flatMap_cons, List.cons_append] at h
    have h := h.space (by decide)
    have hr : endOk (ws.flatMap fun w => 32 :: wordL w) = true := by
      cases ws with
      | nil => rfl
      | cons x ws => rw [List.flatMap_cons, List.cons_append]; rfl
    obtain ⟨c, r, hcr, h1, h2, hw, hd⟩ := wordOf_end w _ hr
    rw [hcr] at h
    have hok : endOk ((c :: r).drop (wordL w).length) = true ∧ w.length ≤ 200 ∧ acc.length < 8 := ⟨by rw [hd]; exact hr, h200 w (by simp), by simp at h8; omega⟩
    have h' := h.word h1 h2 hw hok
    rw [hd] at h'
    have := Cut.tail ws (acc ++ [w]) (fun x hx => h200 x (by simp [hx])) (by simp at h8 ⊢; omega) h'
    rw [this, List.append_assoc]; rfl
theorem SheetOk.good {bs : List PBlock} (h : SheetOk bs) : GoodBs bs := by
  have hi := (impl_sheetOk h).1
  refine ⟨fun i b hb => (hi i b hb).1, fun b hb => ?_⟩
  exact (impl_linesOk (h.2.1 b hb).2.2).1
end Go.Proofs.YtpdahhnjhggocabGreatDoor
namespace Go.Proofs.YtpdahhnjhggocabGreatDoor
def hasK (ls : List PLine) (k : ByteArray) : Bool := ls.any (fun a => a.key.toList == k.toList)
def defL (p : Plain) : PLine := ⟨p.1, p.2.2.2⟩
def isUnsaid (ls : List PLine) (p : Plain) : Bool := !p.2.2.1 && !hasK ls p.1
def unsaid (R : List Plain) (ls : List PLine) : List PLine := (R.filter (isUnsaid ls)).map defL
def fillL (R : List Plain) (ls : List PLine) : List PLine := normLs R (ls ++ unsaid R ls)
def fillP (b : PBlock) : PBlock := ⟨b.kind, b.name, fillL (rulesOf b.kind) b.lines⟩
def ofK (ls : List PLine) (k : ByteArray) : List PLine := ls.filter (fun a => a.key.toList == k.toList)
def NodupK (R : List Plain) : Prop := R.Pairwise (fun p q => p.1 ≠ q.1)
theorem LinesOk.good {R : List Plain} {ls : List PLine} (h : LinesOk R ls) : GoodLs R ls := (impl_linesOk h).1
def isHead (kind name : ByteArray) (b : PBlock) : Bool := (b.kind.toList == kind.toList) && (b.name.toList == name.toList)
def NoHead (bs : List PBlock) (kind name : ByteArray) (k : Nat) : Prop := ∀ b ∈ bs.take k, isHead kind name b = false
theorem NoHead.zero (bs : List PBlock) (kind name : ByteArray) : NoHead bs kind name 0 := by simp [NoHead]
theorem NoHead.succ {D T : List PBlock} {b : PBlock} {kind name : ByteArray} (h : NoHead (D ++ b :: T) kind name D.length) (hb : isHead kind name b = false) : NoHead (D ++ b :: T) kind name (D.length + 1) := by
  unfold NoHead at *
  rw [List.take_append_of_le_length (Nat.le_refl _), List.take_length] at h
  rw [List.take_append, List.take_of_length_le (by omega), show D.length + 1 - D.length = 1 from by omega]
  intro s hs
  simp only [List.take_succ_cons, List.take_zero, List.mem_append, List.mem_singleton] at hs
  rcases hs with hs | rfl
  · exact h s hs
  · exact hb
theorem NoHead.none {bs : List PBlock} {kind name : ByteArray} (h : NoHead bs kind name bs.length) : bs.find? (isHead kind name) = none := by
  unfold NoHead at h
  rw [List.take_length] at h
  rw [List.find?_eq_none]
  intro b hb; rw [h b hb]; decide
theorem NoHead.hit {D T : List PBlock} {b : PBlock} {kind name : ByteArray} (h : NoHead (D ++ b :: T) kind name D.length) (hb : isHead kind name b = true) : (D ++ b :: T).find? (isHead kind name) = some b := by
  unfold NoHead at h
  rw [List.take_append_of_le_length (Nat.le_refl _), List.take_length] at h
  rw [List.find?_append, List.find?_eq_none.2 (fun x hx => by rw [h x hx]; decide), Option.none_or, List.find?_cons_of_pos hb]
end Go.Proofs.YtpdahhnjhggocabGreatDoor
namespace Go.Proofs.YtpdahhnjhggocabGreatDoor
structure PChange where
  what : Int
  kind : ByteArray
  name : ByteArray
  key : ByteArray
  lines : List PLine
open Classical in
noncomputable def diffK (kind name : ByteArray) (x y : List PLine) (key : ByteArray) : List PChange := if ofK x key = ofK y key then [] else [⟨if (ofK y key).isEmpty = true then 4 else 3, kind, name, key, ofK y key⟩]
noncomputable def diffB (x y : PBlock) : List PChange := (rulesOf x.kind).flatMap fun p => diffK x.kind x.name x.lines y.lines p.1
def goneOf (b : PBlock) : PChange := ⟨1, b.kind, b.name, ⟨#[]⟩, []⟩
def newOf (b : PBlock) : PChange := ⟨2, b.kind, b.name, ⟨#[]⟩, b.lines⟩
def goneS (A B : List PBlock) : List PChange := (A.filter fun a => (B.find? (isHead a.kind a.name)).isNone).map goneOf
noncomputable def diffY (A : List PBlock) (y : PBlock) : List PChange := match A.find? (isHead y.kind y.name) with
  | none => [newOf y]
  | some x => diffB x y
noncomputable def diffS (A B : List PBlock) : List PChange := if sheetB A = true ∧ sheetB B = true then goneS A B ++ B.flatMap (diffY A) else []
end Go.Proofs.YtpdahhnjhggocabGreatDoor
namespace Go.Proofs.YtpdahhnjhggocabGreatDoor
theorem flatm_len {α β : Type} (f : α → List β) (k : Nat) : ∀ l : List α, (∀ x ∈ l, (f x).length ≤ k) → (l.flatMap f).length ≤ k * l.length
  | [], _ => by simp
  | a :: l, h => by
    have h1 := h a (by simp)
    have h2 := flatm_len f k l (fun x hx => h x (by simp [hx]))
    rw [List.flatMap_cons, List.length_append, List.length_cons, Nat.mul_add]
    omega
theorem diffK_len (kind name : ByteArray) (x y : List PLine) (key : ByteArray) : (diffK kind name x y key).length ≤ 1 := by
  unfold diffK
  split <;> simp
theorem diffB_len (x y : PBlock) : (diffB x y).length ≤ (rulesOf x.kind).length := by
  have := flatm_len (fun p : Plain => diffK x.kind x.name x.lines y.lines p.1) 1 (rulesOf x.kind) (fun p _ => diffK_len _ _ _ _ _)
  unfold diffB
  omega
theorem diffY_len (A : List PBlock) (y : PBlock) : (diffY A y).length ≤ 12 := by
  unfold diffY
  split
  · simp
  · exact Nat.le_trans (diffB_len _ _) (rulesOf_like _).1
theorem goneS_len (A B : List PBlock) : (goneS A B).length ≤ A.length := by
  unfold goneS
  rw [List.length_map]
  exact List.length_filter_le _ _
theorem diffS_len (A B : List PBlock) : (diffS A B).length ≤ 780 := by
  unfold diffS
  split
  · rename_i h
    have h1 := (sheetB_iff.1 h.1).1
    have h2 := (sheetB_iff.1 h.2).1
    have h3 := goneS_len A B
    have h4 := flatm_len (diffY A) 12 B (fun y _ => diffY_len A y)
    rw [List.length_append]
    omega
  · simp
end Go.Proofs.YtpdahhnjhggocabGreatDoor
namespace Go.Proofs.YtpdahhnjhggocabGreatDoor
theorem nodup_eq {R : List Plain} (hn : NodupK R) {p q : Plain} (hp : p ∈ R) (hq : q ∈ R) (e : p.1 = q.1) : p = q := by
  induction R with
  | nil => cases hp
  | cons r R ih =>
    have h := List.pairwise_cons.1 hn
    rcases List.mem_cons.1 hp with e1 | h1
    · rcases List.mem_cons.1 hq with e2 | h2
      · rw [e1, e2]
      · exact absurd (e1 ▸ e) (h.1 q h2)
    · rcases List.mem_cons.1 hq with e2 | h2
      · exact absurd (e2 ▸ e.symm) (h.1 p h1)
      · exact ih h.2 h1 h2
theorem pick_of {R : List Plain} (hn : NodupK R) {p : Plain} (hp : p ∈ R) : pickR R p.1 = some p := by
  unfold pickR
  have : (R.find? (fun q => q.1.toList == p.1.toList)).isSome = true := by
    rw [List.find?_isSome]; exact ⟨p, hp, by simp⟩
  obtain ⟨q, hq⟩ := Option.isSome_iff_exists.1 this
  have h1 := List.mem_of_find?_eq_some hq
  have h2 := List.find?_some hq
  have h3 : q.1 = p.1 := toList_inj (by simpa using h2)
  rw [hq, nodup_eq hn h1 hp h3]
theorem picked {R : List Plain} {key : ByteArray} {p : Plain} (h : pickR R key = some p) : p ∈ R ∧ p.1 = key := by
  unfold pickR at h
  have h2 := List.find?_some h
  exact ⟨List.mem_of_find?_eq_some h, toList_inj (by simpa using h2)⟩
theorem LinesOk.rule {R : List Plain} {ls : List PLine} (h : LinesOk R ls) {a : PLine} (ha : a ∈ ls) : ∃ p ∈ R, p.1 = a.key := by
  have := h.1 a ha
  unfold fitsIn at this
  cases hp : pickR R a.key with
  | none => rw [hp] at this; cases this
  | some p => exact ⟨p, (picked hp).1, (picked hp).2⟩
theorem LinesOk.once {R : List Plain} (hn : NodupK R) {ls : List PLine} (h : LinesOk R ls) {p : Plain} (hp : p ∈ R) (hm : p.2.2.1 = false) {a b : PLine} (ha : a ∈ ls) (hb : b ∈ ls) (ka : a.key = p.1) (kb : b.key = p.1) : a = b := by
  have h1 : keyN ls p.1 ≤ 1 := by
    rcases (h.2.2 a ha).1 with h1 | h1
    · unfold manyR at h1; rw [ka, pick_of hn hp] at h1; simp [hm] at h1
    · rw [← ka]; exact h1
  unfold keyN at h1
  rw [List.countP_eq_length_filter] at h1
  have a1 : a ∈ ls.filter (fun a => a.key.toList == p.1.toList) := List.mem_filter.2 ⟨ha, by simp [ka]⟩
  have b1 : b ∈ ls.filter (fun a => a.key.toList == p.1.toList) := List.mem_filter.2 ⟨hb, by simp [kb]⟩
  generalize ls.filter (fun a => a.key.toList == p.1.toList) = F at *
  match F, h1 with
  | [], _ => cases a1
  | [x], _ => rw [List.mem_singleton.1 a1, List.mem_singleton.1 b1]
  | _ :: _ :: _, h1 => simp at h1
end Go.Proofs.YtpdahhnjhggocabGreatDoor
namespace Go.Proofs.YtpdahhnjhggocabGreatDoor
inductive NW where
  | ended (m : Nat)
  | bad (m : Nat)
  | words (m : Nat) (w : List UInt8) (ws : List (List UInt8)) (rest : List (List UInt8))
theorem linesFrom_no : ∀ (l acc : List UInt8), (10 : UInt8) ∉ l → linesFrom acc l = if acc ++ l = [] then [] else [acc ++ l]
  | [], acc, _ => by simp [linesFrom]
  | c :: l, acc, h => by
    have hc : c ≠ 10 := fun e => h (by rw [e]; simp)
    rw [linesFrom, if_neg hc, linesFrom_no l _ (fun e => h (List.mem_cons_of_mem _ e)), List.append_assoc]; rfl
theorem textLines_no {l : List UInt8} (h : (10 : UInt8) ∉ l) (h0 : l ≠ []) : textLines l = [l] := by
  unfold textLines; rw [linesFrom_no l [] h]; simp [h0]
def CutNl (s x y : List UInt8) : Prop := ((10 : UInt8) ∉ s ∧ x = s ∧ y = []) ∨ (s = x ++ 10 :: y ∧ (10 : UInt8) ∉ x)
theorem CutNl.lines {s x y : List UInt8} (h : CutNl s x y) (h0 : s ≠ []) : textLines s = x :: textLines y := by
  rcases h with ⟨h1, rfl, rfl⟩ | ⟨rfl, h2⟩
  · exact textLines_no h1 h0
  · exact textLines_line x y h2
theorem CutNl.len {s x y : List UInt8} (h : CutNl s x y) : x.length ≤ s.length ∧ y.length ≤ s.length := by
  rcases h with ⟨h1, rfl, rfl⟩ | ⟨rfl, h2⟩
  · simp
  · simp; omega
theorem CutNl.lt {s x y : List UInt8} (h : CutNl s x y) (h0 : s ≠ []) : y.length < s.length := by
  rcases h with ⟨h1, rfl, rfl⟩ | ⟨rfl, h2⟩
  · exact List.length_pos_iff.2 h0
  · simp; omega
end Go.Proofs.YtpdahhnjhggocabGreatDoor
namespace Go.Proofs.YtpdahhnjhggocabGreatDoor
end Go.Proofs.YtpdahhnjhggocabGreatDoor
namespace Go.Proofs.YtpdahhnjhggocabGreatDoor
def Heads (bs : List PBlock) : Prop := bs.Pairwise (fun a b => ¬ (a.kind = b.kind ∧ a.name = b.name))
theorem SheetOk.heads {bs : List PBlock} (h : SheetOk bs) : Heads bs := h.2.2.imp fun {a b} hab e => by
  rw [blockLt_iff, e.1, e.2] at hab
  rcases hab with q | ⟨_, q⟩ <;> exact Tot.irr _ q
def look (bs : List PBlock) (kind name : ByteArray) : Option PBlock := bs.find? (isHead kind name)
end Go.Proofs.YtpdahhnjhggocabGreatDoor
