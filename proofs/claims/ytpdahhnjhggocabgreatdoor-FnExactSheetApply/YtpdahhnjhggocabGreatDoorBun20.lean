import Derived.Test.YtpdahhnjhggocabGreatDoorBun19
import Derived.Test.YtpdahhnjhggocabGreatDoorBun11
import Derived.Test.YtpdahhnjhggocabGreatDoorBun4
import Derived.Test.YtpdahhnjhggocabGreatDoorBun1
namespace Go.Proofs.YtpdahhnjhggocabGreatDoor
structure PLine where
 key : ByteArray
 ws : List (List UInt8)
structure PBlock where
 kind : ByteArray
 name : ByteArray
 lines : List PLine
theorem toList_inj {a b : ByteArray} (h : a.toList = b.toList) : a = b := by
 rw [ByteArray.toList_eq, ByteArray.toList_eq] at h
 exact ByteArray.ext (Array.toList_inj.1 h)
def placeI (R : List Plain) (key : ByteArray) : Int := match R.findIdx? (fun p => p.1.toList == key.toList) with
 | some i => (i : Int)
 | none => -1
def manyR (R : List Plain) (key : ByteArray) : Bool := match pickR R key with
 | some p => p.2.2.1
 | none => false
theorem pick_place {R : List Plain} {key : ByteArray} {p : Plain} (h : pickR R key = some p) : ∃ i : Nat, placeI R key = (i : Int) ∧ R[i]? = some p ∧ p.1 = key := by
 unfold pickR at h
 obtain ⟨hp, i, hi, rfl, hj⟩ := List.find?_eq_some_iff_getElem.1 h
 refine ⟨i, ?_, List.getElem?_eq_getElem hi, toList_inj (by simpa using hp)⟩
 unfold placeI
 rw [List.findIdx?_eq_some_iff_getElem.2 ⟨hi, hp, fun j hj' => by simpa using hj j hj'⟩]
theorem place_same {R : List Plain} {a b : ByteArray} (ha : pickR R a ≠ none) (hb : pickR R b ≠ none) (h : placeI R a = placeI R b) : a = b := by
 obtain ⟨p, hp⟩ := Option.ne_none_iff_exists'.1 ha
 obtain ⟨q, hq⟩ := Option.ne_none_iff_exists'.1 hb
 obtain ⟨i, hi, gi, rfl⟩ := pick_place hp
 obtain ⟨j, hj, gj, rfl⟩ := pick_place hq
 have : i = j := by omega
 subst this
 rw [gi] at gj
 rw [Option.some.inj gj]
def lineLt (R : List Plain) (a b : PLine) : Bool := decide (placeI R a.key < placeI R b.key) || (decide (placeI R a.key = placeI R b.key) && decide (a.ws < b.ws))
theorem lineLt_iff {R : List Plain} {a b : PLine} : lineLt R a b = true ↔ placeI R a.key < placeI R b.key ∨ placeI R a.key = placeI R b.key ∧ a.ws < b.ws := by simp [lineLt]
theorem lineLt_irr (R : List Plain) (a : PLine) : ¬ lineLt R a a = true := by
 rw [lineLt_iff]
 rintro (h | ⟨_, h⟩)
 ·omega
 ·exact Tot.irr _ h
theorem lineLt_trans (R : List Plain) (a b c : PLine) (h : lineLt R a b = true) (k : lineLt R b c = true) : lineLt R a c = true := by
 rw [lineLt_iff] at *
 rcases h with h | ⟨h, h'⟩ <;> rcases k with k | ⟨k, k'⟩
 ·left; omega
 ·left; omega
 ·left; omega
 ·right; exact ⟨by omega, Tot.trans _ _ _ h' k'⟩
def keyN (ls : List PLine) (k : ByteArray) : Nat := ls.countP (fun a => a.key.toList == k.toList)
def lineFault (R : List Plain) (es : List PLine) (a : PLine) : Int :=
 if pickR R a.key = none then 5 else if fitsIn R a.key a.ws = false then 7
 else if es.any (fun o => o.key.toList == a.key.toList && (!manyR R a.key || decide (o.ws = a.ws))) = true then 6
 else if 10 ≤ keyN es a.key then 10 else 0
theorem lineFault_zero {R : List Plain} {es : List PLine} {a : PLine} : lineFault R es a = 0 ↔ fitsIn R a.key a.ws = true ∧ (∀ o ∈ es, o.key = a.key → manyR R a.key = true ∧ o.ws ≠ a.ws) ∧ keyN es a.key < 10 := by
 unfold lineFault
 constructor
 ·intro h
  split at h
  ·omega
  split at h
  ·omega
  split at h
  ·omega
  split at h
  ·omega
  rename_i h1 h2 h3 h4
  refine ⟨by simpa using h2, fun o ho hk => ?_, by omega⟩
  simp only [List.any_eq_true, not_exists, not_and, Bool.not_eq_true] at h3
  have := h3 o ho
  rw [hk] at this
  simpa using this
 ·rintro ⟨h1, h2, h3⟩
  have h0 : ¬ pickR R a.key = none := fun h => by rw [fitsIn_none _ h] at h1; cases h1
  rw [if_neg h0, if_neg (by simp [h1]), if_neg ?_, if_neg (by omega)]
  simp only [List.any_eq_true, not_exists, not_and, Bool.not_eq_true]
  intro o ho
  by_cases hk : o.key = a.key
  ·have := h2 o ho hk
   simp [this.1, this.2]
  ·have : (o.key.toList == a.key.toList) = false := by
    rw [beq_eq_false_iff_ne]; exact fun e => hk (toList_inj e)
   simp [this]
def LinesOk (R : List Plain) (ls : List PLine) : Prop := (∀ a ∈ ls, fitsIn R a.key a.ws = true) ∧ ls.Pairwise (fun a b => lineLt R a b = true) ∧ ∀ a ∈ ls, (manyR R a.key = true ∨ keyN ls a.key ≤ 1) ∧ keyN ls a.key ≤ 10
def SpecAt (R : List Plain) (ls : List PLine) (i : Nat) : Prop := ∃ a, ls[i]? = some a ∧ fitsIn R a.key a.ws = true ∧ (i = 0 ∨ ∃ b, ls[i - 1]? = some b ∧ lineLt R b a = true) ∧ (manyR R a.key = true ∨ keyN (ls.take (i + 1)) a.key ≤ 1) ∧ keyN (ls.take (i + 1)) a.key ≤ 10
theorem keyN_append (l m : List PLine) (k : ByteArray) : keyN (l ++ m) k = keyN l k + keyN m k := by simp [keyN]
theorem keyN_take (ls : List PLine) (i : Nat) (k : ByteArray) : keyN (ls.take i) k ≤ keyN ls k := by
 have := keyN_append (ls.take i) (ls.drop i) k
 rw [List.take_append_drop] at this
 omega
theorem keyN_one (a : PLine) (k : ByteArray) : keyN [a] k = if a.key = k then 1 else 0 := by
 unfold keyN
 by_cases h : a.key = k
 ·simp [h]
 ·have : (a.key.toList == k.toList) = false := by
   rw [beq_eq_false_iff_ne]; exact fun e => h (toList_inj e)
  simp [h, this]
theorem keyN_succ {ls : List PLine} {i : Nat} {a : PLine} (h : ls[i]? = some a) (k : ByteArray) : keyN (ls.take (i + 1)) k = keyN (ls.take i) k + if a.key = k then 1 else 0 := by
 rw [List.take_add_one, h, keyN_append]
 simp only [Option.toList, keyN_one]
theorem take_succ_mem {α : Type} {ls : List α} {i : Nat} {a b : α} (h : ls[i]? = some a) : b ∈ ls.take (i + 1) ↔ b ∈ ls.take i ∨ b = a := by
 rw [List.take_add_one, h]; simp
theorem linesOk_spec {R : List Plain} {ls : List PLine} (h : ∀ i, i < ls.length → SpecAt R ls i) : LinesOk R ls := by
 refine ⟨fun a ha => ?_, ?_, ?_⟩
 ·obtain ⟨i, hi, rfl⟩ := List.mem_iff_getElem.1 ha
  obtain ⟨b, hb, hf, _⟩ := h i hi
  rw [List.getElem?_eq_getElem hi] at hb
  rw [Option.some.inj hb]; exact hf
 ·refine pairwise_adj (lineLt_trans R) ls fun i a b ha hb => ?_
  obtain ⟨hi, _⟩ := List.getElem?_eq_some_iff.1 hb
  obtain ⟨b', hb', _, hadj, _⟩ := h (i + 1) hi
  rw [hb] at hb'; cases hb'
  rcases hadj with h0 | ⟨c, hc, hl⟩
  ·omega
  ·rw [Nat.add_sub_cancel, ha] at hc; cases hc; exact hl
 ·have key : ∀ j, j ≤ ls.length → ∀ a ∈ ls.take j, (manyR R a.key = true ∨ keyN (ls.take j) a.key ≤ 1) ∧ keyN (ls.take j) a.key ≤ 10 := by
   intro j
   induction j with
   | zero => intro _ a ha; simp at ha
   | succ j ih =>
    intro hj a ha
    obtain ⟨b, hb, hs⟩ := h j (by omega)
    by_cases hk : b.key = a.key
    ·rw [← hk]; exact hs.2.2
    ·have := keyN_succ hb a.key
     rw [if_neg hk, Nat.add_zero] at this
     rw [this]
     rcases (take_succ_mem hb).1 ha with h1 | rfl
     ·exact ih (by omega) a h1
     ·exact absurd rfl hk
  intro a ha
  have := key ls.length (Nat.le_refl _) a (by rw [List.take_length]; exact ha)
  rwa [List.take_length] at this
theorem spec_linesOk {R : List Plain} {ls : List PLine} (h : LinesOk R ls) (i : Nat) (hi : i < ls.length) : SpecAt R ls i := by
 refine ⟨ls[i], List.getElem?_eq_getElem hi, h.1 _ (List.getElem_mem _), ?_, ?_, ?_⟩
 ·by_cases h0 : i = 0
  ·exact .inl h0
  ·exact .inr ⟨ls[i - 1], List.getElem?_eq_getElem _, adj_pairwise h.2.1 (i - 1) i (by omega) _ _ (List.getElem?_eq_getElem _) (List.getElem?_eq_getElem hi)⟩
 ·have := keyN_take ls (i + 1) ls[i].key
  rcases (h.2.2 ls[i] (List.getElem_mem _)).1 with h1 | h1
  ·exact .inl h1
  ·exact .inr (by omega)
 ·have := keyN_take ls (i + 1) ls[i].key
  have := (h.2.2 ls[i] (List.getElem_mem _)).2
  omega
theorem linesOk_impl {R : List Plain} {ls : List PLine} (h : ∀ i a, ls[i]? = some a → lineFault R (ls.take i) a = 0) (hs : ∀ i a b, ls[i]? = some a → ls[i + 1]? = some b → lineLt R b a = false) : LinesOk R ls := by
 refine linesOk_spec fun i hi => ?_
 have hz := lineFault_zero.1 (h i ls[i] (List.getElem?_eq_getElem hi))
 refine ⟨ls[i], List.getElem?_eq_getElem hi, hz.1, ?_, ?_, ?_⟩
 ·by_cases h0 : i = 0
  ·exact .inl h0
  right
  have hz' := lineFault_zero.1 (h (i - 1) ls[i - 1] (List.getElem?_eq_getElem (by omega)))
  refine ⟨ls[i - 1], List.getElem?_eq_getElem _, ?_⟩
  have hn := hs (i - 1) ls[i - 1] ls[i] (List.getElem?_eq_getElem _) (by rw [show i - 1 + 1 = i by omega]; exact List.getElem?_eq_getElem hi)
  have hm : ls[i - 1] ∈ ls.take i := by
   rw [List.mem_iff_getElem]; exact ⟨i - 1, by simp; omega, by simp⟩
  have h2 := hz.2.1 _ hm
  generalize ls[i - 1] = b at *
  generalize ls[i] = a at *
  rw [← Bool.not_eq_true, lineLt_iff] at hn
  rw [lineLt_iff]
  have hka : pickR R a.key ≠ none := fun e => by have := hz.1; rw [fitsIn_none _ e] at this; cases this
  have hkb : pickR R b.key ≠ none := fun e => by have := hz'.1; rw [fitsIn_none _ e] at this; cases this
  by_cases hp : placeI R b.key = placeI R a.key
  ·have hk := place_same hkb hka hp
   have hw := (h2 hk).2
   refine .inr ⟨hp, ?_⟩
   by_cases hlt : b.ws < a.ws
   ·exact hlt
   ·exact absurd (Tot.tri _ _ hlt (fun q => hn (.inr ⟨hp.symm, q⟩))) hw
  ·left
   have : ¬ placeI R a.key < placeI R b.key := fun q => hn (.inl q)
   omega
 ·rw [keyN_succ (List.getElem?_eq_getElem hi), if_pos rfl]
  by_cases hm : manyR R ls[i].key = true
  ·exact .inl hm
  ·right
   have : keyN (ls.take i) ls[i].key = 0 := by
    unfold keyN
    rw [List.countP_eq_zero]
    intro o ho hk
    exact hm (hz.2.1 o ho (toList_inj (by simpa using hk))).1
   omega
 ·rw [keyN_succ (List.getElem?_eq_getElem hi), if_pos rfl]
  have := hz.2.2
  omega
theorem impl_linesOk {R : List Plain} {ls : List PLine} (h : LinesOk R ls) : (∀ i a, ls[i]? = some a → lineFault R (ls.take i) a = 0) ∧ ∀ i a b, ls[i]? = some a → ls[i + 1]? = some b → lineLt R b a = false := by
 constructor
 ·intro i a ha
  obtain ⟨hi, rfl⟩ := List.getElem?_eq_some_iff.1 ha
  have hc := h.2.2 ls[i] (List.getElem_mem _)
  have h1 := keyN_take ls (i + 1) ls[i].key
  rw [keyN_succ (List.getElem?_eq_getElem hi), if_pos rfl] at h1
  refine lineFault_zero.2 ⟨h.1 _ (List.getElem_mem _), fun o ho hk => ⟨?_, ?_⟩, by omega⟩
  ·rcases hc.1 with h2 | h2
   ·exact h2
   ·have : keyN (ls.take i) ls[i].key = 0 := by omega
    unfold keyN at this
    rw [List.countP_eq_zero] at this
    exact absurd (by simp [hk]) (this o ho)
  ·intro e
   obtain ⟨j, hj, rfl⟩ := List.mem_iff_getElem.1 ho
   simp only [List.length_take, List.getElem_take] at hj e hk
   have := adj_pairwise h.2.1 j i (by omega) _ _ (List.getElem?_eq_getElem (by omega)) (List.getElem?_eq_getElem hi)
   rw [lineLt_iff, hk, e] at this
   rcases this with q | ⟨_, q⟩
   ·omega
   ·exact Tot.irr _ q
 ·intro i a b ha hb
  have := adj_pairwise h.2.1 i (i + 1) (by omega) a b ha hb
  rw [← Bool.not_eq_true]
  exact fun k => lineLt_irr R _ (lineLt_trans R _ _ _ this k)
def blockLt (a b : PBlock) : Bool := decide (a.kind.toList < b.kind.toList) || (decide (a.kind.toList = b.kind.toList) && decide (a.name.toList < b.name.toList))
theorem blockLt_iff {a b : PBlock} : blockLt a b = true ↔ a.kind.toList < b.kind.toList ∨ a.kind.toList = b.kind.toList ∧ a.name.toList < b.name.toList := by simp [blockLt]
theorem blockLt_irr (a : PBlock) : ¬ blockLt a a = true := by
 rw [blockLt_iff]
 rintro (h | ⟨_, h⟩)
 ·exact Tot.irr _ h
 ·exact Tot.irr _ h
theorem blockLt_trans (a b c : PBlock) (h : blockLt a b = true) (k : blockLt b c = true) : blockLt a c = true := by
 rw [blockLt_iff] at *
 rcases h with h | ⟨h, h'⟩ <;> rcases k with k | ⟨k, k'⟩
 ·exact .inl (Tot.trans _ _ _ h k)
 ·exact .inl (k ▸ h)
 ·exact .inl (h ▸ k)
 ·exact .inr ⟨h.trans k, Tot.trans _ _ _ h' k'⟩
def headFault (es : List PBlock) (kind name : ByteArray) : Int :=
 if (rulesOf kind).length = 0 then 3 else if nameB name.data.toList = false then 4
 else if es.any (fun o => o.kind.toList == kind.toList && o.name.toList == name.toList) = true then 9
 else if 60 ≤ es.length then 10 else 0
theorem headFault_zero {es : List PBlock} {kind name : ByteArray} : headFault es kind name = 0 ↔ (rulesOf kind).length ≠ 0 ∧ nameB name.data.toList = true ∧ (∀ o ∈ es, ¬ (o.kind = kind ∧ o.name = name)) ∧ es.length < 60 := by
 unfold headFault
 constructor
 ·intro h
  split at h
  ·omega
  split at h
  ·omega
  split at h
  ·omega
  split at h
  ·omega
  rename_i h1 h2 h3 h4
  refine ⟨h1, by simpa using h2, fun o ho hk => ?_, by omega⟩
  apply h3
  rw [List.any_eq_true]
  exact ⟨o, ho, by simp [hk.1, hk.2]⟩
 ·rintro ⟨h1, h2, h3, h4⟩
  rw [if_neg h1, if_neg (by simp [h2]), if_neg ?_, if_neg (by omega)]
  rw [List.any_eq_true]
  rintro ⟨o, ho, hk⟩
  simp only [Bool.and_eq_true, beq_iff_eq] at hk
  exact h3 o ho ⟨toList_inj hk.1, toList_inj hk.2⟩
def SheetOk (bs : List PBlock) : Prop := bs.length ≤ 60 ∧ (∀ b ∈ bs, (rulesOf b.kind).length ≠ 0 ∧ nameB b.name.data.toList = true ∧ LinesOk (rulesOf b.kind) b.lines) ∧ bs.Pairwise (fun a b => blockLt a b = true)
def SpecBlock (bs : List PBlock) (i : Nat) : Prop := ∃ b, bs[i]? = some b ∧ (rulesOf b.kind).length ≠ 0 ∧ nameB b.name.data.toList = true ∧ LinesOk (rulesOf b.kind) b.lines ∧ (i = 0 ∨ ∃ a, bs[i - 1]? = some a ∧ blockLt a b = true)
theorem sheetOk_spec {bs : List PBlock} (hl : bs.length ≤ 60) (h : ∀ i, i < bs.length → SpecBlock bs i) : SheetOk bs := by
 refine ⟨hl, fun b hb => ?_, ?_⟩
 ·obtain ⟨i, hi, rfl⟩ := List.mem_iff_getElem.1 hb
  obtain ⟨c, hc, h1, h2, h3, _⟩ := h i hi
  rw [List.getElem?_eq_getElem hi] at hc
  rw [Option.some.inj hc]; exact ⟨h1, h2, h3⟩
 ·refine pairwise_adj blockLt_trans bs fun i a b ha hb => ?_
  obtain ⟨hi, _⟩ := List.getElem?_eq_some_iff.1 hb
  obtain ⟨b', hb', _, _, _, hadj⟩ := h (i + 1) hi
  rw [hb] at hb'; cases hb'
  rcases hadj with h0 | ⟨c, hc, hl⟩
  ·omega
  ·rw [Nat.add_sub_cancel, ha] at hc; cases hc; exact hl
theorem spec_sheetOk {bs : List PBlock} (h : SheetOk bs) (i : Nat) (hi : i < bs.length) : SpecBlock bs i := by
 have hb := h.2.1 bs[i] (List.getElem_mem _)
 refine ⟨bs[i], List.getElem?_eq_getElem hi, hb.1, hb.2.1, hb.2.2, ?_⟩
 by_cases h0 : i = 0
 ·exact .inl h0
 ·exact .inr ⟨bs[i - 1], List.getElem?_eq_getElem _, adj_pairwise h.2.2 (i - 1) i (by omega) _ _ (List.getElem?_eq_getElem _) (List.getElem?_eq_getElem hi)⟩
theorem sheetOk_impl {bs : List PBlock} (h : ∀ i b, bs[i]? = some b → headFault (bs.take i) b.kind b.name = 0 ∧ LinesOk (rulesOf b.kind) b.lines) (hs : ∀ i a b, bs[i]? = some a → bs[i + 1]? = some b → blockLt b a = false) : SheetOk bs := by
 have hl : bs.length ≤ 60 := by
  by_cases h0 : bs.length = 0
  ·omega
  ·have := (headFault_zero.1 (h (bs.length - 1) bs[bs.length - 1] (List.getElem?_eq_getElem (by omega))).1).2.2.2
   simp at this
   omega
 refine sheetOk_spec hl fun i hi => ?_
 have hb := h i bs[i] (List.getElem?_eq_getElem hi)
 have hz := headFault_zero.1 hb.1
 refine ⟨bs[i], List.getElem?_eq_getElem hi, hz.1, hz.2.1, hb.2, ?_⟩
 by_cases h0 : i = 0
 ·exact .inl h0
 right
 refine ⟨bs[i - 1], List.getElem?_eq_getElem _, ?_⟩
 have hn := hs (i - 1) bs[i - 1] bs[i] (List.getElem?_eq_getElem _) (by rw [show i - 1 + 1 = i by omega]; exact List.getElem?_eq_getElem hi)
 have hm : bs[i - 1] ∈ bs.take i := by
  rw [List.mem_iff_getElem]; exact ⟨i - 1, by simp; omega, by simp⟩
 have h2 := hz.2.2.1 _ hm
 generalize bs[i - 1] = a at *
 generalize bs[i] = b at *
 rw [← Bool.not_eq_true, blockLt_iff] at hn
 rw [blockLt_iff]
 by_cases h3 : a.kind.toList < b.kind.toList
 ·exact .inl h3
 ·have e1 := Tot.tri _ _ h3 (fun q => hn (.inl q))
  refine .inr ⟨e1, ?_⟩
  by_cases h4 : a.name.toList < b.name.toList
  ·exact h4
  ·have e2 := Tot.tri _ _ h4 (fun q => hn (.inr ⟨e1.symm, q⟩))
   exact absurd ⟨toList_inj e1, toList_inj e2⟩ h2
theorem impl_sheetOk {bs : List PBlock} (h : SheetOk bs) : (∀ i b, bs[i]? = some b → headFault (bs.take i) b.kind b.name = 0 ∧ LinesOk (rulesOf b.kind) b.lines) ∧ ∀ i a b, bs[i]? = some a → bs[i + 1]? = some b → blockLt b a = false := by
 constructor
 ·intro i b hb
  obtain ⟨hi, rfl⟩ := List.getElem?_eq_some_iff.1 hb
  have hk := h.2.1 bs[i] (List.getElem_mem _)
  refine ⟨headFault_zero.2 ⟨hk.1, hk.2.1, fun o ho e => ?_, by have := h.1; simp; omega⟩, hk.2.2⟩
  obtain ⟨j, hj, rfl⟩ := List.mem_iff_getElem.1 ho
  simp only [List.length_take, List.getElem_take] at hj e
  have := adj_pairwise h.2.2 j i (by omega) _ _ (List.getElem?_eq_getElem (by omega)) (List.getElem?_eq_getElem hi)
  rw [blockLt_iff, e.1, e.2] at this
  rcases this with q | ⟨_, q⟩ <;> exact Tot.irr _ q
 ·intro i a b ha hb
  have := adj_pairwise h.2.2 i (i + 1) (by omega) a b ha hb
  rw [← Bool.not_eq_true]
  exact fun k => blockLt_irr _ (blockLt_trans _ _ _ this k)
open Classical in
noncomputable def linesB (R : List Plain) (ls : List PLine) : Bool := decide (LinesOk R ls)
open Classical in
noncomputable def sheetB (bs : List PBlock) : Bool := decide (SheetOk bs)
theorem linesB_iff {R : List Plain} {ls : List PLine} : linesB R ls = true ↔ LinesOk R ls := by simp [linesB]
theorem sheetB_iff {bs : List PBlock} : sheetB bs = true ↔ SheetOk bs := by simp [sheetB]
end Go.Proofs.YtpdahhnjhggocabGreatDoor
namespace Go.Proofs.YtpdahhnjhggocabGreatDoor
def GoodLs (R : List Plain) (ls : List PLine) : Prop := ∀ i a, ls[i]? = some a → lineFault R (ls.take i) a = 0
theorem GoodLs.nil (R : List Plain) : GoodLs R [] := by intro i a h; simp at h
theorem GoodLs.snoc {R : List Plain} {ls : List PLine} {a : PLine} (h : GoodLs R ls) (ha : lineFault R ls a = 0) : GoodLs R (ls ++ [a]) := by
 intro i b hb
 by_cases hi : i < ls.length
 ·rw [List.getElem?_append_left hi] at hb
  rw [List.take_append_of_le_length (by omega)]
  exact h i b hb
 ·rw [List.getElem?_append_right (by omega)] at hb
  have h0 : i - ls.length = 0 := by
   by_cases h0 : i - ls.length = 0
   ·exact h0
   ·rw [List.getElem?_eq_none (by simp; omega)] at hb; cases hb
  rw [h0] at hb
  cases hb
  rw [show i = ls.length by omega, List.take_append_of_le_length (Nat.le_refl _), List.take_length]
  exact ha
theorem GoodLs.front {R : List Plain} {ls : List PLine} {a : PLine} (h : GoodLs R (ls ++ [a])) : GoodLs R ls ∧ lineFault R ls a = 0 := by
 constructor
 ·intro i b hb
  have hi := (List.getElem?_eq_some_iff.1 hb).1
  have := h i b (by rw [List.getElem?_append_left hi]; exact hb)
  rwa [List.take_append_of_le_length (by omega)] at this
 ·have := h ls.length a (by rw [List.getElem?_append_right (Nat.le_refl _)]; simp)
  rwa [List.take_append_of_le_length (Nat.le_refl _), List.take_length] at this
theorem keyN_perm {l m : List PLine} (h : l.Perm m) (k : ByteArray) : keyN l k = keyN m k := h.countP_eq _
def normLs (R : List Plain) (ls : List PLine) : List PLine := ls.foldl (fun acc a => putIn (lineLt R) a acc) []
theorem normLs_snoc (R : List Plain) (ls : List PLine) (a : PLine) : normLs R (ls ++ [a]) = putIn (lineLt R) a (normLs R ls) := by simp [normLs]
theorem fold_perm {α : Type} (lt : α → α → Bool) : ∀ (ls acc : List α), (ls.foldl (fun acc a => putIn lt a acc) acc).Perm (acc ++ ls)
 | [], acc => by simp
 | a :: ls, acc => by
  rw [List.foldl_cons]
  refine (fold_perm lt ls _).trans ?_
  refine ((putIn_perm lt a acc).append_right ls).trans ?_
  exact (List.perm_middle (a := a) (l₁ := acc) (l₂ := ls)).symm
theorem normLs_perm (R : List Plain) (ls : List PLine) : (normLs R ls).Perm ls := by
 have := fold_perm (lineLt R) ls []
 simpa [normLs] using this
theorem pairwise_putIn {α : Type} {lt : α → α → Bool} (ht : ∀ a b c, lt a b = true → lt b c = true → lt a c = true) (x : α) : ∀ (l : List α), l.Pairwise (fun a b => lt a b = true) → (∀ y ∈ l, lt y x = false → lt x y = true) → (putIn lt x l).Pairwise (fun a b => lt a b = true)
 | [], _, _ => List.pairwise_singleton _ _
 | y :: l, h, hx => by
  have h1 := List.pairwise_cons.1 h
  unfold putIn
  split
  ·rename_i hy
   refine List.pairwise_cons.2 ⟨fun z hz => ?_, pairwise_putIn ht x l h1.2 fun z hz => hx z (List.mem_cons_of_mem _ hz)⟩
   rcases List.mem_cons.1 ((putIn_perm lt x l).mem_iff.1 hz) with rfl | hz
   ·exact hy
   ·exact h1.1 z hz
  ·rename_i hy
   have hxy := hx y (List.mem_cons_self ..) (by simpa using hy)
   refine List.pairwise_cons.2 ⟨fun z hz => ?_, h⟩
   rcases List.mem_cons.1 hz with rfl | hz
   ·exact hxy
   ·exact ht _ _ _ hxy (h1.1 z hz)
theorem lineLt_tri {R : List Plain} {es : List PLine} {a b : PLine} (hb : b ∈ es) (hfb : fitsIn R b.key b.ws = true) (h : lineFault R es a = 0) (hn : lineLt R b a = false) : lineLt R a b = true := by
 have hz := lineFault_zero.1 h
 rw [← Bool.not_eq_true, lineLt_iff] at hn
 rw [lineLt_iff]
 have hka : pickR R a.key ≠ none := fun e => by have := hz.1; rw [fitsIn_none _ e] at this; cases this
 have hkb : pickR R b.key ≠ none := fun e => by rw [fitsIn_none _ e] at hfb; cases hfb
 by_cases hp : placeI R a.key = placeI R b.key
 ·have hk := place_same hka hkb hp
  have hw := (hz.2.1 b hb hk.symm).2
  refine .inr ⟨hp, ?_⟩
  by_cases hlt : a.ws < b.ws
  ·exact hlt
  ·exact absurd (Tot.tri _ _ (fun q => hn (.inr ⟨hp.symm, q⟩)) hlt) hw
 ·left
  have : ¬ placeI R b.key < placeI R a.key := fun q => hn (.inl q)
  omega
theorem GoodLs.fits {R : List Plain} {ls : List PLine} (h : GoodLs R ls) : ∀ a ∈ ls, fitsIn R a.key a.ws = true := by
 intro a ha
 obtain ⟨i, hi, rfl⟩ := List.mem_iff_getElem.1 ha
 exact (lineFault_zero.1 (h i _ (List.getElem?_eq_getElem hi))).1
theorem snoc_induct {α : Type} {P : List α → Prop} (h0 : P []) (h1 : ∀ l a, P l → P (l ++ [a])) (l : List α) : P l := by
 rw [← List.reverse_reverse l]
 induction l.reverse with
 | nil => exact h0
 | cons a m ih => rw [List.reverse_cons]; exact h1 _ _ ih
theorem normLs_sorted {R : List Plain} (ls : List PLine) : GoodLs R ls → (normLs R ls).Pairwise (fun a b => lineLt R a b = true) := by
 refine snoc_induct (P := fun ls => GoodLs R ls → (normLs R ls).Pairwise (fun a b => lineLt R a b = true)) (fun _ => .nil) (fun l a ih h => ?_) ls
 have hf := h.front
 rw [normLs_snoc]
 refine pairwise_putIn (lineLt_trans R) a _ (ih hf.1) fun y hy hn => ?_
 have hm := (normLs_perm R l).mem_iff.1 hy
 exact lineLt_tri hm (hf.1.fits y hm) hf.2 hn
theorem GoodLs.counts {R : List Plain} (ls : List PLine) : GoodLs R ls → ∀ a ∈ ls, (manyR R a.key = true ∨ keyN ls a.key ≤ 1) ∧ keyN ls a.key ≤ 10 := by
 refine snoc_induct (P := fun ls => GoodLs R ls → ∀ a ∈ ls, (manyR R a.key = true ∨ keyN ls a.key ≤ 1) ∧ keyN ls a.key ≤ 10) (fun _ a ha => by simp at ha) (fun l b ih h a ha => ?_) ls
 have hf := h.front
 rw [keyN_append, keyN_one]
 by_cases hk : b.key = a.key
 ·rw [if_pos hk, ← hk]
  have hz := lineFault_zero.1 hf.2
  refine ⟨?_, by omega⟩
  by_cases hm : manyR R b.key = true
  ·exact .inl hm
  ·right
   have : keyN l b.key = 0 := by
    unfold keyN
    rw [List.countP_eq_zero]
    intro o ho hk'
    exact hm (hz.2.1 o ho (toList_inj (by simpa using hk'))).1
   omega
 ·rw [if_neg hk, Nat.add_zero]
  rcases List.mem_append.1 ha with h1 | h1
  ·exact ih hf.1 a h1
  ·exact absurd (List.mem_singleton.1 h1).symm (fun e => hk (by rw [e]))
theorem normLs_ok {R : List Plain} {ls : List PLine} (h : GoodLs R ls) : LinesOk R (normLs R ls) := by
 have hp := normLs_perm R ls
 refine ⟨fun a ha => h.fits a (hp.mem_iff.1 ha), normLs_sorted ls h, fun a ha => ?_⟩
 rw [keyN_perm hp]
 exact h.counts ls a (hp.mem_iff.1 ha)
theorem normLs_unique {R : List Plain} {ls ms : List PLine} (h : GoodLs R ls) (hp : ms.Perm ls) (hs : ∀ i j : Nat, i < j → ∀ a b, ms[i]? = some a → ms[j]? = some b → lineLt R b a = false) : ms = normLs R ls := by
 have hstrict : ms.Pairwise (fun a b => lineLt R a b = true) := by
  have hN := normLs_ok h
  have hmem : ∀ a ∈ ms, a ∈ normLs R ls := fun a ha => (normLs_perm R ls).mem_iff.2 (hp.mem_iff.1 ha)
  have hnd : ms.Nodup := by
   have hq : (normLs R ls).Nodup := hN.2.1.imp (fun {a b} hab e => by subst e; exact lineLt_irr R _ hab)
   exact (hp.trans (normLs_perm R ls).symm).nodup_iff.2 hq
  rw [List.pairwise_iff_getElem]
  intro i j hi hj hij
  have hn := hs i j hij _ _ (List.getElem?_eq_getElem hi) (List.getElem?_eq_getElem hj)
  obtain ⟨x, hx, ex⟩ := List.mem_iff_getElem.1 (hmem _ (List.getElem_mem hi))
  obtain ⟨y, hy, ey⟩ := List.mem_iff_getElem.1 (hmem _ (List.getElem_mem hj))
  have hne : x ≠ y := by
   intro e; subst e
   have : ms[i] = ms[j] := ex.symm.trans ey
   exact (List.pairwise_iff_getElem.1 hnd) i j hi hj hij this
  rw [← ex, ← ey] at hn ⊢
  rcases Nat.lt_or_gt_of_ne hne with h1 | h1
  ·exact (List.pairwise_iff_getElem.1 hN.2.1) x y hx hy h1
  ·rw [(List.pairwise_iff_getElem.1 hN.2.1) y x hy hx h1] at hn; cases hn
 exact sorted_unique (lineLt_irr R) (lineLt_trans R) hstrict (normLs_sorted ls h) (hp.trans (normLs_perm R ls).symm)
def GoodBs (bs : List PBlock) : Prop := (∀ i b, bs[i]? = some b → headFault (bs.take i) b.kind b.name = 0) ∧ ∀ b ∈ bs, GoodLs (rulesOf b.kind) b.lines
theorem GoodBs.nil : GoodBs [] := ⟨by intro i a h; simp at h, by simp⟩
theorem GoodBs.snoc {bs : List PBlock} {b : PBlock} (h : GoodBs bs) (hb : headFault bs b.kind b.name = 0) (hl : GoodLs (rulesOf b.kind) b.lines) : GoodBs (bs ++ [b]) := by
 refine ⟨?_, fun c hc => ?_⟩
 ·intro i c hc
  by_cases hi : i < bs.length
  ·rw [List.getElem?_append_left hi] at hc
   rw [List.take_append_of_le_length (by omega)]
   exact h.1 i c hc
  ·rw [List.getElem?_append_right (by omega)] at hc
   have h0 : i - bs.length = 0 := by
    by_cases h0 : i - bs.length = 0
    ·exact h0
    ·rw [List.getElem?_eq_none (by simp; omega)] at hc; cases hc
   rw [h0] at hc
   cases hc
   rw [show i = bs.length by omega, List.take_append_of_le_length (Nat.le_refl _), List.take_length]
   exact hb
 ·rcases List.mem_append.1 hc with h1 | h1
  ·exact h.2 c h1
  ·rw [List.mem_singleton.1 h1]; exact hl
theorem GoodBs.front {bs : List PBlock} {b : PBlock} (h : GoodBs (bs ++ [b])) : GoodBs bs ∧ headFault bs b.kind b.name = 0 ∧ GoodLs (rulesOf b.kind) b.lines := by
 refine ⟨⟨?_, fun c hc => h.2 c (List.mem_append_left _ hc)⟩, ?_, h.2 b (by simp)⟩
 ·intro i c hc
  have hi := (List.getElem?_eq_some_iff.1 hc).1
  have := h.1 i c (by rw [List.getElem?_append_left hi]; exact hc)
  rwa [List.take_append_of_le_length (by omega)] at this
 ·have := h.1 bs.length b (by rw [List.getElem?_append_right (Nat.le_refl _)]; simp)
  rwa [List.take_append_of_le_length (Nat.le_refl _), List.take_length] at this
def normB (b : PBlock) : PBlock := ⟨b.kind, b.name, normLs (rulesOf b.kind) b.lines⟩
def normBs (bs : List PBlock) : List PBlock := (bs.map normB).foldl (fun acc a => putIn blockLt a acc) []
theorem blockLt_tri {es : List PBlock} {a b : PBlock} (hb : b ∈ es) (h : headFault es a.kind a.name = 0) (hn : blockLt b a = false) : blockLt a b = true := by
 have hz := (headFault_zero.1 h).2.2.1 b hb
 rw [← Bool.not_eq_true, blockLt_iff] at hn
 rw [blockLt_iff]
 by_cases h3 : a.kind.toList < b.kind.toList
 ·exact .inl h3
 ·have e1 := Tot.tri _ _ (fun q => hn (.inl q)) h3
  refine .inr ⟨e1.symm, ?_⟩
  by_cases h4 : a.name.toList < b.name.toList
  ·exact h4
  ·have e2 := Tot.tri _ _ (fun q => hn (.inr ⟨e1, q⟩)) h4
   exact absurd ⟨toList_inj e1, toList_inj e2⟩ hz
def linesFrom : List UInt8 → List UInt8 → List (List UInt8)
 | acc, [] => if acc = [] then [] else [acc]
 | acc, c :: l => if c = 10 then acc :: linesFrom [] l else linesFrom (acc ++ [c]) l
def textLines (l : List UInt8) : List (List UInt8) := linesFrom [] l
inductive PRes where
 | bad (line : Nat) (code : Int)
 | good (bs : List PBlock)
def keyOf (w : List UInt8) : ByteArray := ⟨w.toArray⟩
def stepW (done : List PBlock) : Option PBlock → List UInt8 → List (List UInt8) → Int × List PBlock × Option PBlock
 | none, w, ws => match ws with
  | [n] => (headFault done (keyOf w) (keyOf n), done, some ⟨keyOf w, keyOf n, []⟩)
  | _ => (2, done, none)
 | some b, w, ws => if w = [101, 110, 100] ∧ ws = [] then (0, done ++ [b], none) else (lineFault (rulesOf b.kind) b.lines ⟨keyOf w, ws⟩, done, some ⟨b.kind, b.name, b.lines ++ [⟨keyOf w, ws⟩]⟩)
def GoodSt (done : List PBlock) : Option PBlock → Prop
 | none => GoodBs done
 | some b => GoodBs done ∧ headFault done b.kind b.name = 0 ∧ GoodLs (rulesOf b.kind) b.lines
theorem stepW_in {done : List PBlock} {b : PBlock} {w : List UInt8} {ws : List (List UInt8)} (h : ¬ (w = [101, 110, 100] ∧ ws = [])) : stepW done (some b) w ws = (lineFault (rulesOf b.kind) b.lines ⟨keyOf w, ws⟩, done, some ⟨b.kind, b.name, b.lines ++ [⟨keyOf w, ws⟩]⟩) := by
 show (if _ then _ else _) = _
 rw [if_neg h]
theorem stepW_out {done : List PBlock} {w : List UInt8} {ws : List (List UInt8)} (h : ws.length ≠ 1) : stepW done none w ws = (2, done, none) := by
 match ws, h with
 | [], _ => rfl
 | _ :: _ :: _, _ => rfl
theorem GoodSt.step {done : List PBlock} {op : Option PBlock} {w : List UInt8} {ws : List (List UInt8)} (h : GoodSt done op) (h0 : (stepW done op w ws).1 = 0) : GoodSt (stepW done op w ws).2.1 (stepW done op w ws).2.2 := by
 cases op with
 | none =>
  by_cases hl : ws.length = 1
  ·match ws, hl with
   | [n], _ => exact ⟨h, h0, GoodLs.nil _⟩
  ·rw [stepW_out hl] at h0; cases h0
 | some b =>
  obtain ⟨h1, h2, h3⟩ := h
  by_cases he : w = [101, 110, 100] ∧ ws = []
  ·obtain ⟨rfl, rfl⟩ := he
   exact h1.snoc h2 h3
  ·rw [stepW_in he] at h0 ⊢
   exact ⟨h1, h2, h3.snoc h0⟩
end Go.Proofs.YtpdahhnjhggocabGreatDoor
namespace Go.Proofs.YtpdahhnjhggocabGreatDoor
def lineL (a : PLine) : List UInt8 := a.key.data.toList ++ a.ws.flatMap (fun w => 32 :: wordL w)
def tooLongL (t : List UInt8) : Prop := 20000 < t.length ∨ 400 < (textLines t).length
instance (t : List UInt8) : Decidable (tooLongL t) := by unfold tooLongL; infer_instance
theorem linesFrom_line (l rest : List UInt8) (h : (10 : UInt8) ∉ l) : ∀ acc, linesFrom acc (l ++ 10 :: rest) = (acc ++ l) :: linesFrom [] rest := by
 induction l with
 | nil => intro acc; simp [linesFrom]
 | cons c l ih =>
  intro acc
  have hc : ¬ c = 10 := fun e => h (by simp [e])
  rw [List.cons_append, linesFrom, if_neg hc, ih (fun e => h (by simp [e]))]
  simp
theorem textLines_line (l rest : List UInt8) (h : (10 : UInt8) ∉ l) : textLines (l ++ 10 :: rest) = l :: textLines rest := by
 unfold textLines; rw [linesFrom_line l rest h]; rfl
theorem wordOf_end (w : List UInt8) (rest : List UInt8) (hr : endOk rest = true) : ∃ c r, wordL w ++ rest = c :: r ∧ c.toNat ≠ 32 ∧ c.toNat ≠ 35 ∧ wordOf (c :: r) = some (w, (wordL w).length) ∧ (c :: r).drop (wordL w).length = rest := by
 have hstop : ∀ l : List UInt8, l.all bareB = true → (l ++ rest).takeWhile bareB = l := by
  intro l hl
  rw [List.takeWhile_append_of_pos (List.all_eq_true.1 hl)]
  cases rest with
  | nil => simp
  | cons c r =>
   have hc : bareB c = false := by
    simp only [endOk, decide_eq_true_eq] at hr
    exact bareB_no (by omega)
   rw [List.takeWhile_cons, hc]; simp
 by_cases hb : bareL w = true
 ·have hw : wordL w = w := by simp [wordL, hb]
  unfold bareL at hb
  rw [Bool.and_eq_true] at hb
  rw [hw]
  match w, hb with
  | c :: r, hb =>
   have hc : bareB c = true := List.all_eq_true.1 hb.2 c (by simp)
   have h := bareB_true hc
   refine ⟨c, r ++ rest, rfl, by omega, by omega, ?_, ?_⟩
   ·have ht := hstop (c :: r) hb.2
    rw [List.cons_append] at ht
    rw [wordOf, if_neg (by omega), if_neg (by rw [hc]; decide), ht]
   ·rw [← List.cons_append, List.drop_left]
  | [], hb => simp at hb
 ·have hw : wordL w = quoteL w := by simp [wordL, hb]
  have hl : (quoteL w).length = (w.flatMap qb).length + 2 := by
   simp only [quoteL, List.length_append, List.length_cons, List.length_nil]
  refine ⟨34, w.flatMap qb ++ 34 :: rest, ?_, by decide, by decide, ?_, ?_⟩
  ·rw [hw]; simp [quoteL]
  ·rw [wordOf, if_pos (by decide), unq_written, hw, hl]; simp
  ·rw [hw, hl, show (w.flatMap qb).length + 2 = ((w.flatMap qb).length + 1) + 1 from rfl, List.drop_succ_cons, List.drop_append]
   simp
theorem Cut.tail {R : Option (List (List UInt8))} : ∀ (ws acc : List (List UInt8)), (∀ w ∈ ws, w.length ≤ 200) → acc.length + ws.length ≤ 8 → Cut acc (ws.flatMap fun w => 32 :: wordL w) R → R = some (acc ++ ws)
 | [], acc, _, _, h => by rw [List.append_nil]; exact Cut.nil h
 | w :: ws, acc, h200, h8, h => by
  rw [List.flatMap_cons, List.cons_append] at h
  have h := h.space (by decide)
  have hr : endOk (ws.flatMap fun w => 32 :: wordL w) = true := by
   cases ws with
   | nil => rfl
   | cons x ws => rw [List.flatMap_cons, List.cons_append]; rfl
  obtain ⟨c, r, hcr, h1, h2, hw, hd⟩ := wordOf_end w _ hr
  rw [hcr] at h
  have hok : endOk ((c :: r).drop (wordL w).length) = true ∧ w.length ≤ 200 ∧ acc.length < 8 := ⟨by rw [hd]; exact hr, h200 w (by simp), by simp at h8; omega⟩
  have h' := h.word h1 h2 hw hok
  rw [hd] at h'
  have := Cut.tail ws (acc ++ [w]) (fun x hx => h200 x (by simp [hx])) (by simp at h8 ⊢; omega) h'
  rw [this, List.append_assoc]; rfl
def KeysOk (R : List Plain) : Prop := ∀ p ∈ R, bareL p.1.data.toList = true ∧ p.1.data.toList.length ≤ 200 ∧ p.1.data.toList ≠ [101, 110, 100] ∧ p.2.1.length ≤ 3 ∧ ∀ t ∈ p.2.1, 1 ≤ t ∧ t ≤ 6
theorem keysOk (kind : ByteArray) : KeysOk (rulesOf kind) := by
 have := rulesOf_like kind
 have hk : ∀ p ∈ rulesOf kind, bareL p.1.data.toList = true ∧ p.1.data.toList.length ≤ 200 ∧ p.1.data.toList ≠ [101, 110, 100] := by
  unfold rulesOf
  split
  ·unfold teamRules; decide
  ·split
   ·unfold berthRules; decide
   ·split
    ·unfold serviceRules; decide
    ·simp
 intro p hp
 exact ⟨(hk p hp).1, (hk p hp).2.1, (hk p hp).2.2, (this.2 p hp).1, (this.2 p hp).2⟩
theorem name_bare {l : List UInt8} (h : nameB l = true) : bareL l = true ∧ l.length ≤ 200 := by
 unfold nameB at h
 rw [Bool.and_eq_true, Bool.and_eq_true, decide_eq_true_eq, decide_eq_true_eq] at h
 refine ⟨?_, by omega⟩
 unfold bareL
 rw [Bool.and_eq_true]
 refine ⟨?_, ?_⟩
 ·cases l with
  | nil => simp at h
  | cons c l => rfl
 ·rw [List.all_eq_true]
  intro c hc
  have := List.all_eq_true.1 h.1 c hc
  unfold nameByte at this
  simp only [Bool.or_eq_true, Bool.and_eq_true, decide_eq_true_eq] at this
  exact bareB_mk (by omega)
theorem numB_len7 {l : List UInt8} (h : numB l = true) : l.length ≤ 7 := by
 unfold numB at h
 simp only [Bool.and_eq_true, decide_eq_true_eq] at h
 exact h.1.1.2
theorem fitsB_len {t : Int} {w : List UInt8} (h1 : 1 ≤ t) (h6 : t ≤ 6) (h : fitsB t w = true) : w.length ≤ 200 := by
 rcases six h1 h6 with rfl | rfl | rfl | rfl | rfl | rfl <;> unfold fitsB at h <;> simp at h
 ·have := numB_len7 h; omega
 ·unfold signB at h
  simp only [Bool.or_eq_true, Bool.and_eq_true] at h
  rcases h with h | h
  ·have := numB_len7 h; omega
  ·have := numB_len7 h.2
   simp at this
   omega
 ·have := (name_bare h).2; exact this
 ·exact h
 ·unfold yesB at h
  simp only [Bool.or_eq_true, beq_iff_eq] at h
  rcases h with rfl | rfl <;> decide
 ·unfold apartB at h
  simp only [Bool.or_eq_true, beq_iff_eq] at h
  rcases h with (rfl | rfl) | rfl <;> decide
theorem fits_line {kind : ByteArray} {a : PLine} (h : fitsIn (rulesOf kind) a.key a.ws = true) : bareL a.key.data.toList = true ∧ a.key.data.toList.length ≤ 200 ∧ a.key.data.toList ≠ [101, 110, 100] ∧ a.ws.length ≤ 3 ∧ ∀ w ∈ a.ws, w.length ≤ 200 := by
 cases hp : pickR (rulesOf kind) a.key with
 | none => rw [fitsIn_none _ hp] at h; cases h
 | some p =>
  obtain ⟨i, _, hi, hk⟩ := pick_place hp
  have hm : p ∈ rulesOf kind := List.mem_of_getElem? hi
  obtain ⟨k1, k2, k3, k4, k5⟩ := keysOk kind p hm
  rw [fitsIn_some _ hp] at h
  unfold fitsWords at h
  rw [Bool.and_eq_true, decide_eq_true_eq] at h
  rw [hk] at k1 k2 k3
  refine ⟨k1, k2, k3, by omega, fun w hw => ?_⟩
  obtain ⟨j, hj, rfl⟩ := List.mem_iff_getElem.1 hw
  have hz : fitsB (p.2.1[j]'(by omega)) a.ws[j] = true := by
   have := List.all_eq_true.1 h.2 (fitsB (p.2.1[j]'(by omega)) a.ws[j]) (List.mem_iff_getElem.2 ⟨j, by simp; omega, by simp⟩)
   simpa using this
  have ht := k5 _ (List.getElem_mem (by omega : j < p.2.1.length))
  exact fitsB_len ht.1 ht.2 hz
theorem SheetOk.good {bs : List PBlock} (h : SheetOk bs) : GoodBs bs := by
 have hi := (impl_sheetOk h).1
 refine ⟨fun i b hb => (hi i b hb).1, fun b hb => ?_⟩
 exact (impl_linesOk (h.2.1 b hb).2.2).1
end Go.Proofs.YtpdahhnjhggocabGreatDoor
namespace Go.Proofs.YtpdahhnjhggocabGreatDoor
def hasK (ls : List PLine) (k : ByteArray) : Bool := ls.any (fun a => a.key.toList == k.toList)
def defL (p : Plain) : PLine := ⟨p.1, p.2.2.2⟩
def isUnsaid (ls : List PLine) (p : Plain) : Bool := !p.2.2.1 && !hasK ls p.1
def unsaid (R : List Plain) (ls : List PLine) : List PLine := (R.filter (isUnsaid ls)).map defL
def fillL (R : List Plain) (ls : List PLine) : List PLine := normLs R (ls ++ unsaid R ls)
def fillP (b : PBlock) : PBlock := ⟨b.kind, b.name, fillL (rulesOf b.kind) b.lines⟩
def ofK (ls : List PLine) (k : ByteArray) : List PLine := ls.filter (fun a => a.key.toList == k.toList)
def NodupK (R : List Plain) : Prop := R.Pairwise (fun p q => p.1 ≠ q.1)
theorem keyN_zero {ls : List PLine} {k : ByteArray} (h : ∀ a ∈ ls, a.key ≠ k) : keyN ls k = 0 := by
 unfold keyN
 rw [List.countP_eq_zero]
 intro a ha e
 exact h a ha (toList_inj (by simpa using e))
theorem LinesOk.good {R : List Plain} {ls : List PLine} (h : LinesOk R ls) : GoodLs R ls := (impl_linesOk h).1
def isHead (kind name : ByteArray) (b : PBlock) : Bool := (b.kind.toList == kind.toList) && (b.name.toList == name.toList)
def NoHead (bs : List PBlock) (kind name : ByteArray) (k : Nat) : Prop := ∀ b ∈ bs.take k, isHead kind name b = false
theorem NoHead.zero (bs : List PBlock) (kind name : ByteArray) : NoHead bs kind name 0 := by simp [NoHead]
theorem NoHead.succ {D T : List PBlock} {b : PBlock} {kind name : ByteArray} (h : NoHead (D ++ b :: T) kind name D.length) (hb : isHead kind name b = false) : NoHead (D ++ b :: T) kind name (D.length + 1) := by
 unfold NoHead at *
 rw [List.take_append_of_le_length (Nat.le_refl _), List.take_length] at h
 rw [List.take_append, List.take_of_length_le (by omega), show D.length + 1 - D.length = 1 from by omega]
 intro s hs
 simp only [List.take_succ_cons, List.take_zero, List.mem_append, List.mem_singleton] at hs
 rcases hs with hs | rfl
 ·exact h s hs
 ·exact hb
theorem NoHead.none {bs : List PBlock} {kind name : ByteArray} (h : NoHead bs kind name bs.length) : bs.find? (isHead kind name) = none := by
 unfold NoHead at h
 rw [List.take_length] at h
 rw [List.find?_eq_none]
 intro b hb; rw [h b hb]; decide
theorem NoHead.hit {D T : List PBlock} {b : PBlock} {kind name : ByteArray} (h : NoHead (D ++ b :: T) kind name D.length) (hb : isHead kind name b = true) : (D ++ b :: T).find? (isHead kind name) = some b := by
 unfold NoHead at h
 rw [List.take_append_of_le_length (Nat.le_refl _), List.take_length] at h
 rw [List.find?_append, List.find?_eq_none.2 (fun x hx => by rw [h x hx]; decide), Option.none_or, List.find?_cons_of_pos hb]
end Go.Proofs.YtpdahhnjhggocabGreatDoor
namespace Go.Proofs.YtpdahhnjhggocabGreatDoor
structure PChange where
 what : Int
 kind : ByteArray
 name : ByteArray
 key : ByteArray
 lines : List PLine
end Go.Proofs.YtpdahhnjhggocabGreatDoor
namespace Go.Proofs.YtpdahhnjhggocabGreatDoor
end Go.Proofs.YtpdahhnjhggocabGreatDoor
namespace Go.Proofs.YtpdahhnjhggocabGreatDoor
theorem sorted_ext {R : List Plain} {l m : List PLine} (hl : l.Pairwise (fun a b => lineLt R a b = true)) (hm : m.Pairwise (fun a b => lineLt R a b = true)) (h : ∀ a, a ∈ l ↔ a ∈ m) : l = m := by
 have nd : ∀ {l : List PLine}, l.Pairwise (fun a b => lineLt R a b = true) → l.Nodup := fun h => h.imp (fun {a b} hab e => by subst e; exact lineLt_irr R _ hab)
 exact sorted_unique (lineLt_irr R) (lineLt_trans R) hl hm ((List.perm_ext_iff_of_nodup (nd hl) (nd hm)).2 h)
theorem LinesOk.sub {R : List Plain} {l m : List PLine} (h : LinesOk R m) (hs : l.Sublist m) : LinesOk R l := by
 refine ⟨fun a ha => h.1 a (hs.subset ha), h.2.1.sublist hs, fun a ha => ?_⟩
 have h3 := h.2.2 a (hs.subset ha)
 have hc : keyN l a.key ≤ keyN m a.key := hs.countP_le
 exact ⟨h3.1.imp id (fun h => Nat.le_trans hc h), Nat.le_trans hc h3.2⟩
theorem nodup_eq {R : List Plain} (hn : NodupK R) {p q : Plain} (hp : p ∈ R) (hq : q ∈ R) (e : p.1 = q.1) : p = q := by
 induction R with
 | nil => cases hp
 | cons r R ih =>
  have h := List.pairwise_cons.1 hn
  rcases List.mem_cons.1 hp with e1 | h1
  ·rcases List.mem_cons.1 hq with e2 | h2
   ·rw [e1, e2]
   ·exact absurd (e1 ▸ e) (h.1 q h2)
  ·rcases List.mem_cons.1 hq with e2 | h2
   ·exact absurd (e2 ▸ e.symm) (h.1 p h1)
   ·exact ih h.2 h1 h2
theorem pick_of {R : List Plain} (hn : NodupK R) {p : Plain} (hp : p ∈ R) : pickR R p.1 = some p := by
 unfold pickR
 have : (R.find? (fun q => q.1.toList == p.1.toList)).isSome = true := by
  rw [List.find?_isSome]; exact ⟨p, hp, by simp⟩
 obtain ⟨q, hq⟩ := Option.isSome_iff_exists.1 this
 have h1 := List.mem_of_find?_eq_some hq
 have h2 := List.find?_some hq
 have h3 : q.1 = p.1 := toList_inj (by simpa using h2)
 rw [hq, nodup_eq hn h1 hp h3]
theorem picked {R : List Plain} {key : ByteArray} {p : Plain} (h : pickR R key = some p) : p ∈ R ∧ p.1 = key := by
 unfold pickR at h
 have h2 := List.find?_some h
 exact ⟨List.mem_of_find?_eq_some h, toList_inj (by simpa using h2)⟩
theorem LinesOk.rule {R : List Plain} {ls : List PLine} (h : LinesOk R ls) {a : PLine} (ha : a ∈ ls) : ∃ p ∈ R, p.1 = a.key := by
 have := h.1 a ha
 unfold fitsIn at this
 cases hp : pickR R a.key with
 | none => rw [hp] at this; cases this
 | some p => exact ⟨p, (picked hp).1, (picked hp).2⟩
theorem LinesOk.once {R : List Plain} (hn : NodupK R) {ls : List PLine} (h : LinesOk R ls) {p : Plain} (hp : p ∈ R) (hm : p.2.2.1 = false) {a b : PLine} (ha : a ∈ ls) (hb : b ∈ ls) (ka : a.key = p.1) (kb : b.key = p.1) : a = b := by
 have h1 : keyN ls p.1 ≤ 1 := by
  rcases (h.2.2 a ha).1 with h1 | h1
  ·unfold manyR at h1; rw [ka, pick_of hn hp] at h1; simp [hm] at h1
  ·rw [← ka]; exact h1
 unfold keyN at h1
 rw [List.countP_eq_length_filter] at h1
 have a1 : a ∈ ls.filter (fun a => a.key.toList == p.1.toList) := List.mem_filter.2 ⟨ha, by simp [ka]⟩
 have b1 : b ∈ ls.filter (fun a => a.key.toList == p.1.toList) := List.mem_filter.2 ⟨hb, by simp [kb]⟩
 generalize ls.filter (fun a => a.key.toList == p.1.toList) = F at *
 match F, h1 with
 | [], _ => cases a1
 | [x], _ => rw [List.mem_singleton.1 a1, List.mem_singleton.1 b1]
 | _ :: _ :: _, h1 => simp at h1
theorem keys_count : ∀ (R : List Plain) (ls : List PLine), (∀ a ∈ ls, ∃ p ∈ R, p.1 = a.key) → (∀ k, keyN ls k ≤ 10) → ls.length ≤ 10 * R.length
 | [], ls, h, _ => by
  cases ls with
  | nil => simp
  | cons a ls => obtain ⟨p, hp, _⟩ := h a (by simp); cases hp
 | p :: R, ls, h, hk => by
  have h1 := keys_count R (ls.filter (fun a => !(a.key.toList == p.1.toList))) (fun a ha => by
   have hf := List.mem_filter.1 ha
   obtain ⟨q, hq, e⟩ := h a hf.1
   rcases List.mem_cons.1 hq with rfl | hq
   ·have := hf.2; rw [e] at this; simp at this
   ·exact ⟨q, hq, e⟩) (fun k => by
    unfold keyN
    have := List.Sublist.countP_le (p := fun a : PLine => a.key.toList == k.toList) (List.filter_sublist (p := fun a : PLine => !(a.key.toList == p.1.toList)) (l := ls))
    have h2 := hk k
    unfold keyN at h2
    omega)
  have h2 := hk p.1
  unfold keyN at h2
  have h3 := List.length_eq_countP_add_countP (fun a : PLine => a.key.toList == p.1.toList) (l := ls)
  rw [← List.countP_eq_length_filter] at h1
  have h4 : ls.countP (fun a => !(a.key.toList == p.1.toList)) = ls.countP (fun a => decide ¬ ((a.key.toList == p.1.toList) = true)) := by
   congr 1; funext a; cases (a.key.toList == p.1.toList) <;> rfl
  rw [h4] at h1
  rw [List.length_cons]
  omega
theorem LinesOk.few {R : List Plain} {ls : List PLine} (h : LinesOk R ls) : ls.length ≤ 10 * R.length := by
 refine keys_count R ls (fun a ha => ?_) (fun k => ?_)
 ·have hf := h.1 a ha
  have hp : pickR R a.key ≠ none := fun e => by rw [fitsIn_none _ e] at hf; cases hf
  obtain ⟨p, hp⟩ := Option.ne_none_iff_exists'.1 hp
  obtain ⟨i, _, hi, e⟩ := pick_place hp
  exact ⟨p, List.mem_of_getElem? hi, e⟩
 ·by_cases hk : ∃ a ∈ ls, a.key = k
  ·obtain ⟨a, ha, rfl⟩ := hk
   exact (h.2.2 a ha).2
  ·rw [keyN_zero (fun a ha e => hk ⟨a, ha, e⟩)]; omega
end Go.Proofs.YtpdahhnjhggocabGreatDoor
namespace Go.Proofs.YtpdahhnjhggocabGreatDoor
def leftL (u o : List PLine) : List PLine := u.filter (fun a => !hasK o a.key)
def overL (R : List Plain) (u o : List PLine) : List PLine := normLs R (o ++ leftL u o)
theorem over_ext {R : List Plain} {l m : List PLine} (hl : LinesOk R l) (hm : LinesOk R m) (h : ∀ a, a ∈ l ↔ a ∈ m) : l = m := sorted_ext hl.2.1 hm.2.1 h
end Go.Proofs.YtpdahhnjhggocabGreatDoor
namespace Go.Proofs.YtpdahhnjhggocabGreatDoor
def Heads (bs : List PBlock) : Prop := bs.Pairwise (fun a b => ¬ (a.kind = b.kind ∧ a.name = b.name))
theorem SheetOk.heads {bs : List PBlock} (h : SheetOk bs) : Heads bs := h.2.2.imp fun {a b} hab e => by
 rw [blockLt_iff, e.1, e.2] at hab
 rcases hab with q | ⟨_, q⟩ <;> exact Tot.irr _ q
def look (bs : List PBlock) (kind name : ByteArray) : Option PBlock := bs.find? (isHead kind name)
theorem isHead_iff {kind name : ByteArray} {b : PBlock} : isHead kind name b = true ↔ b.kind = kind ∧ b.name = name := by
 unfold isHead
 simp only [Bool.and_eq_true, beq_iff_eq]
 exact ⟨fun h => ⟨toList_inj h.1, toList_inj h.2⟩, fun h => by rw [h.1, h.2]; exact ⟨rfl, rfl⟩⟩
theorem look_some {bs : List PBlock} {kind name : ByteArray} {b : PBlock} (h : look bs kind name = some b) : b ∈ bs ∧ b.kind = kind ∧ b.name = name := ⟨List.mem_of_find?_eq_some h, isHead_iff.1 (List.find?_some h)⟩
theorem look_none {bs : List PBlock} {kind name : ByteArray} : look bs kind name = none ↔ ∀ b ∈ bs, ¬ (b.kind = kind ∧ b.name = name) := by
 unfold look
 rw [List.find?_eq_none]
 exact ⟨fun h b hb e => h b hb (isHead_iff.2 e), fun h b hb e => h b hb (isHead_iff.1 e)⟩
theorem look_of {bs : List PBlock} (h : Heads bs) {b : PBlock} (hb : b ∈ bs) : look bs b.kind b.name = some b := by
 induction bs with
 | nil => cases hb
 | cons a l ih =>
  have hp := List.pairwise_cons.1 h
  unfold look
  rw [List.find?_cons]
  cases hh : isHead b.kind b.name a
  ·rcases List.mem_cons.1 hb with rfl | hb
   ·rw [isHead_iff.2 ⟨rfl, rfl⟩] at hh; cases hh
   ·exact ih hp.2 hb
  ·rcases List.mem_cons.1 hb with rfl | hb
   ·rfl
   ·exact absurd (isHead_iff.1 hh) (hp.1 b hb)
end Go.Proofs.YtpdahhnjhggocabGreatDoor
namespace Go.Proofs.YtpdahhnjhggocabGreatDoor
def otherK (key : ByteArray) (a : PLine) : Bool := !(a.key.toList == key.toList)
def setL (R : List Plain) (ls : List PLine) (key : ByteArray) (xs : List PLine) : List PLine := xs.foldl (fun acc a => putIn (lineLt R) a acc) (ls.filter (otherK key))
def dropH (A : List PBlock) (kind name : ByteArray) : List PBlock := A.filter (fun b => !isHead kind name b)
def swapH (A : List PBlock) (kind name : ByteArray) (ls : List PLine) : List PBlock := A.map (fun b => if isHead kind name b = true then ⟨b.kind, b.name, ls⟩ else b)
open Classical in
noncomputable def oneS (A : List PBlock) (c : PChange) : Option (List PBlock) := match look A c.kind c.name with
 | none => if c.what = 2 ∧ c.key = ⟨#[]⟩ ∧ SheetOk (putIn blockLt ⟨c.kind, c.name, c.lines⟩ A) then some (putIn blockLt ⟨c.kind, c.name, c.lines⟩ A) else none
 | some b => if c.what = 1 ∧ c.key = ⟨#[]⟩ ∧ c.lines = [] then some (dropH A c.kind c.name)
  else if c.what = 3 ∧ c.lines ≠ [] ∧ (∀ a ∈ c.lines, a.key = c.key) ∧ LinesOk (rulesOf b.kind) (setL (rulesOf b.kind) b.lines c.key c.lines) then some (swapH A c.kind c.name (setL (rulesOf b.kind) b.lines c.key c.lines))
  else if c.what = 4 ∧ c.lines = [] ∧ hasK b.lines c.key = true then some (swapH A c.kind c.name (b.lines.filter (otherK c.key)))
  else none
noncomputable def applyGo : Nat → List PBlock → List PChange → List PBlock × Int
 | _, A, [] => (A, 0)
 | i, A, c :: cs => match oneS A c with
  | none => ([], 2 + (i : Int))
  | some A' => applyGo (i + 1) A' cs
noncomputable def applyS (A : List PBlock) (cs : List PChange) : List PBlock × Int := if sheetB A = true then applyGo 0 A cs else ([], 1)
theorem heads_split {D T : List PBlock} {b : PBlock} (h : Heads (D ++ b :: T)) {kind name : ByteArray} (hb : isHead kind name b = true) : (∀ d ∈ D, isHead kind name d = false) ∧ ∀ t ∈ T, isHead kind name t = false := by
 obtain ⟨rfl, rfl⟩ := isHead_iff.1 hb
 unfold Heads at h
 rw [List.pairwise_append, List.pairwise_cons] at h
 obtain ⟨_, ⟨h2, _⟩, h3⟩ := h
 refine ⟨fun d hd => ?_, fun t ht => ?_⟩
 ·cases e : isHead b.kind b.name d
  ·rfl
  ·exact absurd (isHead_iff.1 e) (h3 d hd b (by simp))
 ·cases e : isHead b.kind b.name t
  ·rfl
  ·have := isHead_iff.1 e
   exact absurd ⟨this.1.symm, this.2.symm⟩ (h2 t ht)
theorem dropH_split {D T : List PBlock} {b : PBlock} (h : SheetOk (D ++ b :: T)) {kind name : ByteArray} (hb : isHead kind name b = true) : dropH (D ++ b :: T) kind name = D ++ T := by
 have h1 := heads_split h.heads hb
 unfold dropH
 rw [List.filter_append, List.filter_cons_of_neg (by simp [hb])]
 rw [List.filter_eq_self.2 (fun d hd => by simp [h1.1 d hd]), List.filter_eq_self.2 (fun d hd => by simp [h1.2 d hd])]
theorem swapH_split {D T : List PBlock} {b : PBlock} (h : SheetOk (D ++ b :: T)) {kind name : ByteArray} (hb : isHead kind name b = true) (ls : List PLine) : swapH (D ++ b :: T) kind name ls = D ++ ⟨b.kind, b.name, ls⟩ :: T := by
 have h1 := heads_split h.heads hb
 unfold swapH
 rw [List.map_append, List.map_cons, if_pos hb]
 congr 1
 ·exact (List.map_congr_left (fun d hd => by rw [h1.1 d hd]; rfl)).trans (List.map_id _)
 ·congr 1
  exact (List.map_congr_left (fun d hd => by rw [h1.2 d hd]; rfl)).trans (List.map_id _)
theorem look_split {D T : List PBlock} {b : PBlock} (h : SheetOk (D ++ b :: T)) {kind name : ByteArray} (hb : isHead kind name b = true) : look (D ++ b :: T) kind name = some b := by
 have h1 := isHead_iff.1 hb
 rw [← h1.1, ← h1.2]
 exact look_of h.heads (by simp)
theorem sheet_drop {D T : List PBlock} {b : PBlock} (h : SheetOk (D ++ b :: T)) : SheetOk (D ++ T) := by
 have hs : (D ++ T).Sublist (D ++ b :: T) := List.Sublist.append (List.Sublist.refl _) (List.sublist_cons_self _ _)
 exact ⟨Nat.le_trans hs.length_le h.1, fun x hx => h.2.1 x (hs.subset hx), h.2.2.sublist hs⟩
theorem blockLt_head {a b a' b' : PBlock} (h1 : a'.kind = a.kind) (h2 : a'.name = a.name) (h3 : b'.kind = b.kind) (h4 : b'.name = b.name) : blockLt a' b' = blockLt a b := by
 unfold blockLt
 rw [h1, h2, h3, h4]
theorem sheet_swap {D T : List PBlock} {b b' : PBlock} (h : SheetOk (D ++ b :: T)) (hk : b'.kind = b.kind) (hn : b'.name = b.name) : SheetOk (D ++ b' :: T) ↔ LinesOk (rulesOf b'.kind) b'.lines := by
 refine ⟨fun k => (k.2.1 b' (by simp)).2.2, fun hl => ⟨by have := h.1; simpa using this, fun x hx => ?_, ?_⟩⟩
 ·rcases List.mem_append.1 hx with hx | hx
  ·exact h.2.1 x (List.mem_append_left _ hx)
  ·rcases List.mem_cons.1 hx with rfl | hx
   ·have := h.2.1 b (by simp)
    rw [hk] at hl ⊢
    rw [hn]
    exact ⟨this.1, this.2.1, hl⟩
   ·exact h.2.1 x (by simp [hx])
 ·have h2 := h.2.2
  rw [List.pairwise_append, List.pairwise_cons] at h2 ⊢
  refine ⟨h2.1, ⟨fun t ht => ?_, h2.2.1.2⟩, fun d hd t ht => ?_⟩
  ·rw [blockLt_head hk hn rfl rfl]; exact h2.2.1.1 t ht
  ·rcases List.mem_cons.1 ht with rfl | ht
   ·rw [blockLt_head rfl rfl hk hn]; exact h2.2.2 d hd b (by simp)
   ·exact h2.2.2 d hd t (by simp [ht])
theorem sheet_put {A : List PBlock} {b : PBlock} (h : SheetOk A) : (look A b.kind b.name = none ∧ SheetOk (putIn blockLt b A)) ↔ headFault A b.kind b.name = 0 ∧ LinesOk (rulesOf b.kind) b.lines := by
 have hp := putIn_perm blockLt b A
 refine ⟨fun ⟨h1, h2⟩ => ?_, fun ⟨h1, h2⟩ => ?_⟩
 ·have hb := h2.2.1 b (hp.mem_iff.2 (by simp))
  have hl := h2.1
  rw [hp.length_eq, List.length_cons] at hl
  exact ⟨headFault_zero.2 ⟨hb.1, hb.2.1, fun o ho => look_none.1 h1 o ho, by omega⟩, hb.2.2⟩
 ·have h3 := headFault_zero.1 h1
  refine ⟨look_none.2 h3.2.2.1, ?_, fun x hx => ?_, ?_⟩
  ·rw [hp.length_eq, List.length_cons]; omega
  ·rcases List.mem_cons.1 (hp.mem_iff.1 hx) with rfl | hx
   ·exact ⟨h3.1, h3.2.1, h2⟩
   ·exact h.2.1 x hx
  ·exact pairwise_putIn (fun a b c => blockLt_trans a b c) b A h.2.2 (fun y hy hn => blockLt_tri hy h1 hn)
theorem ok_good {R : List Plain} {ms l : List PLine} (h : LinesOk R ms) (hp : ms.Perm l) : GoodLs R l := by
 have hnd : l.Nodup := hp.nodup_iff.1 (h.2.1.imp (fun {_ b} hab e => by rw [e] at hab; exact lineLt_irr R b hab))
 intro i a hi
 have hm : a ∈ l := List.mem_of_getElem? hi
 have hm' := hp.mem_iff.2 hm
 have hk := h.2.2 a hm'
 have hkl : keyN l a.key = keyN ms a.key := (keyN_perm hp a.key).symm
 have hsucc := keyN_succ hi a.key
 rw [if_pos rfl] at hsucc
 have hle := keyN_take l (i + 1) a.key
 refine lineFault_zero.2 ⟨h.1 a hm', fun o ho hok => ⟨?_, ?_⟩, by omega⟩
 ·rcases hk.1 with h1 | h1
  ·exact h1
  ·exfalso
   have h0 : 0 < keyN (l.take i) a.key := by
    unfold keyN
    rw [List.countP_pos_iff]
    exact ⟨o, ho, by rw [hok]; simp⟩
   omega
 ·intro hw
  have hoa : o = a := by
   obtain ⟨ok, ow⟩ := o
   obtain ⟨ak, aw⟩ := a
   simp only at hok hw
   rw [hok, hw]
  subst hoa
  obtain ⟨j, hj⟩ := List.mem_iff_getElem?.1 ho
  have hji : j < i := by
   have := (List.getElem?_eq_some_iff.1 hj).1
   rw [List.length_take] at this
   omega
  rw [List.getElem?_take, if_pos hji] at hj
  have hjl := (List.getElem?_eq_some_iff.1 hj).1
  exact absurd ((List.getElem?_inj hjl hnd).1 (hj.trans hi.symm)) (by omega)
theorem norm_id {R : List Plain} {ls : List PLine} (h : LinesOk R ls) : normLs R ls = ls :=
 over_ext (normLs_ok h.good) h (fun _ => (normLs_perm R ls).mem_iff)
theorem setL_norm {R : List Plain} {ls : List PLine} (h : LinesOk R ls) (key : ByteArray) (xs : List PLine) : setL R ls key xs = normLs R (ls.filter (otherK key) ++ xs) := by
 have h1 := norm_id (h.sub (List.filter_sublist (p := otherK key)))
 unfold setL
 rw [show normLs R (ls.filter (otherK key) ++ xs) = xs.foldl (fun acc a => putIn (lineLt R) a acc) (normLs R (ls.filter (otherK key))) by unfold normLs; rw [List.foldl_append], h1]
theorem setL_good {R : List Plain} {ls : List PLine} (h : LinesOk R ls) {key : ByteArray} {xs : List PLine} : LinesOk R (setL R ls key xs) ↔ GoodLs R (ls.filter (otherK key) ++ xs) := by
 rw [setL_norm h]
 exact ⟨fun k => ok_good k (normLs_perm R _), normLs_ok⟩
theorem setL_sorted {R : List Plain} {ls ms xs : List PLine} {key : ByteArray} (h : LinesOk R ls) (hp : ms.Perm (ls.filter (otherK key) ++ xs)) (hs : ∀ i j : Nat, i < j → ∀ a b, ms[i]? = some a → ms[j]? = some b → lineLt R b a = false) : (LinesOk R ms ↔ LinesOk R (setL R ls key xs)) ∧ (LinesOk R ms → ms = setL R ls key xs) := by
 have h1 : GoodLs R (ls.filter (otherK key) ++ xs) → ms = setL R ls key xs := fun hg => by rw [setL_norm h]; exact normLs_unique hg hp hs
 refine ⟨⟨fun k => (setL_good h).2 (ok_good k hp), fun k => ?_⟩, fun k => h1 (ok_good k hp)⟩
 rw [h1 ((setL_good h).1 k)]
 exact k
theorem oneS_ok {A A' : List PBlock} {c : PChange} (h : SheetOk A) (he : oneS A c = some A') : SheetOk A' := by
 unfold oneS at he
 split at he
 ·split at he
  ·rename_i hc; cases he; exact hc.2.2
  ·cases he
 ·rename_i b hb
  obtain ⟨hm, hk, hn⟩ := look_some hb
  obtain ⟨D, T, rfl⟩ := List.append_of_mem hm
  have hh : isHead c.kind c.name b = true := isHead_iff.2 ⟨hk, hn⟩
  split at he
  ·cases he; rw [dropH_split h hh]; exact sheet_drop h
  split at he
  ·rename_i hc; cases he; rw [swapH_split h hh]; exact (sheet_swap (b' := ⟨b.kind, b.name, setL (rulesOf b.kind) b.lines c.key c.lines⟩) h rfl rfl).2 hc.2.2.2
  split at he
  ·cases he; rw [swapH_split h hh]; exact (sheet_swap (b' := ⟨b.kind, b.name, b.lines.filter (otherK c.key)⟩) h rfl rfl).2 ((h.2.1 b (by simp)).2.2.sub List.filter_sublist)
  ·cases he
end Go.Proofs.YtpdahhnjhggocabGreatDoor
namespace Go.Proofs.YtpdahhnjhggocabGreatDoor
theorem gone_none {A : List PBlock} {c : PChange} (hw : c.what = 1) (h : look A c.kind c.name = none ∨ c.key ≠ ⟨#[]⟩ ∨ c.lines ≠ []) : oneS A c = none := by
 unfold oneS
 split
 ·rw [if_neg (fun k => by have := k.1; omega)]
 ·rename_i b hb
  rw [if_neg (fun k => ?_), if_neg (fun k => by have := k.1; omega), if_neg (fun k => by have := k.1; omega)]
  rcases h with h | h | h
  ·rw [hb] at h; cases h
  ·exact h k.2.1
  ·exact h k.2.2
theorem gone_some {A : List PBlock} {c : PChange} {b : PBlock} (hw : c.what = 1) (hb : look A c.kind c.name = some b) (hk : c.key = ⟨#[]⟩) (hl : c.lines = []) : oneS A c = some (dropH A c.kind c.name) := by
 unfold oneS
 rw [hb]
 exact if_pos ⟨hw, hk, hl⟩
theorem new_none {A : List PBlock} {c : PChange} (hw : c.what = 2) (h : look A c.kind c.name ≠ none ∨ c.key ≠ ⟨#[]⟩ ∨ ¬ SheetOk (putIn blockLt ⟨c.kind, c.name, c.lines⟩ A)) : oneS A c = none := by
 unfold oneS
 split
 ·rename_i hb
  rw [if_neg (fun k => ?_)]
  rcases h with h | h | h
  ·exact h hb
  ·exact h k.2.1
  ·exact h k.2.2
 ·rw [if_neg (fun k => by have := k.1; omega), if_neg (fun k => by have := k.1; omega), if_neg (fun k => by have := k.1; omega)]
theorem new_some {A : List PBlock} {c : PChange} (hw : c.what = 2) (hb : look A c.kind c.name = none) (hk : c.key = ⟨#[]⟩) (hl : SheetOk (putIn blockLt ⟨c.kind, c.name, c.lines⟩ A)) : oneS A c = some (putIn blockLt ⟨c.kind, c.name, c.lines⟩ A) := by
 unfold oneS
 rw [hb]
 exact if_pos ⟨hw, hk, hl⟩
theorem set_none {A : List PBlock} {c : PChange} (hw : c.what = 3) (h : look A c.kind c.name = none ∨ c.lines = [] ∨ (∃ a ∈ c.lines, a.key ≠ c.key) ∨ ∃ b, look A c.kind c.name = some b ∧ ¬ LinesOk (rulesOf b.kind) (setL (rulesOf b.kind) b.lines c.key c.lines)) : oneS A c = none := by
 unfold oneS
 split
 ·rw [if_neg (fun k => by have := k.1; omega)]
 ·rename_i b hb
  rw [if_neg (fun k => by have := k.1; omega), if_neg (fun k => ?_), if_neg (fun k => by have := k.1; omega)]
  rcases h with h | h | ⟨a, ha, h⟩ | ⟨b', hb', h⟩
  ·rw [hb] at h; cases h
  ·exact k.2.1 h
  ·exact h (k.2.2.1 a ha)
  ·rw [hb] at hb'; cases hb'; exact h k.2.2.2
theorem set_some {A : List PBlock} {c : PChange} {b : PBlock} (hw : c.what = 3) (hb : look A c.kind c.name = some b) (h1 : c.lines ≠ []) (h2 : ∀ a ∈ c.lines, a.key = c.key) (h3 : LinesOk (rulesOf b.kind) (setL (rulesOf b.kind) b.lines c.key c.lines)) : oneS A c = some (swapH A c.kind c.name (setL (rulesOf b.kind) b.lines c.key c.lines)) := by
 unfold oneS
 rw [hb]
 dsimp only
 rw [if_neg (fun k => by have := k.1; omega)]
 exact if_pos ⟨hw, h1, h2, h3⟩
theorem unset_none {A : List PBlock} {c : PChange} (hw : c.what = 4) (h : look A c.kind c.name = none ∨ c.lines ≠ [] ∨ ∃ b, look A c.kind c.name = some b ∧ hasK b.lines c.key = false) : oneS A c = none := by
 unfold oneS
 split
 ·rw [if_neg (fun k => by have := k.1; omega)]
 ·rename_i b hb
  rw [if_neg (fun k => by have := k.1; omega), if_neg (fun k => by have := k.1; omega), if_neg (fun k => ?_)]
  rcases h with h | h | ⟨b', hb', h⟩
  ·rw [hb] at h; cases h
  ·exact h k.2.1
  ·rw [hb] at hb'; cases hb'; rw [h] at k; cases k.2.2
theorem unset_some {A : List PBlock} {c : PChange} {b : PBlock} (hw : c.what = 4) (hb : look A c.kind c.name = some b) (h1 : c.lines = []) (h2 : hasK b.lines c.key = true) : oneS A c = some (swapH A c.kind c.name (b.lines.filter (otherK c.key))) := by
 unfold oneS
 rw [hb]
 dsimp only
 rw [if_neg (fun k => by have := k.1; omega), if_neg (fun k => by have := k.1; omega)]
 exact if_pos ⟨hw, h1, h2⟩
theorem other_none {A : List PBlock} {c : PChange} (h1 : c.what ≠ 1) (h2 : c.what ≠ 2) (h3 : c.what ≠ 3) (h4 : c.what ≠ 4) : oneS A c = none := by
 unfold oneS
 split
 ·rw [if_neg (fun k => h2 k.1)]
 ·rw [if_neg (fun k => h1 k.1), if_neg (fun k => h3 k.1), if_neg (fun k => h4 k.1)]
end Go.Proofs.YtpdahhnjhggocabGreatDoor
namespace Go.Proofs.YtpdahhnjhggocabGreatDoor
inductive NW where
 | ended (m : Nat)
 | bad (m : Nat)
 | words (m : Nat) (w : List UInt8) (ws : List (List UInt8)) (rest : List (List UInt8))
theorem linesFrom_no : ∀ (l acc : List UInt8), (10 : UInt8) ∉ l → linesFrom acc l = if acc ++ l = [] then [] else [acc ++ l]
 | [], acc, _ => by simp [linesFrom]
 | c :: l, acc, h => by
  have hc : c ≠ 10 := fun e => h (by rw [e]; simp)
  rw [linesFrom, if_neg hc, linesFrom_no l _ (fun e => h (List.mem_cons_of_mem _ e)), List.append_assoc]; rfl
theorem textLines_no {l : List UInt8} (h : (10 : UInt8) ∉ l) (h0 : l ≠ []) : textLines l = [l] := by
 unfold textLines; rw [linesFrom_no l [] h]; simp [h0]
def CutNl (s x y : List UInt8) : Prop := ((10 : UInt8) ∉ s ∧ x = s ∧ y = []) ∨ (s = x ++ 10 :: y ∧ (10 : UInt8) ∉ x)
theorem CutNl.lines {s x y : List UInt8} (h : CutNl s x y) (h0 : s ≠ []) : textLines s = x :: textLines y := by
 rcases h with ⟨h1, rfl, rfl⟩ | ⟨rfl, h2⟩
 ·exact textLines_no h1 h0
 ·exact textLines_line x y h2
theorem CutNl.len {s x y : List UInt8} (h : CutNl s x y) : x.length ≤ s.length ∧ y.length ≤ s.length := by
 rcases h with ⟨h1, rfl, rfl⟩ | ⟨rfl, h2⟩
 ·simp
 ·simp; omega
theorem CutNl.lt {s x y : List UInt8} (h : CutNl s x y) (h0 : s ≠ []) : y.length < s.length := by
 rcases h with ⟨h1, rfl, rfl⟩ | ⟨rfl, h2⟩
 ·exact List.length_pos_iff.2 h0
 ·simp; omega
end Go.Proofs.YtpdahhnjhggocabGreatDoor
namespace Go.Proofs.YtpdahhnjhggocabGreatDoor
open Go.RowKit
end Go.Proofs.YtpdahhnjhggocabGreatDoor
namespace Go.Proofs.YtpdahhnjhggocabGreatDoor
end Go.Proofs.YtpdahhnjhggocabGreatDoor
