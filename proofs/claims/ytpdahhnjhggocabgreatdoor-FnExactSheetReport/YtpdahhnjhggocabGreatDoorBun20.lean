import Derived.Test.YtpdahhnjhggocabGreatDoorBun19
import Derived.Test.YtpdahhnjhggocabGreatDoorBun11
import Derived.Test.YtpdahhnjhggocabGreatDoorBun4
import Derived.Test.YtpdahhnjhggocabGreatDoorBun1
namespace Go.Proofs.YtpdahhnjhggocabGreatDoor
structure PLine where
 key : ByteArray
 ws : List (List UInt8)
structure PBlock where
 kind : ByteArray
 name : ByteArray
 lines : List PLine
theorem toList_inj {a b : ByteArray} (h : a.toList = b.toList) : a = b := by
 rw [ByteArray.toList_eq, ByteArray.toList_eq] at h
 exact ByteArray.ext (Array.toList_inj.1 h)
def placeI (R : List Plain) (key : ByteArray) : Int := match R.findIdx? (fun p => p.1.toList == key.toList) with
 | some i => (i : Int)
 | none => -1
def manyR (R : List Plain) (key : ByteArray) : Bool := match pickR R key with
 | some p => p.2.2.1
 | none => false
theorem pick_place {R : List Plain} {key : ByteArray} {p : Plain} (h : pickR R key = some p) : ∃ i : Nat, placeI R key = (i : Int) ∧ R[i]? = some p ∧ p.1 = key := by
 unfold pickR at h
 obtain ⟨hp, i, hi, rfl, hj⟩ := List.find?_eq_some_iff_getElem.1 h
 refine ⟨i, ?_, List.getElem?_eq_getElem hi, toList_inj (by simpa using hp)⟩
 unfold placeI
 rw [List.findIdx?_eq_some_iff_getElem.2 ⟨hi, hp, fun j hj' => by simpa using hj j hj'⟩]
theorem place_same {R : List Plain} {a b : ByteArray} (ha : pickR R a ≠ none) (hb : pickR R b ≠ none) (h : placeI R a = placeI R b) : a = b := by
 obtain ⟨p, hp⟩ := Option.ne_none_iff_exists'.1 ha
 obtain ⟨q, hq⟩ := Option.ne_none_iff_exists'.1 hb
 obtain ⟨i, hi, gi, rfl⟩ := pick_place hp
 obtain ⟨j, hj, gj, rfl⟩ := pick_place hq
 have : i = j := by omega
 subst this
 rw [gi] at gj
 rw [Option.some.inj gj]
def lineLt (R : List Plain) (a b : PLine) : Bool := decide (placeI R a.key < placeI R b.key) || (decide (placeI R a.key = placeI R b.key) && decide (a.ws < b.ws))
theorem lineLt_iff {R : List Plain} {a b : PLine} : lineLt R a b = true ↔ placeI R a.key < placeI R b.key ∨ placeI R a.key = placeI R b.key ∧ a.ws < b.ws := by simp [lineLt]
theorem lineLt_irr (R : List Plain) (a : PLine) : ¬ lineLt R a a = true := by
 rw [lineLt_iff]
 rintro (h | ⟨_, h⟩)
 ·omega
 ·exact Tot.irr _ h
theorem lineLt_trans (R : List Plain) (a b c : PLine) (h : lineLt R a b = true) (k : lineLt R b c = true) : lineLt R a c = true := by
 rw [lineLt_iff] at *
 rcases h with h | ⟨h, h'⟩ <;> rcases k with k | ⟨k, k'⟩
 ·left; omega
 ·left; omega
 ·left; omega
 ·right; exact ⟨by omega, Tot.trans _ _ _ h' k'⟩
def keyN (ls : List PLine) (k : ByteArray) : Nat := ls.countP (fun a => a.key.toList == k.toList)
def lineFault (R : List Plain) (es : List PLine) (a : PLine) : Int :=
 if pickR R a.key = none then 5 else if fitsIn R a.key a.ws = false then 7
 else if es.any (fun o => o.key.toList == a.key.toList && (!manyR R a.key || decide (o.ws = a.ws))) = true then 6
 else if 10 ≤ keyN es a.key then 10 else 0
theorem lineFault_zero {R : List Plain} {es : List PLine} {a : PLine} : lineFault R es a = 0 ↔ fitsIn R a.key a.ws = true ∧ (∀ o ∈ es, o.key = a.key → manyR R a.key = true ∧ o.ws ≠ a.ws) ∧ keyN es a.key < 10 := by
 unfold lineFault
 constructor
 ·intro h
  split at h
  ·omega
  split at h
  ·omega
  split at h
  ·omega
  split at h
  ·omega
  rename_i h1 h2 h3 h4
  refine ⟨by simpa using h2, fun o ho hk => ?_, by omega⟩
  simp only [List.any_eq_true, not_exists, not_and, Bool.not_eq_true] at h3
  have := h3 o ho
  rw [hk] at this
  simpa using this
 ·rintro ⟨h1, h2, h3⟩
  have h0 : ¬ pickR R a.key = none := fun h => by rw [fitsIn_none _ h] at h1; cases h1
  rw [if_neg h0, if_neg (by simp [h1]), if_neg ?_, if_neg (by omega)]
  simp only [List.any_eq_true, not_exists, not_and, Bool.not_eq_true]
  intro o ho
  by_cases hk : o.key = a.key
  ·have := h2 o ho hk
   simp [this.1, this.2]
  ·have : (o.key.toList == a.key.toList) = false := by
    rw [beq_eq_false_iff_ne]; exact fun e => hk (toList_inj e)
   simp [this]
def LinesOk (R : List Plain) (ls : List PLine) : Prop := (∀ a ∈ ls, fitsIn R a.key a.ws = true) ∧ ls.Pairwise (fun a b => lineLt R a b = true) ∧ ∀ a ∈ ls, (manyR R a.key = true ∨ keyN ls a.key ≤ 1) ∧ keyN ls a.key ≤ 10
def SpecAt (R : List Plain) (ls : List PLine) (i : Nat) : Prop := ∃ a, ls[i]? = some a ∧ fitsIn R a.key a.ws = true ∧ (i = 0 ∨ ∃ b, ls[i - 1]? = some b ∧ lineLt R b a = true) ∧ (manyR R a.key = true ∨ keyN (ls.take (i + 1)) a.key ≤ 1) ∧ keyN (ls.take (i + 1)) a.key ≤ 10
theorem keyN_append (l m : List PLine) (k : ByteArray) : keyN (l ++ m) k = keyN l k + keyN m k := by simp [keyN]
theorem keyN_take (ls : List PLine) (i : Nat) (k : ByteArray) : keyN (ls.take i) k ≤ keyN ls k := by
 have := keyN_append (ls.take i) (ls.drop i) k
 rw [List.take_append_drop] at this
 omega
theorem keyN_one (a : PLine) (k : ByteArray) : keyN [a] k = if a.key = k then 1 else 0 := by
 unfold keyN
 by_cases h : a.key = k
 ·simp [h]
 ·have : (a.key.toList == k.toList) = false := by
   rw [beq_eq_false_iff_ne]; exact fun e => h (toList_inj e)
  simp [h, this]
theorem keyN_succ {ls : List PLine} {i : Nat} {a : PLine} (h : ls[i]? = some a) (k : ByteArray) : keyN (ls.take (i + 1)) k = keyN (ls.take i) k + if a.key = k then 1 else 0 := by
 rw [List.take_add_one, h, keyN_append]
 simp only [Option.toList, keyN_one]
theorem take_succ_mem {α : Type} {ls : List α} {i : Nat} {a b : α} (h : ls[i]? = some a) : b ∈ ls.take (i + 1) ↔ b ∈ ls.take i ∨ b = a := by
 rw [List.take_add_one, h]; simp
theorem linesOk_spec {R : List Plain} {ls : List PLine} (h : ∀ i, i < ls.length → SpecAt R ls i) : LinesOk R ls := by
 refine ⟨fun a ha => ?_, ?_, ?_⟩
 ·obtain ⟨i, hi, rfl⟩ := List.mem_iff_getElem.1 ha
  obtain ⟨b, hb, hf, _⟩ := h i hi
  rw [List.getElem?_eq_getElem hi] at hb
  rw [Option.some.inj hb]; exact hf
 ·refine pairwise_adj (lineLt_trans R) ls fun i a b ha hb => ?_
  obtain ⟨hi, _⟩ := List.getElem?_eq_some_iff.1 hb
  obtain ⟨b', hb', _, hadj, _⟩ := h (i + 1) hi
  rw [hb] at hb'; cases hb'
  rcases hadj with h0 | ⟨c, hc, hl⟩
  ·omega
  ·rw [Nat.add_sub_cancel, ha] at hc; cases hc; exact hl
 ·have key : ∀ j, j ≤ ls.length → ∀ a ∈ ls.take j, (manyR R a.key = true ∨ keyN (ls.take j) a.key ≤ 1) ∧ keyN (ls.take j) a.key ≤ 10 := by
   intro j
   induction j with
   | zero => intro _ a ha; simp at ha
   | succ j ih =>
    intro hj a ha
    obtain ⟨b, hb, hs⟩ := h j (by omega)
    by_cases hk : b.key = a.key
    ·rw [← hk]; exact hs.2.2
    ·have := keyN_succ hb a.key
     rw [if_neg hk, Nat.add_zero] at this
     rw [this]
     rcases (take_succ_mem hb).1 ha with h1 | rfl
     ·exact ih (by omega) a h1
     ·exact absurd rfl hk
  intro a ha
  have := key ls.length (Nat.le_refl _) a (by rw [List.take_length]; exact ha)
  rwa [List.take_length] at this
theorem spec_linesOk {R : List Plain} {ls : List PLine} (h : LinesOk R ls) (i : Nat) (hi : i < ls.length) : SpecAt R ls i := by
 refine ⟨ls[i], List.getElem?_eq_getElem hi, h.1 _ (List.getElem_mem _), ?_, ?_, ?_⟩
 ·by_cases h0 : i = 0
  ·exact .inl h0
  ·exact .inr ⟨ls[i - 1], List.getElem?_eq_getElem _, adj_pairwise h.2.1 (i - 1) i (by omega) _ _ (List.getElem?_eq_getElem _) (List.getElem?_eq_getElem hi)⟩
 ·have := keyN_take ls (i + 1) ls[i].key
  rcases (h.2.2 ls[i] (List.getElem_mem _)).1 with h1 | h1
  ·exact .inl h1
  ·exact .inr (by omega)
 ·have := keyN_take ls (i + 1) ls[i].key
  have := (h.2.2 ls[i] (List.getElem_mem _)).2
  omega
theorem linesOk_impl {R : List Plain} {ls : List PLine} (h : ∀ i a, ls[i]? = some a → lineFault R (ls.take i) a = 0) (hs : ∀ i a b, ls[i]? = some a → ls[i + 1]? = some b → lineLt R b a = false) : LinesOk R ls := by
 refine linesOk_spec fun i hi => ?_
 have hz := lineFault_zero.1 (h i ls[i] (List.getElem?_eq_getElem hi))
 refine ⟨ls[i], List.getElem?_eq_getElem hi, hz.1, ?_, ?_, ?_⟩
 ·by_cases h0 : i = 0
  ·exact .inl h0
  right
  have hz' := lineFault_zero.1 (h (i - 1) ls[i - 1] (List.getElem?_eq_getElem (by omega)))
  refine ⟨ls[i - 1], List.getElem?_eq_getElem _, ?_⟩
  have hn := hs (i - 1) ls[i - 1] ls[i] (List.getElem?_eq_getElem _) (by rw [show i - 1 + 1 = i by omega]; exact List.getElem?_eq_getElem hi)
  have hm : ls[i - 1] ∈ ls.take i := by
   rw [List.mem_iff_getElem]; exact ⟨i - 1, by simp; omega, by simp⟩
  have h2 := hz.2.1 _ hm
  generalize ls[i - 1] = b at *
  generalize ls[i] = a at *
  rw [← Bool.not_eq_true, lineLt_iff] at hn
  rw [lineLt_iff]
  have hka : pickR R a.key ≠ none := fun e => by have := hz.1; rw [fitsIn_none _ e] at this; cases this
  have hkb : pickR R b.key ≠ none := fun e => by have := hz'.1; rw [fitsIn_none _ e] at this; cases this
  by_cases hp : placeI R b.key = placeI R a.key
  ·have hk := place_same hkb hka hp
   have hw := (h2 hk).2
   refine .inr ⟨hp, ?_⟩
   by_cases hlt : b.ws < a.ws
   ·exact hlt
   ·exact absurd (Tot.tri _ _ hlt (fun q => hn (.inr ⟨hp.symm, q⟩))) hw
  ·left
   have : ¬ placeI R a.key < placeI R b.key := fun q => hn (.inl q)
   omega
 ·rw [keyN_succ (List.getElem?_eq_getElem hi), if_pos rfl]
  by_cases hm : manyR R ls[i].key = true
  ·exact .inl hm
  ·right
   have : keyN (ls.take i) ls[i].key = 0 := by
    unfold keyN
    rw [List.countP_eq_zero]
    intro o ho hk
    exact hm (hz.2.1 o ho (toList_inj (by simpa using hk))).1
   omega
 ·rw [keyN_succ (List.getElem?_eq_getElem hi), if_pos rfl]
  have := hz.2.2
  omega
theorem impl_linesOk {R : List Plain} {ls : List PLine} (h : LinesOk R ls) : (∀ i a, ls[i]? = some a → lineFault R (ls.take i) a = 0) ∧ ∀ i a b, ls[i]? = some a → ls[i + 1]? = some b → lineLt R b a = false := by
 constructor
 ·intro i a ha
  obtain ⟨hi, rfl⟩ := List.getElem?_eq_some_iff.1 ha
  have hc := h.2.2 ls[i] (List.getElem_mem _)
  have h1 := keyN_take ls (i + 1) ls[i].key
  rw [keyN_succ (List.getElem?_eq_getElem hi), if_pos rfl] at h1
  refine lineFault_zero.2 ⟨h.1 _ (List.getElem_mem _), fun o ho hk => ⟨?_, ?_⟩, by omega⟩
  ·rcases hc.1 with h2 | h2
   ·exact h2
   ·have : keyN (ls.take i) ls[i].key = 0 := by omega
    unfold keyN at this
    rw [List.countP_eq_zero] at this
    exact absurd (by simp [hk]) (this o ho)
  ·intro e
   obtain ⟨j, hj, rfl⟩ := List.mem_iff_getElem.1 ho
   simp only [List.length_take, List.getElem_take] at hj e hk
   have := adj_pairwise h.2.1 j i (by omega) _ _ (List.getElem?_eq_getElem (by omega)) (List.getElem?_eq_getElem hi)
   rw [lineLt_iff, hk, e] at this
   rcases this with q | ⟨_, q⟩
   ·omega
   ·exact Tot.irr _ q
 ·intro i a b ha hb
  have := adj_pairwise h.2.1 i (i + 1) (by omega) a b ha hb
  rw [← Bool.not_eq_true]
  exact fun k => lineLt_irr R _ (lineLt_trans R _ _ _ this k)
def blockLt (a b : PBlock) : Bool := decide (a.kind.toList < b.kind.toList) || (decide (a.kind.toList = b.kind.toList) && decide (a.name.toList < b.name.toList))
theorem blockLt_iff {a b : PBlock} : blockLt a b = true ↔ a.kind.toList < b.kind.toList ∨ a.kind.toList = b.kind.toList ∧ a.name.toList < b.name.toList := by simp [blockLt]
theorem blockLt_irr (a : PBlock) : ¬ blockLt a a = true := by
 rw [blockLt_iff]
 rintro (h | ⟨_, h⟩)
 ·exact Tot.irr _ h
 ·exact Tot.irr _ h
theorem blockLt_trans (a b c : PBlock) (h : blockLt a b = true) (k : blockLt b c = true) : blockLt a c = true := by
 rw [blockLt_iff] at *
 rcases h with h | ⟨h, h'⟩ <;> rcases k with k | ⟨k, k'⟩
 ·exact .inl (Tot.trans _ _ _ h k)
 ·exact .inl (k ▸ h)
 ·exact .inl (h ▸ k)
 ·exact .inr ⟨h.trans k, Tot.trans _ _ _ h' k'⟩
def headFault (es : List PBlock) (kind name : ByteArray) : Int :=
 if (rulesOf kind).length = 0 then 3 else if nameB name.data.toList = false then 4
 else if es.any (fun o => o.kind.toList == kind.toList && o.name.toList == name.toList) = true then 9
 else if 60 ≤ es.length then 10 else 0
theorem headFault_zero {es : List PBlock} {kind name : ByteArray} : headFault es kind name = 0 ↔ (rulesOf kind).length ≠ 0 ∧ nameB name.data.toList = true ∧ (∀ o ∈ es, ¬ (o.kind = kind ∧ o.name = name)) ∧ es.length < 60 := by
 unfold headFault
 constructor
 ·intro h
  split at h
  ·omega
  split at h
  ·omega
  split at h
  ·omega
  split at h
  ·omega
  rename_i h1 h2 h3 h4
  refine ⟨h1, by simpa using h2, fun o ho hk => ?_, by omega⟩
  apply h3
  rw [List.any_eq_true]
  exact ⟨o, ho, by simp [hk.1, hk.2]⟩
 ·rintro ⟨h1, h2, h3, h4⟩
  rw [if_neg h1, if_neg (by simp [h2]), if_neg ?_, if_neg (by omega)]
  rw [List.any_eq_true]
  rintro ⟨o, ho, hk⟩
  simp only [Bool.and_eq_true, beq_iff_eq] at hk
  exact h3 o ho ⟨toList_inj hk.1, toList_inj hk.2⟩
def SheetOk (bs : List PBlock) : Prop := bs.length ≤ 60 ∧ (∀ b ∈ bs, (rulesOf b.kind).length ≠ 0 ∧ nameB b.name.data.toList = true ∧ LinesOk (rulesOf b.kind) b.lines) ∧ bs.Pairwise (fun a b => blockLt a b = true)
def SpecBlock (bs : List PBlock) (i : Nat) : Prop := ∃ b, bs[i]? = some b ∧ (rulesOf b.kind).length ≠ 0 ∧ nameB b.name.data.toList = true ∧ LinesOk (rulesOf b.kind) b.lines ∧ (i = 0 ∨ ∃ a, bs[i - 1]? = some a ∧ blockLt a b = true)
theorem sheetOk_spec {bs : List PBlock} (hl : bs.length ≤ 60) (h : ∀ i, i < bs.length → SpecBlock bs i) : SheetOk bs := by
 refine ⟨hl, fun b hb => ?_, ?_⟩
 ·obtain ⟨i, hi, rfl⟩ := List.mem_iff_getElem.1 hb
  obtain ⟨c, hc, h1, h2, h3, _⟩ := h i hi
  rw [List.getElem?_eq_getElem hi] at hc
  rw [Option.some.inj hc]; exact ⟨h1, h2, h3⟩
 ·refine pairwise_adj blockLt_trans bs fun i a b ha hb => ?_
  obtain ⟨hi, _⟩ := List.getElem?_eq_some_iff.1 hb
  obtain ⟨b', hb', _, _, _, hadj⟩ := h (i + 1) hi
  rw [hb] at hb'; cases hb'
  rcases hadj with h0 | ⟨c, hc, hl⟩
  ·omega
  ·rw [Nat.add_sub_cancel, ha] at hc; cases hc; exact hl
theorem spec_sheetOk {bs : List PBlock} (h : SheetOk bs) (i : Nat) (hi : i < bs.length) : SpecBlock bs i := by
 have hb := h.2.1 bs[i] (List.getElem_mem _)
 refine ⟨bs[i], List.getElem?_eq_getElem hi, hb.1, hb.2.1, hb.2.2, ?_⟩
 by_cases h0 : i = 0
 ·exact .inl h0
 ·exact .inr ⟨bs[i - 1], List.getElem?_eq_getElem _, adj_pairwise h.2.2 (i - 1) i (by omega) _ _ (List.getElem?_eq_getElem _) (List.getElem?_eq_getElem hi)⟩
theorem sheetOk_impl {bs : List PBlock} (h : ∀ i b, bs[i]? = some b → headFault (bs.take i) b.kind b.name = 0 ∧ LinesOk (rulesOf b.kind) b.lines) (hs : ∀ i a b, bs[i]? = some a → bs[i + 1]? = some b → blockLt b a = false) : SheetOk bs := by
 have hl : bs.length ≤ 60 := by
  by_cases h0 : bs.length = 0
  ·omega
  ·have := (headFault_zero.1 (h (bs.length - 1) bs[bs.length - 1] (List.getElem?_eq_getElem (by omega))).1).2.2.2
   simp at this
   omega
 refine sheetOk_spec hl fun i hi => ?_
 have hb := h i bs[i] (List.getElem?_eq_getElem hi)
 have hz := headFault_zero.1 hb.1
 refine ⟨bs[i], List.getElem?_eq_getElem hi, hz.1, hz.2.1, hb.2, ?_⟩
 by_cases h0 : i = 0
 ·exact .inl h0
 right
 refine ⟨bs[i - 1], List.getElem?_eq_getElem _, ?_⟩
 have hn := hs (i - 1) bs[i - 1] bs[i] (List.getElem?_eq_getElem _) (by rw [show i - 1 + 1 = i by omega]; exact List.getElem?_eq_getElem hi)
 have hm : bs[i - 1] ∈ bs.take i := by
  rw [List.mem_iff_getElem]; exact ⟨i - 1, by simp; omega, by simp⟩
 have h2 := hz.2.2.1 _ hm
 generalize bs[i - 1] = a at *
 generalize bs[i] = b at *
 rw [← Bool.not_eq_true, blockLt_iff] at hn
 rw [blockLt_iff]
 by_cases h3 : a.kind.toList < b.kind.toList
 ·exact .inl h3
 ·have e1 := Tot.tri _ _ h3 (fun q => hn (.inl q))
  refine .inr ⟨e1, ?_⟩
  by_cases h4 : a.name.toList < b.name.toList
  ·exact h4
  ·have e2 := Tot.tri _ _ h4 (fun q => hn (.inr ⟨e1.symm, q⟩))
   exact absurd ⟨toList_inj e1, toList_inj e2⟩ h2
theorem impl_sheetOk {bs : List PBlock} (h : SheetOk bs) : (∀ i b, bs[i]? = some b → headFault (bs.take i) b.kind b.name = 0 ∧ LinesOk (rulesOf b.kind) b.lines) ∧ ∀ i a b, bs[i]? = some a → bs[i + 1]? = some b → blockLt b a = false := by
 constructor
 ·intro i b hb
  obtain ⟨hi, rfl⟩ := List.getElem?_eq_some_iff.1 hb
  have hk := h.2.1 bs[i] (List.getElem_mem _)
  refine ⟨headFault_zero.2 ⟨hk.1, hk.2.1, fun o ho e => ?_, by have := h.1; simp; omega⟩, hk.2.2⟩
  obtain ⟨j, hj, rfl⟩ := List.mem_iff_getElem.1 ho
  simp only [List.length_take, List.getElem_take] at hj e
  have := adj_pairwise h.2.2 j i (by omega) _ _ (List.getElem?_eq_getElem (by omega)) (List.getElem?_eq_getElem hi)
  rw [blockLt_iff, e.1, e.2] at this
  rcases this with q | ⟨_, q⟩ <;> exact Tot.irr _ q
 ·intro i a b ha hb
  have := adj_pairwise h.2.2 i (i + 1) (by omega) a b ha hb
  rw [← Bool.not_eq_true]
  exact fun k => blockLt_irr _ (blockLt_trans _ _ _ this k)
open Classical in
noncomputable def linesB (R : List Plain) (ls : List PLine) : Bool := decide (LinesOk R ls)
open Classical in
noncomputable def sheetB (bs : List PBlock) : Bool := decide (SheetOk bs)
theorem linesB_iff {R : List Plain} {ls : List PLine} : linesB R ls = true ↔ LinesOk R ls := by simp [linesB]
theorem sheetB_iff {bs : List PBlock} : sheetB bs = true ↔ SheetOk bs := by simp [sheetB]
end Go.Proofs.YtpdahhnjhggocabGreatDoor
namespace Go.Proofs.YtpdahhnjhggocabGreatDoor
def GoodLs (R : List Plain) (ls : List PLine) : Prop := ∀ i a, ls[i]? = some a → lineFault R (ls.take i) a = 0
theorem GoodLs.nil (R : List Plain) : GoodLs R [] := by intro i a h; simp at h
theorem GoodLs.snoc {R : List Plain} {ls : List PLine} {a : PLine} (h : GoodLs R ls) (ha : lineFault R ls a = 0) : GoodLs R (ls ++ [a]) := by
 intro i b hb
 by_cases hi : i < ls.length
 ·rw [List.getElem?_append_left hi] at hb
  rw [List.take_append_of_le_length (by omega)]
  exact h i b hb
 ·rw [List.getElem?_append_right (by omega)] at hb
  have h0 : i - ls.length = 0 := by
   by_cases h0 : i - ls.length = 0
   ·exact h0
   ·rw [List.getElem?_eq_none (by simp; omega)] at hb; cases hb
  rw [h0] at hb
  cases hb
  rw [show i = ls.length by omega, List.take_append_of_le_length (Nat.le_refl _), List.take_length]
  exact ha
theorem GoodLs.front {R : List Plain} {ls : List PLine} {a : PLine} (h : GoodLs R (ls ++ [a])) : GoodLs R ls ∧ lineFault R ls a = 0 := by
 constructor
 ·intro i b hb
  have hi := (List.getElem?_eq_some_iff.1 hb).1
  have := h i b (by rw [List.getElem?_append_left hi]; exact hb)
  rwa [List.take_append_of_le_length (by omega)] at this
 ·have := h ls.length a (by rw [List.getElem?_append_right (Nat.le_refl _)]; simp)
  rwa [List.take_append_of_le_length (Nat.le_refl _), List.take_length] at this
theorem keyN_perm {l m : List PLine} (h : l.Perm m) (k : ByteArray) : keyN l k = keyN m k := h.countP_eq _
theorem any_perm {α : Type} {l m : List α} (h : l.Perm m) (p : α → Bool) : l.any p = m.any p := by
 rw [Bool.eq_iff_iff, List.any_eq_true, List.any_eq_true]
 exact ⟨fun ⟨x, hx, hp⟩ => ⟨x, h.mem_iff.1 hx, hp⟩, fun ⟨x, hx, hp⟩ => ⟨x, h.mem_iff.2 hx, hp⟩⟩
theorem lineFault_perm {R : List Plain} {l m : List PLine} (h : l.Perm m) (a : PLine) : lineFault R l a = lineFault R m a := by
 unfold lineFault
 rw [keyN_perm h, any_perm h]
def normLs (R : List Plain) (ls : List PLine) : List PLine := ls.foldl (fun acc a => putIn (lineLt R) a acc) []
theorem normLs_snoc (R : List Plain) (ls : List PLine) (a : PLine) : normLs R (ls ++ [a]) = putIn (lineLt R) a (normLs R ls) := by simp [normLs]
theorem fold_perm {α : Type} (lt : α → α → Bool) : ∀ (ls acc : List α), (ls.foldl (fun acc a => putIn lt a acc) acc).Perm (acc ++ ls)
 | [], acc => by simp
 | a :: ls, acc => by
  rw [List.foldl_cons]
  refine (fold_perm lt ls _).trans ?_
  refine ((putIn_perm lt a acc).append_right ls).trans ?_
  exact (List.perm_middle (a := a) (l₁ := acc) (l₂ := ls)).symm
theorem normLs_perm (R : List Plain) (ls : List PLine) : (normLs R ls).Perm ls := by
 have := fold_perm (lineLt R) ls []
 simpa [normLs] using this
theorem pairwise_putIn {α : Type} {lt : α → α → Bool} (ht : ∀ a b c, lt a b = true → lt b c = true → lt a c = true) (x : α) : ∀ (l : List α), l.Pairwise (fun a b => lt a b = true) → (∀ y ∈ l, lt y x = false → lt x y = true) → (putIn lt x l).Pairwise (fun a b => lt a b = true)
 | [], _, _ => List.pairwise_singleton _ _
 | y :: l, h, hx => by
  have h1 := List.pairwise_cons.1 h
  unfold putIn
  split
  ·rename_i hy
   refine List.pairwise_cons.2 ⟨fun z hz => ?_, pairwise_putIn ht x l h1.2 fun z hz => hx z (List.mem_cons_of_mem _ hz)⟩
   rcases List.mem_cons.1 ((putIn_perm lt x l).mem_iff.1 hz) with rfl | hz
   ·exact hy
   ·exact h1.1 z hz
  ·rename_i hy
   have hxy := hx y (List.mem_cons_self ..) (by simpa using hy)
   refine List.pairwise_cons.2 ⟨fun z hz => ?_, h⟩
   rcases List.mem_cons.1 hz with rfl | hz
   ·exact hxy
   ·exact ht _ _ _ hxy (h1.1 z hz)
theorem lineLt_tri {R : List Plain} {es : List PLine} {a b : PLine} (hb : b ∈ es) (hfb : fitsIn R b.key b.ws = true) (h : lineFault R es a = 0) (hn : lineLt R b a = false) : lineLt R a b = true := by
 have hz := lineFault_zero.1 h
 rw [← Bool.not_eq_true, lineLt_iff] at hn
 rw [lineLt_iff]
 have hka : pickR R a.key ≠ none := fun e => by have := hz.1; rw [fitsIn_none _ e] at this; cases this
 have hkb : pickR R b.key ≠ none := fun e => by rw [fitsIn_none _ e] at hfb; cases hfb
 by_cases hp : placeI R a.key = placeI R b.key
 ·have hk := place_same hka hkb hp
  have hw := (hz.2.1 b hb hk.symm).2
  refine .inr ⟨hp, ?_⟩
  by_cases hlt : a.ws < b.ws
  ·exact hlt
  ·exact absurd (Tot.tri _ _ (fun q => hn (.inr ⟨hp.symm, q⟩)) hlt) hw
 ·left
  have : ¬ placeI R b.key < placeI R a.key := fun q => hn (.inl q)
  omega
theorem GoodLs.fits {R : List Plain} {ls : List PLine} (h : GoodLs R ls) : ∀ a ∈ ls, fitsIn R a.key a.ws = true := by
 intro a ha
 obtain ⟨i, hi, rfl⟩ := List.mem_iff_getElem.1 ha
 exact (lineFault_zero.1 (h i _ (List.getElem?_eq_getElem hi))).1
theorem snoc_induct {α : Type} {P : List α → Prop} (h0 : P []) (h1 : ∀ l a, P l → P (l ++ [a])) (l : List α) : P l := by
 rw [← List.reverse_reverse l]
 induction l.reverse with
 | nil => exact h0
 | cons a m ih => rw [List.reverse_cons]; exact h1 _ _ ih
theorem normLs_sorted {R : List Plain} (ls : List PLine) : GoodLs R ls → (normLs R ls).Pairwise (fun a b => lineLt R a b = true) := by
 refine snoc_induct (P := fun ls => GoodLs R ls → (normLs R ls).Pairwise (fun a b => lineLt R a b = true)) (fun _ => .nil) (fun l a ih h => ?_) ls
 have hf := h.front
 rw [normLs_snoc]
 refine pairwise_putIn (lineLt_trans R) a _ (ih hf.1) fun y hy hn => ?_
 have hm := (normLs_perm R l).mem_iff.1 hy
 exact lineLt_tri hm (hf.1.fits y hm) hf.2 hn
theorem GoodLs.counts {R : List Plain} (ls : List PLine) : GoodLs R ls → ∀ a ∈ ls, (manyR R a.key = true ∨ keyN ls a.key ≤ 1) ∧ keyN ls a.key ≤ 10 := by
 refine snoc_induct (P := fun ls => GoodLs R ls → ∀ a ∈ ls, (manyR R a.key = true ∨ keyN ls a.key ≤ 1) ∧ keyN ls a.key ≤ 10) (fun _ a ha => by simp at ha) (fun l b ih h a ha => ?_) ls
 have hf := h.front
 rw [keyN_append, keyN_one]
 by_cases hk : b.key = a.key
 ·rw [if_pos hk, ← hk]
  have hz := lineFault_zero.1 hf.2
  refine ⟨?_, by omega⟩
  by_cases hm : manyR R b.key = true
  ·exact .inl hm
  ·right
   have : keyN l b.key = 0 := by
    unfold keyN
    rw [List.countP_eq_zero]
    intro o ho hk'
    exact hm (hz.2.1 o ho (toList_inj (by simpa using hk'))).1
   omega
 ·rw [if_neg hk, Nat.add_zero]
  rcases List.mem_append.1 ha with h1 | h1
  ·exact ih hf.1 a h1
  ·exact absurd (List.mem_singleton.1 h1).symm (fun e => hk (by rw [e]))
theorem normLs_ok {R : List Plain} {ls : List PLine} (h : GoodLs R ls) : LinesOk R (normLs R ls) := by
 have hp := normLs_perm R ls
 refine ⟨fun a ha => h.fits a (hp.mem_iff.1 ha), normLs_sorted ls h, fun a ha => ?_⟩
 rw [keyN_perm hp]
 exact h.counts ls a (hp.mem_iff.1 ha)
theorem normLs_unique {R : List Plain} {ls ms : List PLine} (h : GoodLs R ls) (hp : ms.Perm ls) (hs : ∀ i j : Nat, i < j → ∀ a b, ms[i]? = some a → ms[j]? = some b → lineLt R b a = false) : ms = normLs R ls := by
 have hstrict : ms.Pairwise (fun a b => lineLt R a b = true) := by
  have hN := normLs_ok h
  have hmem : ∀ a ∈ ms, a ∈ normLs R ls := fun a ha => (normLs_perm R ls).mem_iff.2 (hp.mem_iff.1 ha)
  have hnd : ms.Nodup := by
   have hq : (normLs R ls).Nodup := hN.2.1.imp (fun {a b} hab e => by subst e; exact lineLt_irr R _ hab)
   exact (hp.trans (normLs_perm R ls).symm).nodup_iff.2 hq
  rw [List.pairwise_iff_getElem]
  intro i j hi hj hij
  have hn := hs i j hij _ _ (List.getElem?_eq_getElem hi) (List.getElem?_eq_getElem hj)
  obtain ⟨x, hx, ex⟩ := List.mem_iff_getElem.1 (hmem _ (List.getElem_mem hi))
  obtain ⟨y, hy, ey⟩ := List.mem_iff_getElem.1 (hmem _ (List.getElem_mem hj))
  have hne : x ≠ y := by
   intro e; subst e
   have : ms[i] = ms[j] := ex.symm.trans ey
   exact (List.pairwise_iff_getElem.1 hnd) i j hi hj hij this
  rw [← ex, ← ey] at hn ⊢
  rcases Nat.lt_or_gt_of_ne hne with h1 | h1
  ·exact (List.pairwise_iff_getElem.1 hN.2.1) x y hx hy h1
  ·rw [(List.pairwise_iff_getElem.1 hN.2.1) y x hy hx h1] at hn; cases hn
 exact sorted_unique (lineLt_irr R) (lineLt_trans R) hstrict (normLs_sorted ls h) (hp.trans (normLs_perm R ls).symm)
def GoodBs (bs : List PBlock) : Prop := (∀ i b, bs[i]? = some b → headFault (bs.take i) b.kind b.name = 0) ∧ ∀ b ∈ bs, GoodLs (rulesOf b.kind) b.lines
theorem GoodBs.nil : GoodBs [] := ⟨by intro i a h; simp at h, by simp⟩
theorem GoodBs.snoc {bs : List PBlock} {b : PBlock} (h : GoodBs bs) (hb : headFault bs b.kind b.name = 0) (hl : GoodLs (rulesOf b.kind) b.lines) : GoodBs (bs ++ [b]) := by
 refine ⟨?_, fun c hc => ?_⟩
 ·intro i c hc
  by_cases hi : i < bs.length
  ·rw [List.getElem?_append_left hi] at hc
   rw [List.take_append_of_le_length (by omega)]
   exact h.1 i c hc
  ·rw [List.getElem?_append_right (by omega)] at hc
   have h0 : i - bs.length = 0 := by
    by_cases h0 : i - bs.length = 0
    ·exact h0
    ·rw [List.getElem?_eq_none (by simp; omega)] at hc; cases hc
   rw [h0] at hc
   cases hc
   rw [show i = bs.length by omega, List.take_append_of_le_length (Nat.le_refl _), List.take_length]
   exact hb
 ·rcases List.mem_append.1 hc with h1 | h1
  ·exact h.2 c h1
  ·rw [List.mem_singleton.1 h1]; exact hl
theorem GoodBs.front {bs : List PBlock} {b : PBlock} (h : GoodBs (bs ++ [b])) : GoodBs bs ∧ headFault bs b.kind b.name = 0 ∧ GoodLs (rulesOf b.kind) b.lines := by
 refine ⟨⟨?_, fun c hc => h.2 c (List.mem_append_left _ hc)⟩, ?_, h.2 b (by simp)⟩
 ·intro i c hc
  have hi := (List.getElem?_eq_some_iff.1 hc).1
  have := h.1 i c (by rw [List.getElem?_append_left hi]; exact hc)
  rwa [List.take_append_of_le_length (by omega)] at this
 ·have := h.1 bs.length b (by rw [List.getElem?_append_right (Nat.le_refl _)]; simp)
  rwa [List.take_append_of_le_length (Nat.le_refl _), List.take_length] at this
def normB (b : PBlock) : PBlock := ⟨b.kind, b.name, normLs (rulesOf b.kind) b.lines⟩
def normBs (bs : List PBlock) : List PBlock := (bs.map normB).foldl (fun acc a => putIn blockLt a acc) []
theorem normBs_snoc (bs : List PBlock) (b : PBlock) : normBs (bs ++ [b]) = putIn blockLt (normB b) (normBs bs) := by simp [normBs]
theorem normBs_perm (bs : List PBlock) : (normBs bs).Perm (bs.map normB) := by
 have := fold_perm blockLt (bs.map normB) []
 simpa [normBs] using this
theorem headFault_perm {l m : List PBlock} (h : (l.map fun b => (b.kind, b.name)).Perm (m.map fun b => (b.kind, b.name))) (kind name : ByteArray) : headFault l kind name = headFault m kind name := by
 have e1 : ∀ l : List PBlock, l.any (fun o => o.kind.toList == kind.toList && o.name.toList == name.toList) = (l.map fun b => (b.kind, b.name)).any (fun p => p.1.toList == kind.toList && p.2.toList == name.toList) := by
  intro l; rw [List.any_map]; rfl
 have e2 : l.length = m.length := by have := h.length_eq; simpa using this
 unfold headFault
 rw [e1 l, e1 m, any_perm h, e2]
theorem headFault_norm (bs : List PBlock) (kind name : ByteArray) : headFault (normBs bs) kind name = headFault bs kind name := by
 refine headFault_perm ?_ kind name
 refine ((normBs_perm bs).map _).trans ?_
 rw [List.map_map]
 exact .refl _
theorem blockLt_tri {es : List PBlock} {a b : PBlock} (hb : b ∈ es) (h : headFault es a.kind a.name = 0) (hn : blockLt b a = false) : blockLt a b = true := by
 have hz := (headFault_zero.1 h).2.2.1 b hb
 rw [← Bool.not_eq_true, blockLt_iff] at hn
 rw [blockLt_iff]
 by_cases h3 : a.kind.toList < b.kind.toList
 ·exact .inl h3
 ·have e1 := Tot.tri _ _ (fun q => hn (.inl q)) h3
  refine .inr ⟨e1.symm, ?_⟩
  by_cases h4 : a.name.toList < b.name.toList
  ·exact h4
  ·have e2 := Tot.tri _ _ (fun q => hn (.inr ⟨e1, q⟩)) h4
   exact absurd ⟨toList_inj e1, toList_inj e2⟩ hz
theorem normBs_sorted (bs : List PBlock) : GoodBs bs → (normBs bs).Pairwise (fun a b => blockLt a b = true) := by
 refine snoc_induct (P := fun bs => GoodBs bs → (normBs bs).Pairwise (fun a b => blockLt a b = true)) (fun _ => .nil) (fun l a ih h => ?_) bs
 have hf := h.front
 rw [normBs_snoc]
 refine pairwise_putIn blockLt_trans _ _ (ih hf.1) fun y hy hn => ?_
 have := headFault_norm l a.kind a.name
 rw [hf.2.1] at this
 exact blockLt_tri (a := normB a) hy this hn
theorem normBs_ok {bs : List PBlock} (h : GoodBs bs) : SheetOk (normBs bs) := by
 have hp := normBs_perm bs
 refine ⟨?_, fun b hb => ?_, normBs_sorted bs h⟩
 ·rw [hp.length_eq, List.length_map]
  by_cases h0 : bs.length = 0
  ·omega
  ·have := (headFault_zero.1 (h.1 (bs.length - 1) bs[bs.length - 1] (List.getElem?_eq_getElem (by omega)))).2.2.2
   simp at this
   omega
 ·obtain ⟨c, hc, rfl⟩ := List.mem_map.1 (hp.mem_iff.1 hb)
  obtain ⟨i, hi, rfl⟩ := List.mem_iff_getElem.1 hc
  have hz := headFault_zero.1 (h.1 i _ (List.getElem?_eq_getElem hi))
  exact ⟨hz.1, hz.2.1, normLs_ok (h.2 _ hc)⟩
theorem normBs_unique {bs ms : List PBlock} (h : GoodBs bs) (hp : ms.Perm (bs.map normB)) (hs : ∀ i j : Nat, i < j → ∀ a b, ms[i]? = some a → ms[j]? = some b → blockLt b a = false) : ms = normBs bs := by
 have hstrict : ms.Pairwise (fun a b => blockLt a b = true) := by
  have hN := normBs_sorted bs h
  have hmem : ∀ a ∈ ms, a ∈ normBs bs := fun a ha => (normBs_perm bs).mem_iff.2 (hp.mem_iff.1 ha)
  have hnd : ms.Nodup := by
   have hq : (normBs bs).Nodup := hN.imp (fun {a b} hab e => by subst e; exact blockLt_irr _ hab)
   exact (hp.trans (normBs_perm bs).symm).nodup_iff.2 hq
  rw [List.pairwise_iff_getElem]
  intro i j hi hj hij
  have hn := hs i j hij _ _ (List.getElem?_eq_getElem hi) (List.getElem?_eq_getElem hj)
  obtain ⟨x, hx, ex⟩ := List.mem_iff_getElem.1 (hmem _ (List.getElem_mem hi))
  obtain ⟨y, hy, ey⟩ := List.mem_iff_getElem.1 (hmem _ (List.getElem_mem hj))
  have hne : x ≠ y := by
   intro e; subst e
   have : ms[i] = ms[j] := ex.symm.trans ey
   exact (List.pairwise_iff_getElem.1 hnd) i j hi hj hij this
  rw [← ex, ← ey] at hn ⊢
  rcases Nat.lt_or_gt_of_ne hne with h1 | h1
  ·exact (List.pairwise_iff_getElem.1 hN) x y hx hy h1
  ·rw [(List.pairwise_iff_getElem.1 hN) y x hy hx h1] at hn; cases hn
 exact sorted_unique blockLt_irr blockLt_trans hstrict (normBs_sorted bs h) (hp.trans (normBs_perm bs).symm)
def linesFrom : List UInt8 → List UInt8 → List (List UInt8)
 | acc, [] => if acc = [] then [] else [acc]
 | acc, c :: l => if c = 10 then acc :: linesFrom [] l else linesFrom (acc ++ [c]) l
def textLines (l : List UInt8) : List (List UInt8) := linesFrom [] l
inductive PRes where
 | bad (line : Nat) (code : Int)
 | good (bs : List PBlock)
def keyOf (w : List UInt8) : ByteArray := ⟨w.toArray⟩
def stepW (done : List PBlock) : Option PBlock → List UInt8 → List (List UInt8) → Int × List PBlock × Option PBlock
 | none, w, ws => match ws with
  | [n] => (headFault done (keyOf w) (keyOf n), done, some ⟨keyOf w, keyOf n, []⟩)
  | _ => (2, done, none)
 | some b, w, ws => if w = [101, 110, 100] ∧ ws = [] then (0, done ++ [b], none) else (lineFault (rulesOf b.kind) b.lines ⟨keyOf w, ws⟩, done, some ⟨b.kind, b.name, b.lines ++ [⟨keyOf w, ws⟩]⟩)
def parseGo : Nat → List PBlock → Option PBlock → List (List UInt8) → PRes
 | n, done, op, [] => match op with
  | none => .good done
  | some _ => .bad (n + 1) 8
 | n, done, op, l :: rest => match cutL l with
  | none => .bad (n + 1) 1
  | some [] => parseGo (n + 1) done op rest
  | some (w :: ws) => if (stepW done op w ws).1 ≠ 0 then .bad (n + 1) (stepW done op w ws).1 else parseGo (n + 1) (stepW done op w ws).2.1 (stepW done op w ws).2.2 rest
def parseT (text : List UInt8) : PRes := if 20000 < text.length ∨ 400 < (textLines text).length then .bad 0 11 else parseGo 0 [] none (textLines text)
def GoodSt (done : List PBlock) : Option PBlock → Prop
 | none => GoodBs done
 | some b => GoodBs done ∧ headFault done b.kind b.name = 0 ∧ GoodLs (rulesOf b.kind) b.lines
theorem stepW_end (done : List PBlock) (b : PBlock) : stepW done (some b) [101, 110, 100] [] = (0, done ++ [b], none) := rfl
theorem stepW_in {done : List PBlock} {b : PBlock} {w : List UInt8} {ws : List (List UInt8)} (h : ¬ (w = [101, 110, 100] ∧ ws = [])) : stepW done (some b) w ws = (lineFault (rulesOf b.kind) b.lines ⟨keyOf w, ws⟩, done, some ⟨b.kind, b.name, b.lines ++ [⟨keyOf w, ws⟩]⟩) := by
 show (if _ then _ else _) = _
 rw [if_neg h]
theorem stepW_out {done : List PBlock} {w : List UInt8} {ws : List (List UInt8)} (h : ws.length ≠ 1) : stepW done none w ws = (2, done, none) := by
 match ws, h with
 | [], _ => rfl
 | _ :: _ :: _, _ => rfl
theorem stepW_head (done : List PBlock) (w n : List UInt8) : stepW done none w [n] = (headFault done (keyOf w) (keyOf n), done, some ⟨keyOf w, keyOf n, []⟩) := rfl
theorem GoodSt.step {done : List PBlock} {op : Option PBlock} {w : List UInt8} {ws : List (List UInt8)} (h : GoodSt done op) (h0 : (stepW done op w ws).1 = 0) : GoodSt (stepW done op w ws).2.1 (stepW done op w ws).2.2 := by
 cases op with
 | none =>
  by_cases hl : ws.length = 1
  ·match ws, hl with
   | [n], _ => exact ⟨h, h0, GoodLs.nil _⟩
  ·rw [stepW_out hl] at h0; cases h0
 | some b =>
  obtain ⟨h1, h2, h3⟩ := h
  by_cases he : w = [101, 110, 100] ∧ ws = []
  ·obtain ⟨rfl, rfl⟩ := he
   exact h1.snoc h2 h3
  ·rw [stepW_in he] at h0 ⊢
   exact ⟨h1, h2, h3.snoc h0⟩
theorem parseGo_good : ∀ (ls : List (List UInt8)) (n : Nat) (done : List PBlock) (op : Option PBlock), GoodSt done op → ∀ bs, parseGo n done op ls = .good bs → GoodBs bs
 | [], n, done, none, h, bs, e => by cases e; exact h
 | [], n, done, some b, h, bs, e => by cases e
 | l :: rest, n, done, op, h, bs, e => by
  unfold parseGo at e
  split at e
  ·cases e
  ·exact parseGo_good rest _ _ _ h bs e
  ·split at e
   ·cases e
   ·rename_i h0
    exact parseGo_good rest _ _ _ (h.step (by simpa using h0)) bs e
theorem parseT_good {text : List UInt8} {bs : List PBlock} (h : parseT text = .good bs) : GoodBs bs := by
 unfold parseT at h
 split at h
 ·cases h
 ·exact parseGo_good _ _ [] none GoodBs.nil bs h
end Go.Proofs.YtpdahhnjhggocabGreatDoor
namespace Go.Proofs.YtpdahhnjhggocabGreatDoor
def lineL (a : PLine) : List UInt8 := a.key.data.toList ++ a.ws.flatMap (fun w => 32 :: wordL w)
def tooLongL (t : List UInt8) : Prop := 20000 < t.length ∨ 400 < (textLines t).length
instance (t : List UInt8) : Decidable (tooLongL t) := by unfold tooLongL; infer_instance
theorem parseT_long {t : List UInt8} (h : tooLongL t) : parseT t = .bad 0 11 := if_pos h
theorem parseT_go {t : List UInt8} (h : ¬ tooLongL t) : parseT t = parseGo 0 [] none (textLines t) := if_neg h
theorem linesFrom_line (l rest : List UInt8) (h : (10 : UInt8) ∉ l) : ∀ acc, linesFrom acc (l ++ 10 :: rest) = (acc ++ l) :: linesFrom [] rest := by
 induction l with
 | nil => intro acc; simp [linesFrom]
 | cons c l ih =>
  intro acc
  have hc : ¬ c = 10 := fun e => h (by simp [e])
  rw [List.cons_append, linesFrom, if_neg hc, ih (fun e => h (by simp [e]))]
  simp
theorem textLines_line (l rest : List UInt8) (h : (10 : UInt8) ∉ l) : textLines (l ++ 10 :: rest) = l :: textLines rest := by
 unfold textLines; rw [linesFrom_line l rest h]; rfl
theorem wordOf_end (w : List UInt8) (rest : List UInt8) (hr : endOk rest = true) : ∃ c r, wordL w ++ rest = c :: r ∧ c.toNat ≠ 32 ∧ c.toNat ≠ 35 ∧ wordOf (c :: r) = some (w, (wordL w).length) ∧ (c :: r).drop (wordL w).length = rest := by
 have hstop : ∀ l : List UInt8, l.all bareB = true → (l ++ rest).takeWhile bareB = l := by
  intro l hl
  rw [List.takeWhile_append_of_pos (List.all_eq_true.1 hl)]
  cases rest with
  | nil => simp
  | cons c r =>
   have hc : bareB c = false := by
    simp only [endOk, decide_eq_true_eq] at hr
    exact bareB_no (by omega)
   rw [List.takeWhile_cons, hc]; simp
 by_cases hb : bareL w = true
 ·have hw : wordL w = w := by simp [wordL, hb]
  unfold bareL at hb
  rw [Bool.and_eq_true] at hb
  rw [hw]
  match w, hb with
  | c :: r, hb =>
   have hc : bareB c = true := List.all_eq_true.1 hb.2 c (by simp)
   have h := bareB_true hc
   refine ⟨c, r ++ rest, rfl, by omega, by omega, ?_, ?_⟩
   ·have ht := hstop (c :: r) hb.2
    rw [List.cons_append] at ht
    rw [wordOf, if_neg (by omega), if_neg (by rw [hc]; decide), ht]
   ·rw [← List.cons_append, List.drop_left]
  | [], hb => simp at hb
 ·have hw : wordL w = quoteL w := by simp [wordL, hb]
  have hl : (quoteL w).length = (w.flatMap qb).length + 2 := by
   simp only [quoteL, List.length_append, List.length_cons, List.length_nil]
  refine ⟨34, w.flatMap qb ++ 34 :: rest, ?_, by decide, by decide, ?_, ?_⟩
  ·rw [hw]; simp [quoteL]
  ·rw [wordOf, if_pos (by decide), unq_written, hw, hl]; simp
  ·rw [hw, hl, show (w.flatMap qb).length + 2 = ((w.flatMap qb).length + 1) + 1 from rfl, List.drop_succ_cons, List.drop_append]
   simp
theorem Cut.tail {R : Option (List (List UInt8))} : ∀ (ws acc : List (List UInt8)), (∀ w ∈ ws, w.length ≤ 200) → acc.length + ws.length ≤ 8 → Cut acc (ws.flatMap fun w => 32 :: wordL w) R → R = some (acc ++ ws)
 | [], acc, _, _, h => by rw [List.append_nil]; exact Cut.nil h
 | w :: ws, acc, h200, h8, h => by
  rw [List.flatMap_cons, List.cons_append] at h
  have h := h.space (by decide)
  have hr : endOk (ws.flatMap fun w => 32 :: wordL w) = true := by
   cases ws with
   | nil => rfl
   | cons x ws => rw [List.flatMap_cons, List.cons_append]; rfl
  obtain ⟨c, r, hcr, h1, h2, hw, hd⟩ := wordOf_end w _ hr
  rw [hcr] at h
  have hok : endOk ((c :: r).drop (wordL w).length) = true ∧ w.length ≤ 200 ∧ acc.length < 8 := ⟨by rw [hd]; exact hr, h200 w (by simp), by simp at h8; omega⟩
  have h' := h.word h1 h2 hw hok
  rw [hd] at h'
  have := Cut.tail ws (acc ++ [w]) (fun x hx => h200 x (by simp [hx])) (by simp at h8 ⊢; omega) h'
  rw [this, List.append_assoc]; rfl
def KeysOk (R : List Plain) : Prop := ∀ p ∈ R, bareL p.1.data.toList = true ∧ p.1.data.toList.length ≤ 200 ∧ p.1.data.toList ≠ [101, 110, 100] ∧ p.2.1.length ≤ 3 ∧ ∀ t ∈ p.2.1, 1 ≤ t ∧ t ≤ 6
theorem keysOk (kind : ByteArray) : KeysOk (rulesOf kind) := by
 have := rulesOf_like kind
 have hk : ∀ p ∈ rulesOf kind, bareL p.1.data.toList = true ∧ p.1.data.toList.length ≤ 200 ∧ p.1.data.toList ≠ [101, 110, 100] := by
  unfold rulesOf
  split
  ·unfold teamRules; decide
  ·split
   ·unfold berthRules; decide
   ·split
    ·unfold serviceRules; decide
    ·simp
 intro p hp
 exact ⟨(hk p hp).1, (hk p hp).2.1, (hk p hp).2.2, (this.2 p hp).1, (this.2 p hp).2⟩
theorem kind_bare {kind : ByteArray} (h : (rulesOf kind).length ≠ 0) : bareL kind.data.toList = true ∧ kind.data.toList.length ≤ 200 := by
 rw [← ByteArray.toList_eq]
 unfold rulesOf at h
 split at h
 ·rename_i e; rw [e]; decide
 ·split at h
  ·rename_i e; rw [e]; decide
  ·split at h
   ·rename_i e; rw [e]; decide
   ·simp at h
theorem name_bare {l : List UInt8} (h : nameB l = true) : bareL l = true ∧ l.length ≤ 200 := by
 unfold nameB at h
 rw [Bool.and_eq_true, Bool.and_eq_true, decide_eq_true_eq, decide_eq_true_eq] at h
 refine ⟨?_, by omega⟩
 unfold bareL
 rw [Bool.and_eq_true]
 refine ⟨?_, ?_⟩
 ·cases l with
  | nil => simp at h
  | cons c l => rfl
 ·rw [List.all_eq_true]
  intro c hc
  have := List.all_eq_true.1 h.1 c hc
  unfold nameByte at this
  simp only [Bool.or_eq_true, Bool.and_eq_true, decide_eq_true_eq] at this
  exact bareB_mk (by omega)
theorem numB_len7 {l : List UInt8} (h : numB l = true) : l.length ≤ 7 := by
 unfold numB at h
 simp only [Bool.and_eq_true, decide_eq_true_eq] at h
 exact h.1.1.2
theorem fitsB_len {t : Int} {w : List UInt8} (h1 : 1 ≤ t) (h6 : t ≤ 6) (h : fitsB t w = true) : w.length ≤ 200 := by
 rcases six h1 h6 with rfl | rfl | rfl | rfl | rfl | rfl <;> unfold fitsB at h <;> simp at h
 ·have := numB_len7 h; omega
 ·unfold signB at h
  simp only [Bool.or_eq_true, Bool.and_eq_true] at h
  rcases h with h | h
  ·have := numB_len7 h; omega
  ·have := numB_len7 h.2
   simp at this
   omega
 ·have := (name_bare h).2; exact this
 ·exact h
 ·unfold yesB at h
  simp only [Bool.or_eq_true, beq_iff_eq] at h
  rcases h with rfl | rfl <;> decide
 ·unfold apartB at h
  simp only [Bool.or_eq_true, beq_iff_eq] at h
  rcases h with (rfl | rfl) | rfl <;> decide
theorem fits_line {kind : ByteArray} {a : PLine} (h : fitsIn (rulesOf kind) a.key a.ws = true) : bareL a.key.data.toList = true ∧ a.key.data.toList.length ≤ 200 ∧ a.key.data.toList ≠ [101, 110, 100] ∧ a.ws.length ≤ 3 ∧ ∀ w ∈ a.ws, w.length ≤ 200 := by
 cases hp : pickR (rulesOf kind) a.key with
 | none => rw [fitsIn_none _ hp] at h; cases h
 | some p =>
  obtain ⟨i, _, hi, hk⟩ := pick_place hp
  have hm : p ∈ rulesOf kind := List.mem_of_getElem? hi
  obtain ⟨k1, k2, k3, k4, k5⟩ := keysOk kind p hm
  rw [fitsIn_some _ hp] at h
  unfold fitsWords at h
  rw [Bool.and_eq_true, decide_eq_true_eq] at h
  rw [hk] at k1 k2 k3
  refine ⟨k1, k2, k3, by omega, fun w hw => ?_⟩
  obtain ⟨j, hj, rfl⟩ := List.mem_iff_getElem.1 hw
  have hz : fitsB (p.2.1[j]'(by omega)) a.ws[j] = true := by
   have := List.all_eq_true.1 h.2 (fitsB (p.2.1[j]'(by omega)) a.ws[j]) (List.mem_iff_getElem.2 ⟨j, by simp; omega, by simp⟩)
   simpa using this
  have ht := k5 _ (List.getElem_mem (by omega : j < p.2.1.length))
  exact fitsB_len ht.1 ht.2 hz
theorem SheetOk.good {bs : List PBlock} (h : SheetOk bs) : GoodBs bs := by
 have hi := (impl_sheetOk h).1
 refine ⟨fun i b hb => (hi i b hb).1, fun b hb => ?_⟩
 exact (impl_linesOk (h.2.1 b hb).2.2).1
theorem normLs_id {R : List Plain} {ls : List PLine} (h : LinesOk R ls) : normLs R ls = ls :=
 (sorted_unique (lineLt_irr R) (lineLt_trans R) h.2.1 (normLs_sorted ls (impl_linesOk h).1) (normLs_perm R ls).symm).symm
theorem parseGo_line : ∀ (ls : List (List UInt8)) (n : Nat) (done : List PBlock) (op : Option PBlock) (k : Nat) (c : Int), parseGo n done op ls = .bad k c → n < k ∧ (k ≤ n + ls.length ∨ k = n + ls.length + 1 ∧ c = 8)
 | [], n, done, none, k, c, e => by cases e
 | [], n, done, some b, k, c, e => by cases e; simp
 | l :: ls, n, done, op, k, c, e => by
  unfold parseGo at e
  split at e
  ·cases e; simp
  ·have := parseGo_line ls _ _ _ k c e; simp; omega
  ·split at e
   ·cases e; simp
   ·have := parseGo_line ls _ _ _ k c e; simp; omega
end Go.Proofs.YtpdahhnjhggocabGreatDoor
namespace Go.Proofs.YtpdahhnjhggocabGreatDoor
def hasK (ls : List PLine) (k : ByteArray) : Bool := ls.any (fun a => a.key.toList == k.toList)
def defL (p : Plain) : PLine := ⟨p.1, p.2.2.2⟩
def isUnsaid (ls : List PLine) (p : Plain) : Bool := !p.2.2.1 && !hasK ls p.1
def unsaid (R : List Plain) (ls : List PLine) : List PLine := (R.filter (isUnsaid ls)).map defL
def fillL (R : List Plain) (ls : List PLine) : List PLine := normLs R (ls ++ unsaid R ls)
def fillP (b : PBlock) : PBlock := ⟨b.kind, b.name, fillL (rulesOf b.kind) b.lines⟩
noncomputable def fillS (bs : List PBlock) : List PBlock := if sheetB bs = true then bs.map fillP else []
def ofK (ls : List PLine) (k : ByteArray) : List PLine := ls.filter (fun a => a.key.toList == k.toList)
def NodupK (R : List Plain) : Prop := R.Pairwise (fun p q => p.1 ≠ q.1)
theorem rulesOf_nodupK (kind : ByteArray) : NodupK (rulesOf kind) := by
 unfold rulesOf
 split
 ·unfold NodupK; decide
 ·split
  ·unfold NodupK; decide
  ·split
   ·unfold NodupK; decide
   ·exact .nil
theorem hasK_iff {ls : List PLine} {k : ByteArray} : hasK ls k = true ↔ ∃ a ∈ ls, a.key = k := by
 unfold hasK
 rw [List.any_eq_true]
 constructor
 ·rintro ⟨a, ha, h⟩; exact ⟨a, ha, toList_inj (by simpa using h)⟩
 ·rintro ⟨a, ha, rfl⟩; exact ⟨a, ha, by simp⟩
theorem hasK_false {ls : List PLine} {k : ByteArray} : hasK ls k = false ↔ ∀ a ∈ ls, a.key ≠ k := by
 rw [← Bool.not_eq_true, hasK_iff]
 constructor
 ·exact fun h a ha e => h ⟨a, ha, e⟩
 ·rintro h ⟨a, ha, e⟩; exact h a ha e
theorem hasK_perm {l m : List PLine} (h : l.Perm m) (k : ByteArray) : hasK l k = hasK m k := any_perm h _
theorem hasK_cons (a : PLine) (l : List PLine) (k : ByteArray) (h : a.key ≠ k) : hasK (a :: l) k = hasK l k := by
 unfold hasK
 rw [List.any_cons, show (a.key.toList == k.toList) = false from by rw [beq_eq_false_iff_ne]; exact fun e => h (toList_inj e), Bool.false_or]
theorem keyN_zero {ls : List PLine} {k : ByteArray} (h : ∀ a ∈ ls, a.key ≠ k) : keyN ls k = 0 := by
 unfold keyN
 rw [List.countP_eq_zero]
 intro a ha e
 exact h a ha (toList_inj (by simpa using e))
theorem good_more {R : List Plain} : ∀ (us ls : List PLine), GoodLs R ls → (∀ a ∈ us, fitsIn R a.key a.ws = true ∧ ∀ o ∈ ls, o.key ≠ a.key) → us.Pairwise (fun a b => a.key ≠ b.key) → GoodLs R (ls ++ us)
 | [], ls, h, _, _ => by rw [List.append_nil]; exact h
 | u :: us, ls, h, hu, hp => by
  have hq := List.pairwise_cons.1 hp
  have h1 : lineFault R ls u = 0 := by
   refine lineFault_zero.2 ⟨(hu u (by simp)).1, fun o ho e => absurd e ((hu u (by simp)).2 o ho), ?_⟩
   rw [keyN_zero (hu u (by simp)).2]; omega
  have := good_more us (ls ++ [u]) (h.snoc h1) (fun a ha => ⟨(hu a (by simp [ha])).1, fun o ho => by
   rcases List.mem_append.1 ho with ho | ho
   ·exact (hu a (by simp [ha])).2 o ho
   ·rw [List.mem_singleton.1 ho]; exact hq.1 a ha⟩) hq.2
  rwa [List.append_assoc] at this
theorem unsaid_mem {R : List Plain} {ls : List PLine} {a : PLine} (h : a ∈ unsaid R ls) : ∃ p ∈ R, p.2.2.1 = false ∧ hasK ls p.1 = false ∧ a = defL p := by
 obtain ⟨p, hp, rfl⟩ := List.mem_map.1 h
 rw [List.mem_filter] at hp
 have := hp.2
 simp only [isUnsaid, Bool.and_eq_true, Bool.not_eq_true'] at this
 exact ⟨p, hp.1, this.1, this.2, rfl⟩
theorem LinesOk.good {R : List Plain} {ls : List PLine} (h : LinesOk R ls) : GoodLs R ls := (impl_linesOk h).1
theorem fill_good {R : List Plain} {ls : List PLine} (h : LinesOk R ls) (hg : GoodR R) (hn : NodupK R) : GoodLs R (ls ++ unsaid R ls) := by
 refine good_more _ _ h.good (fun a ha => ?_) ?_
 ·obtain ⟨p, hp, hm, hk, rfl⟩ := unsaid_mem ha
  exact ⟨hg p hp hm, hasK_false.1 hk⟩
 ·unfold unsaid
  rw [List.pairwise_map]
  exact (hn.filter _).imp fun h => h
theorem fill_ok {R : List Plain} {ls : List PLine} (h : LinesOk R ls) (hg : GoodR R) (hn : NodupK R) : LinesOk R (fillL R ls) := normLs_ok (fill_good h hg hn)
def stepF (R : List Plain) (acc : List PLine) (p : Plain) : List PLine := if isUnsaid acc p = true then putIn (lineLt R) (defL p) acc else acc
theorem steps_fold (R : List Plain) (ls : List PLine) : ∀ (Q : List Plain) (acc : List PLine), NodupK Q → (∀ p ∈ Q, hasK acc p.1 = hasK ls p.1) → Q.foldl (stepF R) acc = (unsaid Q ls).foldl (fun acc a => putIn (lineLt R) a acc) acc
 | [], acc, _, _ => rfl
 | p :: Q, acc, hn, hk => by
  have hq := List.pairwise_cons.1 hn
  have e : isUnsaid acc p = isUnsaid ls p := by unfold isUnsaid; rw [hk p (by simp)]
  rw [List.foldl_cons]
  cases hu : isUnsaid ls p
  ·rw [show stepF R acc p = acc from by unfold stepF; rw [e, hu]; rfl, steps_fold R ls Q acc hq.2 (fun q hq' => hk q (by simp [hq'])), show unsaid (p :: Q) ls = unsaid Q ls from by unfold unsaid; rw [List.filter_cons, hu]; rfl]
  ·rw [show stepF R acc p = putIn (lineLt R) (defL p) acc from by unfold stepF; rw [e, hu]; rfl, steps_fold R ls Q _ hq.2 (fun q hq' => ?_), show unsaid (p :: Q) ls = defL p :: unsaid Q ls from by unfold unsaid; rw [List.filter_cons, hu]; rfl, List.foldl_cons]
   rw [hasK_perm (putIn_perm _ _ _), hasK_cons _ _ _ (hq.1 q hq'), hk q (by simp [hq'])]
theorem steps_fill {R : List Plain} {ls : List PLine} (h : LinesOk R ls) (hn : NodupK R) : R.foldl (stepF R) ls = fillL R ls := by
 rw [steps_fold R ls R ls hn (fun _ _ => rfl)]
 unfold fillL
 rw [normLs, List.foldl_append]
 rw [show ls.foldl (fun acc a => putIn (lineLt R) a acc) [] = ls from normLs_id h]
theorem hasK_of (ls : List PLine) (k : ByteArray) : (ofK ls k).isEmpty = !hasK ls k := by
 unfold ofK hasK
 induction ls with
 | nil => rfl
 | cons a l ih =>
  rw [List.filter_cons, List.any_cons]
  cases (a.key.toList == k.toList)
  ·simpa using ih
  ·rfl
def isHead (kind name : ByteArray) (b : PBlock) : Bool := (b.kind.toList == kind.toList) && (b.name.toList == name.toList)
def NoHead (bs : List PBlock) (kind name : ByteArray) (k : Nat) : Prop := ∀ b ∈ bs.take k, isHead kind name b = false
theorem NoHead.zero (bs : List PBlock) (kind name : ByteArray) : NoHead bs kind name 0 := by simp [NoHead]
theorem NoHead.succ {D T : List PBlock} {b : PBlock} {kind name : ByteArray} (h : NoHead (D ++ b :: T) kind name D.length) (hb : isHead kind name b = false) : NoHead (D ++ b :: T) kind name (D.length + 1) := by
 unfold NoHead at *
 rw [List.take_append_of_le_length (Nat.le_refl _), List.take_length] at h
 rw [List.take_append, List.take_of_length_le (by omega), show D.length + 1 - D.length = 1 from by omega]
 intro s hs
 simp only [List.take_succ_cons, List.take_zero, List.mem_append, List.mem_singleton] at hs
 rcases hs with hs | rfl
 ·exact h s hs
 ·exact hb
theorem NoHead.none {bs : List PBlock} {kind name : ByteArray} (h : NoHead bs kind name bs.length) : bs.find? (isHead kind name) = none := by
 unfold NoHead at h
 rw [List.take_length] at h
 rw [List.find?_eq_none]
 intro b hb; rw [h b hb]; decide
theorem NoHead.hit {D T : List PBlock} {b : PBlock} {kind name : ByteArray} (h : NoHead (D ++ b :: T) kind name D.length) (hb : isHead kind name b = true) : (D ++ b :: T).find? (isHead kind name) = some b := by
 unfold NoHead at h
 rw [List.take_append_of_le_length (Nat.le_refl _), List.take_length] at h
 rw [List.find?_append, List.find?_eq_none.2 (fun x hx => by rw [h x hx]; decide), Option.none_or, List.find?_cons_of_pos hb]
end Go.Proofs.YtpdahhnjhggocabGreatDoor
namespace Go.Proofs.YtpdahhnjhggocabGreatDoor
structure PChange where
 what : Int
 kind : ByteArray
 name : ByteArray
 key : ByteArray
 lines : List PLine
open Classical in
noncomputable def diffK (kind name : ByteArray) (x y : List PLine) (key : ByteArray) : List PChange := if ofK x key = ofK y key then [] else [⟨if (ofK y key).isEmpty = true then 4 else 3, kind, name, key, ofK y key⟩]
noncomputable def diffB (x y : PBlock) : List PChange := (rulesOf x.kind).flatMap fun p => diffK x.kind x.name x.lines y.lines p.1
def goneOf (b : PBlock) : PChange := ⟨1, b.kind, b.name, ⟨#[]⟩, []⟩
def newOf (b : PBlock) : PChange := ⟨2, b.kind, b.name, ⟨#[]⟩, b.lines⟩
def goneS (A B : List PBlock) : List PChange := (A.filter fun a => (B.find? (isHead a.kind a.name)).isNone).map goneOf
noncomputable def diffY (A : List PBlock) (y : PBlock) : List PChange := match A.find? (isHead y.kind y.name) with
 | none => [newOf y]
 | some x => diffB x y
noncomputable def diffS (A B : List PBlock) : List PChange := if sheetB A = true ∧ sheetB B = true then goneS A B ++ B.flatMap (diffY A) else []
end Go.Proofs.YtpdahhnjhggocabGreatDoor
namespace Go.Proofs.YtpdahhnjhggocabGreatDoor
theorem flatm_len {α β : Type} (f : α → List β) (k : Nat) : ∀ l : List α, (∀ x ∈ l, (f x).length ≤ k) → (l.flatMap f).length ≤ k * l.length
 | [], _ => by simp
 | a :: l, h => by
  have h1 := h a (by simp)
  have h2 := flatm_len f k l (fun x hx => h x (by simp [hx]))
  rw [List.flatMap_cons, List.length_append, List.length_cons, Nat.mul_add]
  omega
theorem diffK_len (kind name : ByteArray) (x y : List PLine) (key : ByteArray) : (diffK kind name x y key).length ≤ 1 := by
 unfold diffK
 split <;> simp
theorem diffB_len (x y : PBlock) : (diffB x y).length ≤ (rulesOf x.kind).length := by
 have := flatm_len (fun p : Plain => diffK x.kind x.name x.lines y.lines p.1) 1 (rulesOf x.kind) (fun p _ => diffK_len _ _ _ _ _)
 unfold diffB
 omega
theorem diffY_len (A : List PBlock) (y : PBlock) : (diffY A y).length ≤ 12 := by
 unfold diffY
 split
 ·simp
 ·exact Nat.le_trans (diffB_len _ _) (rulesOf_like _).1
theorem goneS_len (A B : List PBlock) : (goneS A B).length ≤ A.length := by
 unfold goneS
 rw [List.length_map]
 exact List.length_filter_le _ _
theorem diffS_len (A B : List PBlock) : (diffS A B).length ≤ 780 := by
 unfold diffS
 split
 ·rename_i h
  have h1 := (sheetB_iff.1 h.1).1
  have h2 := (sheetB_iff.1 h.2).1
  have h3 := goneS_len A B
  have h4 := flatm_len (diffY A) 12 B (fun y _ => diffY_len A y)
  rw [List.length_append]
  omega
 ·simp
end Go.Proofs.YtpdahhnjhggocabGreatDoor
namespace Go.Proofs.YtpdahhnjhggocabGreatDoor
theorem nodup_eq {R : List Plain} (hn : NodupK R) {p q : Plain} (hp : p ∈ R) (hq : q ∈ R) (e : p.1 = q.1) : p = q := by
 induction R with
 | nil => cases hp
 | cons r R ih =>
  have h := List.pairwise_cons.1 hn
  rcases List.mem_cons.1 hp with e1 | h1
  ·rcases List.mem_cons.1 hq with e2 | h2
   ·rw [e1, e2]
   ·exact absurd (e1 ▸ e) (h.1 q h2)
  ·rcases List.mem_cons.1 hq with e2 | h2
   ·exact absurd (e2 ▸ e.symm) (h.1 p h1)
   ·exact ih h.2 h1 h2
theorem pick_of {R : List Plain} (hn : NodupK R) {p : Plain} (hp : p ∈ R) : pickR R p.1 = some p := by
 unfold pickR
 have : (R.find? (fun q => q.1.toList == p.1.toList)).isSome = true := by
  rw [List.find?_isSome]; exact ⟨p, hp, by simp⟩
 obtain ⟨q, hq⟩ := Option.isSome_iff_exists.1 this
 have h1 := List.mem_of_find?_eq_some hq
 have h2 := List.find?_some hq
 have h3 : q.1 = p.1 := toList_inj (by simpa using h2)
 rw [hq, nodup_eq hn h1 hp h3]
theorem picked {R : List Plain} {key : ByteArray} {p : Plain} (h : pickR R key = some p) : p ∈ R ∧ p.1 = key := by
 unfold pickR at h
 have h2 := List.find?_some h
 exact ⟨List.mem_of_find?_eq_some h, toList_inj (by simpa using h2)⟩
theorem LinesOk.rule {R : List Plain} {ls : List PLine} (h : LinesOk R ls) {a : PLine} (ha : a ∈ ls) : ∃ p ∈ R, p.1 = a.key := by
 have := h.1 a ha
 unfold fitsIn at this
 cases hp : pickR R a.key with
 | none => rw [hp] at this; cases this
 | some p => exact ⟨p, (picked hp).1, (picked hp).2⟩
theorem LinesOk.once {R : List Plain} (hn : NodupK R) {ls : List PLine} (h : LinesOk R ls) {p : Plain} (hp : p ∈ R) (hm : p.2.2.1 = false) {a b : PLine} (ha : a ∈ ls) (hb : b ∈ ls) (ka : a.key = p.1) (kb : b.key = p.1) : a = b := by
 have h1 : keyN ls p.1 ≤ 1 := by
  rcases (h.2.2 a ha).1 with h1 | h1
  ·unfold manyR at h1; rw [ka, pick_of hn hp] at h1; simp [hm] at h1
  ·rw [← ka]; exact h1
 unfold keyN at h1
 rw [List.countP_eq_length_filter] at h1
 have a1 : a ∈ ls.filter (fun a => a.key.toList == p.1.toList) := List.mem_filter.2 ⟨ha, by simp [ka]⟩
 have b1 : b ∈ ls.filter (fun a => a.key.toList == p.1.toList) := List.mem_filter.2 ⟨hb, by simp [kb]⟩
 generalize ls.filter (fun a => a.key.toList == p.1.toList) = F at *
 match F, h1 with
 | [], _ => cases a1
 | [x], _ => rw [List.mem_singleton.1 a1, List.mem_singleton.1 b1]
 | _ :: _ :: _, h1 => simp at h1
theorem map_ok {f : PBlock → PBlock} (hk : ∀ b, (f b).kind = b.kind) (hnm : ∀ b, (f b).name = b.name) {bs : List PBlock} (h : SheetOk bs) (hl : ∀ b ∈ bs, LinesOk (rulesOf b.kind) (f b).lines) : SheetOk (bs.map f) := by
 refine ⟨by simpa using h.1, fun b hb => ?_, ?_⟩
 ·obtain ⟨a, ha, rfl⟩ := List.mem_map.1 hb
  have := h.2.1 a ha
  rw [hk, hnm]
  exact ⟨this.1, this.2.1, hl a ha⟩
 ·rw [List.pairwise_map]
  refine h.2.2.imp fun {a b} hab => ?_
  rw [blockLt_iff] at *
  rw [hk, hk, hnm, hnm]; exact hab
theorem fillS_ok {bs : List PBlock} (h : SheetOk bs) : SheetOk (bs.map fillP) := map_ok (f := fillP) (fun _ => rfl) (fun _ => rfl) h fun b hb => fill_ok (h.2.1 b hb).2.2 (rulesOf_good b.kind) (rulesOf_nodupK b.kind)
theorem fillS_of {bs : List PBlock} (h : SheetOk bs) : fillS bs = bs.map fillP := by unfold fillS; rw [if_pos (sheetB_iff.2 h)]
theorem keys_count : ∀ (R : List Plain) (ls : List PLine), (∀ a ∈ ls, ∃ p ∈ R, p.1 = a.key) → (∀ k, keyN ls k ≤ 10) → ls.length ≤ 10 * R.length
 | [], ls, h, _ => by
  cases ls with
  | nil => simp
  | cons a ls => obtain ⟨p, hp, _⟩ := h a (by simp); cases hp
 | p :: R, ls, h, hk => by
  have h1 := keys_count R (ls.filter (fun a => !(a.key.toList == p.1.toList))) (fun a ha => by
   have hf := List.mem_filter.1 ha
   obtain ⟨q, hq, e⟩ := h a hf.1
   rcases List.mem_cons.1 hq with rfl | hq
   ·have := hf.2; rw [e] at this; simp at this
   ·exact ⟨q, hq, e⟩) (fun k => by
    unfold keyN
    have := List.Sublist.countP_le (p := fun a : PLine => a.key.toList == k.toList) (List.filter_sublist (p := fun a : PLine => !(a.key.toList == p.1.toList)) (l := ls))
    have h2 := hk k
    unfold keyN at h2
    omega)
  have h2 := hk p.1
  unfold keyN at h2
  have h3 := List.length_eq_countP_add_countP (fun a : PLine => a.key.toList == p.1.toList) (l := ls)
  rw [← List.countP_eq_length_filter] at h1
  have h4 : ls.countP (fun a => !(a.key.toList == p.1.toList)) = ls.countP (fun a => decide ¬ ((a.key.toList == p.1.toList) = true)) := by
   congr 1; funext a; cases (a.key.toList == p.1.toList) <;> rfl
  rw [h4] at h1
  rw [List.length_cons]
  omega
theorem LinesOk.few {R : List Plain} {ls : List PLine} (h : LinesOk R ls) : ls.length ≤ 10 * R.length := by
 refine keys_count R ls (fun a ha => ?_) (fun k => ?_)
 ·have hf := h.1 a ha
  have hp : pickR R a.key ≠ none := fun e => by rw [fitsIn_none _ e] at hf; cases hf
  obtain ⟨p, hp⟩ := Option.ne_none_iff_exists'.1 hp
  obtain ⟨i, _, hi, e⟩ := pick_place hp
  exact ⟨p, List.mem_of_getElem? hi, e⟩
 ·by_cases hk : ∃ a ∈ ls, a.key = k
  ·obtain ⟨a, ha, rfl⟩ := hk
   exact (h.2.2 a ha).2
  ·rw [keyN_zero (fun a ha e => hk ⟨a, ha, e⟩)]; omega
end Go.Proofs.YtpdahhnjhggocabGreatDoor
namespace Go.Proofs.YtpdahhnjhggocabGreatDoor
inductive NW where
 | ended (m : Nat)
 | bad (m : Nat)
 | words (m : Nat) (w : List UInt8) (ws : List (List UInt8)) (rest : List (List UInt8))
def nextW : Nat → List (List UInt8) → NW
 | n, [] => .ended (n + 1)
 | n, l :: rest => match cutL l with
  | none => .bad (n + 1)
  | some [] => nextW (n + 1) rest
  | some (w :: ws) => .words (n + 1) w ws rest
def goW (done : List PBlock) (op : Option PBlock) : NW → PRes
 | .ended m => match op with
  | none => .good done
  | some _ => .bad m 8
 | .bad m => .bad m 1
 | .words m w ws rest => if (stepW done op w ws).1 ≠ 0 then .bad m (stepW done op w ws).1 else parseGo m (stepW done op w ws).2.1 (stepW done op w ws).2.2 rest
theorem parseGo_next : ∀ (ls : List (List UInt8)) (n : Nat) (done : List PBlock) (op : Option PBlock), parseGo n done op ls = goW done op (nextW n ls)
 | [], n, done, none => rfl
 | [], n, done, some _ => rfl
 | l :: rest, n, done, op => by
  unfold parseGo
  split
  ·rename_i hc
   rw [nextW, hc]; rfl
  ·rename_i hc
   rw [nextW, hc]; exact parseGo_next rest (n + 1) done op
  ·rename_i hc
   rw [nextW, hc]; rfl
theorem nextW_bad {l : List UInt8} {rest : List (List UInt8)} {n : Nat} (h : cutL l = none) : nextW n (l :: rest) = .bad (n + 1) := by unfold nextW; rw [h]
theorem nextW_blank {l : List UInt8} {rest : List (List UInt8)} {n : Nat} (h : cutL l = some []) : nextW n (l :: rest) = nextW (n + 1) rest := by rw [nextW]; rw [h]
theorem nextW_words {l w : List UInt8} {ws rest : List (List UInt8)} {n : Nat} (h : cutL l = some (w :: ws)) : nextW n (l :: rest) = .words (n + 1) w ws rest := by unfold nextW; rw [h]
theorem nextW_len : ∀ (ls : List (List UInt8)) (n m : Nat) (w : List UInt8) (ws rest : List (List UInt8)), nextW n ls = .words m w ws rest → rest.length < ls.length ∧ m + rest.length = n + ls.length
 | [], n, m, w, ws, rest, h => by cases h
 | l :: r, n, m, w, ws, rest, h => by
  unfold nextW at h
  split at h
  ·cases h
  ·have := nextW_len r (n + 1) m w ws rest h
   simp only [List.length_cons]; omega
  ·cases h
   simp only [List.length_cons]; omega
theorem linesFrom_no : ∀ (l acc : List UInt8), (10 : UInt8) ∉ l → linesFrom acc l = if acc ++ l = [] then [] else [acc ++ l]
 | [], acc, _ => by simp [linesFrom]
 | c :: l, acc, h => by
  have hc : c ≠ 10 := fun e => h (by rw [e]; simp)
  rw [linesFrom, if_neg hc, linesFrom_no l _ (fun e => h (List.mem_cons_of_mem _ e)), List.append_assoc]; rfl
theorem textLines_no {l : List UInt8} (h : (10 : UInt8) ∉ l) (h0 : l ≠ []) : textLines l = [l] := by
 unfold textLines; rw [linesFrom_no l [] h]; simp [h0]
def CutNl (s x y : List UInt8) : Prop := ((10 : UInt8) ∉ s ∧ x = s ∧ y = []) ∨ (s = x ++ 10 :: y ∧ (10 : UInt8) ∉ x)
theorem CutNl.lines {s x y : List UInt8} (h : CutNl s x y) (h0 : s ≠ []) : textLines s = x :: textLines y := by
 rcases h with ⟨h1, rfl, rfl⟩ | ⟨rfl, h2⟩
 ·exact textLines_no h1 h0
 ·exact textLines_line x y h2
theorem CutNl.len {s x y : List UInt8} (h : CutNl s x y) : x.length ≤ s.length ∧ y.length ≤ s.length := by
 rcases h with ⟨h1, rfl, rfl⟩ | ⟨rfl, h2⟩
 ·simp
 ·simp; omega
theorem CutNl.lt {s x y : List UInt8} (h : CutNl s x y) (h0 : s ≠ []) : y.length < s.length := by
 rcases h with ⟨h1, rfl, rfl⟩ | ⟨rfl, h2⟩
 ·exact List.length_pos_iff.2 h0
 ·simp; omega
theorem cutW_8 : ∀ (f : Nat) (acc : List (List UInt8)) (l : List UInt8), acc.length ≤ 8 → ((cutW f acc l).getD []).length ≤ 8
 | 0, acc, [], h => by simpa [cutW] using h
 | 0, acc, _ :: _, h => by simp [cutW]
 | f + 1, acc, [], h => by simpa [cutW] using h
 | f + 1, acc, c :: r, h => by
  rw [cutW]
  split
  ·exact cutW_8 f acc r h
  ·split
   ·simpa using h
   ·split
    ·simp
    ·split
     ·rename_i hc
      exact cutW_8 f _ _ (by simp; omega)
     ·simp
theorem nextW_small : ∀ (ls : List (List UInt8)) (n m : Nat) (w : List UInt8) (ws rest : List (List UInt8)), nextW n ls = .words m w ws rest → ws.length ≤ 7 ∧ ∀ y ∈ w :: ws, y.length ≤ 200
 | [], n, m, w, ws, rest, h => by cases h
 | l :: r, n, m, w, ws, rest, h => by
  unfold nextW at h
  split at h
  ·cases h
  ·exact nextW_small r (n + 1) m w ws rest h
  ·rename_i hc
   cases h
   have h2 := cutL_200 l
   have h8 := cutW_8 l.length [] l (by simp)
   rw [hc] at h2
   rw [show cutW l.length [] l = cutL l from rfl, hc] at h8
   simp at h8
   exact ⟨h8, h2⟩
end Go.Proofs.YtpdahhnjhggocabGreatDoor
namespace Go.Proofs.YtpdahhnjhggocabGreatDoor
end Go.Proofs.YtpdahhnjhggocabGreatDoor
namespace Go.Proofs.YtpdahhnjhggocabGreatDoor
def Heads (bs : List PBlock) : Prop := bs.Pairwise (fun a b => ¬ (a.kind = b.kind ∧ a.name = b.name))
theorem SheetOk.heads {bs : List PBlock} (h : SheetOk bs) : Heads bs := h.2.2.imp fun {a b} hab e => by
 rw [blockLt_iff, e.1, e.2] at hab
 rcases hab with q | ⟨_, q⟩ <;> exact Tot.irr _ q
end Go.Proofs.YtpdahhnjhggocabGreatDoor
namespace Go.Proofs.YtpdahhnjhggocabGreatDoor
open Go.RowKit
def RowPost (ls : List (List UInt8)) (w : World) (e : Ending) (w' : World) : Prop := ∃ ao cap, e = .returned (.slice ao ls.length cap) ∧ w'.ownsRow w.heap.size 9 1 (.slice ao ls.length cap) ls.length (strs ls) ∧ Below w.heap.size w w'
theorem lines_nl {acc : List UInt8} {c : UInt8} {l : List UInt8} (h : c.toNat = 10) : linesFrom acc (c :: l) = acc :: linesFrom [] l := by
 have : c = 10 := UInt8.toNat_inj.1 (by rw [h]; rfl)
 rw [linesFrom, if_pos this]
theorem lines_on {acc : List UInt8} {c : UInt8} {l : List UInt8} (h : c.toNat ≠ 10) : linesFrom acc (c :: l) = linesFrom (acc ++ [c]) l := by
 rw [linesFrom, if_neg (fun e => h (by rw [e]; rfl))]
set_option maxHeartbeats 4000000 in
set_option maxRecDepth 100000 in
theorem l3Cut_any (s : ByteArray) (w : World) (hs : s.size ≤ 1048576) : Calls Tryz.prog 44 #[.string s] w fun e w' => RowPost (textLines s.data.toList) w e w' := by
 obtain ⟨i0, hi, hz0, hz1, hz2⟩ := info_parts info9
 have HC : Hid (textLines s.data.toList = [] ++ linesFrom ((s.data.toList.drop 0).take (0 - 0)) (s.data.toList.drop 0)) := rfl
 generalize textLines s.data.toList = R at *
 go_enter Tryz.func44, Tryz.ntmps44
 go_wp2
 go_loopw [3, 4, 5] (fun o f i wr => ∃ (acc : List (List UInt8)) (p k : Nat) (ao : Option Addr) (cap : Nat), p ≤ k ∧ k ≤ s.size ∧ acc.length ≤ p ∧ o = .slice ao acc.length cap ∧ f = .int .i64 (p : Int) ∧ i = .int .i64 (k : Int) ∧ wr.ownsRow w.heap.size 9 1 (.slice ao acc.length cap) acc.length (strs acc) ∧ Below w.heap.size w wr ∧ Hid (R = acc ++ linesFrom ((s.data.toList.drop p).take (k - p)) (s.data.toList.drop k))) (fun _ _ i _ => s.size - (intOf i).toNat)
 case atStart => exact ⟨[], 0, 0, some ⟨w.heap.size, 0, none⟩, 0, by omega, by omega, by simp, rfl, rfl, rfl, World.ownsRow_lit (base := w.heap.size) (e := 9) (size := 1) w #[] 0 (Nat.le_refl _) (by decide) rfl, (Below.refl w.heap.size w).alloc (Nat.le_refl _) _, HC⟩
 case round =>
  obtain ⟨acc, p, k, ao, cap, hpk, hk, hal, rfl, rfl, rfl, hown, hbw, hC⟩ := hrel
  clear HC
  have hzw := hbw.size
  by_cases hlt : k < s.size
  ·have hd := drop_cons s k hlt
   rw [hd] at hC
   by_cases h10 : s[k].toNat = 10
   ·have h10' : ((s[k].toNat : Int) == 10) = true := by rw [beq_iff_eq]; omega
    have HC2 : Hid (R = acc ++ (s.data.toList.drop p).take (k - p) :: linesFrom [] (s.data.toList.drop (k + 1))) := by
     have := hC.out; rw [lines_nl h10] at this; exact this
    have HX := hid_in (mid_take s p k)
    clear hC hd h10
    go_wp2_with (at_builtin; refine wpList_append_lies _ rfl _ _ 61 rfl w.heap.size 9 i0 (.string ⟨#[]⟩) 1 16 Tryz.underlying61 hi hz0 hz1 hz2 rfl (by decide) _ acc.length _ rfl (hown.alloc _) ⟨wr.heap.size, 0, none⟩ 1 1 [.string (s.extract p k)] rfl rfl (news1 wr _ 9) ?c2 (by decide) ?c3 ?c4 ?c5 (wr.heap.size + 1) (by simp) ?_)
    case c2 => first | rfl | (intro u hu; simp at hu; subst hu; rfl)
    case c3 => unfold maxLen; omega
    case c4 => omega
    case c5 => first | omega | (simp; omega)
    intro g cap2 w2 hown2 hgrow hat hlt1
    have hbw2 : Below w.heap.size w w2 := (hbw.alloc hzw _).grown hgrow (by simp; omega) (fun q hq => (hown.lt q hq).1)
    go_wp2
    go_roundw
    case rel =>
     refine ⟨acc ++ [(s.data.toList.drop p).take (k - p)], k + 1, k + 1, some ⟨g, 0, none⟩, cap2, by omega, by omega, by simp; omega, by simp, by go_num, by go_num, ?_, hbw2, ?_⟩
     ·rw [strs_append, List.length_append]; rw [HX.out] at hown2; exact hown2
     ·have := HC2.out
      rw [this, Nat.sub_self, List.take_zero, List.append_assoc]; exact hid_in rfl
    case measure => simp [intOf]; omega
   ·have h10' : ((s[k].toNat : Int) == 10) = false := by rw [beq_eq_false_iff_ne]; omega
    have HC2 : Hid (R = acc ++ linesFrom ((s.data.toList.drop p).take (k + 1 - p)) (s.data.toList.drop (k + 1))) := by
     have := hC.out; rw [lines_on h10] at this; rw [mid_snoc s p k hpk hlt]; exact this
    clear hC hd h10
    go_wp2
    go_roundw
    case rel => exact ⟨acc, p, k + 1, ao, cap, by omega, by omega, hal, rfl, rfl, by go_num, hown, hbw, HC2⟩
    case measure => simp [intOf]; omega
  ·obtain rfl : k = s.size := by omega
   have hD : s.data.toList.drop s.size = [] := List.drop_of_length_le (by simp)
   rw [hD] at hC
   by_cases hp : p < s.size
   ·have hp' : ((p : Int) < (s.size : Int)) := by omega
    have HC2 : Hid (R = acc ++ [(s.data.toList.drop p).take (s.size - p)]) := by
     have h1 := hC.out
     rw [linesFrom, if_neg (fun e => by have := congrArg List.length e; simp at this; omega)] at h1
     exact h1
    have HX := hid_in (mid_take s p s.size)
    clear hC hD
    go_wp2_with (at_builtin; refine wpList_append_lies _ rfl _ _ 61 rfl w.heap.size 9 i0 (.string ⟨#[]⟩) 1 16 Tryz.underlying61 hi hz0 hz1 hz2 rfl (by decide) _ acc.length _ rfl (hown.alloc _) ⟨wr.heap.size, 0, none⟩ 1 1 [.string (s.extract p s.size)] rfl rfl (news1 wr _ 9) ?c2 (by decide) ?c3 ?c4 ?c5 (wr.heap.size + 1) (by simp) ?_)
    case c2 => first | rfl | (intro u hu; simp at hu; subst hu; rfl)
    case c3 => unfold maxLen; omega
    case c4 => omega
    case c5 => first | omega | (simp; omega)
    intro g cap2 w2 hown2 hgrow hat hlt1
    have hbw2 : Below w.heap.size w w2 := (hbw.alloc hzw _).grown hgrow (by simp; omega) (fun q hq => (hown.lt q hq).1)
    have HO : Hid (RowPost R w (.returned (.slice (some ⟨g, 0, none⟩) (acc.length + 1) cap2)) w2) := hid_in (by
     have e := HC2.out
     have hl : R.length = acc.length + 1 := by rw [e]; simp
     refine ⟨some ⟨g, 0, none⟩, cap2, by rw [hl], ?_, hbw2⟩
     rw [hl, e, strs_append]; rw [HX.out] at hown2; exact hown2)
    go_wp2
    go_ret
    exact HO.out
   ·obtain rfl : p = s.size := by omega
    have hp' : ¬ ((s.size : Int) < (s.size : Int)) := by omega
    have HO : Hid (RowPost R w (.returned (.slice ao acc.length cap)) wr) := hid_in (by
     have e := hC.out
     rw [Nat.sub_self, List.take_zero, linesFrom, if_pos rfl, List.append_nil] at e
     subst e
     exact ⟨ao, cap, rfl, hown, hbw⟩)
    clear hC hD
    go_wp2
    go_ret
    exact HO.out
end Go.Proofs.YtpdahhnjhggocabGreatDoor
namespace Go.Proofs.YtpdahhnjhggocabGreatDoor
theorem lineFault_norm {R : List Plain} {es : List PLine} {a : PLine} : lineFault R (normLs R es) a = lineFault R es a := lineFault_perm (normLs_perm R es) a
theorem normBs_length (bs : List PBlock) : (normBs bs).length = bs.length := by
 rw [(normBs_perm bs).length_eq, List.length_map]
theorem drop_at {α : Type} {l : List α} {k : Nat} (h : k < l.length) : l.drop k = l[k] :: l.drop (k + 1) := List.drop_eq_getElem_cons h
theorem go_bad {n : Nat} {done : List PBlock} {op : Option PBlock} {l : List UInt8} {rest : List (List UInt8)} (h : cutL l = none) : parseGo n done op (l :: rest) = .bad (n + 1) 1 := by rw [parseGo, h]
theorem go_blank {n : Nat} {done : List PBlock} {op : Option PBlock} {l : List UInt8} {rest : List (List UInt8)} (h : cutL l = some []) : parseGo n done op (l :: rest) = parseGo (n + 1) done op rest := by rw [parseGo, h]
theorem go_fault {n : Nat} {done : List PBlock} {op : Option PBlock} {l w : List UInt8} {ws rest : List (List UInt8)} (h : cutL l = some (w :: ws)) (hf : (stepW done op w ws).1 ≠ 0) : parseGo n done op (l :: rest) = .bad (n + 1) (stepW done op w ws).1 := by rw [parseGo, h]; exact if_pos hf
theorem go_step {n : Nat} {done : List PBlock} {op : Option PBlock} {l w : List UInt8} {ws rest : List (List UInt8)} (h : cutL l = some (w :: ws)) (hf : (stepW done op w ws).1 = 0) : parseGo n done op (l :: rest) = parseGo (n + 1) (stepW done op w ws).2.1 (stepW done op w ws).2.2 rest := by rw [parseGo, h]; exact if_neg (fun e => e hf)
end Go.Proofs.YtpdahhnjhggocabGreatDoor
