import Derived.WalkKit
namespace Go.Proofs.YtpdahhnjhggocabGreatDoor
def plainB (c : UInt8) : Bool := decide (32 ≤ c.toNat ∧ c.toNat ≤ 126 ∧ c.toNat ≠ 34 ∧ c.toNat ≠ 92)
def bareB (c : UInt8) : Bool := decide (33 ≤ c.toNat ∧ c.toNat ≤ 126 ∧ c.toNat ≠ 34 ∧ c.toNat ≠ 35 ∧ c.toNat ≠ 92)
theorem bareB_true {c : UInt8} (h : bareB c = true) : 33 ≤ c.toNat ∧ c.toNat ≤ 126 ∧ c.toNat ≠ 34 ∧ c.toNat ≠ 35 ∧ c.toNat ≠ 92 := by simpa [bareB] using h
theorem plainB_true {c : UInt8} (h : plainB c = true) : 32 ≤ c.toNat ∧ c.toNat ≤ 126 ∧ c.toNat ≠ 34 ∧ c.toNat ≠ 92 := by simpa [plainB] using h
theorem bareB_mk {c : UInt8} (h : 33 ≤ c.toNat ∧ c.toNat ≤ 126 ∧ c.toNat ≠ 34 ∧ c.toNat ≠ 35 ∧ c.toNat ≠ 92) : bareB c = true := by simpa [bareB] using h
theorem bareB_no {c : UInt8} (h : ¬ (33 ≤ c.toNat ∧ c.toNat ≤ 126 ∧ c.toNat ≠ 34 ∧ c.toNat ≠ 35 ∧ c.toNat ≠ 92)) : bareB c = false := by simp only [bareB, decide_eq_false_iff_not]; exact h
def hexd : List UInt8 := [48, 49, 50, 51, 52, 53, 54, 55, 56, 57, 97, 98, 99, 100, 101, 102]
def hexB (n : Nat) : UInt8 := hexd.getD n 0
def qb (c : UInt8) : List UInt8 := if plainB c = true then [c] else [92, hexB (c.toNat / 16), hexB (c.toNat % 16)]
def quoteL (l : List UInt8) : List UInt8 := 34 :: (l.flatMap qb) ++ [34]
def bareL (l : List UInt8) : Bool := !l.isEmpty && l.all bareB
def wordL (l : List UInt8) : List UInt8 := if bareL l = true then l else quoteL l
theorem qb_len (c : UInt8) : (qb c).length ≤ 3 := by unfold qb; split <;> simp
theorem take_snoc (s : ByteArray) (k : Nat) (h : k < s.size) : s.data.toList.take (k + 1) = s.data.toList.take k ++ [s[k]] := by
 rw [List.take_succ_eq_append_getElem (by simpa using h)]; rfl
theorem take_all (s : ByteArray) : s.data.toList.take s.size = s.data.toList := List.take_of_length_le (by simp)
end Go.Proofs.YtpdahhnjhggocabGreatDoor
namespace Go.Proofs.YtpdahhnjhggocabGreatDoor
def hexV (c : UInt8) : Nat := if 48 ≤ c.toNat ∧ c.toNat ≤ 57 then c.toNat - 48 else if 97 ≤ c.toNat ∧ c.toNat ≤ 102 then c.toNat - 87 else 16
def unq : List UInt8 → Option (List UInt8 × Nat)
 | [] => none
 | c :: r =>
  if c.toNat = 34 then some ([], 1)
  else if c.toNat = 92 then
   match r with
   | a :: b :: r' => if hexV a < 16 ∧ hexV b < 16 then (unq r').map (fun p => (UInt8.ofNat (16 * hexV a + hexV b) :: p.1, p.2 + 3)) else none
   | _ => none
  else if 32 ≤ c.toNat ∧ c.toNat ≤ 126 then (unq r).map (fun p => (c :: p.1, p.2 + 1)) else none
def unqH : List UInt8 → Option (List UInt8 × Nat)
 | a :: b :: r' => if hexV a < 16 ∧ hexV b < 16 then (unq r').map (fun p => (UInt8.ofNat (16 * hexV a + hexV b) :: p.1, p.2 + 3)) else none
 | _ => none
theorem unq_cons (c : UInt8) (r : List UInt8) : unq (c :: r) = if c.toNat = 34 then some ([], 1) else if c.toNat = 92 then unqH r else if 32 ≤ c.toNat ∧ c.toNat ≤ 126 then (unq r).map (fun p => (c :: p.1, p.2 + 1)) else none := by
 match r with
 | [] => simp [unq, unqH]
 | [_] => simp [unq, unqH]
 | _ :: _ :: _ => rw [unq, unqH]
theorem drop_cons (s : ByteArray) (i : Nat) (h : i < s.size) : s.data.toList.drop i = s[i] :: s.data.toList.drop (i + 1) :=
 List.drop_eq_getElem_cons (by simpa using h)
theorem unq_len (k : Nat) : ∀ (l : List UInt8) (x : List UInt8) (n : Nat), l.length ≤ k → unq l = some (x, n) → 1 ≤ n ∧ n ≤ l.length ∧ x.length < n := by
 induction k with
 | zero => intro l x n hl h; match l, hl with | [], _ => simp [unq] at h
 | succ k ih =>
  intro l x n hl h
  match l, hl with
  | [], _ => simp [unq] at h
  | c :: r, hl =>
   rw [unq_cons] at h
   split at h
   ·simp at h; obtain ⟨rfl, rfl⟩ := h; simp
   ·split at h
    ·match r, hl, h with
     | a :: b :: r', hl, h =>
      rw [unqH] at h
      split at h
      ·cases hu : unq r' with
       | none => simp [hu] at h
       | some p =>
        obtain ⟨y, m⟩ := p
        simp [hu] at h
        obtain ⟨rfl, rfl⟩ := h
        have := ih r' y m (by simp at hl; omega) hu
        simp; omega
      ·simp at h
     | [_], _, h => simp [unqH] at h
     | [], _, h => simp [unqH] at h
    ·split at h
     ·cases hu : unq r with
      | none => simp [hu] at h
      | some p =>
       obtain ⟨y, m⟩ := p
       simp [hu] at h
       obtain ⟨rfl, rfl⟩ := h
       have := ih r y m (by simp at hl; omega) hu
       simp; omega
     ·simp at h
def wordOf : List UInt8 → Option (List UInt8 × Nat)
 | [] => none
 | c :: r => if c.toNat = 34 then (unq r).map (fun p => (p.1, p.2 + 1)) else if bareB c = false then none else some ((c :: r).takeWhile bareB, ((c :: r).takeWhile bareB).length)
theorem wordOf_pos (l : List UInt8) (x : List UInt8) (n : Nat) (h : wordOf l = some (x, n)) : 1 ≤ n ∧ n ≤ l.length := by
 match l, h with
 | c :: r, h =>
  rw [wordOf] at h
  split at h
  ·cases hu : unq r with
   | none => simp [hu] at h
   | some p =>
    obtain ⟨y, m⟩ := p
    simp [hu] at h
    have := unq_len r.length r y m (Nat.le_refl _) hu
    simp; omega
  ·split at h
   ·simp at h
   ·rename_i hb
    simp at h
    obtain ⟨rfl, rfl⟩ := h
    have hl := (List.takeWhile_prefix bareB (l := c :: r)).length_le
    refine ⟨?_, hl⟩
    rw [List.takeWhile_cons, if_pos (by simpa using hb)]; simp
def endOk : List UInt8 → Bool
 | [] => true
 | c :: _ => decide (c.toNat = 32 ∨ c.toNat = 35)
def cutW : Nat → List (List UInt8) → List UInt8 → Option (List (List UInt8))
 | _, acc, [] => some acc
 | 0, _, _ :: _ => none
 | f + 1, acc, c :: r =>
  if c.toNat = 32 then cutW f acc r
  else if c.toNat = 35 then some acc
  else match wordOf (c :: r) with
   | none => none
   | some (x, n) => if endOk ((c :: r).drop n) = true ∧ x.length ≤ 200 ∧ acc.length < 8 then cutW f (acc ++ [x]) ((c :: r).drop n) else none
def Cut (acc : List (List UInt8)) (l : List UInt8) (R : Option (List (List UInt8))) : Prop := ∃ f, l.length ≤ f ∧ cutW f acc l = R
theorem Cut.nil {acc : List (List UInt8)} {R : Option (List (List UInt8))} (h : Cut acc [] R) : R = some acc := by
 obtain ⟨f, _, rfl⟩ := h; cases f <;> rfl
theorem Cut.space {acc : List (List UInt8)} {c : UInt8} {r : List UInt8} {R : Option (List (List UInt8))} (h : Cut acc (c :: r) R) (hc : c.toNat = 32) : Cut acc r R := by
 obtain ⟨f, hf, rfl⟩ := h
 match f, hf with
 | f + 1, hf => exact ⟨f, by simp at hf; omega, by rw [cutW, if_pos hc]⟩
theorem Cut.none {acc : List (List UInt8)} {c : UInt8} {r : List UInt8} {R : Option (List (List UInt8))} (h : Cut acc (c :: r) R) (h1 : c.toNat ≠ 32) (h2 : c.toNat ≠ 35) (hw : wordOf (c :: r) = .none) : R = .none := by
 obtain ⟨f, hf, rfl⟩ := h
 match f, hf with
 | f + 1, hf => rw [cutW, if_neg h1, if_neg h2, hw]
theorem Cut.no {acc : List (List UInt8)} {c : UInt8} {r : List UInt8} {R : Option (List (List UInt8))} {x : List UInt8} {n : Nat} (h : Cut acc (c :: r) R) (h1 : c.toNat ≠ 32) (h2 : c.toNat ≠ 35) (hw : wordOf (c :: r) = some (x, n)) (hn : ¬ (endOk ((c :: r).drop n) = true ∧ x.length ≤ 200 ∧ acc.length < 8)) : R = .none := by
 obtain ⟨f, hf, rfl⟩ := h
 match f, hf with
 | f + 1, hf => rw [cutW, if_neg h1, if_neg h2, hw]; simp only; rw [if_neg hn]
theorem Cut.word {acc : List (List UInt8)} {c : UInt8} {r : List UInt8} {R : Option (List (List UInt8))} {x : List UInt8} {n : Nat} (h : Cut acc (c :: r) R) (h1 : c.toNat ≠ 32) (h2 : c.toNat ≠ 35) (hw : wordOf (c :: r) = some (x, n)) (hn : endOk ((c :: r).drop n) = true ∧ x.length ≤ 200 ∧ acc.length < 8) : Cut (acc ++ [x]) ((c :: r).drop n) R := by
 obtain ⟨f, hf, rfl⟩ := h
 have hp := wordOf_pos _ _ _ hw
 match f, hf with
 | f + 1, hf => exact ⟨f, by simp at hf ⊢; omega, by rw [cutW, if_neg h1, if_neg h2, hw]; simp only; rw [if_pos hn]⟩
def strs (ws : List (List UInt8)) : List Value := ws.map fun l => Value.string ⟨l.toArray⟩
theorem strs_append (a b : List (List UInt8)) : strs (a ++ b) = strs a ++ strs b := by simp [strs]
theorem strs_length (a : List (List UInt8)) : (strs a).length = a.length := by simp [strs]
end Go.Proofs.YtpdahhnjhggocabGreatDoor
namespace Go.Proofs.YtpdahhnjhggocabGreatDoor
theorem hexV_hexB (n : Nat) (h : n < 16) : hexV (hexB n) = n := by
 have : ∀ n, n < 16 → hexV (hexB n) = n := by decide
 exact this n h
theorem byte_back (c : UInt8) : UInt8.ofNat (16 * (c.toNat / 16) + c.toNat % 16) = c := by
 apply UInt8.toNat_inj.1
 have := c.toNat_lt
 rw [UInt8.toNat_ofNat', show 16 * (c.toNat / 16) + c.toNat % 16 = c.toNat from by omega]
 omega
theorem unq_written (w : List UInt8) (rest : List UInt8) : unq (w.flatMap qb ++ 34 :: rest) = some (w, (w.flatMap qb).length + 1) := by
 induction w with
 | nil => rw [List.flatMap_nil, List.nil_append, unq_cons]; simp
 | cons c r ih =>
  rw [List.flatMap_cons, List.append_assoc]
  by_cases hp : plainB c = true
  ·have h := plainB_true hp
   rw [show qb c = [c] from by simp [qb, hp], List.singleton_append, unq_cons, if_neg (by omega), if_neg (by omega), if_pos (by omega), ih]
   simp
  ·have hq : qb c = [92, hexB (c.toNat / 16), hexB (c.toNat % 16)] := by simp [qb, hp]
   have hc := c.toNat_lt
   rw [hq, show ([92, hexB (c.toNat / 16), hexB (c.toNat % 16)] ++ (r.flatMap qb ++ 34 :: rest)) = 92 :: (hexB (c.toNat / 16) :: hexB (c.toNat % 16) :: (r.flatMap qb ++ 34 :: rest)) from rfl, unq_cons, if_neg (by decide), if_pos (by decide), unqH, hexV_hexB _ (by omega), hexV_hexB _ (by omega), if_pos (by omega), ih, byte_back]
   simp
theorem takeWhile_stop (w rest : List UInt8) (h : w.all bareB = true) : (w ++ 32 :: rest).takeWhile bareB = w := by
 rw [List.takeWhile_append_of_pos (List.all_eq_true.1 h), List.takeWhile_cons, if_neg (by decide), List.append_nil]
theorem word_written (w rest : List UInt8) : ∃ c r, wordL w ++ 32 :: rest = c :: r ∧ c.toNat ≠ 32 ∧ c.toNat ≠ 35 ∧ wordOf (c :: r) = some (w, (wordL w).length) ∧ (c :: r).drop (wordL w).length = 32 :: rest := by
 by_cases hb : bareL w = true
 ·have hw : wordL w = w := by simp [wordL, hb]
  unfold bareL at hb
  rw [Bool.and_eq_true] at hb
  rw [hw]
  match w, hb with
  | c :: r, hb =>
   have hc : bareB c = true := List.all_eq_true.1 hb.2 c (by simp)
   have h := bareB_true hc
   refine ⟨c, r ++ 32 :: rest, rfl, by omega, by omega, ?_, ?_⟩
   ·have ht := takeWhile_stop (c :: r) rest hb.2
    rw [List.cons_append] at ht
    rw [wordOf, if_neg (by omega), if_neg (by rw [hc]; decide), ht]
   ·rw [← List.cons_append, List.drop_left]
  | [], hb => simp at hb
 ·have hw : wordL w = quoteL w := by simp [wordL, hb]
  have hl : (quoteL w).length = (w.flatMap qb).length + 2 := by
   simp only [quoteL, List.length_append, List.length_cons, List.length_nil]
  refine ⟨34, w.flatMap qb ++ 34 :: 32 :: rest, ?_, by decide, by decide, ?_, ?_⟩
  ·rw [hw]; simp [quoteL]
  ·rw [wordOf, if_pos (by decide), unq_written, hw, hl]; simp
  ·rw [hw, hl, show (w.flatMap qb).length + 2 = ((w.flatMap qb).length + 1) + 1 from rfl, List.drop_succ_cons, List.drop_append]
   simp
def outL (ws : List (List UInt8)) : List UInt8 := ws.flatMap fun w => wordL w ++ [32]
theorem Cut.written {R : Option (List (List UInt8))} : ∀ (ws acc : List (List UInt8)), (∀ w ∈ ws, w.length ≤ 200) → acc.length + ws.length ≤ 8 → Cut acc (outL ws) R → R = some (acc ++ ws)
 | [], acc, _, _, h => by rw [List.append_nil]; exact Cut.nil h
 | w :: ws, acc, h200, h8, h => by
  have e : outL (w :: ws) = wordL w ++ 32 :: outL ws := by simp [outL]
  rw [e] at h
  obtain ⟨c, r, hcr, h1, h2, hw, hd⟩ := word_written w (outL ws)
  rw [hcr] at h
  have hok : endOk ((c :: r).drop (wordL w).length) = true ∧ w.length ≤ 200 ∧ acc.length < 8 := ⟨by rw [hd]; rfl, h200 w (by simp), by simp at h8; omega⟩
  have hc := h.word h1 h2 hw hok
  rw [hd] at hc
  have hs := hc.space (by decide)
  have := Cut.written ws (acc ++ [w]) (fun x hx => h200 x (by simp [hx])) (by simp at h8 ⊢; omega) hs
  rw [this, List.append_assoc]; rfl
end Go.Proofs.YtpdahhnjhggocabGreatDoor
