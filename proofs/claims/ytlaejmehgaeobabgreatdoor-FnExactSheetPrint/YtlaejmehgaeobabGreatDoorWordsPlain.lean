import Derived.Test.YtlaejmehgaeobabGreatDoorWordPlain
namespace Go.Proofs.YtlaejmehgaeobabGreatDoor
/-- The number of a digit 0-9a-f; 16 if it is none. -/
def hexV (c : UInt8) : Nat := if 48 ≤ c.toNat ∧ c.toNat ≤ 57 then c.toNat - 48 else if 97 ≤ c.toNat ∧ c.toNat ≤ 102 then c.toNat - 87 else 16
/-- What stands behind a quotation mark: its bytes, and how many it is written with, the mark at its end with them. -/
def unq : List UInt8 → Option (List UInt8 × Nat)
  | [] => none
  | c :: r =>
    if c.toNat = 34 then some ([], 1)
    else if c.toNat = 92 then
      match r with
      | a :: b :: r' => if hexV a < 16 ∧ hexV b < 16 then (unq r').map (fun p => (UInt8.ofNat (16 * hexV a + hexV b) :: p.1, p.2 + 3)) else none
      | _ => none
    else if 32 ≤ c.toNat ∧ c.toNat ≤ 126 then (unq r).map (fun p => (c :: p.1, p.2 + 1)) else none
def unqH : List UInt8 → Option (List UInt8 × Nat)
  | a :: b :: r' => if hexV a < 16 ∧ hexV b < 16 then (unq r').map (fun p => (UInt8.ofNat (16 * hexV a + hexV b) :: p.1, p.2 + 3)) else none
  | _ => none
theorem unq_cons (c : UInt8) (r : List UInt8) : unq (c :: r) = if c.toNat = 34 then some ([], 1) else if c.toNat = 92 then unqH r else if 32 ≤ c.toNat ∧ c.toNat ≤ 126 then (unq r).map (fun p => (c :: p.1, p.2 + 1)) else none := by
  match r with
  | [] => simp [unq, unqH]
  | [_] => simp [unq, unqH]
  | _ :: _ :: _ => rw [unq, unqH]
/-- What is left to read from place i on, what is read so far put ahead. -/
def Uq (L : List UInt8) (i : Nat) (acc : List UInt8) : Option (List UInt8 × Nat) := (unq (L.drop i)).map (fun p => (acc ++ p.1, i + p.2))
theorem Uq_zero (L : List UInt8) : Uq L 0 [] = unq L := by
  unfold Uq; simp
theorem drop_cons (s : ByteArray) (i : Nat) (h : i < s.size) : s.data.toList.drop i = s[i] :: s.data.toList.drop (i + 1) :=
  List.drop_eq_getElem_cons (by simpa using h)
theorem Uq_end (s : ByteArray) (i : Nat) (acc : List UInt8) (h : ¬ i < s.size) : Uq s.data.toList i acc = none := by
  unfold Uq; rw [List.drop_of_length_le (by simp; omega)]; rfl
theorem Uq_mark (s : ByteArray) (i : Nat) (acc : List UInt8) (h : i < s.size) (hc : s[i].toNat = 34) : Uq s.data.toList i acc = some (acc, i + 1) := by
  unfold Uq; rw [drop_cons s i h, unq_cons]; simp [hc]
theorem Uq_plain (s : ByteArray) (i : Nat) (acc : List UInt8) (h : i < s.size) (hp : plainB s[i] = true) : Uq s.data.toList i acc = Uq s.data.toList (i + 1) (acc ++ [s[i]]) := by
  have h1 := plainB_true hp
  unfold Uq; rw [drop_cons s i h, unq_cons, if_neg (by omega), if_neg (by omega), if_pos (by omega)]
  rw [Option.map_map]; congr 1; funext p; simp; omega
theorem Uq_none (s : ByteArray) (i : Nat) (acc : List UInt8) (h : i < s.size) (hp : plainB s[i] = false) (h34 : s[i].toNat ≠ 34) (h92 : s[i].toNat ≠ 92) : Uq s.data.toList i acc = none := by
  unfold Uq; rw [drop_cons s i h, unq_cons, if_neg h34, if_neg h92, if_neg (fun h2 => by rw [plainB_mk (by omega)] at hp; exact Bool.noConfusion hp)]; rfl
theorem Uq_short (s : ByteArray) (i : Nat) (acc : List UInt8) (h : i < s.size) (hc : s[i].toNat = 92) (h2 : ¬ i + 2 < s.size) : Uq s.data.toList i acc = none := by
  unfold Uq; rw [drop_cons s i h, unq_cons, if_neg (by omega), if_pos hc]
  have hl : (s.data.toList.drop (i + 1)).length ≤ 1 := by simp; omega
  match hd : s.data.toList.drop (i + 1), hl with
  | [], _ => rfl
  | [_], _ => rfl
theorem Uq_hex (s : ByteArray) (i : Nat) (acc : List UInt8) (h2 : i + 2 < s.size) (hc : s[i].toNat = 92) :
    Uq s.data.toList i acc = if hexV s[i + 1] < 16 ∧ hexV s[i + 2] < 16 then Uq s.data.toList (i + 3) (acc ++ [UInt8.ofNat (16 * hexV s[i + 1] + hexV s[i + 2])]) else none := by
  unfold Uq; rw [drop_cons s i (by omega), unq_cons, if_neg (by omega), if_pos hc, drop_cons s (i + 1) (by omega), drop_cons s (i + 1 + 1) (by omega), unqH]
  split
  · rw [Option.map_map]; congr 1; funext p; simp; omega
  · rfl
theorem unq_len (k : Nat) : ∀ (l : List UInt8) (x : List UInt8) (n : Nat), l.length ≤ k → unq l = some (x, n) → 1 ≤ n ∧ n ≤ l.length ∧ x.length < n := by
  induction k with
  | zero => intro l x n hl h; match l, hl with | [], _ => simp [unq] at h
  | succ k ih =>
    intro l x n hl h
    match l, hl with
    | [], _ => simp [unq] at h
    | c :: r, hl =>
      rw [unq_cons] at h
      split at h
      · simp at h; obtain ⟨rfl, rfl⟩ := h; simp
      · split at h
        · match r, hl, h with
          | a :: b :: r', hl, h =>
            rw [unqH] at h
            split at h
            · cases hu : unq r' with
              | none => simp [hu] at h
              | some p =>
                obtain ⟨y, m⟩ := p
                simp [hu] at h
                obtain ⟨rfl, rfl⟩ := h
                have := ih r' y m (by simp at hl; omega) hu
                simp; omega
            · simp at h
          | [_], _, h => simp [unqH] at h
          | [], _, h => simp [unqH] at h
        · split at h
          · cases hu : unq r with
            | none => simp [hu] at h
            | some p =>
              obtain ⟨y, m⟩ := p
              simp [hu] at h
              obtain ⟨rfl, rfl⟩ := h
              have := ih r y m (by simp at hl; omega) hu
              simp; omega
          · simp at h
/-- The word at the head of a text that is not empty, and how many bytes it is written with. -/
def wordOf : List UInt8 → Option (List UInt8 × Nat)
  | [] => none
  | c :: r => if c.toNat = 34 then (unq r).map (fun p => (p.1, p.2 + 1)) else if bareB c = false then none else some ((c :: r).takeWhile bareB, ((c :: r).takeWhile bareB).length)
theorem wordOf_pos (l : List UInt8) (x : List UInt8) (n : Nat) (h : wordOf l = some (x, n)) : 1 ≤ n ∧ n ≤ l.length := by
  match l, h with
  | c :: r, h =>
    rw [wordOf] at h
    split at h
    · cases hu : unq r with
      | none => simp [hu] at h
      | some p =>
        obtain ⟨y, m⟩ := p
        simp [hu] at h
        have := unq_len r.length r y m (Nat.le_refl _) hu
        simp; omega
    · split at h
      · simp at h
      · rename_i hb
        simp at h
        obtain ⟨rfl, rfl⟩ := h
        have hl := (List.takeWhile_prefix bareB (l := c :: r)).length_le
        refine ⟨?_, hl⟩
        rw [List.takeWhile_cons, if_pos (by simpa using hb)]; simp
def endOk : List UInt8 → Bool
  | [] => true
  | c :: _ => decide (c.toNat = 32 ∨ c.toNat = 35)
/-- The words of a line, put behind those that there are. -/
def cutW : Nat → List (List UInt8) → List UInt8 → Option (List (List UInt8))
  | _, acc, [] => some acc
  | 0, _, _ :: _ => none
  | f + 1, acc, c :: r =>
    if c.toNat = 32 then cutW f acc r
    else if c.toNat = 35 then some acc
    else match wordOf (c :: r) with
      | none => none
      | some (x, n) => if endOk ((c :: r).drop n) = true ∧ x.length ≤ 200 ∧ acc.length < 8 then cutW f (acc ++ [x]) ((c :: r).drop n) else none
def cutL (l : List UInt8) : Option (List (List UInt8)) := cutW l.length [] l
/-- Cutting l behind acc comes to R. -/
def Cut (acc : List (List UInt8)) (l : List UInt8) (R : Option (List (List UInt8))) : Prop := ∃ f, l.length ≤ f ∧ cutW f acc l = R
theorem Cut.start (l : List UInt8) : Cut [] l (cutL l) := ⟨l.length, Nat.le_refl _, rfl⟩
theorem Cut.nil {acc : List (List UInt8)} {R : Option (List (List UInt8))} (h : Cut acc [] R) : R = some acc := by
  obtain ⟨f, _, rfl⟩ := h; cases f <;> rfl
theorem Cut.space {acc : List (List UInt8)} {c : UInt8} {r : List UInt8} {R : Option (List (List UInt8))} (h : Cut acc (c :: r) R) (hc : c.toNat = 32) : Cut acc r R := by
  obtain ⟨f, hf, rfl⟩ := h
  match f, hf with
  | f + 1, hf => exact ⟨f, by simp at hf; omega, by rw [cutW, if_pos hc]⟩
theorem Cut.hash {acc : List (List UInt8)} {c : UInt8} {r : List UInt8} {R : Option (List (List UInt8))} (h : Cut acc (c :: r) R) (hc : c.toNat = 35) : R = some acc := by
  obtain ⟨f, hf, rfl⟩ := h
  match f, hf with
  | f + 1, hf => rw [cutW, if_neg (by omega), if_pos hc]
theorem Cut.none {acc : List (List UInt8)} {c : UInt8} {r : List UInt8} {R : Option (List (List UInt8))} (h : Cut acc (c :: r) R) (h1 : c.toNat ≠ 32) (h2 : c.toNat ≠ 35) (hw : wordOf (c :: r) = .none) : R = .none := by
  obtain ⟨f, hf, rfl⟩ := h
  match f, hf with
  | f + 1, hf => rw [cutW, if_neg h1, if_neg h2, hw]
theorem Cut.no {acc : List (List UInt8)} {c : UInt8} {r : List UInt8} {R : Option (List (List UInt8))} {x : List UInt8} {n : Nat} (h : Cut acc (c :: r) R) (h1 : c.toNat ≠ 32) (h2 : c.toNat ≠ 35) (hw : wordOf (c :: r) = some (x, n)) (hn : ¬ (endOk ((c :: r).drop n) = true ∧ x.length ≤ 200 ∧ acc.length < 8)) : R = .none := by
  obtain ⟨f, hf, rfl⟩ := h
  match f, hf with
  | f + 1, hf => rw [cutW, if_neg h1, if_neg h2, hw]; simp only; rw [if_neg hn]
theorem Cut.word {acc : List (List UInt8)} {c : UInt8} {r : List UInt8} {R : Option (List (List UInt8))} {x : List UInt8} {n : Nat} (h : Cut acc (c :: r) R) (h1 : c.toNat ≠ 32) (h2 : c.toNat ≠ 35) (hw : wordOf (c :: r) = some (x, n)) (hn : endOk ((c :: r).drop n) = true ∧ x.length ≤ 200 ∧ acc.length < 8) : Cut (acc ++ [x]) ((c :: r).drop n) R := by
  obtain ⟨f, hf, rfl⟩ := h
  have hp := wordOf_pos _ _ _ hw
  match f, hf with
  | f + 1, hf => exact ⟨f, by simp at hf ⊢; omega, by rw [cutW, if_neg h1, if_neg h2, hw]; simp only; rw [if_pos hn]⟩
theorem Cut.trim {acc : List (List UInt8)} {R : Option (List (List UInt8))} : ∀ {l : List UInt8}, Cut acc l R → Cut acc (l.dropWhile (fun c => c == 32)) R
  | [], h => h
  | c :: r, h => by
    rw [List.dropWhile_cons]
    split
    · rename_i hc
      have : c.toNat = 32 := by simp at hc; rw [hc]; rfl
      exact Cut.trim (h.space this)
    · exact h
/-- A word of strings' cells. -/
def strs (ws : List (List UInt8)) : List Value := ws.map fun l => Value.string ⟨l.toArray⟩
theorem strs_append (a b : List (List UInt8)) : strs (a ++ b) = strs a ++ strs b := by simp [strs]
theorem strs_length (a : List (List UInt8)) : (strs a).length = a.length := by simp [strs]
end Go.Proofs.YtlaejmehgaeobabGreatDoor
