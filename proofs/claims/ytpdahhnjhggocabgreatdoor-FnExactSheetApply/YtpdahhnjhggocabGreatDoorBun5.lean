import Derived.Lib.ItoaMem
import Derived.Lib.AtoiAllCases
namespace Go.Proofs.YtpdahhnjhggocabGreatDoor
open Go.Lib
def isDig (c : UInt8) : Bool := decide (48 ≤ c.toNat) && decide (c.toNat ≤ 57)
def stepV (a : Nat) (c : UInt8) : Nat := a * 10 + (c.toNat - 48)
def valFrom (a : Nat) (l : List UInt8) : Nat := l.foldl stepV a
theorem valFrom_nil (a : Nat) : valFrom a [] = a := by rw [valFrom, List.foldl_nil]
theorem valFrom_cons (a : Nat) (c : UInt8) (r : List UInt8) : valFrom a (c :: r) = valFrom (a * 10 + (c.toNat - 48)) r := by
 rw [valFrom, List.foldl_cons, valFrom, stepV]
def valL (l : List UInt8) : Nat := valFrom 0 l
def numB (l : List UInt8) : Bool := (decide (1 ≤ l.length) && decide (l.length ≤ 7)) && l.all isDig && (decDigits (valL l) == l && decide (valL l ≤ 1000000))
def signB (l : List UInt8) : Bool := numB l || (decide (1 < l.length) && l.head? == some 45 && l.tail != [48] && numB l.tail)
def decB (least : Int) (l : List UInt8) : Bool := match atoiAll l with
 | .ok v => decide (least ≤ v) && decide (v ≤ 1000000) && itoa v == l
 | _ => false
theorem valFrom_append (l m : List UInt8) (a : Nat) : valFrom a (l ++ m) = valFrom (valFrom a l) m := by
 rw [valFrom, List.foldl_append, valFrom, valFrom]
theorem valFrom_le (l : List UInt8) (a : Nat) : a ≤ valFrom a l := by
 induction l generalizing a with
 | nil => rw [valFrom_nil]; exact Nat.le_refl _
 | cons c l ih => rw [valFrom_cons]; exact Nat.le_trans (by omega) (ih _)
theorem dig_of (d : Nat) (h : d < 10) : (UInt8.ofNat (48 + d)).toNat = 48 + d := by rw [UInt8.toNat_ofNat']; omega
theorem dec_digs (u : Nat) : (decDigits u).all isDig = true ∧ valL (decDigits u) = u := by
 induction u using Nat.strongRecOn with
 | _ u ih =>
  by_cases h : u < 10
  ·rw [decDigits, dif_pos h]
   have := dig_of u h
   refine ⟨?_, ?_⟩
   ·simp [isDig]; omega
   ·rw [valL, valFrom_cons, valFrom_nil, this]; omega
  ·rw [decDigits, dif_neg h]
   obtain ⟨i1, i2⟩ := ih (u / 10) (by omega)
   have := dig_of (u % 10) (by omega)
   refine ⟨?_, ?_⟩
   ·rw [List.all_append, i1]
    simp [isDig]; omega
   ·unfold valL at i2 ⊢
    rw [valFrom_append, i2]
    rw [valFrom_cons, valFrom_nil, this]; omega
theorem nDigits_max (u : Nat) (h : u ≤ 1000000) : nDigits u ≤ 7 := by
 by_cases h0 : u < 10
 ·rw [nDigits_small h0]; omega
 ·rw [nDigits_big h0]
  by_cases h1 : u / 10 < 10
  ·rw [nDigits_small h1]; omega
  ·rw [nDigits_big h1]
   by_cases h2 : u / 10 / 10 < 10
   ·rw [nDigits_small h2]; omega
   ·rw [nDigits_big h2]
    by_cases h3 : u / 10 / 10 / 10 < 10
    ·rw [nDigits_small h3]; omega
    ·rw [nDigits_big h3]
     by_cases h4 : u / 10 / 10 / 10 / 10 < 10
     ·rw [nDigits_small h4]; omega
     ·rw [nDigits_big h4]
      by_cases h5 : u / 10 / 10 / 10 / 10 / 10 < 10
      ·rw [nDigits_small h5]; omega
      ·rw [nDigits_big h5, nDigits_small (by omega)]; omega
theorem numB_dec (u : Nat) (h : u ≤ 1000000) : numB (decDigits u) = true := by
 have hd := dec_digs u
 have hl := decDigits_length u
 have h1 := nDigits_pos u
 have h2 := nDigits_max u h
 unfold numB
 rw [hd.1, hd.2, hl]
 simp [h1, h2, h]
theorem numB_iff (l : List UInt8) : numB l = true ↔ ∃ u, u ≤ 1000000 ∧ l = decDigits u := by
 constructor
 ·intro h
  unfold numB at h
  simp only [Bool.and_eq_true, beq_iff_eq, decide_eq_true_eq] at h
  exact ⟨valL l, h.2.2, h.2.1.symm⟩
 ·rintro ⟨u, h, rfl⟩; exact numB_dec u h
theorem parse_digs (l : List UInt8) (a : Nat) (hd : l.all isDig = true) (hb : valFrom a l < 10000000) : parseUint10 a l = .ok (valFrom a l) := by
 induction l generalizing a with
 | nil => rw [valFrom_nil]; rfl
 | cons c l ih =>
  simp only [List.all_cons, Bool.and_eq_true, isDig, decide_eq_true_eq] at hd
  rw [valFrom_cons] at hb ⊢
  have hle := valFrom_le l (a * 10 + (c.toNat - 48))
  simp only [parseUint10]
  rw [if_pos (by omega), if_neg (by omega), if_neg (by omega)]
  exact ih _ hd.2 hb
theorem parse_dec (u : Nat) (h : u ≤ 1000000) : parseMag (decDigits u) = .ok u := by
 have hd := dec_digs u
 have hne : decDigits u ≠ [] := fun e => by have := decDigits_length u; rw [e] at this; have := nDigits_pos u; simp at *; omega
 unfold parseMag
 rw [if_neg hne, parse_digs _ 0 hd.1 (by have := hd.2; unfold valL at this; omega)]
 exact congrArg _ hd.2
theorem atoi_dec (u : Nat) (h : u ≤ 1000000) : atoiAll (decDigits u) = .ok (u : Int) := by
 have hp := parse_dec u h
 have hd := (dec_digs u).1
 cases hl : decDigits u with
 | nil => have := decDigits_length u; rw [hl] at this; have := nDigits_pos u; simp at *; omega
 | cons c r =>
  rw [hl] at hd hp
  simp only [List.all_cons, Bool.and_eq_true, isDig, decide_eq_true_eq] at hd
  rw [atoiAll_plain c r (by omega) (by omega), hp]
  unfold signless
  dsimp only
  rw [if_neg (by omega)]
theorem atoi_neg (u : Nat) (h : u ≤ 1000000) : atoiAll (45 :: decDigits u) = .ok (-(u : Int)) := by
 rw [atoiAll_minus, parse_dec u h]
 unfold signed
 dsimp only
 rw [if_neg (by omega)]
theorem decB_zero (l : List UInt8) : decB 0 l = numB l := by
 rw [Bool.eq_iff_iff, numB_iff]
 constructor
 ·intro h
  unfold decB at h
  split at h
  ·rename_i v hv
   simp only [Bool.and_eq_true, beq_iff_eq, decide_eq_true_eq] at h
   obtain ⟨⟨h1, h2⟩, h3⟩ := h
   obtain ⟨u, rfl⟩ : ∃ u : Nat, v = (u : Int) := ⟨v.toNat, by omega⟩
   exact ⟨u, by omega, by rw [← h3, itoa_nonneg]⟩
  ·cases h
 ·rintro ⟨u, h, rfl⟩
  unfold decB
  rw [atoi_dec u h]
  simp only [Bool.and_eq_true, beq_iff_eq, decide_eq_true_eq]
  exact ⟨⟨by omega, by omega⟩, itoa_nonneg u⟩
theorem dec_zero : decDigits 0 = [48] := by rw [decDigits, dif_pos (by omega)]; rfl
theorem decB_signed (l : List UInt8) : decB (-1000000) l = signB l := by
 rw [Bool.eq_iff_iff]
 constructor
 ·intro h
  unfold decB at h
  split at h
  ·rename_i v hv
   simp only [Bool.and_eq_true, beq_iff_eq, decide_eq_true_eq] at h
   obtain ⟨⟨h1, h2⟩, h3⟩ := h
   unfold signB
   rw [Bool.or_eq_true]
   by_cases h0 : 0 ≤ v
   ·left
    rw [numB_iff]
    obtain ⟨u, rfl⟩ : ∃ u : Nat, v = (u : Int) := ⟨v.toNat, by omega⟩
    exact ⟨u, by omega, by rw [← h3, itoa_nonneg]⟩
   ·right
    have hv' : v = -((v.natAbs : Nat) : Int) := by omega
    rw [hv', itoa_neg _ (by omega)] at h3
    rw [← h3]
    have hl := decDigits_length v.natAbs
    have hp := nDigits_pos v.natAbs
    have hne : decDigits v.natAbs ≠ [48] := fun e => by
     have := (dec_digs v.natAbs).2
     rw [e] at this
     have h0 : valL [48] = 0 := by decide
     omega
    simp only [List.length_cons, hl, List.head?_cons, List.tail_cons, numB_dec _ (show v.natAbs ≤ 1000000 by omega), Bool.and_true, Bool.and_eq_true, decide_eq_true_eq, beq_self_eq_true]
    exact ⟨by omega, by simpa using hne⟩
  ·cases h
 ·intro h
  unfold signB at h
  rw [Bool.or_eq_true] at h
  rcases h with h | h
  ·obtain ⟨u, hu, rfl⟩ := (numB_iff l).1 h
   unfold decB
   rw [atoi_dec u hu]
   simp only [Bool.and_eq_true, beq_iff_eq, decide_eq_true_eq]
   exact ⟨⟨by omega, by omega⟩, itoa_nonneg u⟩
  ·simp only [Bool.and_eq_true, decide_eq_true_eq, beq_iff_eq, bne_iff_ne] at h
   obtain ⟨⟨⟨h1, h2⟩, h3⟩, h4⟩ := h
   obtain ⟨u, hu, ht⟩ := (numB_iff l.tail).1 h4
   have hl : l = 45 :: decDigits u := by
    cases l with
    | nil => simp at h2
    | cons c r => simp only [List.head?_cons, Option.some.injEq] at h2; rw [h2, ← ht]; rfl
   have hu0 : 1 ≤ u := by
    rcases Nat.eq_zero_or_pos u with h0 | h0
    ·subst h0; rw [ht, dec_zero] at h3; exact absurd rfl h3
    ·exact h0
   subst hl
   unfold decB
   rw [atoi_neg u hu]
   simp only [Bool.and_eq_true, beq_iff_eq, decide_eq_true_eq]
   exact ⟨⟨by omega, by omega⟩, itoa_neg u hu0⟩
end Go.Proofs.YtpdahhnjhggocabGreatDoor
