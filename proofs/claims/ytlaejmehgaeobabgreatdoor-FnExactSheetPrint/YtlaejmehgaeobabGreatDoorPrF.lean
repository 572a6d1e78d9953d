import Derived.Test.YtlaejmehgaeobabGreatDoorPrE
import Derived.Test.YtlaejmehgaeobabGreatDoorPrA
import Derived.Test.YtlaejmehgaeobabGreatDoorValF
namespace Go.Proofs.YtlaejmehgaeobabGreatDoor
open Go.RowKit
theorem flat_le {α : Type} (f : α → List UInt8) (c : Nat) : ∀ (l : List α), (∀ x ∈ l, (f x).length ≤ c) → (l.flatMap f).length ≤ l.length * c
  | [], _ => by simp
  | a :: l, h => by
    have h1 := h a (by simp)
    have h2 := flat_le f c l (fun x hx => h x (by simp [hx]))
    rw [List.flatMap_cons, List.length_append, List.length_cons, Nat.succ_mul]
    omega
theorem wordL_le (l : List UInt8) : (wordL l).length ≤ 3 * l.length + 2 := by
  unfold wordL
  split
  · omega
  · have := flat_le qb 3 l (fun c _ => qb_len c)
    simp only [quoteL, List.length_append, List.length_cons, List.length_nil]
    omega
theorem lineL_le {kind : ByteArray} {a : PLine} (h : fitsIn (rulesOf kind) a.key a.ws = true) : (lineL a).length ≤ 2100 := by
  obtain ⟨_, h2, _, h4, h5⟩ := fits_line h
  unfold lineL
  have := flat_le (fun w => 32 :: wordL w) 603 a.ws (fun w hw => by have := wordL_le w; have := h5 w hw; rw [List.length_cons]; omega)
  rw [List.length_append]
  have h6 : a.ws.length * 603 ≤ 3 * 603 := Nat.mul_le_mul_right _ h4
  omega
theorem blockL_le {b : PBlock} (h : WriteOk b) (hl : b.lines.length ≤ 1048576) : (blockL b).length ≤ 2300000000 := by
  have h1 := (kind_bare h.1).2
  have h2 := (name_bare h.2.1).2
  have h3 := flat_le (fun a => 32 :: 32 :: lineL a ++ [10]) 2103 b.lines (fun a ha => by have := lineL_le (h.2.2 a ha); simp; omega)
  have h4 : b.lines.length * 2103 ≤ 1048576 * 2103 := Nat.mul_le_mul_right _ hl
  unfold blockL headL
  simp only [List.length_append, List.length_cons, List.length_nil]
  omega
theorem sheetL_le {bs : List PBlock} (h : SheetOk bs) (hl : ∀ b ∈ bs, b.lines.length ≤ 1048576) : (sheetL bs).length ≤ 140737488355328 := by
  have h3 := flat_le blockL 2300000000 bs (fun b hb => blockL_le ⟨(h.2.1 b hb).1, (h.2.1 b hb).2.1, (h.2.1 b hb).2.2.1⟩ (hl b hb))
  have h4 : bs.length * 2300000000 ≤ 60 * 2300000000 := Nat.mul_le_mul_right _ h.1
  unfold sheetL
  omega
theorem blockL_ne (b : PBlock) : blockL b ≠ [] := by unfold blockL headL; simp
theorem sheetL_ne {bs : List PBlock} (h : bs ≠ []) : sheetL bs ≠ [] := by
  cases bs with
  | nil => exact absurd rfl h
  | cons b bs => rw [sheetL, List.flatMap_cons]; simp [blockL_ne b]
theorem sheetTo_succ (bs : List PBlock) (j : Nat) (b : PBlock) (hj : bs[j]? = some b) : sheetL (bs.take (j + 1)) = sheetL (bs.take j) ++ blockL b := by
  unfold sheetL
  rw [List.take_add_one, hj]
  simp
theorem sheetTo_le (bs : List PBlock) (j : Nat) : (sheetL (bs.take j)).length ≤ (sheetL bs).length := by
  unfold sheetL
  conv => rhs; rw [← List.take_append_drop j bs, List.flatMap_append]
  simp
end Go.Proofs.YtlaejmehgaeobabGreatDoor
