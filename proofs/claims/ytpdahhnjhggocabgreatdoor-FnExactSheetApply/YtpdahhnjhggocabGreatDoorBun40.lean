import Derived.Test.YtpdahhnjhggocabGreatDoorBun36
import Derived.Test.YtpdahhnjhggocabGreatDoorBun26
import Derived.Test.YtpdahhnjhggocabGreatDoorBun25
import Derived.Test.YtpdahhnjhggocabGreatDoorBun24
import Derived.Test.YtpdahhnjhggocabGreatDoorBun20
import Derived.Test.YtpdahhnjhggocabGreatDoorBun13
import Derived.Test.YtpdahhnjhggocabGreatDoorBun12
namespace Go.Proofs.YtpdahhnjhggocabGreatDoor
open Go.RowKit
theorem flat_le {α : Type} (f : α → List UInt8) (c : Nat) : ∀ (l : List α), (∀ x ∈ l, (f x).length ≤ c) → (l.flatMap f).length ≤ l.length * c
 | [], _ => by simp
 | a :: l, h => by
  have h1 := h a (by simp)
  have h2 := flat_le f c l (fun x hx => h x (by simp [hx]))
  rw [List.flatMap_cons, List.length_append, List.length_cons, Nat.succ_mul]
  omega
theorem wordL_le (l : List UInt8) : (wordL l).length ≤ 3 * l.length + 2 := by
 unfold wordL
 split
 ·omega
 ·have := flat_le qb 3 l (fun c _ => qb_len c)
  simp only [quoteL, List.length_append, List.length_cons, List.length_nil]
  omega
theorem lineL_le {kind : ByteArray} {a : PLine} (h : fitsIn (rulesOf kind) a.key a.ws = true) : (lineL a).length ≤ 2100 := by
 obtain ⟨_, h2, _, h4, h5⟩ := fits_line h
 unfold lineL
 have := flat_le (fun w => 32 :: wordL w) 603 a.ws (fun w hw => by have := wordL_le w; have := h5 w hw; rw [List.length_cons]; omega)
 rw [List.length_append]
 have h6 : a.ws.length * 603 ≤ 3 * 603 := Nat.mul_le_mul_right _ h4
 omega
end Go.Proofs.YtpdahhnjhggocabGreatDoor
namespace Go.Proofs.YtpdahhnjhggocabGreatDoor
open Go.Lib (decDigits)
theorem lines_le {b : PBlock} (h : LinesOk (rulesOf b.kind) b.lines) : b.lines.length ≤ 120 ∧ ∀ a ∈ b.lines, (lineL a).length ≤ 2100 := by
 have h1 := h.few
 have h2 := (rulesOf_like b.kind).1
 exact ⟨by omega, fun a ha => lineL_le (h.1 a ha)⟩
def faultW : List (List UInt8) := [[], [97, 32, 119, 111, 114, 100, 32, 116, 104, 97, 116, 32, 105, 115, 32, 110, 111, 110, 101], [97, 32, 108, 105, 110, 101, 32, 111, 117, 116, 115, 105, 100, 101, 32, 111, 102, 32, 98, 108, 111, 99, 107, 115], [110, 111, 32, 115, 117, 99, 104, 32, 107, 105, 110, 100], [110, 111, 32, 115, 117, 99, 104, 32, 110, 97, 109, 101], [110, 111, 32, 115, 117, 99, 104, 32, 107, 101, 121], [115, 97, 105, 100, 32, 116, 119, 105, 99, 101], [110, 111, 116, 32, 119, 104, 97, 116, 32, 116, 104, 101, 32, 107, 101, 121, 32, 116, 97, 107, 101, 115], [97, 32, 98, 108, 111, 99, 107, 32, 116, 104, 97, 116, 32, 105, 115, 32, 110, 111, 116, 32, 101, 110, 100, 101, 100], [97, 32, 98, 108, 111, 99, 107, 32, 97, 103, 97, 105, 110], [116, 111, 111, 32, 109, 97, 110, 121], [116, 111, 111, 32, 108, 111, 110, 103]]
def faultT (code : Int) : List UInt8 := faultW.getD code.toNat []
end Go.Proofs.YtpdahhnjhggocabGreatDoor
namespace Go.Proofs.YtpdahhnjhggocabGreatDoor
open Go.RowKit
theorem ba_of {t : ByteArray} {l : List UInt8} (h : t.data.toList = l) : t = ⟨l.toArray⟩ := by
 subst h; cases t; simp
end Go.Proofs.YtpdahhnjhggocabGreatDoor
