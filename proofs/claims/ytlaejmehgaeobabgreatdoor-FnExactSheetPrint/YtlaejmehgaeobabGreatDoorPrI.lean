import Derived.Test.YtlaejmehgaeobabGreatDoorPrH
import Derived.Lib.OwnKind
namespace Go.Proofs.YtlaejmehgaeobabGreatDoor
open Go.RowKit
/-- A text in a row of bytes. -/
def Own (B : Nat) (w : World) (v : Value) (l : List UInt8) : Prop := w.ownsRow B 5 1 v l.length (Lib.byteCells l)
theorem Own.app {B : Nat} {w w' : World} {v v' : Value} {l : List UInt8} {s : ByteArray} {N : Nat} (h : Own B w v l) (hB : B ≤ w.heap.size) (ho : w'.ownsRow B 5 1 v' N (Lib.byteCells l ++ Lib.strCells s)) (hg : w.grownBy w' v.ownBlock) : Own B w' v' (l ++ s.data.toList) ∧ Below B w w' ∧ Lib.OthersKept 5 none w w' := by
  obtain rfl : N = l.length + s.size := by
    have := ho.1
    rw [List.length_append, Lib.byteCells_length, Lib.strCells_length] at this
    omega
  refine ⟨?_, ?_, ?_⟩
  · unfold Own
    rw [byteCells_app, ← strCells_bytes, List.length_append, show s.data.toList.length = s.size by simp]
    exact ho
  · exact (Below.refl B w).grown hg hB (fun k hk => (h.lt k hk).1)
  · exact (Lib.OthersKept.refl 5 none w).grown hg (Lib.ownsRow_kind h)
def cntTo (bs : List PBlock) (j : Nat) : Nat := ((bs.take j).map fun b => b.lines.length + 2).sum
theorem cntTo_succ (bs : List PBlock) (j : Nat) (b : PBlock) (hj : bs[j]? = some b) : cntTo bs (j + 1) = cntTo bs j + b.lines.length + 2 := by
  unfold cntTo
  rw [List.take_add_one, hj]
  simp; omega
theorem cntTo_le {bs : List PBlock} (hl : ∀ b ∈ bs, b.lines.length ≤ 1048576) : ∀ j, cntTo bs j ≤ j * 1048578
  | 0 => by simp [cntTo]
  | j + 1 => by
    have h := cntTo_le hl j
    cases hb : bs[j]? with
    | none =>
      have : bs.length ≤ j := by simpa using hb
      have e : cntTo bs (j + 1) = cntTo bs j := by unfold cntTo; rw [List.take_of_length_le (by omega), List.take_of_length_le (by omega)]
      omega
    | some b =>
      have := hl b (List.mem_of_getElem? hb)
      rw [cntTo_succ bs j b hb]; omega
theorem cntTo_lines {bs : List PBlock} (h : SheetOk bs) : cntTo bs bs.length = (textLines (sheetL bs)).length := by
  rw [textLines_sheet bs (fun b hb => ⟨(h.2.1 b hb).1, (h.2.1 b hb).2.1, (h.2.1 b hb).2.2.1⟩), linesN_sheet]
  unfold cntTo
  rw [List.take_length]
end Go.Proofs.YtlaejmehgaeobabGreatDoor
