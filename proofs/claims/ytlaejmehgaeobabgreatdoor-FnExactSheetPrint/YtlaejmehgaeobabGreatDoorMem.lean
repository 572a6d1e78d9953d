import Derived.Test.YtlaejmehgaeobabGreatDoorBase
import Derived.Laws.OwnMore
namespace Go.Proofs.YtlaejmehgaeobabGreatDoor
open Go.RowKit
/-- One row of memory: the slice that owns it, its element type, cells an element, how many elements, its cells. -/
structure MRow where
  v : Value
  e : TypeId
  size : Nat
  n : Nat
  xs : List Value
def MRow.isAt (r : MRow) (B : Nat) (w : World) : Prop := w.ownsRow B r.e r.size r.v r.n r.xs
/-- All rows are there, in blocks from B on, and no two lie in one block. -/
def Mem (B : Nat) (w : World) (L : List MRow) : Prop := (∀ r ∈ L, r.isAt B w) ∧ L.Pairwise (fun r s => r.v.ownBlock = none ∨ r.v.ownBlock ≠ s.v.ownBlock)
theorem Mem.nil (B : Nat) (w : World) : Mem B w [] := ⟨by simp, by simp⟩
theorem Mem.kept {B : Nat} {w w' : World} {L : List MRow} (h : Mem B w L) (hg : w.grownBy w' none) : Mem B w' L :=
  ⟨fun r hr => World.ownsRow.kept (h.1 r hr) hg (by cases hv : r.v.ownBlock <;> simp), h.2⟩
theorem Mem.below {B : Nat} {w w' : World} {L : List MRow} (h : Mem B w L) (hb : Below w.heap.size w w') : Mem B w' L := h.kept (grown_of_below hb none)
theorem Mem.mono {B B' : Nat} {w : World} {L : List MRow} (h : Mem B w L) (hB : B' ≤ B) : Mem B' w L := ⟨fun r hr => own_mono (h.1 r hr) hB, h.2⟩
theorem Mem.lt {B : Nat} {w : World} {L : List MRow} (h : Mem B w L) {r : MRow} (hr : r ∈ L) {g : Nat} (hg : r.v.ownBlock = some g) : B ≤ g ∧ g < w.heap.size := World.ownsRow.lt (h.1 r hr) g hg
/-- Rows that are new beside rows that were there. -/
theorem Mem.join {B : Nat} {w w' : World} {L N : List MRow} (h : Mem B w L) (hN : Mem w.heap.size w' N) (hb : Below w.heap.size w w') (hB : B ≤ w.heap.size) : Mem B w' (N ++ L) := by
  have h' := h.below hb
  refine ⟨fun r hr => ?_, List.pairwise_append.2 ⟨hN.2, h.2, fun r hr s hs => ?_⟩⟩
  · rcases List.mem_append.1 hr with h1 | h1
    · exact own_mono (hN.1 r h1) hB
    · exact h'.1 r h1
  · cases hv : r.v.ownBlock with
    | none => exact Or.inl rfl
    | some g =>
      refine Or.inr fun e => ?_
      have h1 := (hN.lt hr hv).1
      have h2 := (h.lt hs e.symm).2
      omega
/-- One new row beside rows that were there. -/
theorem Mem.cons {B : Nat} {w w' : World} {L : List MRow} {r : MRow} (h : Mem B w L) (hr : r.isAt w.heap.size w') (hb : Below w.heap.size w w') (hB : B ≤ w.heap.size) : Mem B w' (r :: L) :=
  h.join (N := [r]) ⟨fun s hs => by rw [List.mem_singleton.1 hs]; exact hr, by simp⟩ hb hB
theorem Mem.head {B : Nat} {w : World} {L : List MRow} {r : MRow} (h : Mem B w (r :: L)) : w.ownsRow B r.e r.size r.v r.n r.xs := h.1 r (by simp)
theorem Mem.tail {B : Nat} {w : World} {L : List MRow} {r : MRow} (h : Mem B w (r :: L)) : Mem B w L := ⟨fun s hs => h.1 s (by simp [hs]), (List.pairwise_cons.1 h.2).2⟩
theorem Mem.left {B : Nat} {w : World} {L N : List MRow} (h : Mem B w (N ++ L)) : Mem B w N := ⟨fun s hs => h.1 s (by simp [hs]), (List.pairwise_append.1 h.2).1⟩
theorem Mem.right {B : Nat} {w : World} {L N : List MRow} (h : Mem B w (N ++ L)) : Mem B w L := ⟨fun s hs => h.1 s (by simp [hs]), (List.pairwise_append.1 h.2).2.1⟩
/-- The row at the head is turned, and nothing else: the others stand. -/
theorem Mem.turn {B : Nat} {w w' : World} {L : List MRow} {r r' : MRow} (h : Mem B w (r :: L)) (hv : r'.v = r.v) (hr : r'.isAt B w') (hg : w.grownBy w' r.v.ownBlock) : Mem B w' (r' :: L) := by
  have hp := List.pairwise_cons.1 h.2
  refine ⟨fun s hs => ?_, List.pairwise_cons.2 ⟨fun s hs => by rw [hv]; exact hp.1 s hs, hp.2⟩⟩
  rcases List.mem_cons.1 hs with rfl | h1
  · exact hr
  · refine World.ownsRow.kept (h.1 s (by simp [h1])) hg ?_
    rcases hp.1 s h1 with h2 | h2
    · cases hs' : s.v.ownBlock with
      | none => exact Or.inl rfl
      | some g => right; rw [h2]; simp
    · exact Or.inr (fun e => h2 e.symm)
theorem Mem.perm {B : Nat} {w : World} {L N : List MRow} (h : Mem B w L) (hp : L.Perm N) : Mem B w N := by
  refine ⟨fun r hr => h.1 r (hp.mem_iff.2 hr), ?_⟩
  refine (hp.pairwise_iff ?_).1 h.2
  intro r s hrs
  rcases hrs with h1 | h1
  · by_cases h2 : s.v.ownBlock = none
    · exact Or.inl h2
    · exact Or.inr (by rw [h1]; exact h2)
  · exact Or.inr (Ne.symm h1)
/-- Whole numbers in cells. -/
def intsV (l : List Int) : List Value := l.map (Value.int .i64)
theorem intsV_length (l : List Int) : (intsV l).length = l.length := by simp [intsV]
end Go.Proofs.YtlaejmehgaeobabGreatDoor
