import Derived.Test.YtpdahhnjhggocabGreatDoorBun30
import Derived.Test.YtpdahhnjhggocabGreatDoorBun20
import Derived.Test.YtpdahhnjhggocabGreatDoorBun15
import Derived.Test.YtpdahhnjhggocabGreatDoorBun13
namespace Go.Proofs.YtpdahhnjhggocabGreatDoor
open Go.RowKit
theorem others_below {e : TypeId} {b : Option Nat} {w u : World} (h : Below w.heap.size w u) : Lib.OthersKept e b w u := by
 intro k o hk _ _
 have hkl : k < w.heap.size := (Array.getElem?_eq_some_iff.1 hk).1
 rw [h.block k hkl]; exact hk
def Txt (B b : Nat) (l : List UInt8) (w : World) : Prop := Bld B b (Lib.byteCells l) w
theorem Txt.gr {B b : Nat} {l : List UInt8} {w u : World} (h : Txt B b l w) (hb : Below w.heap.size w u) : Txt B b l u := bldF_gr h hb
def Wrote (B b : Nat) (l : List UInt8) (w w' : World) : Prop := Txt B b l w' ∧ Below B w w' ∧ Lib.OthersKept 5 (some b) w w'
theorem Txt.lt {B b : Nat} {l : List UInt8} {w : World} (h : Txt B b l w) : b < w.heap.size := by
 rcases h with h | h <;> exact h.lt
theorem Wrote.trans {B b : Nat} {l m : List UInt8} {w u v : World} (h : Wrote B b l w u) (k : Wrote B b m u v) : Wrote B b m w v := ⟨k.1, h.2.1.trans k.2.1, h.2.2.trans k.2.2⟩
theorem Wrote.gr {B b : Nat} {m : List UInt8} {w u v : World} (hB : B ≤ w.heap.size) (h : Below w.heap.size w u) (k : Wrote B b m u v) : Wrote B b m w v := ⟨k.1, (h.mono hB).trans k.2.1, (others_below h).trans k.2.2⟩
end Go.Proofs.YtpdahhnjhggocabGreatDoor
namespace Go.Proofs.YtpdahhnjhggocabGreatDoor
open Go.RowKit
end Go.Proofs.YtpdahhnjhggocabGreatDoor
