import Derived.Test.YtpdahhnjhggocabGreatDoorBun21
import Derived.Test.YtpdahhnjhggocabGreatDoorBun18
namespace Go.Proofs.YtpdahhnjhggocabGreatDoor
open Go.RowKit
/-- What calls of a law leave, behind plain words (the walk does not look into them). -/
def ShPost (P : List PBlock) (w : World) (e : Ending) (w' : World) : Prop := ∃ v' bs', e = .returned (.agg #[v']) ∧ bs'.map BAt.plain = P ∧ BlocksOwn w.heap.size w' v' bs' ∧ Below w.heap.size w w'
def LsPost (G : Bool × List PLine) (w : World) (e : Ending) (w' : World) : Prop := ∃ v' ls', e = .returned (.tuple #[v', .bool G.1]) ∧ ls'.map LAt.plain = G.2 ∧ LinesOwn w.heap.size w' v' ls' ∧ LinesSmall ls' ∧ Below w.heap.size w w'
def BoolPost (b : Bool) (w : World) (e : Ending) (w' : World) : Prop := e = .returned (.bool b) ∧ Below w.heap.size w w'
def IntPost (n : Nat) (w : World) (e : Ending) (w' : World) : Prop := e = .returned (.int .i64 (n : Int)) ∧ Below w.heap.size w w'
def MarkB (B : Nat) (v : Value) (L : List BAt) (rest : List MRow) (w : World) (e : Ending) (w' : World) : Prop := e = .returned (.int .i64 (endB 1 L : Int)) ∧ BM B w' v (markBs 1 L) rest ∧ Below B w w'
def MarkL (B : Nat) (v : Value) (L : List LAt) (rest : List MRow) (w : World) (e : Ending) (w' : World) : Prop := e = .returned (.int .i64 (endL 1 L : Int)) ∧ LM B w' v (markLs 1 L) rest ∧ Below B w w'
theorem toSheet_p {v : Value} {bs : List BAt} {w : World} (h : BlocksIn w v bs) (hs : BlocksSmall bs) : Calls Tryz.prog 20 #[.agg #[v]] w fun e w' => ShPost (bs.map BAt.plain) w e w' := toSheet_any h hs
theorem eqSheet_p {v u : Value} {xs ys : List BAt} {w : World} (h1 : BlocksIn w v xs) (h2 : BlocksIn w u ys) (he : xs.map BAt.plain = ys.map BAt.plain) (hs : xs.length ≤ 1048576 ∧ ∀ x ∈ xs, LinesSmall x.ls) : Calls Tryz.prog 14 #[.agg #[v], .agg #[u]] w fun e w' => BoolPost true w e w' := eqSheet_any h1 h2 he hs
theorem eqLines_p {v u : Value} {xs ys : List LAt} {w : World} (h1 : LinesIn w v xs) (h2 : LinesIn w u ys) (he : xs.map LAt.plain = ys.map LAt.plain) (hs : LinesSmall xs) : Calls Tryz.prog 28 #[v, u] w fun e w' => BoolPost true w e w' := eqLines_any h1 h2 he hs
theorem markSheet_p {B : Nat} {v : Value} {L : List BAt} {rest : List MRow} {w : World} (hB : B ≤ w.heap.size) (h : BM B w v L rest) (hs : BlocksSmall L) : Calls Tryz.prog 16 #[.agg #[v], .int .i64 1] w fun e w' => MarkB B v L rest w e w' :=
  markSheet_own (k := 1) hB h hs.1 (fun x hx => (hs.2 x hx).2.1) (Nat.le_refl _) (Nat.le_trans (endB_fits hs) (by decide))
theorem heldSheet_p {B : Nat} {v : Value} {L : List BAt} {w : World} (h : BlocksOwn B w v (markBs 1 L)) (hs : BlocksSmall L) : Calls Tryz.prog 17 #[.agg #[v], .int .i64 1] w fun e w' => IntPost (endB 1 L) w e w' :=
  heldSheet_own (k := 1) h hs.1 (fun x hx => (hs.2 x hx).2.1) (Nat.le_refl _) (Nat.le_trans (endB_fits hs) (by decide))
theorem endL_fits {L : List LAt} (h : LinesSmall L) : endL 1 L ≤ 4611686018427387904 := by
  have h1 := endL_small L 1 (fun x hx => (h.2 x hx).1)
  have h2 := h.1
  omega
theorem markLines_p {B : Nat} {v : Value} {L : List LAt} {rest : List MRow} {w : World} (hB : B ≤ w.heap.size) (h : LM B w v L rest) (hs : LinesSmall L) : Calls Tryz.prog 29 #[v, .int .i64 1] w fun e w' => MarkL B v L rest w e w' :=
  markLines_own (k := 1) hB h hs.1 (Nat.le_refl _) (endL_fits hs)
theorem heldLines_p {B : Nat} {v : Value} {L : List LAt} {w : World} (h : LinesOwn B w v (markLs 1 L)) (hs : LinesSmall L) : Calls Tryz.prog 30 #[v, .int .i64 1] w fun e w' => IntPost (endL 1 L) w e w' :=
  heldLines_own (k := 1) h hs.1 (Nat.le_refl _) (endL_fits hs)
/-- A block of one struct, as a row. -/
theorem box_row (w : World) (v : Value) (T : TypeId) : (w.alloc (.cells #[v] T)).ownsRow w.heap.size T 1 (.slice (some ⟨w.heap.size, 0, none⟩) 1 1) 1 [v] := World.ownsRow_lit (base := w.heap.size) (e := T) (size := 1) w #[v] 1 (Nat.le_refl _) (by decide) rfl
theorem row_box {B g : Nat} {w : World} {T : TypeId} {v : Value} (h : w.ownsRow B T 1 (.slice (some ⟨g, 0, none⟩) 1 1) 1 [v]) : w.cell? ⟨g, 0, none⟩ = some v := by
  have := h.cells (g := g) rfl 0 v rfl
  rwa [add_off] at this
end Go.Proofs.YtpdahhnjhggocabGreatDoor
