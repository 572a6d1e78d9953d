import Derived.Test.YtlaejmehgaeobabGreatDoorRulesB
import Derived.Test.YtlaejmehgaeobabGreatDoorRow
namespace Go.Proofs.YtlaejmehgaeobabGreatDoor
open Go.RowKit
theorem cells_len (L : List RAt) : (L.flatMap RAt.cells).length = L.length * 4 := by
  induction L with
  | nil => rfl
  | cons a M ih => rw [List.flatMap_cons, List.length_append, ih]; simp [RAt.cells]; omega
theorem cells_at (D T : List RAt) (r : RAt) (c : Nat) (hc : c < 4) : ((D ++ r :: T).flatMap RAt.cells)[D.length * 4 + c]? = r.cells[c]? := by
  rw [List.flatMap_append, List.flatMap_cons, List.getElem?_append_right (by rw [cells_len]; omega), cells_len, Nat.add_sub_cancel_left, List.getElem?_append_left (by simp [RAt.cells]; omega)]
/-- The rules' list, what they hold, and rows beside them. -/
def RM (B : Nat) (w : World) (v : Value) (C : List RAt) (rest : List MRow) : Prop := Mem B w (⟨v, 94, 4, C.length, C.flatMap RAt.cells⟩ :: (C.flatMap RAt.rows ++ rest))
theorem RulesAt.rm {B : Nat} {w : World} {v : Value} {C : List RAt} (h : RulesAt B w v C) : RM B w v C [] := by unfold RM; rw [List.append_nil]; exact h
theorem RM.rules {B : Nat} {w : World} {v : Value} {C : List RAt} {rest : List MRow} (h : RM B w v C rest) : RulesAt B w v C := (show Mem B w ((⟨v, 94, 4, C.length, C.flatMap RAt.cells⟩ :: C.flatMap RAt.rows) ++ rest) from h).left
theorem RM.cell {B g n cap : Nat} {w : World} {D T : List RAt} {r : RAt} {rest : List MRow} (h : RM B w (.slice (some ⟨g, 0, none⟩) n cap) (D ++ r :: T) rest) (c : Nat) (hc : c < 4) : w.cell? ⟨g, D.length * 4 + c, none⟩ = r.cells[c]? := by
  have h1 := (Mem.head h).cells rfl (D.length * 4 + c)
  obtain ⟨u, hu⟩ : ∃ u, r.cells[c]? = some u := ⟨_, List.getElem?_eq_getElem (by simp [RAt.cells]; omega)⟩
  rw [hu]
  rw [← add_off]; exact h1 u (by rw [cells_at D T r c hc, hu])
theorem RM.args {B : Nat} {w : World} {v : Value} {D T : List RAt} {r : RAt} {rest : List MRow} (h : RM B w v (D ++ r :: T) rest) : w.ownsRow B 3 1 r.va r.ns.length (intsV r.ns) := h.1 ⟨r.va, 3, 1, r.ns.length, intsV r.ns⟩ (by simp [RAt.rows])
theorem RM.defs {B : Nat} {w : World} {v : Value} {D T : List RAt} {r : RAt} {rest : List MRow} (h : RM B w v (D ++ r :: T) rest) : w.ownsRow B 9 1 r.vd r.ds.length (strs r.ds) := h.1 ⟨r.vd, 9, 1, r.ds.length, strs r.ds⟩ (by simp [RAt.rows])
theorem RM.below {B : Nat} {w w' : World} {v : Value} {C : List RAt} {rest : List MRow} (h : RM B w v C rest) (hb : Below w.heap.size w w') : RM B w' v C rest := Mem.below h hb
theorem split1 {α : Type} (L : List α) (j : Nat) (h : j < L.length) : ∃ D r T, L = D ++ r :: T ∧ D.length = j :=
  ⟨L.take j, L[j], L.drop (j + 1), by rw [← List.drop_eq_getElem_cons h, List.take_append_drop], by simp; omega⟩
end Go.Proofs.YtlaejmehgaeobabGreatDoor
