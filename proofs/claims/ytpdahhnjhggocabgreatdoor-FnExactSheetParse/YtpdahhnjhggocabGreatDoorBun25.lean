import Derived.Test.YtpdahhnjhggocabGreatDoorBun23
import Derived.Deep.DeepCutAuto
import Derived.WideMake
namespace Go.Proofs.YtpdahhnjhggocabGreatDoor
open Go.RowKit
structure Gr (w : World) where
  u : World
  h : Below w.heap.size w u
instance (w : World) : Inhabited (Gr w) := ⟨⟨w, Below.refl _ _⟩⟩
theorem wp_region_gr {P : Program} {id : Nat} {Q : Exit → Act → World → Prop} {a : Act} {w : World} {l : List Oper} (hm : P.follows .mixedOrders = true) (hB : Region.lexB .any l.toArray = true)
    (h : wpQuiet P l.toArray (fun w' => ∃ p : Gr w, w' = p.u) (fun a' => ∀ w', (∃ p : Gr w, w' = p.u) → Q .normal a' w') l a) : (Code.region id l.toArray true).wp P Q a w :=
  wp_region_quiet (C := fun w' => ∃ p : Gr w, w' = p.u) hm hB ⟨⟨w.drew, (Below.refl _ _).drew⟩, rfl⟩ (by simpa using h)
theorem gr_of {P : Program} {f : FuncId} {args : Array Value} {w : World} {p : Gr w} {v : Value} (h : Calls P f args p.u fun e w' => e = .returned v ∧ Below p.u.heap.size p.u w') : Calls P f args p.u fun e w'' => e = .returned v ∧ ∃ q : Gr w, w'' = q.u :=
  h.mono fun _ w' ⟨he, hb⟩ => ⟨he, ⟨w', p.h.trans (hb.mono p.h.size)⟩, rfl⟩
theorem quiet_skip {P : Program} {ops : Array Oper} {C : World → Prop} {Q : Act → Prop} {o : Oper} {rest : List Oper} {a : Act} (hw : Region.wanted o (yielded ops a.tmps) = false) (h : wpQuiet P ops C Q rest (a.put o.dst undef)) : wpQuiet P ops C Q (o :: rest) a := by
  unfold wpQuiet; rw [if_neg (by rw [hw]; decide)]; exact h
theorem gr_cell {w : World} {a : Addr} {v : Value} (h : w.cell? a = some v) (p : Gr w) : p.u.cell? a = some v := (p.h.cell (World.block_lt_of_cell? w _ h)).trans h
def SpecTo (R : List Plain) (ls : List PLine) (k : Nat) : Prop := ∀ i, i < k → SpecAt R ls i
theorem SpecTo.zero (R : List Plain) (ls : List PLine) : SpecTo R ls 0 := fun _ h => by omega
theorem SpecTo.all {R : List Plain} {ls : List PLine} (h : SpecTo R ls ls.length) : true = linesB R ls := by
  rw [eq_comm, linesB_iff]; exact linesOk_spec h
def firstOk (R : List Plain) (ls : List PLine) (i : Nat) (a : PLine) : Prop := fitsIn R a.key a.ws = true ∧ (i = 0 ∨ ∃ b, ls[i - 1]? = some b ∧ lineLt R b a = true)
theorem SpecTo.succ {R : List Plain} {ls : List PLine} {i : Nat} {a : PLine} (h : SpecTo R ls i) (ha : ls[i]? = some a) (h1 : firstOk R ls i a) (h2 : (manyR R a.key = true ∨ keyN (ls.take (i + 1)) a.key ≤ 1) ∧ keyN (ls.take (i + 1)) a.key ≤ 10) : SpecTo R ls (i + 1) := by
  intro j hj
  by_cases e : j = i
  · subst e; exact ⟨a, ha, h1.1, h1.2, h2.1, h2.2⟩
  · exact h j (by omega)
end Go.Proofs.YtpdahhnjhggocabGreatDoor
namespace Go.Proofs.YtpdahhnjhggocabGreatDoor
open Go.RowKit
def SpecBTo (bs : List PBlock) (k : Nat) : Prop := ∀ i, i < k → SpecBlock bs i
theorem SpecBTo.zero (bs : List PBlock) : SpecBTo bs 0 := fun _ h => by omega
theorem SpecBTo.all {bs : List PBlock} (h : SpecBTo bs bs.length) (hl : bs.length ≤ 60) : true = sheetB bs := by
  rw [eq_comm, sheetB_iff]; exact sheetOk_spec hl h
def blockOk (bs : List PBlock) (i : Nat) (b : PBlock) : Prop := (rulesOf b.kind).length ≠ 0 ∧ nameB b.name.data.toList = true ∧ linesB (rulesOf b.kind) b.lines = true ∧ (i = 0 ∨ ∃ a, bs[i - 1]? = some a ∧ blockLt a b = true)
theorem SpecBTo.succ {bs : List PBlock} {i : Nat} {b : PBlock} (h : SpecBTo bs i) (hb : bs[i]? = some b) (h1 : blockOk bs i b) : SpecBTo bs (i + 1) := by
  intro j hj
  by_cases e : j = i
  · subst e; exact ⟨b, hb, h1.1, h1.2.1, linesB_iff.1 h1.2.2.1, h1.2.2.2⟩
  · exact h j (by omega)
end Go.Proofs.YtpdahhnjhggocabGreatDoor
namespace Go.Proofs.YtpdahhnjhggocabGreatDoor
open Go.RowKit
def WordsTo (ws : List (List UInt8)) (k : Nat) : Prop := ∀ x ∈ ws.take k, x.length ≤ 1048576
theorem WordsTo.zero (ws : List (List UInt8)) : WordsTo ws 0 := by simp [WordsTo]
theorem WordsTo.succ {ws : List (List UInt8)} {j : Nat} (h : WordsTo ws j) (hj : j < ws.length) (hx : ws[j].length ≤ 1048576) : WordsTo ws (j + 1) := by
  unfold WordsTo at *
  rw [List.take_succ_eq_append_getElem hj]
  intro x hm
  rcases List.mem_append.1 hm with hm | hm
  · exact h x hm
  · rw [List.mem_singleton.1 hm]; exact hx
theorem WordsTo.all {ws : List (List UInt8)} (h : WordsTo ws ws.length) : ∀ x ∈ ws, x.length ≤ 1048576 := by
  unfold WordsTo at h; rwa [List.take_length] at h
def AllTo {α : Type} (p : α → Prop) (l : List α) (k : Nat) : Prop := ∀ x ∈ l.take k, p x
theorem AllTo.zero {α : Type} (p : α → Prop) (l : List α) : AllTo p l 0 := by simp [AllTo]
theorem AllTo.succ {α : Type} {p : α → Prop} {D T : List α} {r : α} (h : AllTo p (D ++ r :: T) D.length) (hr : p r) : AllTo p (D ++ r :: T) (D.length + 1) := by
  unfold AllTo at *
  rw [take_front] at h
  rw [take_one]
  intro x hx
  rcases List.mem_append.1 hx with hx | hx
  · exact h x hx
  · rw [List.mem_singleton.1 hx]; exact hr
theorem AllTo.all {α : Type} {p : α → Prop} {l : List α} (h : AllTo p l l.length) : ∀ x ∈ l, p x := by
  unfold AllTo at h; rwa [List.take_length] at h
end Go.Proofs.YtpdahhnjhggocabGreatDoor
namespace Go.Proofs.YtpdahhnjhggocabGreatDoor
open Go.RowKit
end Go.Proofs.YtpdahhnjhggocabGreatDoor
