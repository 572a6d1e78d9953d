import Derived.Test.YtnnpgnkmmahomabGreatDoorBun18
import Derived.Deep.MidRow
import Derived.WideMake
namespace Go.Proofs.YtnnpgnkmmahomabGreatDoor
open Go.RowKit
theorem below_grownR {w wr wr' : World} (hb : Below w.heap.size w wr) (hg : wr.grownBy wr' (some w.heap.size)) : Below w.heap.size w wr' := by
  obtain ⟨g1, g2, g3, g4, g5⟩ := hg
  have hs := hb.size
  exact ⟨g1.trans hb.os, g2.trans hb.tape, g3.trans hb.output, Nat.le_trans hs g4, fun k hk => (g5 k (by omega) (by intro h; cases h; omega)).trans (hb.block k hk)⟩
theorem below_madeR {w w' : World} (hg : w.grownBy w' none) : Below w.heap.size w w' := by
  obtain ⟨g1, g2, g3, g4, g5⟩ := hg
  exact ⟨g1, g2, g3, g4, fun k hk => g5 k hk (by intro h; cases h)⟩
theorem own_setRow {w : World} {base : Nat} {e : TypeId} {size : Nat} {v : Value} {n : Nat} {xs : List Value} (h : w.ownsRow base e size v n xs) (g : Nat) (hg : g < base) (cs : Array Value) : (w.setRow g cs).ownsRow base e size v n xs := by
  refine ⟨h.1, ?_⟩
  rcases h.2 with h2 | ⟨g', cap, cur, hv, hb, hh, hrest⟩
  · exact Or.inl h2
  · exact Or.inr ⟨g', cap, cur, hv, hb, by rw [setRow_other _ _ _ _ (by omega)]; exact hh, hrest⟩
theorem alloc3 {w : World} {o1 o2 o3 : Obj} : (((w.alloc o1).alloc o2).alloc o3).heap.size = w.heap.size + 3 ∧ (((w.alloc o1).alloc o2).alloc o3).heap[w.heap.size]? = some o1 ∧ (((w.alloc o1).alloc o2).alloc o3).heap[w.heap.size + 1]? = some o2 ∧ (((w.alloc o1).alloc o2).alloc o3).heap[w.heap.size + 2]? = some o3 := by
  refine ⟨by simp, ?_, ?_, ?_⟩
  · rw [alloc_there _ _ _ (by simp; omega), alloc_there _ _ _ (by simp), alloc_here]
  · rw [alloc_there _ _ _ (by simp)]
    have := alloc_here (w.alloc o1) o2
    rwa [World.size_alloc] at this
  · have := alloc_here ((w.alloc o1).alloc o2) o3
    rwa [World.size_alloc, World.size_alloc] at this
theorem cell_of_block {w : World} {g : Nat} {cs : Array Value} {T : TypeId} (h : w.heap[g]? = some (.cells cs T (0, 0))) (j : Nat) : w.cell? ⟨g, j, none⟩ = cs[j]? := by
  unfold World.cell?; rw [h]; rfl
theorem frozen_of_block {w : World} {g : Nat} {cs : Array Value} {T : TypeId} (h : w.heap[g]? = some (.cells cs T (0, 0))) (j : Nat) : w.frozen? ⟨g, j, none⟩ = false := by
  unfold World.frozen?; rw [h]; simp
/-- A row of structs of k cells, one of them turned. -/
theorem own_setCells {base g n cap size : Nat} {e : TypeId} (vs : List Value) : ∀ (o : Nat) (w : World) (xs : List Value), w.ownsRow base e size (.slice (some ⟨g, 0, none⟩) n cap) n xs → ∃ ys, (w.setCells g o vs).ownsRow base e size (.slice (some ⟨g, 0, none⟩) n cap) n ys ∧ w.grownBy (w.setCells g o vs) (some g) ∧ ∀ A B C, xs = A ++ B ++ C → A.length = o → B.length = vs.length → ys = A ++ vs ++ C := by
  induction vs with
  | nil =>
    intro o w xs h
    refine ⟨xs, h, ⟨rfl, rfl, rfl, Nat.le_refl _, fun _ _ _ => rfl⟩, fun A B C hx hA hB => ?_⟩
    rw [hx, List.length_eq_zero_iff.1 hB]
  | cons v vs ih =>
    intro o w xs h
    have hst := h.stored o v
    obtain ⟨ys, h1, h2, h3⟩ := ih (o + 1) _ _ hst.1
    refine ⟨ys, h1, grown_trans hst.2 h2, fun A B C hx hA hB => ?_⟩
    match B, hB with
    | b :: B, hB =>
      have := h3 (A ++ [v]) B C (by rw [hx]; rw [List.append_assoc, List.set_append_right _ _ (by omega), hA, Nat.sub_self]; simp) (by simp; omega) (by simpa using hB)
      rw [this]; simp
theorem row_there {w : World} {base g n cap size : Nat} {e : TypeId} {xs : List Value} (h : w.ownsRow base e size (.slice (some ⟨g, 0, none⟩) n cap) n xs) (o k : Nat) (hk : o + k ≤ n * size) : w.there g o k := by
  intro j hj
  refine ⟨?_, h.frozenAt (o + j)⟩
  rw [h.cellAt (o + j) (by omega), List.getElem?_eq_getElem (by have := h.1; omega)]
  rfl
/-- The rows of lines: their own, and one for the words of each. -/
def LAt.row (x : LAt) : MRow := ⟨x.v, 9, 1, x.ws.length, strs x.ws⟩
def lrows (v : Value) (ls : List LAt) : List MRow := ⟨v, 70, 2, ls.length, ls.flatMap LAt.cells⟩ :: ls.map LAt.row
/-- Lines that the call has made. -/
def LinesOwn (B : Nat) (w : World) (v : Value) (ls : List LAt) : Prop := Mem B w (lrows v ls)
theorem LinesOwn.row {B : Nat} {w : World} {v : Value} {ls : List LAt} (h : LinesOwn B w v ls) : w.ownsRow B 70 2 v ls.length (ls.flatMap LAt.cells) := Mem.head h
theorem LinesOwn.words {B : Nat} {w : World} {v : Value} {ls : List LAt} (h : LinesOwn B w v ls) (x : LAt) (hx : x ∈ ls) : w.ownsRow B 9 1 x.v x.ws.length (strs x.ws) := h.1 x.row (List.mem_cons_of_mem _ (List.mem_map_of_mem hx))
theorem LinesOwn.lin {B : Nat} {w : World} {v : Value} {ls : List LAt} (h : LinesOwn B w v ls) : LinesIn w v ls := ⟨own_has h.row, fun x hx => own_has (h.words x hx)⟩
theorem LinesOwn.below {B : Nat} {w w' : World} {v : Value} {ls : List LAt} (h : LinesOwn B w v ls) (hb : Below w.heap.size w w') : LinesOwn B w' v ls := Mem.below h hb
theorem LinesOwn.mono {B B' : Nat} {w : World} {v : Value} {ls : List LAt} (h : LinesOwn B w v ls) (hB : B' ≤ B) : LinesOwn B' w v ls := Mem.mono h hB
theorem own_other {w w' : World} {base g : Nat} {e : TypeId} {size : Nat} {v : Value} {n : Nat} {xs : List Value} (h : w.ownsRow base e size v n xs) (hg : w.grownBy w' (some g)) (hb : g < base) : w'.ownsRow base e size v n xs := by
  refine World.ownsRow.kept h hg ?_
  cases hv : v.ownBlock with
  | none => exact Or.inl rfl
  | some q =>
    right
    have := (h.lt q hv).1
    intro e
    cases e
    omega
theorem Mem.other {B g : Nat} {w w' : World} {L : List MRow} (h : Mem B w L) (hg : w.grownBy w' (some g)) (hb : g < B) : Mem B w' L := ⟨fun r hr => own_other (h.1 r hr) hg hb, h.2⟩
theorem Mem.setCell {B : Nat} {w : World} {L : List MRow} (h : Mem B w L) (p : Addr) (hp : p.block < B) (u : Value) : Mem B (w.setCell p u) L := ⟨fun r hr => own_setCell (h.1 r hr) p hp u, h.2⟩
theorem Mem.setRow {B : Nat} {w : World} {L : List MRow} (h : Mem B w L) (g : Nat) (hg : g < B) (cs : Array Value) : Mem B (w.setRow g cs) L := ⟨fun r hr => own_setRow (h.1 r hr) g hg cs, h.2⟩
/-- A row in a block ahead of all others. -/
theorem Mem.low {B s : Nat} {w : World} {L : List MRow} {r : MRow} (h : Mem (s + 1) w L) (hr : r.isAt B w) (hs : r.v.ownBlock = some s) (hB : B ≤ s + 1) : Mem B w (r :: L) := by
  refine ⟨fun x hx => ?_, List.pairwise_cons.2 ⟨fun x hx => .inr fun e => ?_, h.2⟩⟩
  · rcases List.mem_cons.1 hx with rfl | hx
    · exact hr
    · exact own_mono (h.1 x hx) hB
  · rw [hs] at e
    have := (h.lt hx e.symm).1
    omega
theorem infoLine : (Tryz.prog.info? 70).map (fun i => (i.zero, i.size, i.bytes)) = some (some (.agg #[.string ⟨#[]⟩, .slice none 0 0]), 2, 40) := by kernel_rfl
/-- What lines keep where a block ahead of them turns. -/
theorem LinesOwn.setCell {B : Nat} {w : World} {v : Value} {ls : List LAt} (h : LinesOwn B w v ls) (p : Addr) (hp : p.block < B) (u : Value) : LinesOwn B (w.setCell p u) v ls := Mem.setCell h p hp u
theorem LinesOwn.setRow {B : Nat} {w : World} {v : Value} {ls : List LAt} (h : LinesOwn B w v ls) (g : Nat) (hg : g < B) (cs : Array Value) : LinesOwn B (w.setRow g cs) v ls := Mem.setRow h g hg cs
theorem LinesOwn.other {B g : Nat} {w w' : World} {v : Value} {ls : List LAt} (h : LinesOwn B w v ls) (hg : w.grownBy w' (some g)) (hb : g < B) : LinesOwn B w' v ls := Mem.other h hg hb
def BAt.rows (b : BAt) : List MRow := lrows b.v b.ls
def brows (v : Value) (bs : List BAt) : List MRow := ⟨v, 52, 3, bs.length, bs.flatMap BAt.cells⟩ :: bs.flatMap BAt.rows
/-- Blocks that the call has made. -/
def BlocksOwn (B : Nat) (w : World) (v : Value) (bs : List BAt) : Prop := Mem B w (brows v bs)
theorem BlocksOwn.row {B : Nat} {w : World} {v : Value} {bs : List BAt} (h : BlocksOwn B w v bs) : w.ownsRow B 52 3 v bs.length (bs.flatMap BAt.cells) := Mem.head h
theorem flat_split {α β : Type} (f : α → List β) {L : List α} {x : α} (hx : x ∈ L) : ∃ A C, L.flatMap f = A ++ (f x ++ C) := by
  obtain ⟨A, C, rfl⟩ := List.append_of_mem hx
  exact ⟨A.flatMap f, C.flatMap f, by simp⟩
theorem BlocksOwn.lines {B : Nat} {w : World} {v : Value} {bs : List BAt} (h : BlocksOwn B w v bs) (x : BAt) (hx : x ∈ bs) : LinesOwn B w x.v x.ls := by
  obtain ⟨A, C, e⟩ := flat_split BAt.rows hx
  have h1 := Mem.tail h
  rw [e] at h1
  exact h1.right.left
theorem BlocksOwn.bin {B : Nat} {w : World} {v : Value} {bs : List BAt} (h : BlocksOwn B w v bs) : BlocksIn w v bs := ⟨own_has h.row, fun x hx => (h.lines x hx).lin⟩
theorem BlocksOwn.below {B : Nat} {w w' : World} {v : Value} {bs : List BAt} (h : BlocksOwn B w v bs) (hb : Below w.heap.size w w') : BlocksOwn B w' v bs := Mem.below h hb
theorem BlocksOwn.mono {B B' : Nat} {w : World} {v : Value} {bs : List BAt} (h : BlocksOwn B w v bs) (hB : B' ≤ B) : BlocksOwn B' w v bs := Mem.mono h hB
theorem infoBlock : (Tryz.prog.info? 52).map (fun i => (i.zero, i.size, i.bytes)) = some (some (.agg #[.string ⟨#[]⟩, .string ⟨#[]⟩, .slice none 0 0]), 3, 56) := by kernel_rfl
theorem BlocksOwn.setCell {B : Nat} {w : World} {v : Value} {bs : List BAt} (h : BlocksOwn B w v bs) (p : Addr) (hp : p.block < B) (u : Value) : BlocksOwn B (w.setCell p u) v bs := Mem.setCell h p hp u
theorem BlocksOwn.setRow {B : Nat} {w : World} {v : Value} {bs : List BAt} (h : BlocksOwn B w v bs) (g : Nat) (hg : g < B) (cs : Array Value) : BlocksOwn B (w.setRow g cs) v bs := Mem.setRow h g hg cs
end Go.Proofs.YtnnpgnkmmahomabGreatDoor
