import Derived.Test.YtpdahhnjhggocabGreatDoorBun24
import Derived.Deep.MidRow
import Derived.WideMake
namespace Go.Proofs.YtpdahhnjhggocabGreatDoor
open Go.RowKit
theorem below_grownR {w wr wr' : World} (hb : Below w.heap.size w wr) (hg : wr.grownBy wr' (some w.heap.size)) : Below w.heap.size w wr' := by
 obtain ⟨g1, g2, g3, g4, g5⟩ := hg
 have hs := hb.size
 exact ⟨g1.trans hb.os, g2.trans hb.tape, g3.trans hb.output, Nat.le_trans hs g4, fun k hk => (g5 k (by omega) (by intro h; cases h; omega)).trans (hb.block k hk)⟩
theorem below_madeR {w w' : World} (hg : w.grownBy w' none) : Below w.heap.size w w' := by
 obtain ⟨g1, g2, g3, g4, g5⟩ := hg
 exact ⟨g1, g2, g3, g4, fun k hk => g5 k hk (by intro h; cases h)⟩
theorem own_setRow {w : World} {base : Nat} {e : TypeId} {size : Nat} {v : Value} {n : Nat} {xs : List Value} (h : w.ownsRow base e size v n xs) (g : Nat) (hg : g < base) (cs : Array Value) : (w.setRow g cs).ownsRow base e size v n xs := by
 refine ⟨h.1, ?_⟩
 rcases h.2 with h2 | ⟨g', cap, cur, hv, hb, hh, hrest⟩
 ·exact Or.inl h2
 ·exact Or.inr ⟨g', cap, cur, hv, hb, by rw [setRow_other _ _ _ _ (by omega)]; exact hh, hrest⟩
theorem alloc3 {w : World} {o1 o2 o3 : Obj} : (((w.alloc o1).alloc o2).alloc o3).heap.size = w.heap.size + 3 ∧ (((w.alloc o1).alloc o2).alloc o3).heap[w.heap.size]? = some o1 ∧ (((w.alloc o1).alloc o2).alloc o3).heap[w.heap.size + 1]? = some o2 ∧ (((w.alloc o1).alloc o2).alloc o3).heap[w.heap.size + 2]? = some o3 := by
 refine ⟨by simp, ?_, ?_, ?_⟩
 ·rw [alloc_there _ _ _ (by simp; omega), alloc_there _ _ _ (by simp), alloc_here]
 ·rw [alloc_there _ _ _ (by simp)]
  have := alloc_here (w.alloc o1) o2
  rwa [World.size_alloc] at this
 ·have := alloc_here ((w.alloc o1).alloc o2) o3
  rwa [World.size_alloc, World.size_alloc] at this
theorem cell_of_block {w : World} {g : Nat} {cs : Array Value} {T : TypeId} (h : w.heap[g]? = some (.cells cs T (0, 0))) (j : Nat) : w.cell? ⟨g, j, none⟩ = cs[j]? := by
 unfold World.cell?; rw [h]; rfl
theorem frozen_of_block {w : World} {g : Nat} {cs : Array Value} {T : TypeId} (h : w.heap[g]? = some (.cells cs T (0, 0))) (j : Nat) : w.frozen? ⟨g, j, none⟩ = false := by
 unfold World.frozen?; rw [h]; simp
theorem own_setCells {base g n cap size : Nat} {e : TypeId} (vs : List Value) : ∀ (o : Nat) (w : World) (xs : List Value), w.ownsRow base e size (.slice (some ⟨g, 0, none⟩) n cap) n xs → ∃ ys, (w.setCells g o vs).ownsRow base e size (.slice (some ⟨g, 0, none⟩) n cap) n ys ∧ w.grownBy (w.setCells g o vs) (some g) ∧ ∀ A B C, xs = A ++ B ++ C → A.length = o → B.length = vs.length → ys = A ++ vs ++ C := by
 induction vs with
 | nil =>
  intro o w xs h
  refine ⟨xs, h, ⟨rfl, rfl, rfl, Nat.le_refl _, fun _ _ _ => rfl⟩, fun A B C hx hA hB => ?_⟩
  rw [hx, List.length_eq_zero_iff.1 hB]
 | cons v vs ih =>
  intro o w xs h
  have hst := h.stored o v
  obtain ⟨ys, h1, h2, h3⟩ := ih (o + 1) _ _ hst.1
  refine ⟨ys, h1, grown_trans hst.2 h2, fun A B C hx hA hB => ?_⟩
  match B, hB with
  | b :: B, hB =>
   have := h3 (A ++ [v]) B C (by rw [hx]; rw [List.append_assoc, List.set_append_right _ _ (by omega), hA, Nat.sub_self]; simp) (by simp; omega) (by simpa using hB)
   rw [this]; simp
theorem row_there {w : World} {base g n cap size : Nat} {e : TypeId} {xs : List Value} (h : w.ownsRow base e size (.slice (some ⟨g, 0, none⟩) n cap) n xs) (o k : Nat) (hk : o + k ≤ n * size) : w.there g o k := by
 intro j hj
 refine ⟨?_, h.frozenAt (o + j)⟩
 rw [h.cellAt (o + j) (by omega), List.getElem?_eq_getElem (by have := h.1; omega)]
 rfl
def LAt.row (x : LAt) : MRow := ⟨x.v, 9, 1, x.ws.length, strs x.ws⟩
def lrows (v : Value) (ls : List LAt) : List MRow := ⟨v, 82, 2, ls.length, ls.flatMap LAt.cells⟩ :: ls.map LAt.row
def LinesOwn (B : Nat) (w : World) (v : Value) (ls : List LAt) : Prop := Mem B w (lrows v ls)
theorem LinesOwn.row {B : Nat} {w : World} {v : Value} {ls : List LAt} (h : LinesOwn B w v ls) : w.ownsRow B 82 2 v ls.length (ls.flatMap LAt.cells) := Mem.head h
theorem LinesOwn.words {B : Nat} {w : World} {v : Value} {ls : List LAt} (h : LinesOwn B w v ls) (x : LAt) (hx : x ∈ ls) : w.ownsRow B 9 1 x.v x.ws.length (strs x.ws) := h.1 x.row (List.mem_cons_of_mem _ (List.mem_map_of_mem hx))
theorem LinesOwn.lin {B : Nat} {w : World} {v : Value} {ls : List LAt} (h : LinesOwn B w v ls) : LinesIn w v ls := ⟨own_has h.row, fun x hx => own_has (h.words x hx)⟩
theorem LinesOwn.below {B : Nat} {w w' : World} {v : Value} {ls : List LAt} (h : LinesOwn B w v ls) (hb : Below w.heap.size w w') : LinesOwn B w' v ls := Mem.below h hb
theorem LinesOwn.mono {B B' : Nat} {w : World} {v : Value} {ls : List LAt} (h : LinesOwn B w v ls) (hB : B' ≤ B) : LinesOwn B' w v ls := Mem.mono h hB
theorem own_other {w w' : World} {base g : Nat} {e : TypeId} {size : Nat} {v : Value} {n : Nat} {xs : List Value} (h : w.ownsRow base e size v n xs) (hg : w.grownBy w' (some g)) (hb : g < base) : w'.ownsRow base e size v n xs := by
 refine World.ownsRow.kept h hg ?_
 cases hv : v.ownBlock with
 | none => exact Or.inl rfl
 | some q =>
  right
  have := (h.lt q hv).1
  intro e
  cases e
  omega
theorem Mem.other {B g : Nat} {w w' : World} {L : List MRow} (h : Mem B w L) (hg : w.grownBy w' (some g)) (hb : g < B) : Mem B w' L := ⟨fun r hr => own_other (h.1 r hr) hg hb, h.2⟩
theorem Mem.setCell {B : Nat} {w : World} {L : List MRow} (h : Mem B w L) (p : Addr) (hp : p.block < B) (u : Value) : Mem B (w.setCell p u) L := ⟨fun r hr => own_setCell (h.1 r hr) p hp u, h.2⟩
theorem Mem.setRow {B : Nat} {w : World} {L : List MRow} (h : Mem B w L) (g : Nat) (hg : g < B) (cs : Array Value) : Mem B (w.setRow g cs) L := ⟨fun r hr => own_setRow (h.1 r hr) g hg cs, h.2⟩
theorem Mem.low {B s : Nat} {w : World} {L : List MRow} {r : MRow} (h : Mem (s + 1) w L) (hr : r.isAt B w) (hs : r.v.ownBlock = some s) (hB : B ≤ s + 1) : Mem B w (r :: L) := by
 refine ⟨fun x hx => ?_, List.pairwise_cons.2 ⟨fun x hx => .inr fun e => ?_, h.2⟩⟩
 ·rcases List.mem_cons.1 hx with rfl | hx
  ·exact hr
  ·exact own_mono (h.1 x hx) hB
 ·rw [hs] at e
  have := (h.lt hx e.symm).1
  omega
theorem infoLine : (Tryz.prog.info? 82).map (fun i => (i.zero, i.size, i.bytes)) = some (some (.agg #[.string ⟨#[]⟩, .slice none 0 0]), 2, 40) := by kernel_rfl
theorem LinesOwn.setCell {B : Nat} {w : World} {v : Value} {ls : List LAt} (h : LinesOwn B w v ls) (p : Addr) (hp : p.block < B) (u : Value) : LinesOwn B (w.setCell p u) v ls := Mem.setCell h p hp u
theorem LinesOwn.setRow {B : Nat} {w : World} {v : Value} {ls : List LAt} (h : LinesOwn B w v ls) (g : Nat) (hg : g < B) (cs : Array Value) : LinesOwn B (w.setRow g cs) v ls := Mem.setRow h g hg cs
theorem LinesOwn.other {B g : Nat} {w w' : World} {v : Value} {ls : List LAt} (h : LinesOwn B w v ls) (hg : w.grownBy w' (some g)) (hb : g < B) : LinesOwn B w' v ls := Mem.other h hg hb
def BAt.rows (b : BAt) : List MRow := lrows b.v b.ls
def brows (v : Value) (bs : List BAt) : List MRow := ⟨v, 64, 3, bs.length, bs.flatMap BAt.cells⟩ :: bs.flatMap BAt.rows
def BlocksOwn (B : Nat) (w : World) (v : Value) (bs : List BAt) : Prop := Mem B w (brows v bs)
theorem BlocksOwn.row {B : Nat} {w : World} {v : Value} {bs : List BAt} (h : BlocksOwn B w v bs) : w.ownsRow B 64 3 v bs.length (bs.flatMap BAt.cells) := Mem.head h
theorem flat_split {α β : Type} (f : α → List β) {L : List α} {x : α} (hx : x ∈ L) : ∃ A C, L.flatMap f = A ++ (f x ++ C) := by
 obtain ⟨A, C, rfl⟩ := List.append_of_mem hx
 exact ⟨A.flatMap f, C.flatMap f, by simp⟩
theorem BlocksOwn.lines {B : Nat} {w : World} {v : Value} {bs : List BAt} (h : BlocksOwn B w v bs) (x : BAt) (hx : x ∈ bs) : LinesOwn B w x.v x.ls := by
 obtain ⟨A, C, e⟩ := flat_split BAt.rows hx
 have h1 := Mem.tail h
 rw [e] at h1
 exact h1.right.left
theorem BlocksOwn.bin {B : Nat} {w : World} {v : Value} {bs : List BAt} (h : BlocksOwn B w v bs) : BlocksIn w v bs := ⟨own_has h.row, fun x hx => (h.lines x hx).lin⟩
theorem BlocksOwn.below {B : Nat} {w w' : World} {v : Value} {bs : List BAt} (h : BlocksOwn B w v bs) (hb : Below w.heap.size w w') : BlocksOwn B w' v bs := Mem.below h hb
theorem BlocksOwn.mono {B B' : Nat} {w : World} {v : Value} {bs : List BAt} (h : BlocksOwn B w v bs) (hB : B' ≤ B) : BlocksOwn B' w v bs := Mem.mono h hB
theorem infoBlock : (Tryz.prog.info? 64).map (fun i => (i.zero, i.size, i.bytes)) = some (some (.agg #[.string ⟨#[]⟩, .string ⟨#[]⟩, .slice none 0 0]), 3, 56) := by kernel_rfl
theorem BlocksOwn.setCell {B : Nat} {w : World} {v : Value} {bs : List BAt} (h : BlocksOwn B w v bs) (p : Addr) (hp : p.block < B) (u : Value) : BlocksOwn B (w.setCell p u) v bs := Mem.setCell h p hp u
theorem BlocksOwn.setRow {B : Nat} {w : World} {v : Value} {bs : List BAt} (h : BlocksOwn B w v bs) (g : Nat) (hg : g < B) (cs : Array Value) : BlocksOwn B (w.setRow g cs) v bs := Mem.setRow h g hg cs
end Go.Proofs.YtpdahhnjhggocabGreatDoor
namespace Go.Proofs.YtpdahhnjhggocabGreatDoor
open Go.RowKit
theorem Mem.midTurn {B : Nat} {w w' : World} {A C : List MRow} {r r' : MRow} (h : Mem B w (A ++ r :: C)) (hv : r'.v = r.v) (hr : r'.isAt B w') (hg : w.grownBy w' r.v.ownBlock) : Mem B w' (A ++ r' :: C) :=
 (Mem.turn (h.perm List.perm_middle) hv hr hg).perm List.perm_middle.symm
theorem rowF_set {α : Type} (f : α → List Value) (k : Nat) (hf : ∀ x, (f x).length = k) (D T : List α) (r r' : α) (c : Nat) (u : Value) (hc : c < k) (hr : f r' = (f r).set c u) : ((D ++ r :: T).flatMap f).set (D.length * k + c) u = (D ++ r' :: T).flatMap f := by
 rw [List.flatMap_append, List.flatMap_cons, List.set_append_right _ _ (by rw [rowF_len f k hf]; omega), rowF_len f k hf, Nat.add_sub_cancel_left, List.set_append_left _ _ (by rw [hf]; omega), ← hr, List.flatMap_append, List.flatMap_cons]
def LM (B : Nat) (w : World) (v : Value) (C : List LAt) (rest : List MRow) : Prop := Mem B w (lrows v C ++ rest)
theorem LM.below {B : Nat} {w w' : World} {v : Value} {C : List LAt} {rest : List MRow} (h : LM B w v C rest) (hb : Below w.heap.size w w') : LM B w' v C rest := Mem.below h hb
theorem LM.own {B : Nat} {w : World} {v : Value} {C : List LAt} {rest : List MRow} (h : LM B w v C rest) : LinesOwn B w v C := Mem.left h
theorem LinesOwn.lm {B : Nat} {w : World} {v : Value} {C : List LAt} (h : LinesOwn B w v C) : LM B w v C [] := by unfold LM; rw [List.append_nil]; exact h
theorem LM.size {B g n cap : Nat} {w : World} {C : List LAt} {rest : List MRow} (h : LM B w (.slice (some ⟨g, 0, none⟩) n cap) C rest) (hn : C.length = n) : w.ownsRow B 82 2 (.slice (some ⟨g, 0, none⟩) n cap) n (C.flatMap LAt.cells) := by
 subst hn; exact Mem.head h
theorem LM.cell {B g n cap : Nat} {w : World} {D T : List LAt} {r : LAt} {rest : List MRow} (h : LM B w (.slice (some ⟨g, 0, none⟩) n cap) (D ++ r :: T) rest) (c : Nat) (hc : c < 2) : w.cell? ⟨g, D.length * 2 + c, none⟩ = r.cells[c]? := by
 have h1 := (Mem.head h).cells rfl (D.length * 2 + c)
 obtain ⟨u, hu⟩ : ∃ u, r.cells[c]? = some u := ⟨_, List.getElem?_eq_getElem (by simp [LAt.cells]; omega)⟩
 rw [hu]
 rw [← add_off]; exact h1 u (by rw [rowF_at _ 2 LAt.len D T r c hc, hu])
theorem LM.words {B : Nat} {w : World} {v : Value} {D T : List LAt} {r : LAt} {rest : List MRow} (h : LM B w v (D ++ r :: T) rest) : w.ownsRow B 9 1 r.v r.ws.length (strs r.ws) := h.own.words r (by simp)
theorem LM.own_lt {B g n cap : Nat} {w : World} {C : List LAt} {rest : List MRow} (h : LM B w (.slice (some ⟨g, 0, none⟩) n cap) C rest) : B ≤ g := (Mem.lt h (List.mem_cons_self ..) (show (Value.slice (some ⟨g, 0, none⟩) n cap).ownBlock = some g from rfl)).1
theorem LM.set {B g n cap : Nat} {w : World} {D T : List LAt} {r : LAt} {rest : List MRow} (h : LM B w (.slice (some ⟨g, 0, none⟩) n cap) (D ++ r :: T) rest) (hn : (D ++ r :: T).length = n) (c : Nat) (u : Value) (r' : LAt) (hc : c < 2) (hr : r'.cells = r.cells.set c u) (hrr : r'.row = r.row) :
  LM B (w.setCell ⟨g, D.length * 2 + c, none⟩ u) (.slice (some ⟨g, 0, none⟩) n cap) (D ++ r' :: T) rest := by
 have hst := (h.size hn).stored (D.length * 2 + c) u
 rw [rowF_set _ 2 LAt.len D T r r' c u hc hr] at hst
 unfold LM lrows at h ⊢
 have e : (D ++ r' :: T).map LAt.row = (D ++ r :: T).map LAt.row := by rw [List.map_append, List.map_append, List.map_cons, List.map_cons, hrr]
 have e2 : (D ++ r' :: T).length = (D ++ r :: T).length := by simp
 rw [e, e2]
 subst hn
 exact Mem.turn h rfl hst.1 hst.2
theorem LM.turn {B : Nat} {w w' : World} {v : Value} {D T : List LAt} {r : LAt} {rest : List MRow} (h : LM B w v (D ++ r :: T) rest) (ws' : List (List UInt8)) (hl : ws'.length = r.ws.length) (ho : w'.ownsRow B 9 1 r.v r.ws.length (strs ws')) (hg : w.grownBy w' r.v.ownBlock) : LM B w' v (D ++ { r with ws := ws' } :: T) rest := by
 have e : ∀ x : LAt, ((D ++ x :: T).map LAt.row ++ rest) = D.map LAt.row ++ (x.row :: (T.map LAt.row ++ rest)) := fun x => by simp
 unfold LM lrows at h ⊢
 have ec : (D ++ { r with ws := ws' } :: T).flatMap LAt.cells = (D ++ r :: T).flatMap LAt.cells := by rw [List.flatMap_append, List.flatMap_append, List.flatMap_cons, List.flatMap_cons]; rfl
 have e2 : (D ++ { r with ws := ws' } :: T).length = (D ++ r :: T).length := by simp
 rw [List.cons_append, e] at h
 rw [List.cons_append, e, ec, e2]
 exact Mem.midTurn (A := _ :: D.map LAt.row) (r := r.row) (r' := LAt.row { r with ws := ws' }) h rfl (by show w'.ownsRow B 9 1 r.v ws'.length (strs ws'); rw [hl]; exact ho) hg
def BM (B : Nat) (w : World) (v : Value) (C : List BAt) (rest : List MRow) : Prop := Mem B w (brows v C ++ rest)
theorem BM.below {B : Nat} {w w' : World} {v : Value} {C : List BAt} {rest : List MRow} (h : BM B w v C rest) (hb : Below w.heap.size w w') : BM B w' v C rest := Mem.below h hb
theorem BM.own {B : Nat} {w : World} {v : Value} {C : List BAt} {rest : List MRow} (h : BM B w v C rest) : BlocksOwn B w v C := Mem.left h
theorem BlocksOwn.bm {B : Nat} {w : World} {v : Value} {C : List BAt} (h : BlocksOwn B w v C) : BM B w v C [] := by unfold BM; rw [List.append_nil]; exact h
theorem BM.size {B g n cap : Nat} {w : World} {C : List BAt} {rest : List MRow} (h : BM B w (.slice (some ⟨g, 0, none⟩) n cap) C rest) (hn : C.length = n) : w.ownsRow B 64 3 (.slice (some ⟨g, 0, none⟩) n cap) n (C.flatMap BAt.cells) := by
 subst hn; exact Mem.head h
theorem BM.cell {B g n cap : Nat} {w : World} {D T : List BAt} {r : BAt} {rest : List MRow} (h : BM B w (.slice (some ⟨g, 0, none⟩) n cap) (D ++ r :: T) rest) (c : Nat) (hc : c < 3) : w.cell? ⟨g, D.length * 3 + c, none⟩ = r.cells[c]? := by
 have h1 := (Mem.head h).cells rfl (D.length * 3 + c)
 obtain ⟨u, hu⟩ : ∃ u, r.cells[c]? = some u := ⟨_, List.getElem?_eq_getElem (by simp [BAt.cells]; omega)⟩
 rw [hu]
 rw [← add_off]; exact h1 u (by rw [rowF_at _ 3 BAt.len D T r c hc, hu])
theorem BM.own_lt {B g n cap : Nat} {w : World} {C : List BAt} {rest : List MRow} (h : BM B w (.slice (some ⟨g, 0, none⟩) n cap) C rest) : B ≤ g := (Mem.lt h (List.mem_cons_self ..) (show (Value.slice (some ⟨g, 0, none⟩) n cap).ownBlock = some g from rfl)).1
theorem BM.set {B g n cap : Nat} {w : World} {D T : List BAt} {r : BAt} {rest : List MRow} (h : BM B w (.slice (some ⟨g, 0, none⟩) n cap) (D ++ r :: T) rest) (hn : (D ++ r :: T).length = n) (c : Nat) (u : Value) (r' : BAt) (hc : c < 3) (hr : r'.cells = r.cells.set c u) (hrr : r'.rows = r.rows) :
  BM B (w.setCell ⟨g, D.length * 3 + c, none⟩ u) (.slice (some ⟨g, 0, none⟩) n cap) (D ++ r' :: T) rest := by
 have hst := (h.size hn).stored (D.length * 3 + c) u
 rw [rowF_set _ 3 BAt.len D T r r' c u hc hr] at hst
 unfold BM brows at h ⊢
 have e : (D ++ r' :: T).flatMap BAt.rows = (D ++ r :: T).flatMap BAt.rows := by rw [List.flatMap_append, List.flatMap_append, List.flatMap_cons, List.flatMap_cons, hrr]
 have e2 : (D ++ r' :: T).length = (D ++ r :: T).length := by simp
 rw [e, e2]
 subst hn
 exact Mem.turn h rfl hst.1 hst.2
def beside (v : Value) (D : List BAt) (r : BAt) (T : List BAt) (rest : List MRow) : List MRow := (⟨v, 64, 3, (D ++ r :: T).length, (D ++ r :: T).flatMap BAt.cells⟩ :: D.flatMap BAt.rows) ++ (T.flatMap BAt.rows ++ rest)
theorem beside_perm (v : Value) (D : List BAt) (r : BAt) (T : List BAt) (rest : List MRow) : (brows v (D ++ r :: T) ++ rest).Perm (lrows r.v r.ls ++ beside v D r T rest) := by
 have e : brows v (D ++ r :: T) ++ rest = (⟨v, 64, 3, (D ++ r :: T).length, (D ++ r :: T).flatMap BAt.cells⟩ :: D.flatMap BAt.rows) ++ (lrows r.v r.ls ++ (T.flatMap BAt.rows ++ rest)) := by
  unfold brows; rw [List.flatMap_append, List.flatMap_cons]; simp [BAt.rows]
 rw [e]
 exact List.perm_append_comm_assoc _ _ _
theorem BM.lines {B : Nat} {w : World} {v : Value} {D T : List BAt} {r : BAt} {rest : List MRow} (h : BM B w v (D ++ r :: T) rest) : LM B w r.v r.ls (beside v D r T rest) := Mem.perm h (beside_perm v D r T rest)
theorem BM.back {B : Nat} {w : World} {v : Value} {D T : List BAt} {r : BAt} {rest : List MRow} {ls' : List LAt} (h : LM B w r.v ls' (beside v D r T rest)) : BM B w v (D ++ { r with ls := ls' } :: T) rest := by
 refine Mem.perm h (List.Perm.symm ?_)
 have e : beside v D r T rest = beside v D { r with ls := ls' } T rest := by
  unfold beside
  rw [show (D ++ { r with ls := ls' } :: T).flatMap BAt.cells = (D ++ r :: T).flatMap BAt.cells by rw [List.flatMap_append, List.flatMap_append, List.flatMap_cons, List.flatMap_cons]; rfl, show (D ++ { r with ls := ls' } :: T).length = (D ++ r :: T).length by simp]
 rw [e]
 exact beside_perm v D { r with ls := ls' } T rest
end Go.Proofs.YtpdahhnjhggocabGreatDoor
namespace Go.Proofs.YtpdahhnjhggocabGreatDoor
open Go.RowKit
theorem add_at (b off j : Nat) : (⟨b, off, none⟩ : Addr).add j = ⟨b, off + j, none⟩ := by unfold Addr.add; split <;> simp_all
theorem run_append_zero {P : Program} {w : World} (base : Nat) (t ty e : TypeId) (i : TypeInfo) (size : Nat) (ht : P.underlying t = some (.slice e)) (hi : P.info? e = some i) (v : Value) (n : Nat) (xs : List Value) (hown : w.ownsRow base e size v n xs) (ao : Option Addr) (c : Nat) :
  (Builtin.append_ #[t, t] ty #[v, .slice ao 0 c]).run P w = .ok v w := by
 rcases hown.2 with ⟨rfl, rfl⟩ | ⟨g, cap, cur, rfl, _, _, hnc, _⟩
 ·cases ao <;> simp [Builtin.append_, run_underlying ht, sizeOf, typeInfo, hi, Builtin.lenOf, Builtin.firstCells, loadCells, loadCellsFrom]
 ·cases ao <;> simp [Builtin.append_, run_underlying ht, sizeOf, typeInfo, hi, Builtin.lenOf, Builtin.firstCells, hnc, storeCells, loadCells, loadCellsFrom]
theorem wp_append_has {P : Program} {w : World} {o : Oper} {a : Act} {K : Act → World → Prop} {Q : Exit → Act → World → Prop} (s x : Operand) (t : TypeId)
  (ho : o.op = .call { callee := .builtin .append, args := #[s, x], argTypes := #[t, t] })
  (base : Nat) (e : TypeId) (i : TypeInfo) (z : Value) (size bytes : Nat) (ht : P.underlying t = some (.slice e)) (hi : P.info? e = some i) (hz : i.zero = some z)
  (hsize : i.size = size) (hby : i.bytes = bytes) (hzs : z.cells.size = size) (hsz : 0 < size)
  (v : Value) (n : Nat) (xs : List Value) (hs : a.eval s = v) (hown : w.ownsRow base e size v n xs)
  (u : Value) (m : Nat) (news : List Value) (hx : a.eval x = u) (hrow : HasRow w u m size news) (h1 : ∀ y ∈ news, y.oneCell' = true)
  (h63 : n + m ≤ maxLen) (hbytes : (n + m) * bytes ≤ 140737488355328) (hbase : base ≤ w.heap.size)
  (h : ∀ ao cap w', w'.ownsRow base e size (.slice ao (n + m) cap) (n + m) (xs ++ news) → w.grownBy w' v.ownBlock → ((Value.slice ao (n + m) cap).ownBlock = v.ownBlock ∨ (Value.slice ao (n + m) cap).ownBlock = some w.heap.size) → K (a.put o.dst (.slice ao (n + m) cap)) w') : o.wp P a w K Q := by
 obtain ⟨hl, ao, cap, rfl, _, hc⟩ := hrow
 by_cases hm : m = 0
 ·subst hm
  have hn0 : news = [] := by simpa using hl
  subst hn0
  have hrun := run_append_zero (P := P) (w := w) base t o.type e i size ht hi v n xs hown ao cap
  unfold Oper.wp execOp
  simp only [ho, resolve, invoke, builtin, Sem.run_bind, Sem.run_pure, Result.andThen_ok, List.map_toArray, List.map_cons, List.map_nil, hs, hx, hrun]
  obtain ⟨ao', cap', rfl, _⟩ := own_form hown
  exact h ao' cap' w (by rw [List.append_nil]; exact hown) (World.grownBy.refl _ _) (.inl rfl)
 ·rcases hc with h0 | ⟨b, off, rfl, hc⟩
  ·exact absurd h0 hm
  ·refine wp_append_lies w s x t ho base e i z size bytes ht hi hz hsize hby hzs hsz v n xs hs hown ⟨b, off, none⟩ m cap news hx hl (fun j y hj => by rw [add_at]; exact hc j y hj) h1 (by omega) h63 hbytes hbase w.heap.size rfl ?_
   intro g cap' w' h2 h3 h4 _
   refine h _ _ w' h2 h3 ?_
   rcases h4 with h4 | h4
   ·exact .inl (by rw [h4]; rfl)
   ·exact .inr (by rw [h4]; rfl)
theorem wpList_append_has {P : Program} {w : World} {ops : Array Oper} {rest : List Oper} {o : Oper} {a : Act} {Q : Exit → Act → World → Prop} (hgd : o.guard = none) (s x : Operand) (t : TypeId)
  (ho : o.op = .call { callee := .builtin .append, args := #[s, x], argTypes := #[t, t] })
  (base : Nat) (e : TypeId) (i : TypeInfo) (z : Value) (size bytes : Nat) (ht : P.underlying t = some (.slice e)) (hi : P.info? e = some i) (hz : i.zero = some z)
  (hsize : i.size = size) (hby : i.bytes = bytes) (hzs : z.cells.size = size) (hsz : 0 < size)
  (v : Value) (n : Nat) (xs : List Value) (hs : a.eval s = v) (hown : w.ownsRow base e size v n xs)
  (u : Value) (m : Nat) (news : List Value) (hx : a.eval x = u) (hrow : HasRow w u m size news) (h1 : ∀ y ∈ news, y.oneCell' = true)
  (h63 : n + m ≤ maxLen) (hbytes : (n + m) * bytes ≤ 140737488355328) (hbase : base ≤ w.heap.size)
  (h : ∀ ao cap w', w'.ownsRow base e size (.slice ao (n + m) cap) (n + m) (xs ++ news) → w.grownBy w' v.ownBlock → ((Value.slice ao (n + m) cap).ownBlock = v.ownBlock ∨ (Value.slice ao (n + m) cap).ownBlock = some w.heap.size) → wpList P ops Q rest (a.put o.dst (.slice ao (n + m) cap)) w') : wpList P ops Q (o :: rest) a w :=
 wpList_plain hgd fun _ hK => wp_append_has s x t ho base e i z size bytes ht hi hz hsize hby hzs hsz v n xs hs hown u m news hx hrow h1 h63 hbytes hbase fun ao cap w' h2 h3 h4 => hK _ _ (h ao cap w' h2 h3 h4)
theorem step_append_has {P : Program} {w : World} {ops : Array Oper} {o : Oper} {a : Act} {K : Act → World → Prop} {Q : Exit → Act → World → Prop} {E : Prop} (hgd : o.guard = none) (s x : Operand) (t : TypeId)
  (ho : o.op = .call { callee := .builtin .append, args := #[s, x], argTypes := #[t, t] })
  (base : Nat) (e : TypeId) (i : TypeInfo) (z : Value) (size bytes : Nat) (ht : P.underlying t = some (.slice e)) (hi : P.info? e = some i) (hz : i.zero = some z)
  (hsize : i.size = size) (hby : i.bytes = bytes) (hzs : z.cells.size = size) (hsz : 0 < size)
  (v : Value) (n : Nat) (xs : List Value) (hs : a.eval s = v) (hown : w.ownsRow base e size v n xs)
  (u : Value) (m : Nat) (news : List Value) (hx : a.eval x = u) (hrow : HasRow w u m size news) (h1 : ∀ y ∈ news, y.oneCell' = true)
  (h63 : n + m ≤ maxLen) (hbytes : (n + m) * bytes ≤ 140737488355328) (hbase : base ≤ w.heap.size)
  (h : ∀ ao cap w', w'.ownsRow base e size (.slice ao (n + m) cap) (n + m) (xs ++ news) → w.grownBy w' v.ownBlock → ((Value.slice ao (n + m) cap).ownBlock = v.ownBlock ∨ (Value.slice ao (n + m) cap).ownBlock = some w.heap.size) → K (a.put o.dst (.slice ao (n + m) cap)) w') :
  if Region.wanted o (yielded ops a.tmps) = true then Oper.wp P o a w K Q else E := by
 have hw : Region.wanted o (yielded ops a.tmps) = true := by simp [Region.wanted, hgd]
 rw [if_pos hw]
 exact wp_append_has s x t ho base e i z size bytes ht hi hz hsize hby hzs hsz v n xs hs hown u m news hx hrow h1 h63 hbytes hbase h
theorem Mem.grow {B : Nat} {w w' : World} {L : List MRow} {r r' : MRow} (h : Mem B w (r :: L)) (hr : r'.isAt B w') (hg : w.grownBy w' r.v.ownBlock) (hv : r'.v.ownBlock = r.v.ownBlock ∨ r'.v.ownBlock = some w.heap.size) : Mem B w' (r' :: L) := by
 have hp := List.pairwise_cons.1 h.2
 refine ⟨fun s hs => ?_, List.pairwise_cons.2 ⟨fun s hs => ?_, hp.2⟩⟩
 ·rcases List.mem_cons.1 hs with rfl | h1
  ·exact hr
  ·refine World.ownsRow.kept (h.1 s (by simp [h1])) hg ?_
   rcases hp.1 s h1 with h2 | h2
   ·cases hs' : s.v.ownBlock with
    | none => exact Or.inl rfl
    | some g => right; rw [h2]; simp
   ·exact Or.inr (fun e => h2 e.symm)
 ·rcases hv with hv | hv
  ·rw [hv]; exact hp.1 s hs
  ·rw [hv]
   refine .inr fun e => ?_
   have := (h.lt (List.mem_cons_of_mem _ hs) e.symm).2
   omega
theorem strs_one (ws : List (List UInt8)) : ∀ u ∈ strs ws, u.oneCell' = true := by
 intro u hu
 simp only [strs, List.mem_map] at hu
 obtain ⟨x, _, rfl⟩ := hu
 rfl
theorem lcells_one {ls : List LAt} (h : ∀ x ∈ ls, ∃ a n c, x.v = .slice a n c) : ∀ u ∈ ls.flatMap LAt.cells, u.oneCell' = true := by
 intro u hu
 obtain ⟨x, hx, hu⟩ := List.mem_flatMap.1 hu
 obtain ⟨a, n, c, e⟩ := h x hx
 simp only [LAt.cells, List.mem_cons, List.not_mem_nil, or_false] at hu
 rcases hu with rfl | rfl
 ·rfl
 ·rw [e]; rfl
theorem bcells_one {bs : List BAt} (h : ∀ x ∈ bs, ∃ a n c, x.v = .slice a n c) : ∀ u ∈ bs.flatMap BAt.cells, u.oneCell' = true := by
 intro u hu
 obtain ⟨x, hx, hu⟩ := List.mem_flatMap.1 hu
 obtain ⟨a, n, c, e⟩ := h x hx
 simp only [BAt.cells, List.mem_cons, List.not_mem_nil, or_false] at hu
 rcases hu with rfl | rfl | rfl
 ·rfl
 ·rfl
 ·rw [e]; rfl
end Go.Proofs.YtpdahhnjhggocabGreatDoor
namespace Go.Proofs.YtpdahhnjhggocabGreatDoor
open Go.RowKit
def FarV (q : Nat) (v : Value) (n : Nat) : Prop := n = 0 ∨ ∀ b off m c, v = .slice (some ⟨b, off, none⟩) m c → b ≠ q
theorem HasRow.far {w w' : World} {q : Nat} {v : Value} {n size : Nat} {xs : List Value} (h : HasRow w v n size xs) (hf : FarV q v n) (hg : w.grownBy w' (some q)) : HasRow w' v n size xs := by
 obtain ⟨hl, ao, cap, hv, hk, hc⟩ := h
 refine ⟨hl, ao, cap, hv, hk, ?_⟩
 rcases hc with h0 | ⟨b, off, ha, hc⟩
 ·exact .inl h0
 ·rcases hf with h0 | hf
  ·exact .inl h0
  ·have hb := hf b off n cap (by rw [hv, ha])
   exact .inr ⟨b, off, ha, fun j u hj => (hg.cell_far ⟨b, off + j, none⟩ (World.block_lt_of_cell? w _ (hc j u hj)) (by intro e; cases e; exact hb rfl)).trans (hc j u hj)⟩
theorem FarV.of_own {w : World} {base q : Nat} {e : TypeId} {size : Nat} {v : Value} {n : Nat} {xs : List Value} (h : w.ownsRow base e size v n xs) (hq : v.ownBlock ≠ some q) : FarV q v n := by
 rcases h.2 with ⟨rfl, h0⟩ | ⟨g, cap, cur, rfl, _⟩
 ·exact .inl h0
 ·refine .inr fun b off m c e => ?_
  cases e
  exact fun e => hq (by rw [← e]; rfl)
theorem FarV.of_lt {w : World} {q : Nat} {v : Value} {n size : Nat} {xs : List Value} (h : HasRow w v n size xs) (hs : 0 < size) (hq : w.heap.size ≤ q) : FarV q v n := by
 obtain ⟨hl, ao, cap, rfl, hk, hc⟩ := h
 rcases hc with h0 | ⟨b, off, rfl, hc⟩
 ·exact .inl h0
 ·by_cases h0 : n = 0
  ·exact .inl h0
  ·refine .inr fun b' off' m c e => ?_
   cases e
   have hp : 0 < xs.length := by rw [hl]; exact Nat.mul_pos (by omega) hs
   have : b < w.heap.size := World.block_lt_of_cell? w _ (hc 0 xs[0] (List.getElem?_eq_getElem hp))
   omega
def LinesFar (q : Nat) (v : Value) (ls : List LAt) : Prop := FarV q v ls.length ∧ ∀ y ∈ ls, FarV q y.v y.ws.length
theorem LinesIn.far {w w' : World} {q : Nat} {v : Value} {ls : List LAt} (h : LinesIn w v ls) (hf : LinesFar q v ls) (hg : w.grownBy w' (some q)) : LinesIn w' v ls := ⟨h.1.far hf.1 hg, fun x hx => (h.2 x hx).far (hf.2 x hx) hg⟩
theorem FarV.above {w : World} {B q : Nat} {e : TypeId} {size : Nat} {v : Value} {n : Nat} {xs : List Value} (h : w.ownsRow B e size v n xs) (hq : q < B) : FarV q v n := FarV.of_own h (fun e => by have := (h.lt q e).1; omega)
end Go.Proofs.YtpdahhnjhggocabGreatDoor
namespace Go.Proofs.YtpdahhnjhggocabGreatDoor
open Go.RowKit
def BRow (B : Nat) (w : World) (v : Value) (bs : List BAt) : Prop := w.ownsRow B 64 3 v bs.length (bs.flatMap BAt.cells) ∧ ∀ x ∈ bs, LinesIn w x.v x.ls ∧ ∀ q, v.ownBlock = some q → LinesFar q x.v x.ls
theorem BRow.row {B : Nat} {w : World} {v : Value} {bs : List BAt} (h : BRow B w v bs) : w.ownsRow B 64 3 v bs.length (bs.flatMap BAt.cells) := h.1
theorem BRow.bin {B : Nat} {w : World} {v : Value} {bs : List BAt} (h : BRow B w v bs) : BlocksIn w v bs := ⟨own_has h.1, fun x hx => (h.2 x hx).1⟩
theorem BRow.below {B : Nat} {w w' : World} {v : Value} {bs : List BAt} (h : BRow B w v bs) (hb : Below w.heap.size w w') : BRow B w' v bs := ⟨own_below h.1 hb, fun x hx => ⟨(h.2 x hx).1.below hb, (h.2 x hx).2⟩⟩
theorem BRow.mono {B B' : Nat} {w : World} {v : Value} {bs : List BAt} (h : BRow B w v bs) (hB : B' ≤ B) : BRow B' w v bs := ⟨own_mono h.1 hB, h.2⟩
theorem far_rows {B q : Nat} {w : World} {L : List MRow} {r s : MRow} (h : Mem B w (r :: L)) (hs : s ∈ L) (hq : r.v.ownBlock = some q) : FarV q s.v s.n := by
 have hp := (List.pairwise_cons.1 h.2).1 s hs
 refine FarV.of_own (h.1 s (List.mem_cons_of_mem _ hs)) (fun e => ?_)
 rcases hp with hp | hp
 ·rw [hp] at hq; cases hq
 ·exact hp (hq.trans e.symm)
theorem BlocksOwn.brow {B : Nat} {w : World} {v : Value} {bs : List BAt} (h : BlocksOwn B w v bs) : BRow B w v bs := by
 refine ⟨h.row, fun x hx => ⟨(h.lines x hx).lin, fun q hq => ?_⟩⟩
 have hm : ∀ s ∈ BAt.rows x, s ∈ bs.flatMap BAt.rows := fun s hs => List.mem_flatMap.2 ⟨x, hx, hs⟩
 refine ⟨?_, fun y hy => ?_⟩
 ·exact far_rows (s := ⟨x.v, 82, 2, x.ls.length, x.ls.flatMap LAt.cells⟩) h (hm _ (by unfold BAt.rows lrows; simp)) hq
 ·exact far_rows (s := LAt.row y) h (hm _ (by unfold BAt.rows lrows; simp; exact .inr ⟨y, hy, rfl⟩)) hq
theorem BRow.set {B g n cap : Nat} {w : World} {D T : List BAt} {x b : BAt} (h : BRow B w (.slice (some ⟨g, 0, none⟩) n cap) (D ++ x :: T)) (hn : (D ++ x :: T).length = n) (hin : LinesIn w b.v b.ls) (hf : LinesFar g b.v b.ls) :
  BRow B (w.setCells g (D.length * 3) b.cells) (.slice (some ⟨g, 0, none⟩) n cap) (D ++ b :: T) ∧ w.grownBy (w.setCells g (D.length * 3) b.cells) (some g) := by
 have h1 := h.1
 rw [hn] at h1
 obtain ⟨ys, y1, y2, y3⟩ := own_setCells b.cells (D.length * 3) w _ h1
 have hy := y3 (D.flatMap BAt.cells) x.cells (T.flatMap BAt.cells) (by simp) (rowF_len _ 3 BAt.len D) (by rw [BAt.len, BAt.len])
 have e2 : (D ++ b :: T).length = n := by rw [← hn]; simp
 refine ⟨⟨?_, fun z hz => ?_⟩, y2⟩
 ·rw [e2]
  rw [hy] at y1
  simpa using y1
 ·rcases List.mem_append.1 hz with hz | hz
  ·have := h.2 z (by simp [hz])
   exact ⟨this.1.far (this.2 g rfl) y2, this.2⟩
  ·rcases List.mem_cons.1 hz with rfl | hz
   ·exact ⟨hin.far hf y2, fun q hq => by cases hq; exact hf⟩
   ·have := h.2 z (by simp [hz])
    exact ⟨this.1.far (this.2 g rfl) y2, this.2⟩
theorem BRow.cell {B g n cap : Nat} {w : World} {D T : List BAt} {x : BAt} (h : BRow B w (.slice (some ⟨g, 0, none⟩) n cap) (D ++ x :: T)) (c : Nat) (hc : c < 3) : w.cell? ⟨g, D.length * 3 + c, none⟩ = x.cells[c]? := by
 have h1 := h.1.cells rfl (D.length * 3 + c)
 obtain ⟨u, hu⟩ : ∃ u, x.cells[c]? = some u := ⟨_, List.getElem?_eq_getElem (by simp [BAt.cells]; omega)⟩
 rw [hu]
 rw [← add_off]; exact h1 u (by rw [rowF_at _ 3 BAt.len D T x c hc, hu])
theorem BRow.there {B g n cap : Nat} {w : World} {D T : List BAt} {x : BAt} (h : BRow B w (.slice (some ⟨g, 0, none⟩) n cap) (D ++ x :: T)) (hn : (D ++ x :: T).length = n) : w.there g (D.length * 3) 3 := by
 have h1 := h.1
 rw [hn] at h1
 refine row_there h1 _ _ ?_
 have : D.length + 1 ≤ n := by rw [← hn]; simp
 omega
end Go.Proofs.YtpdahhnjhggocabGreatDoor
namespace Go.Proofs.YtpdahhnjhggocabGreatDoor
open Go.RowKit
def Two (g1 g2 : Nat) (v1 v2 : Value) (W : World) : Prop := W.cell? ⟨g1, 0, none⟩ = some v1 ∧ W.cell? ⟨g2, 0, none⟩ = some v2
theorem Two.below {g1 g2 : Nat} {v1 v2 : Value} {w W : World} (s : Two g1 g2 v1 v2 w) (hb : Below w.heap.size w W) : Two g1 g2 v1 v2 W := ⟨(hb.cell (World.block_lt_of_cell? w _ s.1)).trans s.1, (hb.cell (World.block_lt_of_cell? w _ s.2)).trans s.2⟩
end Go.Proofs.YtpdahhnjhggocabGreatDoor
