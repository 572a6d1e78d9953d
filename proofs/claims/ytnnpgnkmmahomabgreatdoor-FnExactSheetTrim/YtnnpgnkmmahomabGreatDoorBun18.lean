import Derived.Test.YtnnpgnkmmahomabGreatDoorBun15
import Derived.Deep.MidRow
import Derived.WideMake
namespace Go.Proofs.YtnnpgnkmmahomabGreatDoor
open Go.RowKit
theorem below_grownR {w wr wr' : World} (hb : Below w.heap.size w wr) (hg : wr.grownBy wr' (some w.heap.size)) : Below w.heap.size w wr' := by
  obtain ⟨g1, g2, g3, g4, g5⟩ := hg
  have hs := hb.size
  exact ⟨g1.trans hb.os, g2.trans hb.tape, g3.trans hb.output, Nat.le_trans hs g4, fun k hk => (g5 k (by omega) (by intro h; cases h; omega)).trans (hb.block k hk)⟩
theorem below_madeR {w w' : World} (hg : w.grownBy w' none) : Below w.heap.size w w' := by
  obtain ⟨g1, g2, g3, g4, g5⟩ := hg
  exact ⟨g1, g2, g3, g4, fun k hk => g5 k hk (by intro h; cases h)⟩
theorem own_setRow {w : World} {base : Nat} {e : TypeId} {size : Nat} {v : Value} {n : Nat} {xs : List Value} (h : w.ownsRow base e size v n xs) (g : Nat) (hg : g < base) (cs : Array Value) : (w.setRow g cs).ownsRow base e size v n xs := by
  refine ⟨h.1, ?_⟩
  rcases h.2 with h2 | ⟨g', cap, cur, hv, hb, hh, hrest⟩
  · exact Or.inl h2
  · exact Or.inr ⟨g', cap, cur, hv, hb, by rw [setRow_other _ _ _ _ (by omega)]; exact hh, hrest⟩
theorem alloc3 {w : World} {o1 o2 o3 : Obj} : (((w.alloc o1).alloc o2).alloc o3).heap.size = w.heap.size + 3 ∧ (((w.alloc o1).alloc o2).alloc o3).heap[w.heap.size]? = some o1 ∧ (((w.alloc o1).alloc o2).alloc o3).heap[w.heap.size + 1]? = some o2 ∧ (((w.alloc o1).alloc o2).alloc o3).heap[w.heap.size + 2]? = some o3 := by
  refine ⟨by simp, ?_, ?_, ?_⟩
  · rw [alloc_there _ _ _ (by simp; omega), alloc_there _ _ _ (by simp), alloc_here]
  · rw [alloc_there _ _ _ (by simp)]
    have := alloc_here (w.alloc o1) o2
    rwa [World.size_alloc] at this
  · have := alloc_here ((w.alloc o1).alloc o2) o3
    rwa [World.size_alloc, World.size_alloc] at this
theorem cell_of_block {w : World} {g : Nat} {cs : Array Value} {T : TypeId} (h : w.heap[g]? = some (.cells cs T (0, 0))) (j : Nat) : w.cell? ⟨g, j, none⟩ = cs[j]? := by
  unfold World.cell?; rw [h]; rfl
theorem frozen_of_block {w : World} {g : Nat} {cs : Array Value} {T : TypeId} (h : w.heap[g]? = some (.cells cs T (0, 0))) (j : Nat) : w.frozen? ⟨g, j, none⟩ = false := by
  unfold World.frozen?; rw [h]; simp
/-- A row of structs of k cells, one of them turned. -/
theorem own_setCells {base g n cap size : Nat} {e : TypeId} (vs : List Value) : ∀ (o : Nat) (w : World) (xs : List Value), w.ownsRow base e size (.slice (some ⟨g, 0, none⟩) n cap) n xs → ∃ ys, (w.setCells g o vs).ownsRow base e size (.slice (some ⟨g, 0, none⟩) n cap) n ys ∧ w.grownBy (w.setCells g o vs) (some g) ∧ ∀ A B C, xs = A ++ B ++ C → A.length = o → B.length = vs.length → ys = A ++ vs ++ C := by
  induction vs with
  | nil =>
    intro o w xs h
    refine ⟨xs, h, ⟨rfl, rfl, rfl, Nat.le_refl _, fun _ _ _ => rfl⟩, fun A B C hx hA hB => ?_⟩
    rw [hx, List.length_eq_zero_iff.1 hB]
  | cons v vs ih =>
    intro o w xs h
    have hst := h.stored o v
    obtain ⟨ys, h1, h2, h3⟩ := ih (o + 1) _ _ hst.1
    refine ⟨ys, h1, grown_trans hst.2 h2, fun A B C hx hA hB => ?_⟩
    match B, hB with
    | b :: B, hB =>
      have := h3 (A ++ [v]) B C (by rw [hx]; rw [List.append_assoc, List.set_append_right _ _ (by omega), hA, Nat.sub_self]; simp) (by simp; omega) (by simpa using hB)
      rw [this]; simp
theorem row_there {w : World} {base g n cap size : Nat} {e : TypeId} {xs : List Value} (h : w.ownsRow base e size (.slice (some ⟨g, 0, none⟩) n cap) n xs) (o k : Nat) (hk : o + k ≤ n * size) : w.there g o k := by
  intro j hj
  refine ⟨?_, h.frozenAt (o + j)⟩
  rw [h.cellAt (o + j) (by omega), List.getElem?_eq_getElem (by have := h.1; omega)]
  rfl
/-- The rows of lines: their own, and one for the words of each. -/
def LAt.row (x : LAt) : MRow := ⟨x.v, 9, 1, x.ws.length, strs x.ws⟩
def lrows (v : Value) (ls : List LAt) : List MRow := ⟨v, 70, 2, ls.length, ls.flatMap LAt.cells⟩ :: ls.map LAt.row
/-- Lines that the call has made. -/
def LinesOwn (B : Nat) (w : World) (v : Value) (ls : List LAt) : Prop := Mem B w (lrows v ls)
theorem LinesOwn.row {B : Nat} {w : World} {v : Value} {ls : List LAt} (h : LinesOwn B w v ls) : w.ownsRow B 70 2 v ls.length (ls.flatMap LAt.cells) := Mem.head h
theorem LinesOwn.words {B : Nat} {w : World} {v : Value} {ls : List LAt} (h : LinesOwn B w v ls) (x : LAt) (hx : x ∈ ls) : w.ownsRow B 9 1 x.v x.ws.length (strs x.ws) := h.1 x.row (List.mem_cons_of_mem _ (List.mem_map_of_mem hx))
theorem LinesOwn.lin {B : Nat} {w : World} {v : Value} {ls : List LAt} (h : LinesOwn B w v ls) : LinesIn w v ls := ⟨own_has h.row, fun x hx => own_has (h.words x hx)⟩
theorem LinesOwn.below {B : Nat} {w w' : World} {v : Value} {ls : List LAt} (h : LinesOwn B w v ls) (hb : Below w.heap.size w w') : LinesOwn B w' v ls := Mem.below h hb
theorem LinesOwn.mono {B B' : Nat} {w : World} {v : Value} {ls : List LAt} (h : LinesOwn B w v ls) (hB : B' ≤ B) : LinesOwn B' w v ls := Mem.mono h hB
theorem own_other {w w' : World} {base g : Nat} {e : TypeId} {size : Nat} {v : Value} {n : Nat} {xs : List Value} (h : w.ownsRow base e size v n xs) (hg : w.grownBy w' (some g)) (hb : g < base) : w'.ownsRow base e size v n xs := by
  refine World.ownsRow.kept h hg ?_
  cases hv : v.ownBlock with
  | none => exact Or.inl rfl
  | some q =>
    right
    have := (h.lt q hv).1
    intro e
    cases e
    omega
theorem Mem.other {B g : Nat} {w w' : World} {L : List MRow} (h : Mem B w L) (hg : w.grownBy w' (some g)) (hb : g < B) : Mem B w' L := ⟨fun r hr => own_other (h.1 r hr) hg hb, h.2⟩
theorem Mem.setCell {B : Nat} {w : World} {L : List MRow} (h : Mem B w L) (p : Addr) (hp : p.block < B) (u : Value) : Mem B (w.setCell p u) L := ⟨fun r hr => own_setCell (h.1 r hr) p hp u, h.2⟩
theorem Mem.setRow {B : Nat} {w : World} {L : List MRow} (h : Mem B w L) (g : Nat) (hg : g < B) (cs : Array Value) : Mem B (w.setRow g cs) L := ⟨fun r hr => own_setRow (h.1 r hr) g hg cs, h.2⟩
/-- A row in a block ahead of all others. -/
theorem Mem.low {B s : Nat} {w : World} {L : List MRow} {r : MRow} (h : Mem (s + 1) w L) (hr : r.isAt B w) (hs : r.v.ownBlock = some s) (hB : B ≤ s + 1) : Mem B w (r :: L) := by
  refine ⟨fun x hx => ?_, List.pairwise_cons.2 ⟨fun x hx => .inr fun e => ?_, h.2⟩⟩
  · rcases List.mem_cons.1 hx with rfl | hx
    · exact hr
    · exact own_mono (h.1 x hx) hB
  · rw [hs] at e
    have := (h.lt hx e.symm).1
    omega
theorem infoLine : (Tryz.prog.info? 70).map (fun i => (i.zero, i.size, i.bytes)) = some (some (.agg #[.string ⟨#[]⟩, .slice none 0 0]), 2, 40) := by kernel_rfl
/-- What lines keep where a block ahead of them turns. -/
theorem LinesOwn.setCell {B : Nat} {w : World} {v : Value} {ls : List LAt} (h : LinesOwn B w v ls) (p : Addr) (hp : p.block < B) (u : Value) : LinesOwn B (w.setCell p u) v ls := Mem.setCell h p hp u
theorem LinesOwn.setRow {B : Nat} {w : World} {v : Value} {ls : List LAt} (h : LinesOwn B w v ls) (g : Nat) (hg : g < B) (cs : Array Value) : LinesOwn B (w.setRow g cs) v ls := Mem.setRow h g hg cs
theorem LinesOwn.other {B g : Nat} {w w' : World} {v : Value} {ls : List LAt} (h : LinesOwn B w v ls) (hg : w.grownBy w' (some g)) (hb : g < B) : LinesOwn B w' v ls := Mem.other h hg hb
def BAt.rows (b : BAt) : List MRow := lrows b.v b.ls
def brows (v : Value) (bs : List BAt) : List MRow := ⟨v, 52, 3, bs.length, bs.flatMap BAt.cells⟩ :: bs.flatMap BAt.rows
/-- Blocks that the call has made. -/
def BlocksOwn (B : Nat) (w : World) (v : Value) (bs : List BAt) : Prop := Mem B w (brows v bs)
theorem BlocksOwn.row {B : Nat} {w : World} {v : Value} {bs : List BAt} (h : BlocksOwn B w v bs) : w.ownsRow B 52 3 v bs.length (bs.flatMap BAt.cells) := Mem.head h
theorem flat_split {α β : Type} (f : α → List β) {L : List α} {x : α} (hx : x ∈ L) : ∃ A C, L.flatMap f = A ++ (f x ++ C) := by
  obtain ⟨A, C, rfl⟩ := List.append_of_mem hx
  exact ⟨A.flatMap f, C.flatMap f, by simp⟩
theorem BlocksOwn.lines {B : Nat} {w : World} {v : Value} {bs : List BAt} (h : BlocksOwn B w v bs) (x : BAt) (hx : x ∈ bs) : LinesOwn B w x.v x.ls := by
  obtain ⟨A, C, e⟩ := flat_split BAt.rows hx
  have h1 := Mem.tail h
  rw [e] at h1
  exact h1.right.left
theorem BlocksOwn.bin {B : Nat} {w : World} {v : Value} {bs : List BAt} (h : BlocksOwn B w v bs) : BlocksIn w v bs := ⟨own_has h.row, fun x hx => (h.lines x hx).lin⟩
theorem BlocksOwn.below {B : Nat} {w w' : World} {v : Value} {bs : List BAt} (h : BlocksOwn B w v bs) (hb : Below w.heap.size w w') : BlocksOwn B w' v bs := Mem.below h hb
theorem BlocksOwn.mono {B B' : Nat} {w : World} {v : Value} {bs : List BAt} (h : BlocksOwn B w v bs) (hB : B' ≤ B) : BlocksOwn B' w v bs := Mem.mono h hB
theorem infoBlock : (Tryz.prog.info? 52).map (fun i => (i.zero, i.size, i.bytes)) = some (some (.agg #[.string ⟨#[]⟩, .string ⟨#[]⟩, .slice none 0 0]), 3, 56) := by kernel_rfl
theorem BlocksOwn.setCell {B : Nat} {w : World} {v : Value} {bs : List BAt} (h : BlocksOwn B w v bs) (p : Addr) (hp : p.block < B) (u : Value) : BlocksOwn B (w.setCell p u) v bs := Mem.setCell h p hp u
theorem BlocksOwn.setRow {B : Nat} {w : World} {v : Value} {bs : List BAt} (h : BlocksOwn B w v bs) (g : Nat) (hg : g < B) (cs : Array Value) : BlocksOwn B (w.setRow g cs) v bs := Mem.setRow h g hg cs
end Go.Proofs.YtnnpgnkmmahomabGreatDoor
namespace Go.Proofs.YtnnpgnkmmahomabGreatDoor
open Go.RowKit
theorem add_at (b off j : Nat) : (⟨b, off, none⟩ : Addr).add j = ⟨b, off + j, none⟩ := by unfold Addr.add; split <;> simp_all
theorem run_append_zero {P : Program} {w : World} (base : Nat) (t ty e : TypeId) (i : TypeInfo) (size : Nat) (ht : P.underlying t = some (.slice e)) (hi : P.info? e = some i) (v : Value) (n : Nat) (xs : List Value) (hown : w.ownsRow base e size v n xs) (ao : Option Addr) (c : Nat) :
    (Builtin.append_ #[t, t] ty #[v, .slice ao 0 c]).run P w = .ok v w := by
  rcases hown.2 with ⟨rfl, rfl⟩ | ⟨g, cap, cur, rfl, _, _, hnc, _⟩
  · cases ao <;> simp [Builtin.append_, run_underlying ht, sizeOf, typeInfo, hi, Builtin.lenOf, Builtin.firstCells, loadCells, loadCellsFrom]
  · cases ao <;> simp [Builtin.append_, run_underlying ht, sizeOf, typeInfo, hi, Builtin.lenOf, Builtin.firstCells, hnc, storeCells, loadCells, loadCellsFrom]
/-- A row put behind a row that the call owns, wherever it lies. -/
theorem wp_append_has {P : Program} {w : World} {o : Oper} {a : Act} {K : Act → World → Prop} {Q : Exit → Act → World → Prop} (s x : Operand) (t : TypeId)
    (ho : o.op = .call { callee := .builtin .append, args := #[s, x], argTypes := #[t, t] })
    (base : Nat) (e : TypeId) (i : TypeInfo) (z : Value) (size bytes : Nat) (ht : P.underlying t = some (.slice e)) (hi : P.info? e = some i) (hz : i.zero = some z)
    (hsize : i.size = size) (hby : i.bytes = bytes) (hzs : z.cells.size = size) (hsz : 0 < size)
    (v : Value) (n : Nat) (xs : List Value) (hs : a.eval s = v) (hown : w.ownsRow base e size v n xs)
    (u : Value) (m : Nat) (news : List Value) (hx : a.eval x = u) (hrow : HasRow w u m size news) (h1 : ∀ y ∈ news, y.oneCell' = true)
    (h63 : n + m ≤ maxLen) (hbytes : (n + m) * bytes ≤ 140737488355328) (hbase : base ≤ w.heap.size)
    (h : ∀ ao cap w', w'.ownsRow base e size (.slice ao (n + m) cap) (n + m) (xs ++ news) → w.grownBy w' v.ownBlock → ((Value.slice ao (n + m) cap).ownBlock = v.ownBlock ∨ (Value.slice ao (n + m) cap).ownBlock = some w.heap.size) → K (a.put o.dst (.slice ao (n + m) cap)) w') : o.wp P a w K Q := by
  obtain ⟨hl, ao, cap, rfl, _, hc⟩ := hrow
  by_cases hm : m = 0
  · subst hm
    have hn0 : news = [] := by simpa using hl
    subst hn0
    have hrun := run_append_zero (P := P) (w := w) base t o.type e i size ht hi v n xs hown ao cap
    unfold Oper.wp execOp
    simp only [ho, resolve, invoke, builtin, Sem.run_bind, Sem.run_pure, Result.andThen_ok, List.map_toArray, List.map_cons, List.map_nil, hs, hx, hrun]
    obtain ⟨ao', cap', rfl, _⟩ := own_form hown
    exact h ao' cap' w (by rw [List.append_nil]; exact hown) (World.grownBy.refl _ _) (.inl rfl)
  · rcases hc with h0 | ⟨b, off, rfl, hc⟩
    · exact absurd h0 hm
    · refine wp_append_lies w s x t ho base e i z size bytes ht hi hz hsize hby hzs hsz v n xs hs hown ⟨b, off, none⟩ m cap news hx hl (fun j y hj => by rw [add_at]; exact hc j y hj) h1 (by omega) h63 hbytes hbase w.heap.size rfl ?_
      intro g cap' w' h2 h3 h4 _
      refine h _ _ w' h2 h3 ?_
      rcases h4 with h4 | h4
      · exact .inl (by rw [h4]; rfl)
      · exact .inr (by rw [h4]; rfl)
theorem wpList_append_has {P : Program} {w : World} {ops : Array Oper} {rest : List Oper} {o : Oper} {a : Act} {Q : Exit → Act → World → Prop} (hgd : o.guard = none) (s x : Operand) (t : TypeId)
    (ho : o.op = .call { callee := .builtin .append, args := #[s, x], argTypes := #[t, t] })
    (base : Nat) (e : TypeId) (i : TypeInfo) (z : Value) (size bytes : Nat) (ht : P.underlying t = some (.slice e)) (hi : P.info? e = some i) (hz : i.zero = some z)
    (hsize : i.size = size) (hby : i.bytes = bytes) (hzs : z.cells.size = size) (hsz : 0 < size)
    (v : Value) (n : Nat) (xs : List Value) (hs : a.eval s = v) (hown : w.ownsRow base e size v n xs)
    (u : Value) (m : Nat) (news : List Value) (hx : a.eval x = u) (hrow : HasRow w u m size news) (h1 : ∀ y ∈ news, y.oneCell' = true)
    (h63 : n + m ≤ maxLen) (hbytes : (n + m) * bytes ≤ 140737488355328) (hbase : base ≤ w.heap.size)
    (h : ∀ ao cap w', w'.ownsRow base e size (.slice ao (n + m) cap) (n + m) (xs ++ news) → w.grownBy w' v.ownBlock → ((Value.slice ao (n + m) cap).ownBlock = v.ownBlock ∨ (Value.slice ao (n + m) cap).ownBlock = some w.heap.size) → wpList P ops Q rest (a.put o.dst (.slice ao (n + m) cap)) w') : wpList P ops Q (o :: rest) a w :=
  wpList_plain hgd fun _ hK => wp_append_has s x t ho base e i z size bytes ht hi hz hsize hby hzs hsz v n xs hs hown u m news hx hrow h1 h63 hbytes hbase fun ao cap w' h2 h3 h4 => hK _ _ (h ao cap w' h2 h3 h4)
theorem step_append_has {P : Program} {w : World} {ops : Array Oper} {o : Oper} {a : Act} {K : Act → World → Prop} {Q : Exit → Act → World → Prop} {E : Prop} (hgd : o.guard = none) (s x : Operand) (t : TypeId)
    (ho : o.op = .call { callee := .builtin .append, args := #[s, x], argTypes := #[t, t] })
    (base : Nat) (e : TypeId) (i : TypeInfo) (z : Value) (size bytes : Nat) (ht : P.underlying t = some (.slice e)) (hi : P.info? e = some i) (hz : i.zero = some z)
    (hsize : i.size = size) (hby : i.bytes = bytes) (hzs : z.cells.size = size) (hsz : 0 < size)
    (v : Value) (n : Nat) (xs : List Value) (hs : a.eval s = v) (hown : w.ownsRow base e size v n xs)
    (u : Value) (m : Nat) (news : List Value) (hx : a.eval x = u) (hrow : HasRow w u m size news) (h1 : ∀ y ∈ news, y.oneCell' = true)
    (h63 : n + m ≤ maxLen) (hbytes : (n + m) * bytes ≤ 140737488355328) (hbase : base ≤ w.heap.size)
    (h : ∀ ao cap w', w'.ownsRow base e size (.slice ao (n + m) cap) (n + m) (xs ++ news) → w.grownBy w' v.ownBlock → ((Value.slice ao (n + m) cap).ownBlock = v.ownBlock ∨ (Value.slice ao (n + m) cap).ownBlock = some w.heap.size) → K (a.put o.dst (.slice ao (n + m) cap)) w') :
    if Region.wanted o (yielded ops a.tmps) = true then Oper.wp P o a w K Q else E := by
  have hw : Region.wanted o (yielded ops a.tmps) = true := by simp [Region.wanted, hgd]
  rw [if_pos hw]
  exact wp_append_has s x t ho base e i z size bytes ht hi hz hsize hby hzs hsz v n xs hs hown u m news hx hrow h1 h63 hbytes hbase h
theorem Mem.grow {B : Nat} {w w' : World} {L : List MRow} {r r' : MRow} (h : Mem B w (r :: L)) (hr : r'.isAt B w') (hg : w.grownBy w' r.v.ownBlock) (hv : r'.v.ownBlock = r.v.ownBlock ∨ r'.v.ownBlock = some w.heap.size) : Mem B w' (r' :: L) := by
  have hp := List.pairwise_cons.1 h.2
  refine ⟨fun s hs => ?_, List.pairwise_cons.2 ⟨fun s hs => ?_, hp.2⟩⟩
  · rcases List.mem_cons.1 hs with rfl | h1
    · exact hr
    · refine World.ownsRow.kept (h.1 s (by simp [h1])) hg ?_
      rcases hp.1 s h1 with h2 | h2
      · cases hs' : s.v.ownBlock with
        | none => exact Or.inl rfl
        | some g => right; rw [h2]; simp
      · exact Or.inr (fun e => h2 e.symm)
  · rcases hv with hv | hv
    · rw [hv]; exact hp.1 s hs
    · rw [hv]
      refine .inr fun e => ?_
      have := (h.lt (List.mem_cons_of_mem _ hs) e.symm).2
      omega
theorem strs_one (ws : List (List UInt8)) : ∀ u ∈ strs ws, u.oneCell' = true := by
  intro u hu
  simp only [strs, List.mem_map] at hu
  obtain ⟨x, _, rfl⟩ := hu
  rfl
theorem lcells_one {ls : List LAt} (h : ∀ x ∈ ls, ∃ a n c, x.v = .slice a n c) : ∀ u ∈ ls.flatMap LAt.cells, u.oneCell' = true := by
  intro u hu
  obtain ⟨x, hx, hu⟩ := List.mem_flatMap.1 hu
  obtain ⟨a, n, c, e⟩ := h x hx
  simp only [LAt.cells, List.mem_cons, List.not_mem_nil, or_false] at hu
  rcases hu with rfl | rfl
  · rfl
  · rw [e]; rfl
theorem bcells_one {bs : List BAt} (h : ∀ x ∈ bs, ∃ a n c, x.v = .slice a n c) : ∀ u ∈ bs.flatMap BAt.cells, u.oneCell' = true := by
  intro u hu
  obtain ⟨x, hx, hu⟩ := List.mem_flatMap.1 hu
  obtain ⟨a, n, c, e⟩ := h x hx
  simp only [BAt.cells, List.mem_cons, List.not_mem_nil, or_false] at hu
  rcases hu with rfl | rfl | rfl
  · rfl
  · rfl
  · rw [e]; rfl
end Go.Proofs.YtnnpgnkmmahomabGreatDoor
