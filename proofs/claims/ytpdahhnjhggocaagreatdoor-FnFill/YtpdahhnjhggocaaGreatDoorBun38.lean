import Derived.Test.YtpdahhnjhggocaaGreatDoorBun37
import Derived.Test.YtpdahhnjhggocaaGreatDoorBun27
import Derived.Test.YtpdahhnjhggocaaGreatDoorBun26
import Derived.Deep.MidRow
namespace Go.Proofs.YtpdahhnjhggocaaGreatDoor
open Go.RowKit
set_option maxHeartbeats 1000000 in
theorem pick_zero (B p k : Nat) (w : World) (h : Rd B w p k) (hk : k ≤ 1000000) : Calls Tryz.prog 44 #[.pointer (some ⟨p, 0, none⟩), .int .i64 0] w fun e w' => e = .returned (.int .i64 0) ∧ Rd B w' p (k + 1) ∧ w.grownBy w' (some p) := by
  have hst := h.step
  obtain ⟨hB, a, len, cap, hb, hl, hrest⟩ := h
  have c0 : w.cell? ⟨p, 0, none⟩ = some (.slice a len cap) := by rw [Lib.cell_of_heap hb]; rfl
  have c1 : w.cell? ⟨p, 1, none⟩ = some (.int .i64 (k : Int)) := by rw [Lib.cell_of_heap hb]; rfl
  have f1 : w.frozen? ⟨p, 1, none⟩ = false := Lib.frozen_of_heap hb 1
  clear hrest
  go_enter Tryz.func44, Tryz.ntmps44
  go_wp2
  go_ret
  exact ⟨rfl, hst.1, hst.2⟩
/-- What pick gives of a number that may be none. -/
def PickedL (n B p k : Nat) (w : World) (e : Ending) (w' : World) : Prop := ∃ x : Nat, (x < n ∨ n = 0 ∧ x = 0) ∧ e = .returned (.int .i64 (x : Int)) ∧ Rd B w' p (k + 1) ∧ w.grownBy w' (some p)
theorem pick_len (B p k n : Nat) (w : World) (h : Rd B w p k) (hn : n ≤ 1000) (hk : k ≤ 1000000) : Calls Tryz.prog 44 #[.pointer (some ⟨p, 0, none⟩), .int .i64 (n : Int)] w fun e w' => PickedL n B p k w e w' := by
  by_cases h0 : n = 0
  · subst h0
    refine (pick_zero B p k w h hk).mono ?_
    rintro e w' ⟨rfl, h1, h2⟩
    exact ⟨0, .inr ⟨rfl, rfl⟩, rfl, h1, h2⟩
  · refine (pick_any B p k n w h (by omega) hn hk).mono ?_
    rintro e w' ⟨x, hx, rfl, h1, h2⟩
    exact ⟨x, .inl hx, rfl, h1, h2⟩
/-- How great blocks are that have been spoilt. -/
def SmallX (name : ByteArray) (ls : List LAt) : Prop := name.size ≤ 1048576 ∧ LinesSmall ls
theorem SmallB.x {b : BAt} (h : SmallB b) : SmallX b.name b.ls := ⟨Nat.le_trans h.1 (by decide), h.lines⟩
/-- Lines that are read, and lie in no block below c, nor in one of these. -/
def LFree (c : Nat) (G : List Nat) (W : World) (v : Value) (ls : List LAt) : Prop := LinesIn W v ls ∧ (∀ q ∈ G, LinesFar q v ls) ∧ ∀ q, q < c → LinesFar q v ls
theorem LFree.grown {c q : Nat} {G : List Nat} {W W' : World} {v : Value} {ls : List LAt} (h : LFree c G W v ls) (hg : W.grownBy W' (some q)) (hq : q < c ∨ q ∈ G) : LFree c G W' v ls := ⟨h.1.far (by rcases hq with hq | hq; exact h.2.2 q hq; exact h.2.1 q hq) hg, h.2⟩
theorem LFree.below {c : Nat} {G : List Nat} {W W' : World} {v : Value} {ls : List LAt} (h : LFree c G W v ls) (hb : Below W.heap.size W W') : LFree c G W' v ls := ⟨h.1.below hb, h.2⟩
/-- Where the spoiling of a block has come to: x's box at X, b's at Y; the block's own place in the row is open. -/
structure SpJ (B p c X Y : Nat) (w1 : World) (D T : List BAt) (y : BAt) (g n cap kk : Nat) (bk bn : ByteArray) (bv : Value) (ls : List LAt) (W : World) : Prop where
  rd : Rd B W p kk
  gr : w1.grownBy W (some p)
  plt : p < c
  cw : c = w1.heap.size
  xb : W.heap[X]? = some (.cells #[.slice (some ⟨g, 0, none⟩) n cap] 25 (0, 0))
  yb : W.heap[Y]? = some (.cells #[.string bk, .string bn, bv] 46 (0, 0))
  cX : c ≤ X
  cY : c ≤ Y
  XY : X ≠ Y
  gX : g ≠ X
  gY : g ≠ Y
  row : W.ownsRow c 46 3 (.slice (some ⟨g, 0, none⟩) n cap) n ((D ++ y :: T).flatMap BAt.cells)
  len : (D ++ y :: T).length = n
  few : n ≤ 62
  oth : ∀ x ∈ D ++ T, LFree c [g, X, Y] W x.v x.ls ∧ SmallX x.name x.ls
  mine : LFree c [g, X, Y] W bv ls ∧ SmallX bn ls
theorem SpJ.below {B p c X Y : Nat} {w1 : World} {D T : List BAt} {y : BAt} {g n cap kk : Nat} {bk bn : ByteArray} {bv : Value} {ls : List LAt} {W W' : World} (h : SpJ B p c X Y w1 D T y g n cap kk bk bn bv ls W) (hb : Below W.heap.size W W') : SpJ B p c X Y w1 D T y g n cap kk bk bn bv ls W' :=
  ⟨h.rd.below hb, grown_trans h.gr (grown_of_below hb _), h.plt, h.cw, (hb.block X (Array.getElem?_eq_some_iff.1 h.xb).1).trans h.xb, (hb.block Y (Array.getElem?_eq_some_iff.1 h.yb).1).trans h.yb, h.cX, h.cY, h.XY, h.gX, h.gY, own_below h.row hb, h.len, h.few, fun x hx => ⟨(h.oth x hx).1.below hb, (h.oth x hx).2⟩, h.mine.1.below hb, h.mine.2⟩
theorem SpJ.grown {B p c X Y : Nat} {w1 : World} {D T : List BAt} {y : BAt} {g n cap kk kk' : Nat} {bk bn : ByteArray} {bv : Value} {ls : List LAt} {W W' : World} (h : SpJ B p c X Y w1 D T y g n cap kk bk bn bv ls W) (hg : W.grownBy W' (some p)) (hr : Rd B W' p kk') : SpJ B p c X Y w1 D T y g n cap kk' bk bn bv ls W' := by
  have hpX : p < X := Nat.lt_of_lt_of_le h.plt h.cX
  have hpY : p < Y := Nat.lt_of_lt_of_le h.plt h.cY
  exact ⟨hr, grown_trans h.gr hg, h.plt, h.cw, KeepP.grown hg X _ hpX h.xb, KeepP.grown hg Y _ hpY h.yb, h.cX, h.cY, h.XY, h.gX, h.gY, own_other h.row hg h.plt, h.len, h.few, fun x hx => ⟨(h.oth x hx).1.grown hg (.inl h.plt), (h.oth x hx).2⟩, h.mine.1.grown hg (.inl h.plt), h.mine.2⟩
/-- b's kind and name turned. -/
theorem SpJ.head {B p c X Y : Nat} {w1 : World} {D T : List BAt} {y : BAt} {g n cap kk : Nat} {bk bn bk' bn' : ByteArray} {bv : Value} {ls : List LAt} {W W' : World} (h : SpJ B p c X Y w1 D T y g n cap kk bk bn bv ls W) (hy : W'.heap[Y]? = some (.cells #[.string bk', .string bn', bv] 46 (0, 0))) (hn : bn'.size ≤ 1048576) (hg : W.grownBy W' (some Y)) : SpJ B p c X Y w1 D T y g n cap kk bk' bn' bv ls W' := by
  have hX : X < W.heap.size := (Array.getElem?_eq_some_iff.1 h.xb).1
  have hgt := (h.row.lt g rfl).1
  refine ⟨Kept.rd h.rd (Kept.of_grown (S := [Y]) hg (fun q hq => by cases hq; simp)) (fun i hi => by rw [List.mem_singleton.1 hi]; have := h.cY; have := h.plt; omega), ⟨hg.os.trans h.gr.os, hg.tape.trans h.gr.tape, hg.output.trans h.gr.output, Nat.le_trans h.gr.size hg.size, fun i hi hne => ?_⟩, h.plt, h.cw, ?_, hy, h.cX, h.cY, h.XY, h.gX, h.gY, World.ownsRow.kept h.row hg (.inr (fun e => by cases e; exact h.gY rfl)), h.len, h.few, fun x hx => ⟨(h.oth x hx).1.grown hg (.inr (by simp)), (h.oth x hx).2⟩, ⟨h.mine.1.grown hg (.inr (by simp)), hn, h.mine.2.2⟩⟩
  · have hc := h.cY
    have hw := h.cw
    have := h.gr.size
    rw [hg.block i (by omega) (by intro e; cases e; omega)]; exact h.gr.block i hi hne
  · rw [hg.block X hX (by intro e; cases e; exact h.XY rfl)]; exact h.xb
theorem LinesIn.fresh {w : World} {q : Nat} {v : Value} {ls : List LAt} (h : LinesIn w v ls) (hq : w.heap.size ≤ q) : LinesFar q v ls := ⟨FarV.of_lt h.1 (by decide) hq, fun y hy => FarV.of_lt (h.2 y hy) (by decide) hq⟩
/-- A block put behind the others. -/
theorem SpJ.push {B p c X Y : Nat} {w1 : World} {D T : List BAt} {y z : BAt} {g g' n cap cap' kk : Nat} {bk bn : ByteArray} {bv : Value} {ls : List LAt} {W W' : World} (h : SpJ B p c X Y w1 D T y g n cap kk bk bn bv ls W) (hg : W.grownBy W' (some g)) (row' : W'.ownsRow c 46 3 (.slice (some ⟨g', 0, none⟩) (n + 1) cap') (n + 1) ((D ++ y :: (T ++ [z])).flatMap BAt.cells)) (hz : LFree c [g, X, Y] W z.v z.ls ∧ SmallX z.name z.ls) (hg' : g' = g ∨ W.heap.size ≤ g') (hX : g' ≠ X) (hY : g' ≠ Y) (few : n + 1 ≤ 62) :
    SpJ B p c X Y w1 D (T ++ [z]) y g' (n + 1) cap' kk bk bn bv ls (W'.setCell ⟨X, 0, none⟩ (.slice (some ⟨g', 0, none⟩) (n + 1) cap')) := by
  have hXl : X < W.heap.size := (Array.getElem?_eq_some_iff.1 h.xb).1
  have hYl : Y < W.heap.size := (Array.getElem?_eq_some_iff.1 h.yb).1
  have hgc := (h.row.lt g rfl).1
  have hcX := h.cX
  have hcw := h.cw
  have hws := h.gr.size
  have hgz := hg.size
  have hplt := h.plt
  have gS : W'.grownBy (W'.setCell ⟨X, 0, none⟩ (.slice (some ⟨g', 0, none⟩) (n + 1) cap')) (some X) := ⟨rfl, rfl, rfl, by simp, fun i _ hi => heap_setCell_other W' ⟨X, 0, none⟩ i _ (fun e => hi (by simp [e]))⟩
  have xb' : W'.heap[X]? = some (.cells #[.slice (some ⟨g, 0, none⟩) n cap] 25 (0, 0)) := (hg.block X hXl (by intro e; cases e; exact h.gX rfl)).trans h.xb
  have yb' : W'.heap[Y]? = some (.cells #[.string bk, .string bn, bv] 46 (0, 0)) := (hg.block Y hYl (by intro e; cases e; exact h.gY rfl)).trans h.yb
  have hfr : ∀ {v : Value} {ls : List LAt}, LFree c [g, X, Y] W v ls → LFree c [g', X, Y] (W'.setCell ⟨X, 0, none⟩ (.slice (some ⟨g', 0, none⟩) (n + 1) cap')) v ls := fun {v ls} hf => by
    refine ⟨((hf.grown hg (.inr (by simp))).grown gS (.inr (by simp))).1, fun q hq => ?_, hf.2.2⟩
    simp only [List.mem_cons, List.not_mem_nil, or_false] at hq
    rcases hq with rfl | rfl | rfl
    · rcases hg' with e | e
      · rw [e]; exact hf.2.1 g (by simp)
      · exact hf.1.fresh e
    · exact hf.2.1 _ (by simp)
    · exact hf.2.1 _ (by simp)
  refine ⟨?_, ⟨gS.os.trans (hg.os.trans h.gr.os), gS.tape.trans (hg.tape.trans h.gr.tape), gS.output.trans (hg.output.trans h.gr.output), by have := gS.size; omega, fun i hi hne => ?_⟩, h.plt, h.cw, ?_, ?_, h.cX, h.cY, h.XY, hX, hY, ?_, ?_, few, fun x hx => ?_, hfr h.mine.1, h.mine.2⟩
  · have k1 := Kept.rd h.rd (Kept.of_grown (S := [g]) hg (fun q hq => by cases hq; simp)) (fun i hi => by rw [List.mem_singleton.1 hi]; omega)
    exact Kept.rd k1 (Kept.of_grown (S := [X]) gS (fun q hq => by cases hq; simp)) (fun i hi => by rw [List.mem_singleton.1 hi]; omega)
  · rw [gS.block i (by omega) (by intro e; cases e; omega), hg.block i (by omega) (by intro e; cases e; omega)]
    exact h.gr.block i hi hne
  · rw [heap_setCell_same W' X 0 _ _ _ xb']; rfl
  · rw [gS.block Y (by omega) (by intro e; cases e; exact h.XY rfl)]; exact yb'
  · exact World.ownsRow.kept row' gS (.inr (fun e => by cases e; exact hX rfl))
  · have := h.len
    simp at this ⊢
    omega
  · rw [← List.append_assoc] at hx
    rcases List.mem_append.1 hx with hx | hx
    · exact ⟨hfr (h.oth x hx).1, (h.oth x hx).2⟩
    · rw [List.mem_singleton.1 hx]; exact ⟨hfr hz.1, hz.2⟩
/-- The block's own lines turned where they lie (l: the block of memory that the store met). -/
theorem SpJ.lines {B p c X Y l : Nat} {w1 : World} {D T : List BAt} {y : BAt} {g n cap kk : Nat} {bk bn : ByteArray} {ls' : List LAt} {W W' : World} (h : SpJ B p c X Y w1 D T y g n cap kk bk bn y.v y.ls W) (own' : BlocksOwn c W' (.slice (some ⟨g, 0, none⟩) n cap) (D ++ { y with ls := ls' } :: T)) (hg : W.grownBy W' (some l)) (hl : c ≤ l) (lX : l ≠ X) (lY : l ≠ Y) (hf : (∀ q ∈ [g, X, Y], LinesFar q y.v ls') ∧ ∀ q, q < c → LinesFar q y.v ls') (hs : SmallX bn ls') : SpJ B p c X Y w1 D T y g n cap kk bk bn y.v ls' W' := by
  have hXl : X < W.heap.size := (Array.getElem?_eq_some_iff.1 h.xb).1
  have hYl : Y < W.heap.size := (Array.getElem?_eq_some_iff.1 h.yb).1
  have hcw := h.cw
  have hws := h.gr.size
  have hplt := h.plt
  have hrow := own'.row
  have e1 : (D ++ { y with ls := ls' } :: T).length = n := by rw [← h.len]; simp
  have e2 : (D ++ { y with ls := ls' } :: T).flatMap BAt.cells = (D ++ y :: T).flatMap BAt.cells := by simp [BAt.cells]
  rw [e1, e2] at hrow
  refine ⟨Kept.rd h.rd (Kept.of_grown (S := [l]) hg (fun q hq => by cases hq; simp)) (fun i hi => by rw [List.mem_singleton.1 hi]; omega), ⟨hg.os.trans h.gr.os, hg.tape.trans h.gr.tape, hg.output.trans h.gr.output, Nat.le_trans h.gr.size hg.size, fun i hi hne => ?_⟩, h.plt, h.cw, (hg.block X hXl (by intro e; cases e; exact lX rfl)).trans h.xb, (hg.block Y hYl (by intro e; cases e; exact lY rfl)).trans h.yb, h.cX, h.cY, h.XY, h.gX, h.gY, hrow, h.len, h.few, fun x hx => ⟨⟨(own'.lines x ?_).lin, (h.oth x hx).1.2⟩, (h.oth x hx).2⟩, ⟨(own'.lines { y with ls := ls' } (by simp)).lin, hf⟩, hs⟩
  · rw [hg.block i (by omega) (by intro e; cases e; omega)]; exact h.gr.block i hi hne
  · simp only [List.mem_append, List.mem_cons] at hx ⊢
    rcases hx with hx | hx
    · exact .inl hx
    · exact .inr (.inr hx)
/-- A sheet that has been spoilt. -/
def Spoilt (d B p k : Nat) (w : World) (e : Ending) (w' : World) : Prop := ∃ (a : Option Addr) (n c : Nat) (bs : List BAt) (k' : Nat), e = .returned (.agg #[.slice a n c]) ∧ k' ≤ k + d ∧ Rd B w' p k' ∧ w.grownBy w' (some p) ∧ BlocksIn w' (.slice a n c) bs ∧ (BlocksSmall bs ∧ bs.length ≤ 62) ∧ ∀ q, q < w.heap.size → BlocksFar q (.slice a n c) bs
/-- The block put back, and the sheet handed back. -/
theorem SpJ.out {d B p c X Y : Nat} {w w1 : World} {D T : List BAt} {y : BAt} {g n cap kk k : Nat} {bk bn : ByteArray} {bv : Value} {ls : List LAt} {W : World} (h : SpJ B p c X Y w1 D T y g n cap kk bk bn bv ls W) (hc : c = w.heap.size + 2) (hw : w.grownBy w1 (some p)) (hk : kk ≤ k + d) (hp : p < w.heap.size) (cs : Array Value) : Spoilt d B p k w (.returned (.agg #[.slice (some ⟨g, 0, none⟩) n cap])) ((W.setCells g (D.length * 3) [.string bk, .string bn, bv]).setRow (w.heap.size + 1) cs) ∧ (W.setCells g (D.length * 3) [.string bk, .string bn, bv]).heap[X]? = W.heap[X]? ∧ W.there g (D.length * 3) 3 ∧ (W.setCells g (D.length * 3) [.string bk, .string bn, bv]).heap[w.heap.size + 1]? = W.heap[w.heap.size + 1]? := by
  have hgt := h.row.lt g rfl
  have hX : X < W.heap.size := (Array.getElem?_eq_some_iff.1 h.xb).1
  have hwz := h.gr.size
  have hcw := h.cw
  obtain ⟨ys, y1, y2, y3⟩ := own_setCells [.string bk, .string bn, bv] (D.length * 3) W _ h.row
  have hy := y3 (D.flatMap BAt.cells) y.cells (T.flatMap BAt.cells) (by simp) (rowF_len _ 3 BAt.len D) (by rw [BAt.len]; rfl)
  rw [hy] at y1
  have gs := grown_setRow (W.setCells g (D.length * 3) [.string bk, .string bn, bv]) (w.heap.size + 1) cs
  have hlen : (D ++ (⟨bk, bn, bv, ls⟩ : BAt) :: T).length = n := by rw [← h.len]; simp
  have hall : ∀ x ∈ D ++ (⟨bk, bn, bv, ls⟩ : BAt) :: T, LFree c [g, X, Y] W x.v x.ls ∧ SmallX x.name x.ls := by
    intro x hx
    simp only [List.mem_append, List.mem_cons] at hx
    rcases hx with hx | rfl | hx
    · exact h.oth x (by simp [hx])
    · exact h.mine
    · exact h.oth x (by simp [hx])
  have hfin : BlocksIn ((W.setCells g (D.length * 3) [.string bk, .string bn, bv]).setRow (w.heap.size + 1) cs) (.slice (some ⟨g, 0, none⟩) n cap) (D ++ (⟨bk, bn, bv, ls⟩ : BAt) :: T) := by
    refine ⟨?_, fun x hx => ?_⟩
    · rw [hlen]
      have := own_has (own_setRow y1 (w.heap.size + 1) (by omega) cs)
      simpa [BAt.cells] using this
    · exact (((hall x hx).1.grown y2 (.inr (by simp))).grown gs (.inl (by omega))).1
  refine ⟨⟨_, n, cap, D ++ (⟨bk, bn, bv, ls⟩ : BAt) :: T, kk, rfl, hk, ?_, ⟨?_, ?_, ?_, ?_, fun i hi hne => ?_⟩, hfin, ⟨⟨by rw [hlen]; exact Nat.le_trans h.few (by decide), fun x hx => (hall x hx).2⟩, by rw [hlen]; exact h.few⟩, fun q hq => ⟨?_, fun x hx => (hall x hx).1.2.2 q (by omega)⟩⟩, ?_, row_there h.row _ _ ?_, ?_⟩
  · have k1 := Kept.rd h.rd (Kept.of_grown (S := [g]) y2 (fun q hq => by cases hq; simp)) (fun i hi => by rw [List.mem_singleton.1 hi]; omega)
    exact Kept.rd k1 (Kept.of_grown (S := [w.heap.size + 1]) gs (fun q hq => by cases hq; simp)) (fun i hi => by rw [List.mem_singleton.1 hi]; omega)
  · exact (gs.os.trans y2.os).trans (h.gr.os.trans hw.os)
  · exact (gs.tape.trans y2.tape).trans (h.gr.tape.trans hw.tape)
  · exact (gs.output.trans y2.output).trans (h.gr.output.trans hw.output)
  · have := gs.size; have := y2.size; omega
  · rw [gs.block i (by have := y2.size; omega) (by intro e; cases e; omega), y2.block i (by omega) (by intro e; cases e; omega), h.gr.block i (by omega) hne]
    exact hw.block i hi hne
  · rw [hlen]; exact FarV.above h.row (by omega)
  · exact y2.block X hX (by intro e; cases e; exact h.gX rfl)
  · have : D.length + 1 ≤ n := by rw [← h.len]; simp
    omega
  · exact y2.block (w.heap.size + 1) (by omega) (by intro e; cases e; omega)
end Go.Proofs.YtpdahhnjhggocaaGreatDoor
namespace Go.Proofs.YtpdahhnjhggocaaGreatDoor
open Go.RowKit
theorem LinesFar.same {q : Nat} {v : Value} {ls ls' : List LAt} (h : LinesFar q v ls) (hl : ls'.length = ls.length) (hm : ∀ x ∈ ls', ∃ y ∈ ls, x.v = y.v ∧ x.ws.length = y.ws.length) : LinesFar q v ls' := by
  refine ⟨by rw [hl]; exact h.1, fun x hx => ?_⟩
  obtain ⟨y, hy, e1, e2⟩ := hm x hx
  rw [e1, e2]
  exact h.2 y hy
theorem grown_setCell (W : World) (g j : Nat) (u : Value) : W.grownBy (W.setCell ⟨g, j, none⟩ u) (some g) := ⟨rfl, rfl, rfl, by simp, fun i _ hi => heap_setCell_other W ⟨g, j, none⟩ i _ (fun e => hi (by simp [e]))⟩
theorem mem_mid {α : Type} {A E : List α} {x x' z : α} (h : z ∈ A ++ x' :: E) : z = x' ∨ z ∈ A ++ x :: E := by
  simp only [List.mem_append, List.mem_cons] at h ⊢
  rcases h with h | h | h
  · exact .inr (.inl h)
  · exact .inl h
  · exact .inr (.inr (.inr h))
theorem far_block {q l n m cp : Nat} (h : FarV q (.slice (some ⟨l, 0, none⟩) m cp) n) (h0 : 0 < n) : l ≠ q := by
  rcases h with h | h
  · omega
  · exact h l 0 m cp rfl
/-- A line's key turned where it lies. -/
theorem SpJ.key {B p c X Y l nl yc : Nat} {w1 : World} {D T : List BAt} {yk yn : ByteArray} {A E : List LAt} {x : LAt} {g n cap kk : Nat} {bk bn : ByteArray} {W : World} (h : SpJ B p c X Y w1 D T ⟨yk, yn, .slice (some ⟨l, 0, none⟩) nl yc, A ++ x :: E⟩ g n cap kk bk bn (.slice (some ⟨l, 0, none⟩) nl yc) (A ++ x :: E) W) (own : BlocksOwn c W (.slice (some ⟨g, 0, none⟩) n cap) (D ++ ⟨yk, yn, .slice (some ⟨l, 0, none⟩) nl yc, A ++ x :: E⟩ :: T)) (hn : (A ++ x :: E).length = nl) (u : ByteArray) :
    SpJ B p c X Y w1 D T ⟨yk, yn, .slice (some ⟨l, 0, none⟩) nl yc, A ++ x :: E⟩ g n cap kk bk bn (.slice (some ⟨l, 0, none⟩) nl yc) (A ++ { x with key := u } :: E) (W.setCell ⟨l, A.length * 2, none⟩ (.string u)) := by
  have hpos : 0 < (A ++ x :: E).length := by simp; omega
  have hfr : ∀ q, LinesFar q (.slice (some ⟨l, 0, none⟩) nl yc) (A ++ x :: E) → l ≠ q ∧ LinesFar q (.slice (some ⟨l, 0, none⟩) nl yc) (A ++ { x with key := u } :: E) := fun q hq => by
    refine ⟨far_block hq.1 hpos, hq.same (by simp) fun z hz => ?_⟩
    rcases mem_mid (x := x) hz with rfl | hz
    · exact ⟨x, by simp, rfl, rfl⟩
    · exact ⟨z, hz, rfl, rfl⟩
  have hlm := own.bm.lines.set hn 0 (.string u) { x with key := u } (by decide) rfl rfl
  have hback := (BM.back (r := ⟨yk, yn, .slice (some ⟨l, 0, none⟩) nl yc, A ++ x :: E⟩) hlm).own
  have hlc := (own.lines _ (show (⟨yk, yn, .slice (some ⟨l, 0, none⟩) nl yc, A ++ x :: E⟩ : BAt) ∈ D ++ ⟨yk, yn, .slice (some ⟨l, 0, none⟩) nl yc, A ++ x :: E⟩ :: T by simp)).row.lt l rfl
  refine SpJ.lines (l := l) h hback (grown_setCell W l _ _) hlc.1 (hfr X (h.mine.1.2.1 X (by simp))).1 (hfr Y (h.mine.1.2.1 Y (by simp))).1 ⟨fun q hq => (hfr q (h.mine.1.2.1 q hq)).2, fun q hq => (hfr q (h.mine.1.2.2 q hq)).2⟩ ⟨h.mine.2.1, by have := h.mine.2.2.1; simp only [List.length_append, List.length_cons] at this ⊢; exact this, fun z hz => ?_⟩
  rcases mem_mid (x := x) hz with rfl | hz
  · exact h.mine.2.2.2 x (by simp)
  · exact h.mine.2.2.2 z hz
/-- A line's first word turned where it lies. -/
theorem SpJ.word {B p c X Y l r nw wc nl yc : Nat} {w1 : World} {D T : List BAt} {yk yn key : ByteArray} {A E : List LAt} {s : List UInt8} {ss : List (List UInt8)} {g n cap kk : Nat} {bk bn : ByteArray} {W : World} (h : SpJ B p c X Y w1 D T ⟨yk, yn, .slice (some ⟨l, 0, none⟩) nl yc, A ++ ⟨key, .slice (some ⟨r, 0, none⟩) nw wc, s :: ss⟩ :: E⟩ g n cap kk bk bn (.slice (some ⟨l, 0, none⟩) nl yc) (A ++ ⟨key, .slice (some ⟨r, 0, none⟩) nw wc, s :: ss⟩ :: E) W) (own : BlocksOwn c W (.slice (some ⟨g, 0, none⟩) n cap) (D ++ ⟨yk, yn, .slice (some ⟨l, 0, none⟩) nl yc, A ++ ⟨key, .slice (some ⟨r, 0, none⟩) nw wc, s :: ss⟩ :: E⟩ :: T)) (t : ByteArray) (ht : t.size ≤ 201) :
    SpJ B p c X Y w1 D T ⟨yk, yn, .slice (some ⟨l, 0, none⟩) nl yc, A ++ ⟨key, .slice (some ⟨r, 0, none⟩) nw wc, s :: ss⟩ :: E⟩ g n cap kk bk bn (.slice (some ⟨l, 0, none⟩) nl yc) (A ++ ⟨key, .slice (some ⟨r, 0, none⟩) nw wc, t.data.toList :: ss⟩ :: E) (W.setCell ⟨r, 0, none⟩ (.string t)) := by
  have hlm := own.bm.lines
  have hw : W.ownsRow c 9 1 (.slice (some ⟨r, 0, none⟩) nw wc) (s :: ss).length (strs (s :: ss)) := hlm.words
  have hnw : (s :: ss).length = nw := by
    obtain ⟨a, cp, e, _⟩ := own_form hw
    cases e
    rfl
  have hrc := hw.lt r rfl
  rw [hnw] at hw
  have hst := hw.stored 0 (.string t)
  have he : (strs (s :: ss)).set 0 (.string t) = strs (t.data.toList :: ss) := by simp [strs]
  rw [he] at hst
  have hfr : ∀ q, LinesFar q (.slice (some ⟨l, 0, none⟩) nl yc) (A ++ ⟨key, .slice (some ⟨r, 0, none⟩) nw wc, s :: ss⟩ :: E) → r ≠ q ∧ LinesFar q (.slice (some ⟨l, 0, none⟩) nl yc) (A ++ ⟨key, .slice (some ⟨r, 0, none⟩) nw wc, t.data.toList :: ss⟩ :: E) := fun q hq => by
    refine ⟨far_block (hq.2 ⟨key, .slice (some ⟨r, 0, none⟩) nw wc, s :: ss⟩ (by simp)) (by simp), hq.same (by simp) fun z hz => ?_⟩
    rcases mem_mid (x := ⟨key, .slice (some ⟨r, 0, none⟩) nw wc, s :: ss⟩) hz with rfl | hz
    · exact ⟨⟨key, .slice (some ⟨r, 0, none⟩) nw wc, s :: ss⟩, by simp, rfl, by simp⟩
    · exact ⟨z, hz, rfl, rfl⟩
  have hturn := hlm.turn (w' := W.setCell ⟨r, 0, none⟩ (.string t)) (t.data.toList :: ss) (by simp) (by rw [show (⟨key, .slice (some ⟨r, 0, none⟩) nw wc, s :: ss⟩ : LAt).ws.length = nw from hnw]; exact hst.1) hst.2
  have hback := (BM.back (r := ⟨yk, yn, .slice (some ⟨l, 0, none⟩) nl yc, A ++ ⟨key, .slice (some ⟨r, 0, none⟩) nw wc, s :: ss⟩ :: E⟩) hturn).own
  refine SpJ.lines (l := r) h hback (grown_setCell W r _ _) hrc.1 (hfr X (h.mine.1.2.1 X (by simp))).1 (hfr Y (h.mine.1.2.1 Y (by simp))).1 ⟨fun q hq => (hfr q (h.mine.1.2.1 q hq)).2, fun q hq => (hfr q (h.mine.1.2.2 q hq)).2⟩ ⟨h.mine.2.1, by have := h.mine.2.2.1; simp only [List.length_append, List.length_cons] at this ⊢; exact this, fun z hz => ?_⟩
  rcases mem_mid (x := ⟨key, .slice (some ⟨r, 0, none⟩) nw wc, s :: ss⟩) hz with rfl | hz
  · have hx := h.mine.2.2.2 ⟨key, .slice (some ⟨r, 0, none⟩) nw wc, s :: ss⟩ (by simp)
    refine ⟨by have := hx.1; simp only [List.length_cons] at this ⊢; exact this, fun y hy => ?_⟩
    rcases List.mem_cons.1 hy with rfl | hy
    · have : t.data.toList.length = t.size := rfl
      omega
    · exact hx.2 y (List.mem_cons_of_mem _ hy)
  · exact h.mine.2.2.2 z hz
/-- The first two lines exchanged where they lie. -/
theorem SpJ.swap {B p c X Y l nl yc : Nat} {w1 : World} {D T : List BAt} {yk yn : ByteArray} {E : List LAt} {x0 x1 : LAt} {g n cap kk : Nat} {bk bn : ByteArray} {W : World} (h : SpJ B p c X Y w1 D T ⟨yk, yn, .slice (some ⟨l, 0, none⟩) nl yc, x0 :: x1 :: E⟩ g n cap kk bk bn (.slice (some ⟨l, 0, none⟩) nl yc) (x0 :: x1 :: E) W) (own : BlocksOwn c W (.slice (some ⟨g, 0, none⟩) n cap) (D ++ ⟨yk, yn, .slice (some ⟨l, 0, none⟩) nl yc, x0 :: x1 :: E⟩ :: T)) (hn : (x0 :: x1 :: E).length = nl) :
    SpJ B p c X Y w1 D T ⟨yk, yn, .slice (some ⟨l, 0, none⟩) nl yc, x0 :: x1 :: E⟩ g n cap kk bk bn (.slice (some ⟨l, 0, none⟩) nl yc) (x1 :: x0 :: E) ((W.setCells l 0 x1.cells).setCells l 2 x0.cells) := by
  have hlm := own.bm.lines
  obtain ⟨ys, y1, y2, y3⟩ := own_setCells x1.cells 0 W _ (hlm.size hn)
  have hy := y3 [] x0.cells ((x1 :: E).flatMap LAt.cells) (by simp) rfl rfl
  obtain ⟨zs, z1, z2, z3⟩ := own_setCells x0.cells 2 _ _ y1
  have hz := z3 x1.cells x1.cells (E.flatMap LAt.cells) (by rw [hy]; simp) rfl rfl
  have hzz : zs = (x1 :: x0 :: E).flatMap LAt.cells := by rw [hz]; simp
  rw [hzz] at z1
  have hgr := grown_trans y2 z2
  have hmem : Mem c W (⟨.slice (some ⟨l, 0, none⟩) nl yc, 115, 2, (x0 :: x1 :: E).length, (x0 :: x1 :: E).flatMap LAt.cells⟩ :: ((x0 :: x1 :: E).map LAt.row ++ beside (.slice (some ⟨g, 0, none⟩) n cap) D ⟨yk, yn, .slice (some ⟨l, 0, none⟩) nl yc, x0 :: x1 :: E⟩ T [])) := hlm
  have ht := Mem.turn (r' := ⟨.slice (some ⟨l, 0, none⟩) nl yc, 115, 2, (x0 :: x1 :: E).length, (x1 :: x0 :: E).flatMap LAt.cells⟩) hmem rfl (by show World.ownsRow _ _ _ _ _ _ _; rw [hn]; exact z1) hgr
  have hlm' : LM c ((W.setCells l 0 x1.cells).setCells l 2 x0.cells) (.slice (some ⟨l, 0, none⟩) nl yc) (x1 :: x0 :: E) (beside (.slice (some ⟨g, 0, none⟩) n cap) D ⟨yk, yn, .slice (some ⟨l, 0, none⟩) nl yc, x0 :: x1 :: E⟩ T []) :=
    Mem.perm ht (List.Perm.cons _ (List.Perm.append_right _ (List.Perm.map _ (List.Perm.swap _ _ _))))
  have hback := (BM.back (r := ⟨yk, yn, .slice (some ⟨l, 0, none⟩) nl yc, x0 :: x1 :: E⟩) hlm').own
  have hlc := (own.lines _ (show (⟨yk, yn, .slice (some ⟨l, 0, none⟩) nl yc, x0 :: x1 :: E⟩ : BAt) ∈ D ++ ⟨yk, yn, .slice (some ⟨l, 0, none⟩) nl yc, x0 :: x1 :: E⟩ :: T by simp)).row.lt l rfl
  have hms : ∀ z ∈ x1 :: x0 :: E, z ∈ x0 :: x1 :: E := fun z hz => by
    simp only [List.mem_cons] at hz ⊢
    rcases hz with hz | hz | hz
    · exact .inr (.inl hz)
    · exact .inl hz
    · exact .inr (.inr hz)
  have hfr : ∀ q, LinesFar q (.slice (some ⟨l, 0, none⟩) nl yc) (x0 :: x1 :: E) → l ≠ q ∧ LinesFar q (.slice (some ⟨l, 0, none⟩) nl yc) (x1 :: x0 :: E) := fun q hq => ⟨far_block hq.1 (by simp), hq.same (by simp) fun z hz => ⟨z, hms z hz, rfl, rfl⟩⟩
  exact SpJ.lines (l := l) h hback hgr hlc.1 (hfr X (h.mine.1.2.1 X (by simp))).1 (hfr Y (h.mine.1.2.1 Y (by simp))).1 ⟨fun q hq => (hfr q (h.mine.1.2.1 q hq)).2, fun q hq => (hfr q (h.mine.1.2.2 q hq)).2⟩ ⟨h.mine.2.1, by have := h.mine.2.2.1; simp only [List.length_cons] at this ⊢; exact this, fun z hz => h.mine.2.2.2 z (hms z hz)⟩
/-- The block's own lines laid anew. -/
theorem SpJ.lay {B p c X Y : Nat} {w1 : World} {D T : List BAt} {y : BAt} {g n cap kk : Nat} {bk bn bk' bn' : ByteArray} {bv bv' : Value} {ls ls' : List LAt} {W W' : World} (h : SpJ B p c X Y w1 D T y g n cap kk bk bn bv ls W) (hy : W'.heap[Y]? = some (.cells #[.string bk', .string bn', bv'] 46 (0, 0))) (hg : W.grownBy W' (some Y)) (hm : LFree c [g, X, Y] W' bv' ls' ∧ SmallX bn' ls') : SpJ B p c X Y w1 D T y g n cap kk bk' bn' bv' ls' W' := by
  have hX : X < W.heap.size := (Array.getElem?_eq_some_iff.1 h.xb).1
  refine ⟨Kept.rd h.rd (Kept.of_grown (S := [Y]) hg (fun q hq => by cases hq; simp)) (fun i hi => by rw [List.mem_singleton.1 hi]; have := h.cY; have := h.plt; omega), ⟨hg.os.trans h.gr.os, hg.tape.trans h.gr.tape, hg.output.trans h.gr.output, Nat.le_trans h.gr.size hg.size, fun i hi hne => ?_⟩, h.plt, h.cw, ?_, hy, h.cX, h.cY, h.XY, h.gX, h.gY, World.ownsRow.kept h.row hg (.inr (fun e => by cases e; exact h.gY rfl)), h.len, h.few, fun x hx => ⟨(h.oth x hx).1.grown hg (.inr (by simp)), (h.oth x hx).2⟩, hm⟩
  · have hc := h.cY
    have hw := h.cw
    have := h.gr.size
    rw [hg.block i (by omega) (by intro e; cases e; omega)]; exact h.gr.block i hi hne
  · rw [hg.block X hX (by intro e; cases e; exact h.XY rfl)]; exact h.xb
/-- Lines put behind the block's own, and their place noted. -/
theorem SpJ.app {B p c X Y l : Nat} {w1 : World} {D T : List BAt} {y : BAt} {g n cap kk : Nat} {bk bn : ByteArray} {v' : Value} {ls' : List LAt} {W W' : World} (h : SpJ B p c X Y w1 D T y g n cap kk bk bn y.v y.ls W) (own : BlocksOwn c W (.slice (some ⟨g, 0, none⟩) n cap) (D ++ y :: T)) (hl : y.v.ownBlock = some l) (hln : 0 < y.ls.length) (hg : W.grownBy W' (some l)) (row' : W'.ownsRow c 115 2 v' ls'.length (ls'.flatMap LAt.cells)) (hv : v'.ownBlock = some l ∨ v'.ownBlock = some W.heap.size) (hm : ∀ x ∈ ls', x ∈ y.ls) (hl9 : ls'.length ≤ 1048576) :
    SpJ B p c X Y w1 D T y g n cap kk bk bn v' ls' (W'.setCell ⟨Y, 2, none⟩ v') := by
  have hXl : X < W.heap.size := (Array.getElem?_eq_some_iff.1 h.xb).1
  have hYl : Y < W.heap.size := (Array.getElem?_eq_some_iff.1 h.yb).1
  have hcw := h.cw
  have hws := h.gr.size
  have hplt := h.plt
  have hcX := h.cX
  have hcY := h.cY
  have hmem : Mem c W (⟨y.v, 115, 2, y.ls.length, y.ls.flatMap LAt.cells⟩ :: (y.ls.map LAt.row ++ beside (.slice (some ⟨g, 0, none⟩) n cap) D y T [])) := own.bm.lines
  have hlt := (Mem.lt hmem (List.mem_cons_self ..) hl)
  have hG := Mem.grow (r' := ⟨v', 115, 2, ls'.length, ls'.flatMap LAt.cells⟩) hmem row' (by rw [hl]; exact hg) (by rw [hl]; exact hv)
  have hfarl : ∀ q, FarV q y.v y.ls.length → l ≠ q := fun q hq => by
    rcases (own.lines y (by simp)).row.2 with ⟨e, h0⟩ | ⟨g', cp, cur, e, _⟩
    · omega
    · rw [e] at hl hq
      cases hl
      exact far_block hq hln
  have lX : l ≠ X := hfarl X (h.mine.1.2.1 X (by simp)).1
  have lY : l ≠ Y := hfarl Y (h.mine.1.2.1 Y (by simp)).1
  have lg : l ≠ g := hfarl g (h.mine.1.2.1 g (by simp)).1
  have hbm : BlocksOwn c W' (.slice (some ⟨g, 0, none⟩) n cap) (D ++ { y with v := y.v, ls := [] } :: T) ∨ True := .inr trivial
  have gS := grown_setCell W' Y 2 v'
  have hgz := hg.size
  have hrest : ∀ r ∈ beside (.slice (some ⟨g, 0, none⟩) n cap) D y T [], r.isAt c W' := fun r hr => hG.1 r (by simp [hr])
  have hwords : ∀ x ∈ y.ls, W'.ownsRow c 9 1 x.v x.ws.length (strs x.ws) := fun x hx => hG.1 x.row (List.mem_cons_of_mem _ (List.mem_append_left _ (List.mem_map_of_mem hx)))
  have hothers : ∀ x ∈ D ++ T, LinesIn W' x.v x.ls := by
    intro x hx
    have hsub : ∀ r ∈ lrows x.v x.ls, r.isAt c W' := fun r hr => hrest r (by
      unfold beside
      simp only [List.mem_append, List.mem_cons, List.mem_flatMap] at hx ⊢
      rcases hx with hx | hx
      · exact .inl (.inr ⟨x, hx, hr⟩)
      · exact .inr (.inl ⟨x, hx, hr⟩))
    exact ⟨own_has (hsub _ (List.mem_cons_self ..)), fun z hz => own_has (hsub z.row (List.mem_cons_of_mem _ (List.mem_map_of_mem hz)))⟩
  have hrow' : W'.ownsRow c 46 3 (.slice (some ⟨g, 0, none⟩) n cap) n ((D ++ y :: T).flatMap BAt.cells) := by
    have := hrest ⟨.slice (some ⟨g, 0, none⟩) n cap, 46, 3, (D ++ y :: T).length, (D ++ y :: T).flatMap BAt.cells⟩ (by unfold beside; simp)
    rw [h.len] at this
    exact this
  have yb' : W'.heap[Y]? = some (.cells #[.string bk, .string bn, y.v] 46 (0, 0)) := (hg.block Y hYl (by intro e; cases e; exact lY rfl)).trans h.yb
  have hmine : LinesIn W' v' ls' := ⟨own_has row', fun z hz => own_has (hwords z (hm z hz))⟩
  have hfv : ∀ q, q < W.heap.size → LinesFar q y.v y.ls → LinesFar q v' ls' := fun q hq hf => by
    refine ⟨FarV.of_own row' ?_, fun z hz => hf.2 z (hm z hz)⟩
    intro e
    rcases hv with hv | hv
    · rw [hv] at e
      exact hfarl q hf.1 (Option.some.inj e)
    · rw [hv] at e
      have := Option.some.inj e
      omega
  have hgl := (h.row.lt g rfl).2
  have hfree : LFree c [g, X, Y] W' v' ls' := ⟨hmine, fun q hq => hfv q (by simp only [List.mem_cons, List.not_mem_nil, or_false] at hq; rcases hq with rfl | rfl | rfl <;> assumption) (h.mine.1.2.1 q hq), fun q hq => hfv q (by omega) (h.mine.1.2.2 q hq)⟩
  refine ⟨?_, ⟨gS.os.trans (hg.os.trans h.gr.os), gS.tape.trans (hg.tape.trans h.gr.tape), gS.output.trans (hg.output.trans h.gr.output), by have := gS.size; omega, fun i hi hne => ?_⟩, h.plt, h.cw, ?_, ?_, h.cX, h.cY, h.XY, h.gX, h.gY, World.ownsRow.kept hrow' gS (.inr (fun e => by cases e; exact h.gY rfl)), h.len, h.few, fun x hx => ⟨LFree.grown ⟨hothers x hx, (h.oth x hx).1.2⟩ gS (.inr (by simp)), (h.oth x hx).2⟩, hfree.grown gS (.inr (by simp)), h.mine.2.1, hl9, fun z hz => h.mine.2.2.2 z (hm z hz)⟩
  · have k1 := Kept.rd h.rd (Kept.of_grown (S := [l]) hg (fun q hq => by cases hq; simp)) (fun i hi => by rw [List.mem_singleton.1 hi]; omega)
    exact Kept.rd k1 (Kept.of_grown (S := [Y]) gS (fun q hq => by cases hq; simp)) (fun i hi => by rw [List.mem_singleton.1 hi]; omega)
  · rw [gS.block i (by omega) (by intro e; cases e; omega), hg.block i (by omega) (by intro e; cases e; omega)]
    exact h.gr.block i hi hne
  · rw [gS.block X (by omega) (by intro e; cases e; exact h.XY rfl), hg.block X hXl (by intro e; cases e; exact lX rfl)]; exact h.xb
  · rw [heap_setCell_same W' Y 2 _ _ _ yb']; rfl
def keys3 : List ByteArray := [⟨#[]⟩, ⟨#[105, 109, 97, 103, 101]⟩, ⟨#[122, 111, 110, 101]⟩]
/-- What the operations of the region that turns a key yield. -/
def Sp3F (p Y l nI : Nat) (lv : Value) (i : Nat) (x : Value) (W : World) : Prop := match i with
  | 0 => x = .pointer (some ⟨Y, 2, none⟩)
  | 1 => x = lv
  | 2 => x = .int .i64 (nI : Int)
  | 3 => ∃ t, x = .slice (some ⟨t, 0, none⟩) 3 3 ∧ TabAt p W t keys3
  | 4 => x = .pointer (some ⟨p, 0, none⟩)
  | 5 => ∃ y : Nat, y < 3 ∧ x = .int .i64 (y : Int)
  | 6 => ∃ t y : Nat, y < 3 ∧ x = .pointer (some ⟨t, y, none⟩) ∧ TabAt p W t keys3
  | 7 => ∃ u, x = .string u
  | 8 => x = .pointer (some ⟨l, nI * 2, none⟩)
  | 9 => x = .pointer (some ⟨l, nI * 2, none⟩)
  | _ => True
theorem Sp3F.keep {p Y l nI : Nat} {lv : Value} {W W' : World} (k : KeepP p W W') : ∀ (i : Nat) (x : Value), Sp3F p Y l nI lv i x W → Sp3F p Y l nI lv i x W' := by
  intro i x h
  unfold Sp3F at *
  split <;> simp only at h
  · exact h
  · exact h
  · exact h
  · obtain ⟨t, e, ht⟩ := h; exact ⟨t, e, ht.keep k⟩
  · exact h
  · exact h
  · obtain ⟨t, y, hy, e, ht⟩ := h; exact ⟨t, y, hy, e, ht.keep k⟩
  · exact h
  · exact h
  · exact h
  · trivial
/-- The world of a region whose operation m takes d from the reader at most. -/
def SpG (J : Nat → World → Prop) (m kk d : Nat) (L : Nat → Bool) (W : World) : Prop := ∃ k', k' ≤ kk + (if L m = true then d else 0) ∧ J k' W
theorem SpG.keep {J : Nat → World → Prop} {m kk d i : Nat} {L : Nat → Bool} {W W' : World} (h : SpG J m kk d L W) (hi : i ≠ m) (hJ : ∀ k, J k W → J k W') : SpG J m kk d (upd L i) W' := by
  obtain ⟨k', hk, h⟩ := h
  refine ⟨k', ?_, hJ _ h⟩
  simpa [upd, Ne.symm hi] using hk
theorem SpG.call {J : Nat → World → Prop} {m kk d : Nat} {L : Nat → Bool} {W W' : World} (h : SpG J m kk d L W) (h0 : L m = false) (hJ : ∀ k, k ≤ kk → J k W → ∃ k', k' ≤ k + d ∧ J k' W') : SpG J m kk d (upd L m) W' := by
  obtain ⟨k', hk, h⟩ := h
  obtain ⟨k2, h2, h3⟩ := hJ k' (by simpa [h0] using hk) h
  refine ⟨k2, ?_, h3⟩
  simp [upd, h0] at hk ⊢
  omega
theorem SpG.get {J : Nat → World → Prop} {m kk d : Nat} {L : Nat → Bool} {W : World} (h : SpG J m kk d L W) : ∃ k', k' ≤ kk + d ∧ J k' W := by
  obtain ⟨k', hk, h⟩ := h
  exact ⟨k', by split at hk <;> omega, h⟩
/-- What operations yield of the region that turns a word. -/
def Sp4F (p Y l nI r nw wc : Nat) (lv : Value) (i : Nat) (x : Value) : Prop := match i with
  | 0 => x = .pointer (some ⟨Y, 2, none⟩)
  | 1 => x = lv
  | 2 => x = .int .i64 (nI : Int)
  | 3 => x = .pointer (some ⟨l, nI * 2, none⟩)
  | 4 => x = .pointer (some ⟨l, nI * 2 + 1, none⟩)
  | 5 => x = .slice (some ⟨r, 0, none⟩) nw wc
  | 6 => x = .pointer (some ⟨p, 0, none⟩)
  | 7 => ∃ t : ByteArray, t.size ≤ 201 ∧ x = .string t
  | 8 => x = .pointer (some ⟨r, 0, none⟩)
  | _ => True
/-- What operations yield of the region that puts a line behind the others. -/
def Sp5F (Y l nI nl yc : Nat) (xk : ByteArray) (xv : Value) (J : Value → World → Prop) (i : Nat) (x : Value) (W : World) : Prop := match i with
  | 0 => x = .pointer (some ⟨Y, 2, none⟩)
  | 1 => x = .slice (some ⟨l, 0, none⟩) nl yc
  | 2 => x = .pointer (some ⟨Y, 2, none⟩)
  | 3 => x = .slice (some ⟨l, 0, none⟩) nl yc
  | 4 => x = .int .i64 (nI : Int)
  | 5 => x = .pointer (some ⟨l, nI * 2, none⟩)
  | 6 => x = .agg #[.string xk, xv]
  | 7 => ∃ t, x = .slice (some ⟨t, 0, none⟩) 1 1 ∧ l < t ∧ W.heap[t]? = some (.cells #[.string xk, xv] 115 (0, 0))
  | 8 => ∃ a c, x = .slice (some ⟨a, 0, none⟩) (nl + 1) c ∧ J x W
  | 9 => x = .pointer (some ⟨Y, 2, none⟩)
  | _ => True
theorem Sp5F.keep {Y l nI nl yc : Nat} {xk : ByteArray} {xv : Value} {J : Value → World → Prop} {W W' : World} (k : KeepP l W W') : ∀ (i : Nat) (x : Value), i ≠ 8 → Sp5F Y l nI nl yc xk xv J i x W → Sp5F Y l nI nl yc xk xv J i x W' := by
  intro i x h8 h
  unfold Sp5F at *
  split <;> simp only at h
  · exact h
  · exact h
  · exact h
  · exact h
  · exact h
  · exact h
  · exact h
  · obtain ⟨t, e, ht, hh⟩ := h; exact ⟨t, e, ht, k t _ ht hh⟩
  · exact absurd rfl h8
  · exact h
  · trivial
def Sp5G (Y : Nat) (yk yn : ByteArray) (lv : Value) (J : World → Prop) (L : Nat → Bool) (W : World) : Prop := W.heap[Y]? = some (.cells #[.string yk, .string yn, lv] 46 (0, 0)) ∧ (L 8 = false → J W) ∧ (L 8 = true → L 7 = true) ∧ (L 7 = true → L 6 = true)
/-- How far the loop that makes many blocks has come. -/
def LoopK (B p c X Y : Nat) (w1 : World) (D : List BAt) (y : BAt) (nx kk : Nat) (yk yn : ByteArray) (bv : Value) (yl : List LAt) (i : Value) (W : World) : Prop := ∃ (j : Nat) (T : List BAt) (g cap kk' : Nat), i = .int .i64 (j : Int) ∧ nx + j ≤ 61 ∧ kk' ≤ kk + j ∧ SpJ B p c X Y w1 D T y g (nx + j) cap kk' yk yn bv yl W
def Sp9F (p X g n cap : Nat) (i : Nat) (x : Value) : Prop := match i with
  | 0 => x = .pointer (some ⟨X, 0, none⟩)
  | 1 => x = .slice (some ⟨g, 0, none⟩) n cap
  | 2 => x = .int .i64 (n : Int)
  | 3 => x = .pointer (some ⟨p, 0, none⟩)
  | 4 => ∃ y : Nat, y < 2 ∧ x = .int .i64 (y : Int)
  | 5 => ∃ y : Nat, y < 2 ∧ x = .int .i64 (60 + (y : Int))
  | 6 => ∃ b, x = .bool b ∧ (b = true → n ≤ 60)
  | _ => True
theorem conv_two (w : World) (c d : UInt8) : (convert 22 9 (.slice (some ⟨w.heap.size, 0, none⟩) 2 2)).run Tryz.prog (w.alloc (.cells #[.int .u8 (c.toNat : Int), .int .u8 (d.toNat : Int)] 5)) = .ok (.string ⟨#[c, d]⟩) (w.alloc (.cells #[.int .u8 (c.toNat : Int), .int .u8 (d.toNat : Int)] 5)) :=
  conv_own _ _ w.heap.size [c, d] 2 (World.ownsRow_lit w #[.int .u8 (c.toNat : Int), .int .u8 (d.toNat : Int)] 2 (Nat.le_refl _) (by decide) rfl)
theorem own_at {w : World} {base : Nat} {e : TypeId} {size : Nat} {a : Option Addr} {n c m : Nat} {xs : List Value} (h : w.ownsRow base e size (.slice a n c) m xs) (h0 : m ≠ 0) : ∃ l, a = some ⟨l, 0, none⟩ := by
  obtain ⟨a', c', e', h'⟩ := own_form h
  cases e'
  rcases h' with h' | h'
  · exact absurd h' h0
  · exact h'
theorem words_one (w : World) (o : Obj) (t : ByteArray) : ((w.alloc o).alloc (.cells #[.string t] 9)).ownsRow w.heap.size 9 1 (.slice (some ⟨w.heap.size + 1, 0, none⟩) 1 1) 1 (strs [t.data.toList]) := by
  have h : ((w.alloc o).alloc (.cells #[.string t] 9)).ownsRow (w.alloc o).heap.size 9 1 (.slice (some ⟨(w.alloc o).heap.size, 0, none⟩) 1 1) 1 [.string t] := World.ownsRow_lit (w.alloc o) #[.string t] 1 (Nat.le_refl _) (by decide) rfl
  rw [World.size_alloc] at h
  exact own_mono h (by omega)
theorem lines_none' (B : Nat) (w : World) : LinesOwn B w (.slice none 0 0) [] := Mem.own1 (World.ownsRow_nil _ _ _ _)
theorem byte97 (j : Nat) (h : j ≤ 26) : ((UInt8.ofNat (97 + j)).toNat : Int) = 97 + (j : Int) := by
  have : (UInt8.ofNat (97 + j)).toNat = 97 + j := by
    rw [UInt8.toNat_ofNat']
    omega
  rw [this]
  omega
/-- How far the loop that makes many lines has come. -/
def LoopM (Z Y : Nat) (W9 : World) (yn : ByteArray) (i : Value) (W : World) : Prop := ∃ (j : Nat) (a : Option Addr) (cc : Nat) (ls : List LAt), i = .int .i64 (j : Int) ∧ j ≤ 11 ∧ ls.length = j ∧ W9.grownBy W (some Y) ∧ W.heap[Y]? = some (.cells #[.string ⟨#[98, 101, 114, 116, 104]⟩, .string yn, .slice a j cc] 46 (0, 0)) ∧ LinesOwn Z W (.slice a j cc) ls ∧ ∀ x ∈ ls, x.ws.length ≤ 1 ∧ ∀ y ∈ x.ws, y.length ≤ 2
theorem LinesOwn.farAll {Z q : Nat} {W : World} {v : Value} {ls : List LAt} (h : LinesOwn Z W v ls) (hq : q < Z) : LinesFar q v ls := ⟨FarV.above h.row hq, fun y hy => FarV.above (h.words y hy) hq⟩
end Go.Proofs.YtpdahhnjhggocaaGreatDoor
namespace Go.Proofs.YtpdahhnjhggocaaGreatDoor
open Go.RowKit
def op20_0 : Oper := { dst := some 95, op := Op.fieldAddr 46 (Operand.tmp 7) 2, type := 0, pos := "l8_draw.go:204", after := #[], guard := none }
def op20_1 : Oper := { dst := some 96, op := Op.load 44 (Operand.tmp 95), type := 44, pos := "l8_draw.go:204", after := #[{ on := 0, ground := Ground.data }], guard := none }
def op20_2 : Oper := { dst := some 97, op := Op.move (Operand.tmp 8), type := 3, pos := "l8_draw.go:204", after := #[], guard := none }
def op20_3 : Oper := { dst := some 98, op := Op.buildSlice 52 3 #[(0, Operand.const (Value.string { data := #[] })), (1, Operand.const (Value.string { data := #[105, 109, 97, 103, 101] })), (2, Operand.const (Value.string { data := #[122, 111, 110, 101] }))], type := 52, pos := "l8_draw.go:204", after := #[], guard := none }
def op20_4 : Oper := { dst := some 99, op := Op.move (Operand.tmp 0), type := 65, pos := "l8_draw.go:204", after := #[], guard := none }
def op20_5 : Oper := { dst := some 100, op := Op.call { callee := Callee.value (Operand.func 44), args := #[Operand.tmp 99, Operand.const (Value.int IntKind.i64 3)], argTypes := #[65, 3] }, type := 3, pos := "l8_draw.go:204", after := #[{ on := 4, ground := Ground.data }], guard := none }
def op20_6 : Oper := { dst := some 101, op := Op.indexAddr 52 (Operand.tmp 98) (Operand.tmp 100), type := 0, pos := "l8_draw.go:204", after := #[{ on := 3, ground := Ground.data }, { on := 5, ground := Ground.data }], guard := none }
def op20_7 : Oper := { dst := some 102, op := Op.load 9 (Operand.tmp 101), type := 9, pos := "l8_draw.go:204", after := #[{ on := 6, ground := Ground.data }], guard := none }
def op20_8 : Oper := { dst := some 103, op := Op.indexAddr 44 (Operand.tmp 96) (Operand.tmp 97), type := 0, pos := "l8_draw.go:204", after := #[{ on := 1, ground := Ground.data }, { on := 2, ground := Ground.data }, { on := 0, ground := Ground.phase }, { on := 1, ground := Ground.phase }, { on := 2, ground := Ground.phase }, { on := 3, ground := Ground.phase }, { on := 4, ground := Ground.phase }, { on := 5, ground := Ground.phase }, { on := 6, ground := Ground.phase }, { on := 7, ground := Ground.phase }], guard := none }
def op20_9 : Oper := { dst := some 104, op := Op.fieldAddr 115 (Operand.tmp 103) 0, type := 0, pos := "l8_draw.go:204", after := #[{ on := 8, ground := Ground.data }, { on := 0, ground := Ground.phase }, { on := 1, ground := Ground.phase }, { on := 2, ground := Ground.phase }, { on := 3, ground := Ground.phase }, { on := 4, ground := Ground.phase }, { on := 5, ground := Ground.phase }, { on := 6, ground := Ground.phase }, { on := 7, ground := Ground.phase }], guard := none }
def op20_10 : Oper := { dst := none, op := Op.store 9 (Operand.tmp 104) (Operand.tmp 102), type := 0, pos := "l8_draw.go:204", after := #[{ on := 9, ground := Ground.data }, { on := 7, ground := Ground.data }, { on := 5, ground := Ground.chain }, { on := 0, ground := Ground.phase }, { on := 1, ground := Ground.phase }, { on := 2, ground := Ground.phase }, { on := 3, ground := Ground.phase }, { on := 4, ground := Ground.phase }, { on := 5, ground := Ground.phase }, { on := 6, ground := Ground.phase }, { on := 7, ground := Ground.phase }], guard := none }
def ops20 : List Oper := [op20_0, op20_1, op20_2, op20_3, op20_4, op20_5, op20_6, op20_7, op20_8, op20_9, op20_10]
def op23_0 : Oper := { dst := some 121, op := Op.fieldAddr 46 (Operand.tmp 7) 2, type := 0, pos := "l8_draw.go:208", after := #[], guard := none }
def op23_1 : Oper := { dst := some 122, op := Op.load 44 (Operand.tmp 121), type := 44, pos := "l8_draw.go:208", after := #[{ on := 0, ground := Ground.data }], guard := none }
def op23_2 : Oper := { dst := some 123, op := Op.move (Operand.tmp 8), type := 3, pos := "l8_draw.go:208", after := #[], guard := none }
def op23_3 : Oper := { dst := some 124, op := Op.indexAddr 44 (Operand.tmp 122) (Operand.tmp 123), type := 0, pos := "l8_draw.go:208", after := #[{ on := 1, ground := Ground.data }, { on := 2, ground := Ground.data }], guard := none }
def op23_4 : Oper := { dst := some 125, op := Op.fieldAddr 115 (Operand.tmp 124) 1, type := 0, pos := "l8_draw.go:208", after := #[{ on := 3, ground := Ground.data }], guard := none }
def op23_5 : Oper := { dst := some 126, op := Op.load 52 (Operand.tmp 125), type := 52, pos := "l8_draw.go:208", after := #[{ on := 4, ground := Ground.data }], guard := none }
def op23_6 : Oper := { dst := some 127, op := Op.move (Operand.tmp 0), type := 65, pos := "l8_draw.go:208", after := #[], guard := none }
def op23_7 : Oper := { dst := some 128, op := Op.call { callee := Callee.value (Operand.func 164), args := #[Operand.tmp 127], argTypes := #[65] }, type := 9, pos := "l8_draw.go:208", after := #[{ on := 6, ground := Ground.data }], guard := none }
def op23_8 : Oper := { dst := some 129, op := Op.indexAddr 52 (Operand.tmp 126) (Operand.const (Value.int IntKind.i64 0)), type := 0, pos := "l8_draw.go:208", after := #[{ on := 5, ground := Ground.data }, { on := 0, ground := Ground.phase }, { on := 1, ground := Ground.phase }, { on := 2, ground := Ground.phase }, { on := 3, ground := Ground.phase }, { on := 4, ground := Ground.phase }, { on := 5, ground := Ground.phase }, { on := 6, ground := Ground.phase }, { on := 7, ground := Ground.phase }], guard := none }
def op23_9 : Oper := { dst := none, op := Op.store 9 (Operand.tmp 129) (Operand.tmp 128), type := 0, pos := "l8_draw.go:208", after := #[{ on := 8, ground := Ground.data }, { on := 7, ground := Ground.data }, { on := 7, ground := Ground.chain }, { on := 0, ground := Ground.phase }, { on := 1, ground := Ground.phase }, { on := 2, ground := Ground.phase }, { on := 3, ground := Ground.phase }, { on := 4, ground := Ground.phase }, { on := 5, ground := Ground.phase }, { on := 6, ground := Ground.phase }, { on := 7, ground := Ground.phase }], guard := none }
def ops23 : List Oper := [op23_0, op23_1, op23_2, op23_3, op23_4, op23_5, op23_6, op23_7, op23_8, op23_9]
def op26_0 : Oper := { dst := some 136, op := Op.fieldAddr 46 (Operand.tmp 7) 2, type := 0, pos := "l8_draw.go:212", after := #[], guard := none }
def op26_1 : Oper := { dst := some 137, op := Op.load 44 (Operand.tmp 136), type := 44, pos := "l8_draw.go:212", after := #[{ on := 0, ground := Ground.data }], guard := none }
def op26_2 : Oper := { dst := some 138, op := Op.fieldAddr 46 (Operand.tmp 7) 2, type := 0, pos := "l8_draw.go:212", after := #[], guard := none }
def op26_3 : Oper := { dst := some 139, op := Op.load 44 (Operand.tmp 138), type := 44, pos := "l8_draw.go:212", after := #[{ on := 2, ground := Ground.data }], guard := none }
def op26_4 : Oper := { dst := some 140, op := Op.move (Operand.tmp 8), type := 3, pos := "l8_draw.go:212", after := #[], guard := none }
def op26_5 : Oper := { dst := some 141, op := Op.indexAddr 44 (Operand.tmp 139) (Operand.tmp 140), type := 0, pos := "l8_draw.go:212", after := #[{ on := 3, ground := Ground.data }, { on := 4, ground := Ground.data }], guard := none }
def op26_6 : Oper := { dst := some 142, op := Op.load 115 (Operand.tmp 141), type := 115, pos := "l8_draw.go:212", after := #[{ on := 5, ground := Ground.data }], guard := none }
def op26_7 : Oper := { dst := some 143, op := Op.buildSlice 44 1 #[(0, Operand.tmp 142)], type := 44, pos := "l8_draw.go:212", after := #[{ on := 6, ground := Ground.data }], guard := none }
def op26_8 : Oper := { dst := some 144, op := Op.call { callee := Callee.builtin Builtin.append, args := #[Operand.tmp 137, Operand.tmp 143], argTypes := #[44, 44] }, type := 44, pos := "l8_draw.go:212", after := #[{ on := 1, ground := Ground.data }, { on := 7, ground := Ground.data }], guard := none }
def op26_9 : Oper := { dst := some 145, op := Op.fieldAddr 46 (Operand.tmp 7) 2, type := 0, pos := "l8_draw.go:212", after := #[{ on := 0, ground := Ground.phase }, { on := 1, ground := Ground.phase }, { on := 2, ground := Ground.phase }, { on := 3, ground := Ground.phase }, { on := 4, ground := Ground.phase }, { on := 5, ground := Ground.phase }, { on := 6, ground := Ground.phase }, { on := 7, ground := Ground.phase }, { on := 8, ground := Ground.phase }], guard := none }
def op26_10 : Oper := { dst := none, op := Op.store 44 (Operand.tmp 145) (Operand.tmp 144), type := 0, pos := "l8_draw.go:212", after := #[{ on := 9, ground := Ground.data }, { on := 8, ground := Ground.data }, { on := 8, ground := Ground.chain }, { on := 0, ground := Ground.phase }, { on := 1, ground := Ground.phase }, { on := 2, ground := Ground.phase }, { on := 3, ground := Ground.phase }, { on := 4, ground := Ground.phase }, { on := 5, ground := Ground.phase }, { on := 6, ground := Ground.phase }, { on := 7, ground := Ground.phase }, { on := 8, ground := Ground.phase }], guard := none }
def ops26 : List Oper := [op26_0, op26_1, op26_2, op26_3, op26_4, op26_5, op26_6, op26_7, op26_8, op26_9, op26_10]
def op30_0 : Oper := { dst := some 156, op := Op.fieldAddr 46 (Operand.tmp 7) 2, type := 0, pos := "l8_draw.go:217", after := #[], guard := none }
def op30_1 : Oper := { dst := some 157, op := Op.load 44 (Operand.tmp 156), type := 44, pos := "l8_draw.go:217", after := #[{ on := 0, ground := Ground.data }], guard := none }
def op30_2 : Oper := { dst := some 158, op := Op.fieldAddr 46 (Operand.tmp 7) 2, type := 0, pos := "l8_draw.go:217", after := #[], guard := none }
def op30_3 : Oper := { dst := some 159, op := Op.load 44 (Operand.tmp 158), type := 44, pos := "l8_draw.go:217", after := #[{ on := 2, ground := Ground.data }], guard := none }
def op30_4 : Oper := { dst := some 160, op := Op.indexAddr 44 (Operand.tmp 159) (Operand.const (Value.int IntKind.i64 1)), type := 0, pos := "l8_draw.go:217", after := #[{ on := 3, ground := Ground.data }], guard := none }
def op30_5 : Oper := { dst := some 161, op := Op.load 115 (Operand.tmp 160), type := 115, pos := "l8_draw.go:217", after := #[{ on := 4, ground := Ground.data }], guard := none }
def op30_6 : Oper := { dst := some 162, op := Op.indexAddr 44 (Operand.tmp 157) (Operand.const (Value.int IntKind.i64 0)), type := 0, pos := "l8_draw.go:217", after := #[{ on := 1, ground := Ground.data }, { on := 0, ground := Ground.phase }, { on := 1, ground := Ground.phase }, { on := 2, ground := Ground.phase }, { on := 3, ground := Ground.phase }, { on := 4, ground := Ground.phase }, { on := 5, ground := Ground.phase }], guard := none }
def op30_7 : Oper := { dst := none, op := Op.store 115 (Operand.tmp 162) (Operand.tmp 161), type := 0, pos := "l8_draw.go:217", after := #[{ on := 6, ground := Ground.data }, { on := 5, ground := Ground.data }, { on := 0, ground := Ground.phase }, { on := 1, ground := Ground.phase }, { on := 2, ground := Ground.phase }, { on := 3, ground := Ground.phase }, { on := 4, ground := Ground.phase }, { on := 5, ground := Ground.phase }], guard := none }
def ops30 : List Oper := [op30_0, op30_1, op30_2, op30_3, op30_4, op30_5, op30_6, op30_7]
def op9_0 : Oper := { dst := some 39, op := Op.fieldAddr 25 (Operand.tmp 5) 0, type := 0, pos := "l8_draw.go:227", after := #[], guard := none }
def op9_1 : Oper := { dst := some 40, op := Op.load 23 (Operand.tmp 39), type := 23, pos := "l8_draw.go:227", after := #[{ on := 0, ground := Ground.data }], guard := none }
def op9_2 : Oper := { dst := some 41, op := Op.call { callee := Callee.builtin Builtin.len, args := #[Operand.tmp 40], argTypes := #[23] }, type := 3, pos := "l8_draw.go:227", after := #[{ on := 1, ground := Ground.data }], guard := none }
def op9_3 : Oper := { dst := some 42, op := Op.move (Operand.tmp 0), type := 65, pos := "l8_draw.go:227", after := #[], guard := none }
def op9_4 : Oper := { dst := some 43, op := Op.call { callee := Callee.value (Operand.func 44), args := #[Operand.tmp 42, Operand.const (Value.int IntKind.i64 2)], argTypes := #[65, 3] }, type := 3, pos := "l8_draw.go:227", after := #[{ on := 3, ground := Ground.data }], guard := none }
def op9_5 : Oper := { dst := some 44, op := Op.binOp BinOp.add 3 (Operand.const (Value.int IntKind.i64 60)) (Operand.tmp 43) 3, type := 3, pos := "l8_draw.go:227", after := #[{ on := 4, ground := Ground.data }], guard := none }
def op9_6 : Oper := { dst := some 45, op := Op.binOp BinOp.lss 3 (Operand.tmp 41) (Operand.tmp 44) 3, type := 4, pos := "l8_draw.go:227", after := #[{ on := 2, ground := Ground.data }, { on := 5, ground := Ground.data }], guard := none }
def ops9 : List Oper := [op9_0, op9_1, op9_2, op9_3, op9_4, op9_5, op9_6]
theorem SpG.get0 {J : Nat → World → Prop} {m kk d : Nat} {L : Nat → Bool} {W : World} (h : SpG J m kk d L W) (h0 : L m = false) : ∃ k', k' ≤ kk ∧ J k' W := by
  obtain ⟨k', hk, h⟩ := h
  exact ⟨k', by simpa [h0] using hk, h⟩
theorem SpG.put {J : Nat → World → Prop} {m kk d k' k2 : Nat} {L : Nat → Bool} {W : World} (hk : k' ≤ kk) (h2 : k2 ≤ k' + d) (h : J k2 W) : SpG J m kk d (upd L m) W := ⟨k2, by simp [upd]; omega, h⟩
/-- The block's own lines, and the sheet beside. -/
def SpO (B p c X Y : Nat) (w1 : World) (D T : List BAt) (y : BAt) (g n cap : Nat) (bk bn : ByteArray) (kk : Nat) (W : World) : Prop := SpJ B p c X Y w1 D T y g n cap kk bk bn y.v y.ls W ∧ BlocksOwn c W (.slice (some ⟨g, 0, none⟩) n cap) (D ++ y :: T)
theorem SpO.below {B p c X Y : Nat} {w1 : World} {D T : List BAt} {y : BAt} {g n cap : Nat} {bk bn : ByteArray} {kk : Nat} {W W' : World} (h : SpO B p c X Y w1 D T y g n cap bk bn kk W) (hb : Below W.heap.size W W') : SpO B p c X Y w1 D T y g n cap bk bn kk W' := ⟨h.1.below hb, h.2.below hb⟩
theorem SpO.grown {B p c X Y : Nat} {w1 : World} {D T : List BAt} {y : BAt} {g n cap : Nat} {bk bn : ByteArray} {kk kk' : Nat} {W W' : World} (h : SpO B p c X Y w1 D T y g n cap bk bn kk W) (hg : W.grownBy W' (some p)) (hr : Rd B W' p kk') : SpO B p c X Y w1 D T y g n cap bk bn kk' W' := ⟨h.1.grown hg hr, Mem.other h.2 hg h.1.plt⟩
theorem cellY {B p c X Y : Nat} {w1 : World} {D T : List BAt} {y : BAt} {g n cap : Nat} {bk bn : ByteArray} {kk : Nat} {W : World} (h : SpO B p c X Y w1 D T y g n cap bk bn kk W) : W.cell? ⟨Y, 2, none⟩ = some y.v := by
  have := cell_of_block h.1.yb 2
  simpa using this
theorem frozenL {B p c X Y l nl yc : Nat} {w1 : World} {D T : List BAt} {yk yn : ByteArray} {ls : List LAt} {g n cap : Nat} {bk bn : ByteArray} {kk : Nat} {W : World} (h : SpO B p c X Y w1 D T ⟨yk, yn, .slice (some ⟨l, 0, none⟩) nl yc, ls⟩ g n cap bk bn kk W) (hn : ls.length = nl) (j : Nat) : W.frozen? ⟨l, j, none⟩ = false := (h.2.bm.lines.size hn).frozenAt j
set_option maxHeartbeats 2000000 in
set_option maxRecDepth 10000 in
theorem region20_any {Q : Exit → Act → World → Prop} {a : Act} {W : World} {B p c X Y l nl yc nI : Nat} {w1 : World} {D T : List BAt} {yk yn : ByteArray} {A E : List LAt} {x : LAt} {g n cap kk : Nat} {bk bn : ByteArray} (hJ : SpO B p c X Y w1 D T ⟨yk, yn, .slice (some ⟨l, 0, none⟩) nl yc, A ++ x :: E⟩ g n cap bk bn kk W) (hk : kk ≤ 900000) (hA : A.length = nI) (hn : (A ++ x :: E).length = nl) (h0 : a.eval (.tmp 0) = .pointer (some ⟨p, 0, none⟩)) (h7 : a.eval (.tmp 7) = .pointer (some ⟨Y, 0, none⟩)) (h8 : a.eval (.tmp 8) = .int .i64 (nI : Int)) (hsz : a.tmps.size = 199)
    (hQ : ∀ v u k' W' a', a' = putS a [95, 96, 97, 98, 99, 100, 101, 102, 103, 104] v → k' ≤ kk + 1 → SpJ B p c X Y w1 D T ⟨yk, yn, .slice (some ⟨l, 0, none⟩) nl yc, A ++ x :: E⟩ g n cap k' bk bn (.slice (some ⟨l, 0, none⟩) nl yc) (A ++ { x with key := u } :: E) W' → Q .normal a' W') : (Code.region 20 ops20.toArray true).wp Tryz.prog Q a W := by
  have hnd : ([95, 96, 97, 98, 99, 100, 101, 102, 103, 104] : List Nat).Nodup := by decide
  have hIn : nI < nl := by rw [← hn, ← hA]; simp
  have i3 : (0 : Int) ≤ (nI : Int) := by omega
  have i4 : (nI : Int) < (nl : Int) := by omega
  refine wp_region_invS0 [95, 96, 97, 98, 99, 100, 101, 102, 103, 104] (Sp3F p Y l nI (.slice (some ⟨l, 0, none⟩) nl yc)) (SpG (SpO B p c X Y w1 D T ⟨yk, yn, .slice (some ⟨l, 0, none⟩) nl yc, A ++ x :: E⟩ g n cap bk bn) 5 kk 1) 10 11 [0, 1, 2, 3, 4, 5, 6, 7, 8, 9, 10] (by kernel_rfl) rfl (by decide) (by kernel_rfl) ?h1 ⟨_, Nat.le_refl _, hJ.below (Below.refl _ _).drew⟩ ?hall
  case h1 =>
    intro i x W hi
    unfold Sp3F
    split <;> first | omega | trivial
  refine AllInv.consQ (o := op20_0) [] (by kernel_rfl) (by decide) (by kernel_rfl) rfl ?o0 (AllInv.consQ (o := op20_1) [0] (by kernel_rfl) (by decide) (by kernel_rfl) rfl ?o1 (AllInv.consQ (o := op20_2) [] (by kernel_rfl) (by decide) (by kernel_rfl) rfl ?o2 (AllInv.consQ (o := op20_3) [] (by kernel_rfl) (by decide) (by kernel_rfl) rfl ?o3 (AllInv.consQ (o := op20_4) [] (by kernel_rfl) (by decide) (by kernel_rfl) rfl ?o4 (AllInv.consQ (o := op20_5) [4] (by kernel_rfl) (by decide) (by kernel_rfl) rfl ?o5 (AllInv.consQ (o := op20_6) [3, 5] (by kernel_rfl) (by decide) (by kernel_rfl) rfl ?o6 (AllInv.consQ (o := op20_7) [6] (by kernel_rfl) (by decide) (by kernel_rfl) rfl ?o7 (AllInv.consQ (o := op20_8) [1, 2, 0, 1, 2, 3, 4, 5, 6, 7] (by kernel_rfl) (by decide) (by kernel_rfl) rfl ?o8 (AllInv.consQ (o := op20_9) [8, 0, 1, 2, 3, 4, 5, 6, 7] (by kernel_rfl) (by decide) (by kernel_rfl) rfl ?o9 (AllInv.lastQ (o := op20_10) [9, 7, 5, 0, 1, 2, 3, 4, 5, 6, 7] (by kernel_rfl) (by kernel_rfl) rfl ?o10))))))))))
  case o0 =>
    rintro Q' L _ W h0L hpre ⟨v, rfl, hv, hg⟩ K hK
    have r7 := (eval_out (v := v) (show 7 ∉ ([95, 96, 97, 98, 99, 100, 101, 102, 103, 104] : List Nat) by decide)).trans h7
    have he : execOp (putS a [95, 96, 97, 98, 99, 100, 101, 102, 103, 104] v).eval op20_0 = execOp (Act.eval ⟨#[undef], []⟩) ⟨some 0, .fieldAddr 46 (.const (.pointer (some ⟨Y, 0, none⟩))) 2, 0, "", #[], none⟩ := by simp only [execOp, eval_const, op20_0, r7]
    refine Lid.mk ?_
    unfold Oper.wp
    rw [he]
    clear he
    go_simp
    exact hK.out _ _ (InvG.next hv 0 (.pointer (some ⟨Y, 2, none⟩)) (put_in 0 hnd rfl) (Sp3F.keep (KeepP.refl _ _)) rfl (hg.keep (by decide) fun _ h => h))
  case o1 =>
    rintro Q' L _ W h0L hpre ⟨v, rfl, hv, hg⟩ K hK
    obtain ⟨k', hk', hJ'⟩ := hg.get
    have cy := cellY hJ'
    have r95 : (putS a [95, 96, 97, 98, 99, 100, 101, 102, 103, 104] v).eval (.tmp 95) = _ := (eval_in 0 hnd rfl (by omega)).trans (hv 0 (hpre 0 (by simp)))
    have he : execOp (putS a [95, 96, 97, 98, 99, 100, 101, 102, 103, 104] v).eval op20_1 = execOp (Act.eval ⟨#[undef], []⟩) ⟨some 0, .load 44 (.const (.pointer (some ⟨Y, 2, none⟩))), 0, "", #[], none⟩ := by simp only [execOp, eval_const, op20_1, r95]
    refine Lid.mk ?_
    unfold Oper.wp
    rw [he]
    clear he
    go_simp
    exact hK.out _ _ (InvG.next hv 1 (.slice (some ⟨l, 0, none⟩) nl yc) (put_in 1 hnd rfl) (Sp3F.keep (KeepP.refl _ _)) rfl (hg.keep (by decide) fun _ h => h))
  case o2 =>
    rintro Q' L _ W h0L hpre ⟨v, rfl, hv, hg⟩ K hK
    have r8 := (eval_out (v := v) (show 8 ∉ ([95, 96, 97, 98, 99, 100, 101, 102, 103, 104] : List Nat) by decide)).trans h8
    have he : execOp (putS a [95, 96, 97, 98, 99, 100, 101, 102, 103, 104] v).eval op20_2 = execOp (Act.eval ⟨#[undef], []⟩) ⟨some 0, .move (.const (.int .i64 (nI : Int))), 0, "", #[], none⟩ := by simp only [execOp, eval_const, op20_2, r8]
    refine Lid.mk ?_
    unfold Oper.wp
    rw [he]
    clear he
    go_simp
    exact hK.out _ _ (InvG.next hv 2 (.int .i64 (nI : Int)) (put_in 2 hnd rfl) (Sp3F.keep (KeepP.refl _ _)) rfl (hg.keep (by decide) fun _ h => h))
  case o3 =>
    rintro Q' L _ W h0L hpre ⟨v, rfl, hv, hg⟩ K hK
    obtain ⟨k', hk', hJ'⟩ := hg.get
    have he : execOp (putS a [95, 96, 97, 98, 99, 100, 101, 102, 103, 104] v).eval op20_3 = execOp (Act.eval ⟨#[undef], []⟩) ⟨some 0, .buildSlice 52 3 #[(0, .const (.string ⟨#[]⟩)), (1, .const (.string ⟨#[105, 109, 97, 103, 101]⟩)), (2, .const (.string ⟨#[122, 111, 110, 101]⟩))], 0, "", #[], none⟩ := by kernel_rfl
    refine Lid.mk ?_
    unfold Oper.wp
    rw [he]
    clear he
    go_simp
    exact hK.out _ _ (InvG.next hv 3 (.slice (some ⟨W.heap.size, 0, none⟩) 3 3) (put_in 3 hnd rfl) (Sp3F.keep (KeepP.alloc _ _ _)) ⟨_, rfl, alloc_here _ _, hJ'.1.rd.lt⟩ (hg.keep (by decide) fun _ h => h.below ((Below.refl _ _).alloc (Nat.le_refl _) _)))
  case o4 =>
    rintro Q' L _ W h0L hpre ⟨v, rfl, hv, hg⟩ K hK
    have r0 := (eval_out (v := v) (show 0 ∉ ([95, 96, 97, 98, 99, 100, 101, 102, 103, 104] : List Nat) by decide)).trans h0
    have he : execOp (putS a [95, 96, 97, 98, 99, 100, 101, 102, 103, 104] v).eval op20_4 = execOp (Act.eval ⟨#[undef], []⟩) ⟨some 0, .move (.const (.pointer (some ⟨p, 0, none⟩))), 0, "", #[], none⟩ := by simp only [execOp, eval_const, op20_4, r0]
    refine Lid.mk ?_
    unfold Oper.wp
    rw [he]
    clear he
    go_simp
    exact hK.out _ _ (InvG.next hv 4 (.pointer (some ⟨p, 0, none⟩)) (put_in 4 hnd rfl) (Sp3F.keep (KeepP.refl _ _)) rfl (hg.keep (by decide) fun _ h => h))
  case o5 =>
    rintro Q' L _ W h0L hpre ⟨v, rfl, hv, hg⟩ K hK
    have r99 : (putS a [95, 96, 97, 98, 99, 100, 101, 102, 103, 104] v).eval (.tmp 99) = _ := (eval_in 4 hnd rfl (by omega)).trans (hv 4 (hpre 4 (by simp)))
    obtain ⟨k', hk', hJ'⟩ := hg.get0 h0L
    have HP := pick_any B p k' 3 W hJ'.1.rd (by omega) (by omega) (by omega)
    have he : execOp (putS a [95, 96, 97, 98, 99, 100, 101, 102, 103, 104] v).eval op20_5 = execOp (Act.eval ⟨#[undef], []⟩) ⟨some 0, .call { callee := .value (.func 44), args := #[.const (.pointer (some ⟨p, 0, none⟩)), .const (.int .i64 3)], argTypes := #[65, 3] }, 0, "", #[], none⟩ := by simp only [execOp, eval_const, eval_func, op20_5, resolve, List.map_toArray, List.map_cons, List.map_nil, r99]
    refine Lid.mk ?_
    unfold Oper.wp
    rw [he]
    clear he
    go_simp
    refine HP.mono ?_
    rintro e W' ⟨y, hy, rfl, hr', hg'⟩
    exact hK.out _ _ (InvG.next hv 5 (.int .i64 (y : Int)) (put_in 5 hnd rfl) (Sp3F.keep (KeepP.grown hg')) ⟨y, hy, rfl⟩ (SpG.put hk' (Nat.le_refl _) (hJ'.grown hg' hr')))
  case o6 =>
    rintro Q' L _ W h0L hpre ⟨v, rfl, hv, hg⟩ K hK
    obtain ⟨t, e3, ht⟩ := hv 3 (hpre 3 (by simp))
    obtain ⟨y, hy, e5⟩ := hv 5 (hpre 5 (by simp))
    have r98 : (putS a [95, 96, 97, 98, 99, 100, 101, 102, 103, 104] v).eval (.tmp 98) = _ := (eval_in 3 hnd rfl (by omega)).trans e3
    have r100 : (putS a [95, 96, 97, 98, 99, 100, 101, 102, 103, 104] v).eval (.tmp 100) = _ := (eval_in 5 hnd rfl (by omega)).trans e5
    have y0 : (0 : Int) ≤ (y : Int) := by omega
    have y3 : (y : Int) < 3 := by omega
    have he : execOp (putS a [95, 96, 97, 98, 99, 100, 101, 102, 103, 104] v).eval op20_6 = execOp (Act.eval ⟨#[undef], []⟩) ⟨some 0, .indexAddr 52 (.const (.slice (some ⟨t, 0, none⟩) 3 3)) (.const (.int .i64 (y : Int))), 0, "", #[], none⟩ := by simp only [execOp, eval_const, op20_6, r98, r100]
    refine Lid.mk ?_
    unfold Oper.wp
    rw [he]
    clear he
    go_simp
    exact hK.out _ _ (InvG.next hv 6 (.pointer (some ⟨t, y, none⟩)) (put_in 6 hnd rfl) (Sp3F.keep (KeepP.refl _ _)) ⟨t, y, hy, rfl, ht⟩ (hg.keep (by decide) fun _ h => h))
  case o7 =>
    rintro Q' L _ W h0L hpre ⟨v, rfl, hv, hg⟩ K hK
    obtain ⟨t, y, hy, e6, ht⟩ := hv 6 (hpre 6 (by simp))
    obtain ⟨u, hu, hcell⟩ := ht.cell (show y < keys3.length from hy)
    have r101 : (putS a [95, 96, 97, 98, 99, 100, 101, 102, 103, 104] v).eval (.tmp 101) = _ := (eval_in 6 hnd rfl (by omega)).trans e6
    have he : execOp (putS a [95, 96, 97, 98, 99, 100, 101, 102, 103, 104] v).eval op20_7 = execOp (Act.eval ⟨#[undef], []⟩) ⟨some 0, .load 9 (.const (.pointer (some ⟨t, y, none⟩))), 0, "", #[], none⟩ := by simp only [execOp, eval_const, op20_7, r101]
    refine Lid.mk ?_
    unfold Oper.wp
    rw [he]
    clear he
    go_simp
    exact hK.out _ _ (InvG.next hv 7 (.string u) (put_in 7 hnd rfl) (Sp3F.keep (KeepP.refl _ _)) ⟨u, rfl⟩ (hg.keep (by decide) fun _ h => h))
  case o8 =>
    rintro Q' L _ W h0L hpre ⟨v, rfl, hv, hg⟩ K hK
    have r96 : (putS a [95, 96, 97, 98, 99, 100, 101, 102, 103, 104] v).eval (.tmp 96) = _ := (eval_in 1 hnd rfl (by omega)).trans (hv 1 (hpre 1 (by simp)))
    have r97 : (putS a [95, 96, 97, 98, 99, 100, 101, 102, 103, 104] v).eval (.tmp 97) = _ := (eval_in 2 hnd rfl (by omega)).trans (hv 2 (hpre 2 (by simp)))
    have he : execOp (putS a [95, 96, 97, 98, 99, 100, 101, 102, 103, 104] v).eval op20_8 = execOp (Act.eval ⟨#[undef], []⟩) ⟨some 0, .indexAddr 44 (.const (.slice (some ⟨l, 0, none⟩) nl yc)) (.const (.int .i64 (nI : Int))), 0, "", #[], none⟩ := by simp only [execOp, eval_const, op20_8, r96, r97]
    refine Lid.mk ?_
    unfold Oper.wp
    rw [he]
    clear he
    go_simp
    exact hK.out _ _ (InvG.next hv 8 (.pointer (some ⟨l, nI * 2, none⟩)) (put_in 8 hnd rfl) (Sp3F.keep (KeepP.refl _ _)) rfl (hg.keep (by decide) fun _ h => h))
  case o9 =>
    rintro Q' L _ W h0L hpre ⟨v, rfl, hv, hg⟩ K hK
    have r103 : (putS a [95, 96, 97, 98, 99, 100, 101, 102, 103, 104] v).eval (.tmp 103) = _ := (eval_in 8 hnd rfl (by omega)).trans (hv 8 (hpre 8 (by simp)))
    have he : execOp (putS a [95, 96, 97, 98, 99, 100, 101, 102, 103, 104] v).eval op20_9 = execOp (Act.eval ⟨#[undef], []⟩) ⟨some 0, .fieldAddr 115 (.const (.pointer (some ⟨l, nI * 2, none⟩))) 0, 0, "", #[], none⟩ := by simp only [execOp, eval_const, op20_9, r103]
    refine Lid.mk ?_
    unfold Oper.wp
    rw [he]
    clear he
    go_simp
    exact hK.out _ _ (InvG.next hv 9 (.pointer (some ⟨l, nI * 2, none⟩)) (put_in 9 hnd rfl) (Sp3F.keep (KeepP.refl _ _)) rfl (hg.keep (by decide) fun _ h => h))
  case o10 =>
    rintro Q' L _ W h0L hpre ⟨v, rfl, hv, hg⟩ K hK
    obtain ⟨u, e7⟩ := hv 7 (hpre 7 (by simp))
    have r104 : (putS a [95, 96, 97, 98, 99, 100, 101, 102, 103, 104] v).eval (.tmp 104) = _ := (eval_in 9 hnd rfl (by omega)).trans (hv 9 (hpre 9 (by simp)))
    have r102 : (putS a [95, 96, 97, 98, 99, 100, 101, 102, 103, 104] v).eval (.tmp 102) = _ := (eval_in 7 hnd rfl (by omega)).trans e7
    obtain ⟨k', hk', hJ'⟩ := hg.get
    have cl := hJ'.2.bm.lines.cell 0 (by decide)
    simp only [LAt.cells, List.getElem?_cons_zero, Nat.add_zero, hA] at cl
    have fl := frozenL hJ' hn (nI * 2)
    have HS := hid_in (SpJ.key hJ'.1 hJ'.2 hn u)
    rw [hA] at HS
    have he : execOp (putS a [95, 96, 97, 98, 99, 100, 101, 102, 103, 104] v).eval op20_10 = execOp (Act.eval ⟨#[undef], []⟩) ⟨some 0, .store 9 (.const (.pointer (some ⟨l, nI * 2, none⟩))) (.const (.string u)), 0, "", #[], none⟩ := by simp only [execOp, eval_const, op20_10, r104, r102]
    refine Lid.mk ?_
    unfold Oper.wp
    rw [he]
    clear he
    go_simp
    exact hK.out _ _ (NoPanic.normal (hQ v u k' _ _ rfl hk' HS.out))
end Go.Proofs.YtpdahhnjhggocaaGreatDoor
