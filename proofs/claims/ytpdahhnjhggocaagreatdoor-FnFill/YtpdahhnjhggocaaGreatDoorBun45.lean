import Derived.Test.YtpdahhnjhggocaaGreatDoorBun44
import Derived.Test.YtpdahhnjhggocaaGreatDoorBun38
namespace Go.Proofs.YtpdahhnjhggocaaGreatDoor
open Go.RowKit
def opg4_0 : Oper := { dst := some 23, op := Op.fieldAddr 25 (Operand.tmp 7) 0, type := 0, pos := "l8_draw.go:330", after := #[], guard := none }
def opg4_1 : Oper := { dst := some 24, op := Op.load 23 (Operand.tmp 23), type := 23, pos := "l8_draw.go:330", after := #[{ on := 0, ground := Ground.data }], guard := none }
def opg4_2 : Oper := { dst := some 25, op := Op.move (Operand.tmp 6), type := 65, pos := "l8_draw.go:330", after := #[], guard := none }
def opg4_3 : Oper := { dst := some 26, op := Op.fieldAddr 25 (Operand.tmp 7) 0, type := 0, pos := "l8_draw.go:330", after := #[], guard := none }
def opg4_4 : Oper := { dst := some 27, op := Op.load 23 (Operand.tmp 26), type := 23, pos := "l8_draw.go:330", after := #[{ on := 3, ground := Ground.data }], guard := none }
def opg4_5 : Oper := { dst := some 28, op := Op.call { callee := Callee.builtin Builtin.len, args := #[Operand.tmp 27], argTypes := #[23] }, type := 3, pos := "l8_draw.go:330", after := #[{ on := 4, ground := Ground.data }], guard := none }
def opg4_6 : Oper := { dst := some 29, op := Op.call { callee := Callee.value (Operand.func 44), args := #[Operand.tmp 25, Operand.tmp 28], argTypes := #[65, 3] }, type := 3, pos := "l8_draw.go:330", after := #[{ on := 2, ground := Ground.data }, { on := 5, ground := Ground.data }], guard := none }
def opg4_7 : Oper := { dst := some 30, op := Op.indexAddr 23 (Operand.tmp 24) (Operand.tmp 29), type := 0, pos := "l8_draw.go:330", after := #[{ on := 1, ground := Ground.data }, { on := 6, ground := Ground.data }], guard := none }
def opg4_8 : Oper := { dst := some 31, op := Op.load 46 (Operand.tmp 30), type := 46, pos := "l8_draw.go:330", after := #[{ on := 7, ground := Ground.data }], guard := none }
def opg4_9 : Oper := { dst := some 8, op := Op.alloc 46, type := 0, pos := "l8_draw.go:330", after := #[], guard := none }
def opg4_10 : Oper := { dst := none, op := Op.store 46 (Operand.tmp 8) (Operand.tmp 31), type := 0, pos := "l8_draw.go:330", after := #[{ on := 9, ground := Ground.data }, { on := 8, ground := Ground.data }, { on := 6, ground := Ground.chain }, { on := 0, ground := Ground.phase }, { on := 1, ground := Ground.phase }, { on := 2, ground := Ground.phase }, { on := 3, ground := Ground.phase }, { on := 4, ground := Ground.phase }, { on := 5, ground := Ground.phase }, { on := 6, ground := Ground.phase }, { on := 7, ground := Ground.phase }, { on := 8, ground := Ground.phase }, { on := 9, ground := Ground.phase }], guard := none }
def opsg4 : List Oper := [opg4_0, opg4_1, opg4_2, opg4_3, opg4_4, opg4_5, opg4_6, opg4_7, opg4_8, opg4_9, opg4_10]
def opg7_0 : Oper := { dst := some 43, op := Op.load 25 (Operand.tmp 7), type := 25, pos := "l8_draw.go:333", after := #[], guard := none }
def opg7_1 : Oper := { dst := some 44, op := Op.fieldAddr 46 (Operand.tmp 8) 0, type := 0, pos := "l8_draw.go:333", after := #[{ on := 13, ground := Ground.gcOnly Departure.lateStores }], guard := none }
def opg7_2 : Oper := { dst := some 45, op := Op.load 9 (Operand.tmp 44), type := 9, pos := "l8_draw.go:333", after := #[{ on := 1, ground := Ground.data }, { on := 13, ground := Ground.gcOnly Departure.lateStores }], guard := none }
def opg7_3 : Oper := { dst := some 46, op := Op.fieldAddr 46 (Operand.tmp 8) 1, type := 0, pos := "l8_draw.go:333", after := #[{ on := 14, ground := Ground.gcOnly Departure.lateStores }], guard := none }
def opg7_4 : Oper := { dst := some 47, op := Op.load 9 (Operand.tmp 46), type := 9, pos := "l8_draw.go:333", after := #[{ on := 3, ground := Ground.data }, { on := 14, ground := Ground.gcOnly Departure.lateStores }], guard := none }
def opg7_5 : Oper := { dst := some 48, op := Op.move (Operand.tmp 9), type := 47, pos := "l8_draw.go:333", after := #[{ on := 15, ground := Ground.gcOnly Departure.lateStores }], guard := none }
def opg7_6 : Oper := { dst := some 49, op := Op.move (Operand.tmp 6), type := 65, pos := "l8_draw.go:333", after := #[], guard := none }
def opg7_7 : Oper := { dst := some 50, op := Op.move (Operand.tmp 9), type := 47, pos := "l8_draw.go:333", after := #[], guard := none }
def opg7_8 : Oper := { dst := some 51, op := Op.call { callee := Callee.builtin Builtin.len, args := #[Operand.tmp 50], argTypes := #[47] }, type := 3, pos := "l8_draw.go:333", after := #[{ on := 7, ground := Ground.data }], guard := none }
def opg7_9 : Oper := { dst := some 52, op := Op.call { callee := Callee.value (Operand.func 44), args := #[Operand.tmp 49, Operand.tmp 51], argTypes := #[65, 3] }, type := 3, pos := "l8_draw.go:333", after := #[{ on := 6, ground := Ground.data }, { on := 8, ground := Ground.data }], guard := none }
def opg7_10 : Oper := { dst := some 53, op := Op.indexAddr 47 (Operand.tmp 48) (Operand.tmp 52), type := 0, pos := "l8_draw.go:333", after := #[{ on := 5, ground := Ground.data }, { on := 9, ground := Ground.data }, { on := 15, ground := Ground.gcOnly Departure.lateStores }], guard := none }
def opg7_11 : Oper := { dst := some 54, op := Op.fieldAddr 54 (Operand.tmp 53) 0, type := 0, pos := "l8_draw.go:333", after := #[{ on := 10, ground := Ground.data }, { on := 15, ground := Ground.gcOnly Departure.lateStores }], guard := none }
def opg7_12 : Oper := { dst := some 55, op := Op.load 9 (Operand.tmp 54), type := 9, pos := "l8_draw.go:333", after := #[{ on := 11, ground := Ground.data }, { on := 15, ground := Ground.gcOnly Departure.lateStores }], guard := none }
def opg7_13 : Oper := { dst := none, op := Op.store 25 (Operand.tmp 2) (Operand.tmp 43), type := 0, pos := "l8_draw.go:333", after := #[{ on := 0, ground := Ground.data }, { on := 9, ground := Ground.chain }, { on := 0, ground := Ground.phase }, { on := 1, ground := Ground.textOnly Departure.lateStores }, { on := 2, ground := Ground.textOnly Departure.lateStores }, { on := 3, ground := Ground.textOnly Departure.lateStores }, { on := 4, ground := Ground.textOnly Departure.lateStores }, { on := 5, ground := Ground.textOnly Departure.lateStores }, { on := 6, ground := Ground.textOnly Departure.lateStores }, { on := 7, ground := Ground.textOnly Departure.lateStores }, { on := 8, ground := Ground.textOnly Departure.lateStoresUnsure }, { on := 9, ground := Ground.textOnly Departure.lateStoresUnsure }, { on := 10, ground := Ground.textOnly Departure.lateStores }, { on := 11, ground := Ground.textOnly Departure.lateStores }, { on := 12, ground := Ground.textOnly Departure.lateStores }], guard := none }
def opg7_14 : Oper := { dst := some 3, op := Op.assign (Operand.tmp 45), type := 9, pos := "l8_draw.go:333", after := #[{ on := 2, ground := Ground.data }, { on := 13, ground := Ground.chain }, { on := 0, ground := Ground.phase }, { on := 1, ground := Ground.phase }, { on := 2, ground := Ground.phase }, { on := 3, ground := Ground.textOnly Departure.lateStores }, { on := 4, ground := Ground.textOnly Departure.lateStores }, { on := 5, ground := Ground.textOnly Departure.lateStores }, { on := 6, ground := Ground.textOnly Departure.lateStores }, { on := 7, ground := Ground.textOnly Departure.lateStores }, { on := 8, ground := Ground.textOnly Departure.lateStoresUnsure }, { on := 9, ground := Ground.textOnly Departure.lateStoresUnsure }, { on := 10, ground := Ground.textOnly Departure.lateStores }, { on := 11, ground := Ground.textOnly Departure.lateStores }, { on := 12, ground := Ground.textOnly Departure.lateStores }, { on := 13, ground := Ground.phase }], guard := none }
def opg7_15 : Oper := { dst := some 4, op := Op.assign (Operand.tmp 47), type := 9, pos := "l8_draw.go:333", after := #[{ on := 4, ground := Ground.data }, { on := 14, ground := Ground.chain }, { on := 0, ground := Ground.phase }, { on := 1, ground := Ground.phase }, { on := 2, ground := Ground.phase }, { on := 3, ground := Ground.phase }, { on := 4, ground := Ground.phase }, { on := 5, ground := Ground.textOnly Departure.lateStores }, { on := 6, ground := Ground.textOnly Departure.lateStores }, { on := 7, ground := Ground.textOnly Departure.lateStores }, { on := 8, ground := Ground.textOnly Departure.lateStoresUnsure }, { on := 9, ground := Ground.textOnly Departure.lateStoresUnsure }, { on := 10, ground := Ground.textOnly Departure.lateStores }, { on := 11, ground := Ground.textOnly Departure.lateStores }, { on := 12, ground := Ground.textOnly Departure.lateStores }, { on := 13, ground := Ground.phase }, { on := 14, ground := Ground.phase }], guard := none }
def opg7_16 : Oper := { dst := some 5, op := Op.assign (Operand.tmp 55), type := 9, pos := "l8_draw.go:333", after := #[{ on := 12, ground := Ground.data }, { on := 15, ground := Ground.chain }, { on := 0, ground := Ground.phase }, { on := 1, ground := Ground.phase }, { on := 2, ground := Ground.phase }, { on := 3, ground := Ground.phase }, { on := 4, ground := Ground.phase }, { on := 5, ground := Ground.phase }, { on := 6, ground := Ground.phase }, { on := 7, ground := Ground.phase }, { on := 8, ground := Ground.phase }, { on := 9, ground := Ground.phase }, { on := 10, ground := Ground.phase }, { on := 11, ground := Ground.phase }, { on := 12, ground := Ground.phase }, { on := 13, ground := Ground.phase }, { on := 14, ground := Ground.phase }, { on := 15, ground := Ground.phase }], guard := none }
def opsg7 : List Oper := [opg7_0, opg7_1, opg7_2, opg7_3, opg7_4, opg7_5, opg7_6, opg7_7, opg7_8, opg7_9, opg7_10, opg7_11, opg7_12, opg7_13, opg7_14, opg7_15, opg7_16]
def opg8_0 : Oper := { dst := some 56, op := Op.load 25 (Operand.tmp 7), type := 25, pos := "l8_draw.go:335", after := #[], guard := none }
def opg8_1 : Oper := { dst := some 57, op := Op.fieldAddr 46 (Operand.tmp 8) 0, type := 0, pos := "l8_draw.go:335", after := #[{ on := 5, ground := Ground.gcOnly Departure.lateStores }], guard := none }
def opg8_2 : Oper := { dst := some 58, op := Op.load 9 (Operand.tmp 57), type := 9, pos := "l8_draw.go:335", after := #[{ on := 1, ground := Ground.data }, { on := 5, ground := Ground.gcOnly Departure.lateStores }], guard := none }
def opg8_3 : Oper := { dst := some 59, op := Op.fieldAddr 46 (Operand.tmp 8) 1, type := 0, pos := "l8_draw.go:335", after := #[{ on := 6, ground := Ground.gcOnly Departure.lateStores }], guard := none }
def opg8_4 : Oper := { dst := some 60, op := Op.load 9 (Operand.tmp 59), type := 9, pos := "l8_draw.go:335", after := #[{ on := 3, ground := Ground.data }, { on := 6, ground := Ground.gcOnly Departure.lateStores }], guard := none }
def opg8_5 : Oper := { dst := none, op := Op.store 25 (Operand.tmp 2) (Operand.tmp 56), type := 0, pos := "l8_draw.go:335", after := #[{ on := 0, ground := Ground.data }, { on := 0, ground := Ground.phase }, { on := 1, ground := Ground.textOnly Departure.lateStores }, { on := 2, ground := Ground.textOnly Departure.lateStores }, { on := 3, ground := Ground.textOnly Departure.lateStores }, { on := 4, ground := Ground.textOnly Departure.lateStores }], guard := none }
def opg8_6 : Oper := { dst := some 3, op := Op.assign (Operand.tmp 58), type := 9, pos := "l8_draw.go:335", after := #[{ on := 2, ground := Ground.data }, { on := 5, ground := Ground.chain }, { on := 0, ground := Ground.phase }, { on := 1, ground := Ground.phase }, { on := 2, ground := Ground.phase }, { on := 3, ground := Ground.textOnly Departure.lateStores }, { on := 4, ground := Ground.textOnly Departure.lateStores }, { on := 5, ground := Ground.phase }], guard := none }
def opg8_7 : Oper := { dst := some 4, op := Op.assign (Operand.tmp 60), type := 9, pos := "l8_draw.go:335", after := #[{ on := 4, ground := Ground.data }, { on := 6, ground := Ground.chain }, { on := 0, ground := Ground.phase }, { on := 1, ground := Ground.phase }, { on := 2, ground := Ground.phase }, { on := 3, ground := Ground.phase }, { on := 4, ground := Ground.phase }, { on := 5, ground := Ground.phase }, { on := 6, ground := Ground.phase }], guard := none }
def opg8_8 : Oper := { dst := some 5, op := Op.assign (Operand.const (Value.string { data := #[110, 111, 110, 101] })), type := 9, pos := "l8_draw.go:335", after := #[{ on := 7, ground := Ground.chain }, { on := 0, ground := Ground.phase }, { on := 1, ground := Ground.phase }, { on := 2, ground := Ground.phase }, { on := 3, ground := Ground.phase }, { on := 4, ground := Ground.phase }, { on := 5, ground := Ground.phase }, { on := 6, ground := Ground.phase }, { on := 7, ground := Ground.phase }], guard := none }
def opsg8 : List Oper := [opg8_0, opg8_1, opg8_2, opg8_3, opg8_4, opg8_5, opg8_6, opg8_7, opg8_8]
/-- Where the drawing of a key stands: the reader at p, the sheet's box at S, the answer's box ahead of both. -/
structure GtS (w : World) (p S : Nat) (rv sv : Value) (bs : List BAt) (kk : Nat) (W : World) : Prop where
  rd : Rd w.heap.size W p kk
  bw : Below w.heap.size w W
  res : W.heap[w.heap.size]? = some (.cells #[rv] 25 (0, 0))
  sb : W.heap[S]? = some (.cells #[sv] 25 (0, 0))
  bin : BlocksIn W sv bs
  farp : BlocksFar p sv bs
  farr : BlocksFar w.heap.size sv bs
  wp : w.heap.size < p
  pS : p < S
theorem GtS.grown {w : World} {p S kk kk' : Nat} {rv sv : Value} {bs : List BAt} {W W' : World} (h : GtS w p S rv sv bs kk W) (hg : W.grownBy W' (some p)) (hr : Rd w.heap.size W' p kk') : GtS w p S rv sv bs kk' W' := by
  have h1 := h.wp
  have h2 := h.pS
  have h3 := h.bw.size
  exact ⟨hr, below_of_grown h.bw h3 (by omega) hg, (hg.block w.heap.size (Array.getElem?_eq_some_iff.1 h.res).1 (by intro e; cases e; omega)).trans h.res, (hg.block S (Array.getElem?_eq_some_iff.1 h.sb).1 (by intro e; cases e; omega)).trans h.sb, h.bin.far h.farp hg, h.farp, h.farr, h.wp, h.pS⟩
theorem GtS.below {w : World} {p S kk : Nat} {rv sv : Value} {bs : List BAt} {W W' : World} (h : GtS w p S rv sv bs kk W) (hb : Below W.heap.size W W') : GtS w p S rv sv bs kk W' :=
  ⟨h.rd.below hb, h.bw.trans (hb.mono h.bw.size), (hb.block w.heap.size (Array.getElem?_eq_some_iff.1 h.res).1).trans h.res, (hb.block S (Array.getElem?_eq_some_iff.1 h.sb).1).trans h.sb, h.bin.below hb, h.farp, h.farr, h.wp, h.pS⟩
/-- A block that was made behind the sheet's box, filled. -/
theorem GtS.turn {w : World} {p S R kk : Nat} {rv sv : Value} {bs : List BAt} {W W' : World} (h : GtS w p S rv sv bs kk W) (hg : W.grownBy W' (some R)) (hR : S < R) (hf : BlocksFar R sv bs) : GtS w p S rv sv bs kk W' := by
  have h1 := h.wp
  have h2 := h.pS
  have h3 := h.bw.size
  exact ⟨Kept.rd h.rd (Kept.of_grown (S := [R]) hg (fun q hq => by cases hq; simp)) (fun i hi => by rw [List.mem_singleton.1 hi]; omega), below_of_grown h.bw h3 (by omega) hg, (hg.block w.heap.size (Array.getElem?_eq_some_iff.1 h.res).1 (by intro e; cases e; omega)).trans h.res, (hg.block S (Array.getElem?_eq_some_iff.1 h.sb).1 (by intro e; cases e; omega)).trans h.sb, h.bin.far hf hg, h.farp, h.farr, h.wp, h.pS⟩
/-- The answer laid into its box. -/
def GtF (w : World) (sv : Value) (bs : List BAt) (W : World) : Prop := Below w.heap.size w W ∧ W.cell? ⟨w.heap.size, 0, none⟩ = some sv ∧ BlocksIn W sv bs
theorem GtS.fin {w : World} {p S kk : Nat} {sv : Value} {bs : List BAt} {W : World} (h : GtS w p S sv sv bs kk W) : GtF w sv bs W := ⟨h.bw, by have := cell_of_block h.res 0; simpa using this, h.bin⟩
theorem GtS.store {w : World} {p S kk : Nat} {rv sv : Value} {bs : List BAt} {W : World} (h : GtS w p S rv sv bs kk W) : GtS w p S sv sv bs kk (W.setCell ⟨w.heap.size, 0, none⟩ sv) := by
  have gs := grown_setCell W w.heap.size 0 sv
  have h1 := h.wp
  have h2 := h.pS
  have h3 := h.bw.size
  obtain ⟨hB, ra, rl, rc, hb, hl, hrest⟩ := h.rd
  refine ⟨⟨hB, ra, rl, rc, (gs.block p h.rd.lt (by intro e; have := Option.some.inj e; omega)).trans hb, hl, ?_⟩, below_of_grown h.bw h3 (Nat.le_refl _) gs, ?_, (gs.block S (Array.getElem?_eq_some_iff.1 h.sb).1 (by intro e; have := Option.some.inj e; omega)).trans h.sb, h.bin.far h.farr gs, h.farp, h.farr, h.wp, h.pS⟩
  · rcases hrest with h0 | ⟨b, off, ha, hbB, hc⟩
    · exact Or.inl h0
    · refine Or.inr ⟨b, off, ha, hbB, fun i hi => ?_⟩
      obtain ⟨z, hz, hcell⟩ := hc i hi
      exact ⟨z, hz, (gs.cell_far ⟨b, off + i, none⟩ (World.block_lt_of_cell? W _ hcell) (by intro e; have := Option.some.inj e; simp only at this; omega)).trans hcell⟩
  · rw [heap_setCell_same W w.heap.size 0 _ _ _ h.res]; rfl
theorem put_out {a : Act} {ds : List Nat} {v : Nat → Value} (k : Nat) {d : Nat} {x : Value} (hn : ds.Nodup) (hk : ds[k]? = some d) (hd : a.tmps.size ≤ d) : putS a ds v = putS a ds (fun j => if j = k then x else v j) := by
  rw [← put_in k hn hk]
  have hs := setS_size ds v 0 a.tmps
  show putS a ds v = ({ (putS a ds v) with tmps := (putS a ds v).tmps.setIfInBounds d x } : Act)
  have : (putS a ds v).tmps.setIfInBounds d x = (putS a ds v).tmps := Array.setIfInBounds_eq_of_size_le (by unfold putS; simp only; omega)
  rw [this]
/-- What the operations yield of the region that draws a block. -/
def G4F (p S n b0 off sc : Nat) (bs : List BAt) (i : Nat) (x : Value) (W : World) : Prop := match i with
  | 0 => x = .pointer (some ⟨S, 0, none⟩)
  | 1 => x = .slice (some ⟨b0, off, none⟩) n sc
  | 2 => x = .pointer (some ⟨p, 0, none⟩)
  | 3 => x = .pointer (some ⟨S, 0, none⟩)
  | 4 => x = .slice (some ⟨b0, off, none⟩) n sc
  | 5 => x = .int .i64 (n : Int)
  | 6 => ∃ y : Nat, y < n ∧ x = .int .i64 (y : Int)
  | 7 => ∃ y : Nat, y < n ∧ x = .pointer (some ⟨b0, off + y * 3, none⟩)
  | 8 => ∃ (kind name : ByteArray) (a : Option Addr) (m c : Nat), x = .agg #[.string kind, .string name, .slice a m c]
  | 9 => ∃ R, x = .pointer (some ⟨R, 0, none⟩) ∧ W.heap[R]? = some (.cells #[.string ⟨#[]⟩, .string ⟨#[]⟩, .slice none 0 0] 46 (0, 0)) ∧ p < R ∧ S < R ∧ BlocksFar R (.slice (some ⟨b0, off, none⟩) n sc) bs
  | _ => True
theorem G4F.keep {p S n b0 off sc : Nat} {bs : List BAt} {W W' : World} (k : KeepP p W W') : ∀ (i : Nat) (x : Value), G4F p S n b0 off sc bs i x W → G4F p S n b0 off sc bs i x W' := by
  intro i x h
  unfold G4F at *
  split <;> simp only at h
  · exact h
  · exact h
  · exact h
  · exact h
  · exact h
  · exact h
  · exact h
  · exact h
  · exact h
  · obtain ⟨R, e, h1, h2, h3⟩ := h; exact ⟨R, e, k R _ h2 h1, h2, h3⟩
  · trivial
theorem BlocksIn.fresh {w : World} {q : Nat} {v : Value} {bs : List BAt} (h : BlocksIn w v bs) (hq : w.heap.size ≤ q) : BlocksFar q v bs := ⟨FarV.of_lt h.1 (by decide) hq, fun x hx => LinesIn.fresh (h.2 x hx) hq⟩
set_option maxHeartbeats 2000000 in
set_option maxRecDepth 10000 in
theorem regionG4 {Q : Exit → Act → World → Prop} {a : Act} {W0 w : World} {p S kk n b0 off sc : Nat} {bs : List BAt} (hJ : GtS w p S (.slice none 0 0) (.slice (some ⟨b0, off, none⟩) n sc) bs kk W0) (hn : bs.length = n) (hn2 : n ≤ 1000) (h1n : 1 ≤ n) (hk : kk ≤ 900000) (h6 : a.eval (.tmp 6) = (.pointer (some ⟨p, 0, none⟩))) (h7 : a.eval (.tmp 7) = (.pointer (some ⟨S, 0, none⟩))) (hsz : a.tmps.size = 62)
    (hQ : ∀ v R kind name ba m c k' W' a', a' = putS a [23, 24, 25, 26, 27, 28, 29, 30, 31, 8] v → v 9 = .pointer (some ⟨R, 0, none⟩) → k' ≤ kk + 1 → GtS w p S (.slice none 0 0) (.slice (some ⟨b0, off, none⟩) n sc) bs k' W' → W'.heap[R]? = some (.cells #[.string kind, .string name, .slice ba m c] 46 (0, 0)) → S < R → Q .normal a' W') : (Code.region 4 opsg4.toArray true).wp Tryz.prog Q a W0 := by
  have hnd : ([23, 24, 25, 26, 27, 28, 29, 30, 31, 8] : List Nat).Nodup := by decide
  refine wp_region_invS0 [23, 24, 25, 26, 27, 28, 29, 30, 31, 8] (G4F p S n b0 off sc bs) (SpG (GtS w p S (.slice none 0 0) (.slice (some ⟨b0, off, none⟩) n sc) bs) 6 kk 1) 10 11 [0, 1, 2, 3, 4, 5, 6, 7, 8, 9, 10] (by kernel_rfl) rfl (by decide) (by kernel_rfl) ?h1 ⟨_, Nat.le_refl _, hJ.below (Below.refl _ _).drew⟩ ?hall
  case h1 =>
    intro i x W hi
    unfold G4F
    split <;> first | omega | trivial
  refine AllInv.consQ (o := opg4_0) [] (by kernel_rfl) (by decide) (by kernel_rfl) rfl ?o0 (AllInv.consQ (o := opg4_1) [0] (by kernel_rfl) (by decide) (by kernel_rfl) rfl ?o1 (AllInv.consQ (o := opg4_2) [] (by kernel_rfl) (by decide) (by kernel_rfl) rfl ?o2 (AllInv.consQ (o := opg4_3) [] (by kernel_rfl) (by decide) (by kernel_rfl) rfl ?o3 (AllInv.consQ (o := opg4_4) [3] (by kernel_rfl) (by decide) (by kernel_rfl) rfl ?o4 (AllInv.consQ (o := opg4_5) [4] (by kernel_rfl) (by decide) (by kernel_rfl) rfl ?o5 (AllInv.consQ (o := opg4_6) [2, 5] (by kernel_rfl) (by decide) (by kernel_rfl) rfl ?o6 (AllInv.consQ (o := opg4_7) [1, 6] (by kernel_rfl) (by decide) (by kernel_rfl) rfl ?o7 (AllInv.consQ (o := opg4_8) [7] (by kernel_rfl) (by decide) (by kernel_rfl) rfl ?o8 (AllInv.consQ (o := opg4_9) [] (by kernel_rfl) (by decide) (by kernel_rfl) rfl ?o9 (AllInv.lastQ (o := opg4_10) [9, 8, 6, 0, 1, 2, 3, 4, 5, 6, 7, 8, 9] (by kernel_rfl) (by kernel_rfl) rfl ?o10))))))))))
  case o0 =>
    rintro Q' L _ W h0L hpre ⟨v, rfl, hv, hg⟩ K hK
    have r7 := (eval_out (v := v) (show 7 ∉ ([23, 24, 25, 26, 27, 28, 29, 30, 31, 8] : List Nat) by decide)).trans h7
    have he : execOp (putS a [23, 24, 25, 26, 27, 28, 29, 30, 31, 8] v).eval opg4_0 = execOp (Act.eval ⟨#[undef], []⟩) ⟨some 0, .fieldAddr 25 (.const (.pointer (some ⟨S, 0, none⟩))) 0, 0, "", #[], none⟩ := by simp only [execOp, eval_const, opg4_0, r7]
    refine Lid.mk ?_
    unfold Oper.wp
    rw [he]
    clear he
    go_simp
    exact hK.out _ _ (InvG.next hv 0 (.pointer (some ⟨S, 0, none⟩)) (put_in 0 hnd rfl) (G4F.keep (KeepP.refl _ _)) rfl (hg.keep (by decide) fun _ h => h))
  case o1 =>
    rintro Q' L _ W h0L hpre ⟨v, rfl, hv, hg⟩ K hK
    obtain ⟨k', hk', hJ'⟩ := hg.get
    have cs := cell_of_block hJ'.sb 0
    simp only [List.getElem?_toArray, List.getElem?_cons_zero] at cs
    have r23 : (putS a [23, 24, 25, 26, 27, 28, 29, 30, 31, 8] v).eval (.tmp 23) = _ := (eval_in 0 hnd rfl (by omega)).trans (hv 0 (hpre 0 (by simp)))
    have he : execOp (putS a [23, 24, 25, 26, 27, 28, 29, 30, 31, 8] v).eval opg4_1 = execOp (Act.eval ⟨#[undef], []⟩) ⟨some 0, .load 23 (.const (.pointer (some ⟨S, 0, none⟩))), 0, "", #[], none⟩ := by simp only [execOp, eval_const, opg4_1, r23]
    refine Lid.mk ?_
    unfold Oper.wp
    rw [he]
    clear he
    go_simp
    exact hK.out _ _ (InvG.next hv 1 (.slice (some ⟨b0, off, none⟩) n sc) (put_in 1 hnd rfl) (G4F.keep (KeepP.refl _ _)) rfl (hg.keep (by decide) fun _ h => h))
  case o2 =>
    rintro Q' L _ W h0L hpre ⟨v, rfl, hv, hg⟩ K hK
    have r6 := (eval_out (v := v) (show 6 ∉ ([23, 24, 25, 26, 27, 28, 29, 30, 31, 8] : List Nat) by decide)).trans h6
    have he : execOp (putS a [23, 24, 25, 26, 27, 28, 29, 30, 31, 8] v).eval opg4_2 = execOp (Act.eval ⟨#[undef], []⟩) ⟨some 0, .move (.const (.pointer (some ⟨p, 0, none⟩))), 0, "", #[], none⟩ := by simp only [execOp, eval_const, opg4_2, r6]
    refine Lid.mk ?_
    unfold Oper.wp
    rw [he]
    clear he
    go_simp
    exact hK.out _ _ (InvG.next hv 2 (.pointer (some ⟨p, 0, none⟩)) (put_in 2 hnd rfl) (G4F.keep (KeepP.refl _ _)) rfl (hg.keep (by decide) fun _ h => h))
  case o3 =>
    rintro Q' L _ W h0L hpre ⟨v, rfl, hv, hg⟩ K hK
    have r7 := (eval_out (v := v) (show 7 ∉ ([23, 24, 25, 26, 27, 28, 29, 30, 31, 8] : List Nat) by decide)).trans h7
    have he : execOp (putS a [23, 24, 25, 26, 27, 28, 29, 30, 31, 8] v).eval opg4_3 = execOp (Act.eval ⟨#[undef], []⟩) ⟨some 0, .fieldAddr 25 (.const (.pointer (some ⟨S, 0, none⟩))) 0, 0, "", #[], none⟩ := by simp only [execOp, eval_const, opg4_3, r7]
    refine Lid.mk ?_
    unfold Oper.wp
    rw [he]
    clear he
    go_simp
    exact hK.out _ _ (InvG.next hv 3 (.pointer (some ⟨S, 0, none⟩)) (put_in 3 hnd rfl) (G4F.keep (KeepP.refl _ _)) rfl (hg.keep (by decide) fun _ h => h))
  case o4 =>
    rintro Q' L _ W h0L hpre ⟨v, rfl, hv, hg⟩ K hK
    obtain ⟨k', hk', hJ'⟩ := hg.get
    have cs := cell_of_block hJ'.sb 0
    simp only [List.getElem?_toArray, List.getElem?_cons_zero] at cs
    have r26 : (putS a [23, 24, 25, 26, 27, 28, 29, 30, 31, 8] v).eval (.tmp 26) = _ := (eval_in 3 hnd rfl (by omega)).trans (hv 3 (hpre 3 (by simp)))
    have he : execOp (putS a [23, 24, 25, 26, 27, 28, 29, 30, 31, 8] v).eval opg4_4 = execOp (Act.eval ⟨#[undef], []⟩) ⟨some 0, .load 23 (.const (.pointer (some ⟨S, 0, none⟩))), 0, "", #[], none⟩ := by simp only [execOp, eval_const, opg4_4, r26]
    refine Lid.mk ?_
    unfold Oper.wp
    rw [he]
    clear he
    go_simp
    exact hK.out _ _ (InvG.next hv 4 (.slice (some ⟨b0, off, none⟩) n sc) (put_in 4 hnd rfl) (G4F.keep (KeepP.refl _ _)) rfl (hg.keep (by decide) fun _ h => h))
  case o5 =>
    rintro Q' L _ W h0L hpre ⟨v, rfl, hv, hg⟩ K hK
    have r27 : (putS a [23, 24, 25, 26, 27, 28, 29, 30, 31, 8] v).eval (.tmp 27) = _ := (eval_in 4 hnd rfl (by omega)).trans (hv 4 (hpre 4 (by simp)))
    refine Lid.mk ?_
    unfold Oper.wp
    simp only [execOp, opg4_5, resolve, List.map_toArray, List.map_cons, List.map_nil, r27]
    go_simp
    exact hK.out _ _ (InvG.next hv 5 (.int .i64 (n : Int)) (put_in 5 hnd rfl) (G4F.keep (KeepP.refl _ _)) rfl (hg.keep (by decide) fun _ h => h))
  case o6 =>
    rintro Q' L _ W h0L hpre ⟨v, rfl, hv, hg⟩ K hK
    have r25 : (putS a [23, 24, 25, 26, 27, 28, 29, 30, 31, 8] v).eval (.tmp 25) = _ := (eval_in 2 hnd rfl (by omega)).trans (hv 2 (hpre 2 (by simp)))
    have r28 : (putS a [23, 24, 25, 26, 27, 28, 29, 30, 31, 8] v).eval (.tmp 28) = _ := (eval_in 5 hnd rfl (by omega)).trans (hv 5 (hpre 5 (by simp)))
    obtain ⟨k', hk', hJ'⟩ := hg.get0 h0L
    have HP := pick_any w.heap.size p k' n W hJ'.rd h1n hn2 (by omega)
    have he : execOp (putS a [23, 24, 25, 26, 27, 28, 29, 30, 31, 8] v).eval opg4_6 = execOp (Act.eval ⟨#[undef], []⟩) ⟨some 0, .call { callee := .value (.func 44), args := #[.const (.pointer (some ⟨p, 0, none⟩)), .const (.int .i64 (n : Int))], argTypes := #[65, 3] }, 0, "", #[], none⟩ := by simp only [execOp, eval_const, eval_func, opg4_6, resolve, List.map_toArray, List.map_cons, List.map_nil, r25, r28]
    refine Lid.mk ?_
    unfold Oper.wp
    rw [he]
    clear he
    go_simp
    refine HP.mono ?_
    rintro e W' ⟨y, hy, rfl, hr', hg'⟩
    exact hK.out _ _ (InvG.next hv 6 (.int .i64 (y : Int)) (put_in 6 hnd rfl) (G4F.keep (KeepP.grown hg')) ⟨y, hy, rfl⟩ (SpG.put hk' (Nat.le_refl _) (hJ'.grown hg' hr')))
  case o7 =>
    rintro Q' L _ W h0L hpre ⟨v, rfl, hv, hg⟩ K hK
    obtain ⟨y, hy, e6⟩ := hv 6 (hpre 6 (by simp))
    have r24 : (putS a [23, 24, 25, 26, 27, 28, 29, 30, 31, 8] v).eval (.tmp 24) = _ := (eval_in 1 hnd rfl (by omega)).trans (hv 1 (hpre 1 (by simp)))
    have r29 : (putS a [23, 24, 25, 26, 27, 28, 29, 30, 31, 8] v).eval (.tmp 29) = _ := (eval_in 6 hnd rfl (by omega)).trans e6
    have y0 : (0 : Int) ≤ (y : Int) := by omega
    have y3 : (y : Int) < (n : Int) := by omega
    have he : execOp (putS a [23, 24, 25, 26, 27, 28, 29, 30, 31, 8] v).eval opg4_7 = execOp (Act.eval ⟨#[undef], []⟩) ⟨some 0, .indexAddr 23 (.const (.slice (some ⟨b0, off, none⟩) n sc)) (.const (.int .i64 (y : Int))), 0, "", #[], none⟩ := by simp only [execOp, eval_const, opg4_7, r24, r29]
    refine Lid.mk ?_
    unfold Oper.wp
    rw [he]
    clear he
    go_simp
    exact hK.out _ _ (InvG.next hv 7 (.pointer (some ⟨b0, off + y * 3, none⟩)) (put_in 7 hnd rfl) (G4F.keep (KeepP.refl _ _)) ⟨y, hy, rfl⟩ (hg.keep (by decide) fun _ h => h))
  case o8 =>
    rintro Q' L _ W h0L hpre ⟨v, rfl, hv, hg⟩ K hK
    obtain ⟨y, hy, e7⟩ := hv 7 (hpre 7 (by simp))
    have r30 : (putS a [23, 24, 25, 26, 27, 28, 29, 30, 31, 8] v).eval (.tmp 30) = _ := (eval_in 7 hnd rfl (by omega)).trans e7
    obtain ⟨k', hk', hJ'⟩ := hg.get
    obtain ⟨D, ⟨xk, xn, xv, xl⟩, T, e2, hD⟩ := split1 bs y (by omega)
    have hrow := hJ'.bin.1
    have hxin := hJ'.bin.2 ⟨xk, xn, xv, xl⟩ (by rw [e2]; simp)
    obtain ⟨xa, xc, exv⟩ := hxin.1.form
    simp only at exv
    subst exv
    rw [hn, e2] at hrow
    obtain ⟨b', off', eb, d0, d1, d2⟩ := hrow.block
    cases eb
    simp only [hD] at d0 d1 d2
    generalize xl.length = nl at *
    have he : execOp (putS a [23, 24, 25, 26, 27, 28, 29, 30, 31, 8] v).eval opg4_8 = execOp (Act.eval ⟨#[undef], []⟩) ⟨some 0, .load 46 (.const (.pointer (some ⟨b0, off + y * 3, none⟩))), 0, "", #[], none⟩ := by simp only [execOp, eval_const, opg4_8, r30]
    refine Lid.mk ?_
    unfold Oper.wp
    rw [he]
    clear he
    go_simp
    exact hK.out _ _ (InvG.next hv 8 (.agg #[.string xk, .string xn, .slice xa nl xc]) (put_in 8 hnd rfl) (G4F.keep (KeepP.refl _ _)) ⟨_, _, _, _, _, rfl⟩ (hg.keep (by decide) fun _ h => h))
  case o9 =>
    rintro Q' L _ W h0L hpre ⟨v, rfl, hv, hg⟩ K hK
    obtain ⟨k', hk', hJ'⟩ := hg.get
    have hSl : S < W.heap.size := (Array.getElem?_eq_some_iff.1 hJ'.sb).1
    have he : execOp (putS a [23, 24, 25, 26, 27, 28, 29, 30, 31, 8] v).eval opg4_9 = execOp (Act.eval ⟨#[undef], []⟩) ⟨some 0, .alloc 46, 0, "", #[], none⟩ := by kernel_rfl
    refine Lid.mk ?_
    unfold Oper.wp
    rw [he]
    clear he
    go_simp
    exact hK.out _ _ (InvG.next hv 9 (.pointer (some ⟨W.heap.size, 0, none⟩)) (put_in 9 hnd rfl) (G4F.keep (KeepP.alloc _ _ _)) ⟨_, rfl, alloc_here _ _, hJ'.rd.lt, hSl, hJ'.bin.fresh (Nat.le_refl _)⟩ (hg.keep (by decide) fun _ h => h.below ((Below.refl _ _).alloc (Nat.le_refl _) _)))
  case o10 =>
    rintro Q' L _ W h0L hpre ⟨v, rfl, hv, hg⟩ K hK
    obtain ⟨R, e9, hz, hpR, hSR, hfR⟩ := hv 9 (hpre 9 (by simp))
    obtain ⟨kind, name, ba, m, c, e8⟩ := hv 8 (hpre 8 (by simp))
    have r8 : (putS a [23, 24, 25, 26, 27, 28, 29, 30, 31, 8] v).eval (.tmp 8) = _ := (eval_in 9 hnd rfl (by omega)).trans e9
    have r31 : (putS a [23, 24, 25, 26, 27, 28, 29, 30, 31, 8] v).eval (.tmp 31) = _ := (eval_in 8 hnd rfl (by omega)).trans e8
    obtain ⟨k', hk', hJ'⟩ := hg.get
    have g0 := cell_of_block hz 0
    have g1 := cell_of_block hz 1
    have g2 := cell_of_block hz 2
    simp only [List.getElem?_toArray, List.getElem?_cons_zero, List.getElem?_cons_succ] at g0 g1 g2
    have f0 := frozen_of_block hz 0
    have f1 := frozen_of_block hz 1
    have f2 := frozen_of_block hz 2
    have HT := hid_in (hJ'.turn (grown_trans (grown_setCell W R 0 (.string kind)) (grown_trans (grown_setCell _ R 1 (.string name)) (grown_setCell _ R 2 (.slice ba m c)))) hSR hfR)
    have HZ := hid_in (show (((W.setCell ⟨R, 0, none⟩ (.string kind)).setCell ⟨R, 1, none⟩ (.string name)).setCell ⟨R, 2, none⟩ (.slice ba m c)).heap[R]? = some (.cells #[.string kind, .string name, .slice ba m c] 46 (0, 0)) from by
      have z1 : (W.setCell ⟨R, 0, none⟩ (.string kind)).heap[R]? = some (.cells #[.string kind, .string ⟨#[]⟩, .slice none 0 0] 46 (0, 0)) := by rw [heap_setCell_same W R 0 _ _ _ hz]; rfl
      have z2 : ((W.setCell ⟨R, 0, none⟩ (.string kind)).setCell ⟨R, 1, none⟩ (.string name)).heap[R]? = some (.cells #[.string kind, .string name, .slice none 0 0] 46 (0, 0)) := by rw [heap_setCell_same _ R 1 _ _ _ z1]; rfl
      rw [heap_setCell_same _ R 2 _ _ _ z2]; rfl)
    have he : execOp (putS a [23, 24, 25, 26, 27, 28, 29, 30, 31, 8] v).eval opg4_10 = execOp (Act.eval ⟨#[undef], []⟩) ⟨some 0, .store 46 (.const (.pointer (some ⟨R, 0, none⟩))) (.const (.agg #[.string kind, .string name, .slice ba m c])), 0, "", #[], none⟩ := by simp only [execOp, eval_const, opg4_10, r8, r31]
    refine Lid.mk ?_
    unfold Oper.wp
    rw [he]
    clear he
    go_simp
    exact hK.out _ _ (NoPanic.normal (hQ v R kind name ba m c k' _ _ rfl e9 hk' HT.out HZ.out hSR))
/-- The answer's box holds rv, the sheet where operation m is done. -/
def GtG (m : Nat) (sv : Value) (J : Value → (Nat → Bool) → World → Prop) (L : Nat → Bool) (W : World) : Prop := ∃ rv, (L m = true → rv = sv) ∧ J rv L W
theorem GtG.keep {m i : Nat} {sv : Value} {J : Value → (Nat → Bool) → World → Prop} {L : Nat → Bool} {W W' : World} (h : GtG m sv J L W) (hi : i ≠ m) (hJ : ∀ rv, J rv L W → J rv (upd L i) W') : GtG m sv J (upd L i) W' := by
  obtain ⟨rv, h1, h2⟩ := h
  exact ⟨rv, by simpa [upd, Ne.symm hi] using h1, hJ rv h2⟩
theorem GtG.fin {m : Nat} {sv : Value} {J : Value → (Nat → Bool) → World → Prop} {L : Nat → Bool} {W : World} (h : GtG m sv J L W) (hm : L m = true) : J sv L W := by
  obtain ⟨rv, h1, h2⟩ := h
  rw [← h1 hm]; exact h2
def G8F (R : Nat) (sv : Value) (kind name : ByteArray) (i : Nat) (x : Value) : Prop := match i with
  | 0 => x = .agg #[sv]
  | 1 => x = .pointer (some ⟨R, 0, none⟩)
  | 2 => x = .string kind
  | 3 => x = .pointer (some ⟨R, 1, none⟩)
  | 4 => x = .string name
  | 6 => x = .string kind
  | 7 => x = .string name
  | _ => True
set_option maxHeartbeats 2000000 in
set_option maxRecDepth 10000 in
theorem regionG8 {Q : Exit → Act → World → Prop} {a : Act} {W0 w : World} {p S R kk n sc m c : Nat} {sa ba : Option Addr} {kind name : ByteArray} {bs : List BAt} (hJ : GtS w p S (.slice none 0 0) (.slice sa n sc) bs kk W0) (hR : W0.heap[R]? = some (.cells #[.string kind, .string name, .slice ba m c] 46 (0, 0))) (hSR : S < R) (h2 : a.eval (.tmp 2) = .pointer (some ⟨w.heap.size, 0, none⟩)) (h7 : a.eval (.tmp 7) = (.pointer (some ⟨S, 0, none⟩))) (h8 : a.eval (.tmp 8) = .pointer (some ⟨R, 0, none⟩)) (hsz : a.tmps.size = 62)
    (hQ : ∀ v W' a', a' = putS a [56, 57, 58, 59, 60, 62, 3, 4, 5] v → v 6 = .string kind → v 7 = .string name → v 8 = .string ⟨#[110, 111, 110, 101]⟩ → GtF w (.slice sa n sc) bs W' → Q .normal a' W') : (Code.region 8 opsg8.toArray true).wp Tryz.prog Q a W0 := by
  have hnd : ([56, 57, 58, 59, 60, 62, 3, 4, 5] : List Nat).Nodup := by decide
  refine wp_region_invS0 [56, 57, 58, 59, 60, 62, 3, 4, 5] (fun i x _ => G8F R (.slice sa n sc) kind name i x) (GtG 5 (.slice sa n sc) (fun rv _ W => GtS w p S rv (.slice sa n sc) bs kk W ∧ W.heap[R]? = some (.cells #[.string kind, .string name, .slice ba m c] 46 (0, 0)))) 8 9 [0, 1, 2, 3, 4, 5, 6, 7, 8] (by kernel_rfl) rfl (by decide) (by kernel_rfl) ?h1 ⟨_, (fun h => by cases h), hJ.below (Below.refl _ _).drew, hR⟩ ?hall
  case h1 =>
    intro i x W hi
    unfold G8F
    split <;> first | omega | trivial
  refine AllInv.consQ (o := opg8_0) [] (by kernel_rfl) (by decide) (by kernel_rfl) rfl ?o0 (AllInv.consQ (o := opg8_1) [] (by kernel_rfl) (by decide) (by kernel_rfl) rfl ?o1 (AllInv.consQ (o := opg8_2) [1] (by kernel_rfl) (by decide) (by kernel_rfl) rfl ?o2 (AllInv.consQ (o := opg8_3) [] (by kernel_rfl) (by decide) (by kernel_rfl) rfl ?o3 (AllInv.consQ (o := opg8_4) [3] (by kernel_rfl) (by decide) (by kernel_rfl) rfl ?o4 (AllInv.consQ (o := opg8_5) [0, 0] (by kernel_rfl) (by decide) (by kernel_rfl) rfl ?o5 (AllInv.consQ (o := opg8_6) [2, 5, 0, 1, 2, 5] (by kernel_rfl) (by decide) (by kernel_rfl) rfl ?o6 (AllInv.consQ (o := opg8_7) [4, 6, 0, 1, 2, 3, 4, 5, 6] (by kernel_rfl) (by decide) (by kernel_rfl) rfl ?o7 (AllInv.lastQ (o := opg8_8) [7, 0, 1, 2, 3, 4, 5, 6, 7] (by kernel_rfl) (by kernel_rfl) rfl ?o8))))))))
  case o0 =>
    rintro Q' L _ W h0L hpre ⟨v, rfl, hv, hg⟩ K hK
    obtain ⟨rv, hrv, hJ'⟩ := id hg
    have cs := cell_of_block hJ'.1.sb 0
    simp only [List.getElem?_toArray, List.getElem?_cons_zero] at cs
    have r7 := (eval_out (v := v) (show 7 ∉ ([56, 57, 58, 59, 60, 62, 3, 4, 5] : List Nat) by decide)).trans h7
    have he : execOp (putS a [56, 57, 58, 59, 60, 62, 3, 4, 5] v).eval opg8_0 = execOp (Act.eval ⟨#[undef], []⟩) ⟨some 0, .load 25 (.const (.pointer (some ⟨S, 0, none⟩))), 0, "", #[], none⟩ := by simp only [execOp, eval_const, opg8_0, r7]
    refine Lid.mk ?_
    unfold Oper.wp
    rw [he]
    clear he
    go_simp
    exact hK.out _ _ (InvG.next (W := W) hv 0 (.agg #[.slice sa n sc]) (put_in 0 hnd rfl) (fun _ _ h => h) rfl (hg.keep (by decide) fun _ h => h))
  case o1 =>
    rintro Q' L _ W h0L hpre ⟨v, rfl, hv, hg⟩ K hK
    have r8 := (eval_out (v := v) (show 8 ∉ ([56, 57, 58, 59, 60, 62, 3, 4, 5] : List Nat) by decide)).trans h8
    have he : execOp (putS a [56, 57, 58, 59, 60, 62, 3, 4, 5] v).eval opg8_1 = execOp (Act.eval ⟨#[undef], []⟩) ⟨some 0, .fieldAddr 46 (.const (.pointer (some ⟨R, 0, none⟩))) 0, 0, "", #[], none⟩ := by simp only [execOp, eval_const, opg8_1, r8]
    refine Lid.mk ?_
    unfold Oper.wp
    rw [he]
    clear he
    go_simp
    exact hK.out _ _ (InvG.next (W := W) hv 1 (.pointer (some ⟨R, 0, none⟩)) (put_in 1 hnd rfl) (fun _ _ h => h) rfl (hg.keep (by decide) fun _ h => h))
  case o2 =>
    rintro Q' L _ W h0L hpre ⟨v, rfl, hv, hg⟩ K hK
    obtain ⟨rv, hrv, hJ'⟩ := id hg
    have cb := cell_of_block hJ'.2 0
    simp only [List.getElem?_toArray, List.getElem?_cons_zero] at cb
    have r57 : (putS a [56, 57, 58, 59, 60, 62, 3, 4, 5] v).eval (.tmp 57) = _ := (eval_in 1 hnd rfl (by omega)).trans (hv 1 (hpre 1 (by simp)))
    have he : execOp (putS a [56, 57, 58, 59, 60, 62, 3, 4, 5] v).eval opg8_2 = execOp (Act.eval ⟨#[undef], []⟩) ⟨some 0, .load 9 (.const (.pointer (some ⟨R, 0, none⟩))), 0, "", #[], none⟩ := by simp only [execOp, eval_const, opg8_2, r57]
    refine Lid.mk ?_
    unfold Oper.wp
    rw [he]
    clear he
    go_simp
    exact hK.out _ _ (InvG.next (W := W) hv 2 (.string kind) (put_in 2 hnd rfl) (fun _ _ h => h) rfl (hg.keep (by decide) fun _ h => h))
  case o3 =>
    rintro Q' L _ W h0L hpre ⟨v, rfl, hv, hg⟩ K hK
    have r8 := (eval_out (v := v) (show 8 ∉ ([56, 57, 58, 59, 60, 62, 3, 4, 5] : List Nat) by decide)).trans h8
    have he : execOp (putS a [56, 57, 58, 59, 60, 62, 3, 4, 5] v).eval opg8_3 = execOp (Act.eval ⟨#[undef], []⟩) ⟨some 0, .fieldAddr 46 (.const (.pointer (some ⟨R, 0, none⟩))) 1, 0, "", #[], none⟩ := by simp only [execOp, eval_const, opg8_3, r8]
    refine Lid.mk ?_
    unfold Oper.wp
    rw [he]
    clear he
    go_simp
    exact hK.out _ _ (InvG.next (W := W) hv 3 (.pointer (some ⟨R, 1, none⟩)) (put_in 3 hnd rfl) (fun _ _ h => h) rfl (hg.keep (by decide) fun _ h => h))
  case o4 =>
    rintro Q' L _ W h0L hpre ⟨v, rfl, hv, hg⟩ K hK
    obtain ⟨rv, hrv, hJ'⟩ := id hg
    have cb := cell_of_block hJ'.2 1
    simp only [List.getElem?_toArray, List.getElem?_cons_zero, List.getElem?_cons_succ] at cb
    have r59 : (putS a [56, 57, 58, 59, 60, 62, 3, 4, 5] v).eval (.tmp 59) = _ := (eval_in 3 hnd rfl (by omega)).trans (hv 3 (hpre 3 (by simp)))
    have he : execOp (putS a [56, 57, 58, 59, 60, 62, 3, 4, 5] v).eval opg8_4 = execOp (Act.eval ⟨#[undef], []⟩) ⟨some 0, .load 9 (.const (.pointer (some ⟨R, 1, none⟩))), 0, "", #[], none⟩ := by simp only [execOp, eval_const, opg8_4, r59]
    refine Lid.mk ?_
    unfold Oper.wp
    rw [he]
    clear he
    go_simp
    exact hK.out _ _ (InvG.next (W := W) hv 4 (.string name) (put_in 4 hnd rfl) (fun _ _ h => h) rfl (hg.keep (by decide) fun _ h => h))
  case o5 =>
    rintro Q' L _ W h0L hpre ⟨v, rfl, hv, hg⟩ K hK
    obtain ⟨rv, hrv, hJ'⟩ := id hg
    have cr := cell_of_block hJ'.1.res 0
    have fr := frozen_of_block hJ'.1.res 0
    simp only [List.getElem?_toArray, List.getElem?_cons_zero] at cr
    have HF := hid_in hJ'.1.store
    have HR := hid_in ((grown_setCell W w.heap.size 0 (.slice sa n sc)).block R (Array.getElem?_eq_some_iff.1 hJ'.2).1 (by intro e; have := Option.some.inj e; have := hJ'.1.wp; have := hJ'.1.pS; omega) |>.trans hJ'.2)
    have r2 := (eval_out (v := v) (show 2 ∉ ([56, 57, 58, 59, 60, 62, 3, 4, 5] : List Nat) by decide)).trans h2
    have r56 : (putS a [56, 57, 58, 59, 60, 62, 3, 4, 5] v).eval (.tmp 56) = _ := (eval_in 0 hnd rfl (by omega)).trans (hv 0 (hpre 0 (by simp)))
    have he : execOp (putS a [56, 57, 58, 59, 60, 62, 3, 4, 5] v).eval opg8_5 = execOp (Act.eval ⟨#[undef], []⟩) ⟨some 0, .store 25 (.const (.pointer (some ⟨w.heap.size, 0, none⟩))) (.const (.agg #[.slice sa n sc])), 0, "", #[], none⟩ := by simp only [execOp, eval_const, opg8_5, r2, r56]
    refine Lid.mk ?_
    unfold Oper.wp
    rw [he]
    clear he
    go_simp
    exact hK.out _ _ (InvG.next (W := W) hv 5 undef (put_out 5 hnd rfl (by omega)) (fun _ _ h => h) trivial ⟨_, fun _ => rfl, HF.out, HR.out⟩)
  case o6 =>
    rintro Q' L _ W h0L hpre ⟨v, rfl, hv, hg⟩ K hK
    have r58 : (putS a [56, 57, 58, 59, 60, 62, 3, 4, 5] v).eval (.tmp 58) = _ := (eval_in 2 hnd rfl (by omega)).trans (hv 2 (hpre 2 (by simp)))
    have he : execOp (putS a [56, 57, 58, 59, 60, 62, 3, 4, 5] v).eval opg8_6 = execOp (Act.eval ⟨#[undef], []⟩) ⟨some 0, .assign (.const (.string kind)), 0, "", #[], none⟩ := by simp only [execOp, eval_const, opg8_6, r58]
    refine Lid.mk ?_
    unfold Oper.wp
    rw [he]
    clear he
    go_simp
    exact hK.out _ _ (InvG.next (W := W) hv 6 (.string kind) (put_in 6 hnd rfl) (fun _ _ h => h) rfl (hg.keep (by decide) fun _ h => h))
  case o7 =>
    rintro Q' L _ W h0L hpre ⟨v, rfl, hv, hg⟩ K hK
    have r60 : (putS a [56, 57, 58, 59, 60, 62, 3, 4, 5] v).eval (.tmp 60) = _ := (eval_in 4 hnd rfl (by omega)).trans (hv 4 (hpre 4 (by simp)))
    have he : execOp (putS a [56, 57, 58, 59, 60, 62, 3, 4, 5] v).eval opg8_7 = execOp (Act.eval ⟨#[undef], []⟩) ⟨some 0, .assign (.const (.string name)), 0, "", #[], none⟩ := by simp only [execOp, eval_const, opg8_7, r60]
    refine Lid.mk ?_
    unfold Oper.wp
    rw [he]
    clear he
    go_simp
    exact hK.out _ _ (InvG.next (W := W) hv 7 (.string name) (put_in 7 hnd rfl) (fun _ _ h => h) rfl (hg.keep (by decide) fun _ h => h))
  case o8 =>
    rintro Q' L _ W h0L hpre ⟨v, rfl, hv, hg⟩ K hK
    have he : execOp (putS a [56, 57, 58, 59, 60, 62, 3, 4, 5] v).eval opg8_8 = execOp (Act.eval ⟨#[undef], []⟩) ⟨some 0, .assign (.const (.string ⟨#[110, 111, 110, 101]⟩)), 0, "", #[], none⟩ := by kernel_rfl
    refine Lid.mk ?_
    unfold Oper.wp
    rw [he]
    clear he
    go_simp
    refine hK.out _ _ (NoPanic.normal (hQ (fun j => if j = 8 then .string ⟨#[110, 111, 110, 101]⟩ else v j) W _ (put_in 8 hnd rfl) ?_ ?_ rfl (hg.fin (hpre 5 (by simp))).1.fin))
    · exact hv 6 (hpre 6 (by simp))
    · exact hv 7 (hpre 7 (by simp))
def G7F (R p gr nR rc : Nat) (sv : Value) (kind name : ByteArray) (i : Nat) (x : Value) : Prop := match i with
  | 0 => x = .agg #[sv]
  | 1 => x = .pointer (some ⟨R, 0, none⟩)
  | 2 => x = .string kind
  | 3 => x = .pointer (some ⟨R, 1, none⟩)
  | 4 => x = .string name
  | 5 => x = .slice (some ⟨gr, 0, none⟩) nR rc
  | 6 => x = .pointer (some ⟨p, 0, none⟩)
  | 7 => x = .slice (some ⟨gr, 0, none⟩) nR rc
  | 8 => x = .int .i64 (nR : Int)
  | 9 => ∃ y : Nat, y < nR ∧ x = .int .i64 (y : Int)
  | 10 => ∃ y : Nat, y < nR ∧ x = .pointer (some ⟨gr, y * 4, none⟩)
  | 11 => ∃ y : Nat, y < nR ∧ x = .pointer (some ⟨gr, y * 4, none⟩)
  | 12 => ∃ u, x = .string u
  | 14 => x = .string kind
  | 15 => x = .string name
  | _ => True
set_option maxHeartbeats 2000000 in
set_option maxRecDepth 10000 in
theorem regionG7 {Q : Exit → Act → World → Prop} {a : Act} {W0 w : World} {p S R kk n sc m c gr nR rc B2 : Nat} {sa ba : Option Addr} {kind name : ByteArray} {bs : List BAt} {LR : List RAt} (hJ : GtS w p S (.slice none 0 0) (.slice sa n sc) bs kk W0) (hR : W0.heap[R]? = some (.cells #[.string kind, .string name, .slice ba m c] 46 (0, 0))) (hSR : S < R) (hL : RulesAt B2 W0 (.slice (some ⟨gr, 0, none⟩) nR rc) LR) (hLn : LR.length = nR) (hB2 : p < B2) (h1n : 1 ≤ nR) (hn2 : nR ≤ 1000) (hk : kk ≤ 900000) (h2 : a.eval (.tmp 2) = .pointer (some ⟨w.heap.size, 0, none⟩)) (h6 : a.eval (.tmp 6) = (.pointer (some ⟨p, 0, none⟩))) (h7 : a.eval (.tmp 7) = (.pointer (some ⟨S, 0, none⟩))) (h8 : a.eval (.tmp 8) = .pointer (some ⟨R, 0, none⟩)) (h9 : a.eval (.tmp 9) = (.slice (some ⟨gr, 0, none⟩) nR rc)) (hsz : a.tmps.size = 62)
    (hQ : ∀ v u W' a', a' = putS a [43, 44, 45, 46, 47, 48, 49, 50, 51, 52, 53, 54, 55, 62, 3, 4, 5] v → v 14 = .string kind → v 15 = .string name → v 16 = .string u → GtF w (.slice sa n sc) bs W' → Q .normal a' W') : (Code.region 7 opsg7.toArray true).wp Tryz.prog Q a W0 := by
  have hnd : ([43, 44, 45, 46, 47, 48, 49, 50, 51, 52, 53, 54, 55, 62, 3, 4, 5] : List Nat).Nodup := by decide
  have hpR : p < R := Nat.lt_trans hJ.pS hSR
  refine wp_region_invS0 [43, 44, 45, 46, 47, 48, 49, 50, 51, 52, 53, 54, 55, 62, 3, 4, 5] (fun i x _ => G7F R p gr nR rc (.slice sa n sc) kind name i x) (GtG 13 (.slice sa n sc) (fun rv => SpG (fun kk W => GtS w p S rv (.slice sa n sc) bs kk W ∧ W.heap[R]? = some (.cells #[.string kind, .string name, .slice ba m c] 46 (0, 0)) ∧ RulesAt B2 W (.slice (some ⟨gr, 0, none⟩) nR rc) LR) 9 kk 1)) 16 17 [0, 1, 2, 3, 4, 5, 6, 7, 8, 9, 10, 11, 12, 13, 14, 15, 16] (by kernel_rfl) rfl (by decide) (by kernel_rfl) ?h1 ⟨_, (fun h => by cases h), _, Nat.le_refl _, hJ.below (Below.refl _ _).drew, hR, Mem.below hL (Below.refl _ _).drew⟩ ?hall
  case h1 =>
    intro i x W hi
    unfold G7F
    split <;> first | omega | trivial
  refine AllInv.consQ (o := opg7_0) [] (by kernel_rfl) (by decide) (by kernel_rfl) rfl ?o0 (AllInv.consQ (o := opg7_1) [] (by kernel_rfl) (by decide) (by kernel_rfl) rfl ?o1 (AllInv.consQ (o := opg7_2) [1] (by kernel_rfl) (by decide) (by kernel_rfl) rfl ?o2 (AllInv.consQ (o := opg7_3) [] (by kernel_rfl) (by decide) (by kernel_rfl) rfl ?o3 (AllInv.consQ (o := opg7_4) [3] (by kernel_rfl) (by decide) (by kernel_rfl) rfl ?o4 (AllInv.consQ (o := opg7_5) [] (by kernel_rfl) (by decide) (by kernel_rfl) rfl ?o5 (AllInv.consQ (o := opg7_6) [] (by kernel_rfl) (by decide) (by kernel_rfl) rfl ?o6 (AllInv.consQ (o := opg7_7) [] (by kernel_rfl) (by decide) (by kernel_rfl) rfl ?o7 (AllInv.consQ (o := opg7_8) [7] (by kernel_rfl) (by decide) (by kernel_rfl) rfl ?o8 (AllInv.consQ (o := opg7_9) [6, 8] (by kernel_rfl) (by decide) (by kernel_rfl) rfl ?o9 (AllInv.consQ (o := opg7_10) [5, 9] (by kernel_rfl) (by decide) (by kernel_rfl) rfl ?o10 (AllInv.consQ (o := opg7_11) [10] (by kernel_rfl) (by decide) (by kernel_rfl) rfl ?o11 (AllInv.consQ (o := opg7_12) [11] (by kernel_rfl) (by decide) (by kernel_rfl) rfl ?o12 (AllInv.consQ (o := opg7_13) [0, 9, 0] (by kernel_rfl) (by decide) (by kernel_rfl) rfl ?o13 (AllInv.consQ (o := opg7_14) [2, 13, 0, 1, 2, 13] (by kernel_rfl) (by decide) (by kernel_rfl) rfl ?o14 (AllInv.consQ (o := opg7_15) [4, 14, 0, 1, 2, 3, 4, 13, 14] (by kernel_rfl) (by decide) (by kernel_rfl) rfl ?o15 (AllInv.lastQ (o := opg7_16) [12, 15, 0, 1, 2, 3, 4, 5, 6, 7, 8, 9, 10, 11, 12, 13, 14, 15] (by kernel_rfl) (by kernel_rfl) rfl ?o16))))))))))))))))
  case o0 =>
    rintro Q' L _ W h0L hpre ⟨v, rfl, hv, hg⟩ K hK
    obtain ⟨rv, hrv, hsp⟩ := id hg
    obtain ⟨k', hk', hJ', hR', hL'⟩ := hsp.get
    have cs := cell_of_block hJ'.sb 0
    simp only [List.getElem?_toArray, List.getElem?_cons_zero] at cs
    have r7 := (eval_out (v := v) (show 7 ∉ ([43, 44, 45, 46, 47, 48, 49, 50, 51, 52, 53, 54, 55, 62, 3, 4, 5] : List Nat) by decide)).trans h7
    have he : execOp (putS a [43, 44, 45, 46, 47, 48, 49, 50, 51, 52, 53, 54, 55, 62, 3, 4, 5] v).eval opg7_0 = execOp (Act.eval ⟨#[undef], []⟩) ⟨some 0, .load 25 (.const (.pointer (some ⟨S, 0, none⟩))), 0, "", #[], none⟩ := by simp only [execOp, eval_const, opg7_0, r7]
    refine Lid.mk ?_
    unfold Oper.wp
    rw [he]
    clear he
    go_simp
    exact hK.out _ _ (InvG.next (W := W) hv 0 (.agg #[.slice sa n sc]) (put_in 0 hnd rfl) (fun _ _ h => h) rfl (hg.keep (by decide) fun _ h => SpG.keep h (by decide) fun _ h => h))
  case o1 =>
    rintro Q' L _ W h0L hpre ⟨v, rfl, hv, hg⟩ K hK
    have r8 := (eval_out (v := v) (show 8 ∉ ([43, 44, 45, 46, 47, 48, 49, 50, 51, 52, 53, 54, 55, 62, 3, 4, 5] : List Nat) by decide)).trans h8
    have he : execOp (putS a [43, 44, 45, 46, 47, 48, 49, 50, 51, 52, 53, 54, 55, 62, 3, 4, 5] v).eval opg7_1 = execOp (Act.eval ⟨#[undef], []⟩) ⟨some 0, .fieldAddr 46 (.const (.pointer (some ⟨R, 0, none⟩))) 0, 0, "", #[], none⟩ := by simp only [execOp, eval_const, opg7_1, r8]
    refine Lid.mk ?_
    unfold Oper.wp
    rw [he]
    clear he
    go_simp
    exact hK.out _ _ (InvG.next (W := W) hv 1 (.pointer (some ⟨R, 0, none⟩)) (put_in 1 hnd rfl) (fun _ _ h => h) rfl (hg.keep (by decide) fun _ h => SpG.keep h (by decide) fun _ h => h))
  case o2 =>
    rintro Q' L _ W h0L hpre ⟨v, rfl, hv, hg⟩ K hK
    obtain ⟨rv, hrv, hsp⟩ := id hg
    obtain ⟨k', hk', hJ', hR', hL'⟩ := hsp.get
    have cb := cell_of_block hR' 0
    simp only [List.getElem?_toArray, List.getElem?_cons_zero] at cb
    have r44 : (putS a [43, 44, 45, 46, 47, 48, 49, 50, 51, 52, 53, 54, 55, 62, 3, 4, 5] v).eval (.tmp 44) = _ := (eval_in 1 hnd rfl (by omega)).trans (hv 1 (hpre 1 (by simp)))
    have he : execOp (putS a [43, 44, 45, 46, 47, 48, 49, 50, 51, 52, 53, 54, 55, 62, 3, 4, 5] v).eval opg7_2 = execOp (Act.eval ⟨#[undef], []⟩) ⟨some 0, .load 9 (.const (.pointer (some ⟨R, 0, none⟩))), 0, "", #[], none⟩ := by simp only [execOp, eval_const, opg7_2, r44]
    refine Lid.mk ?_
    unfold Oper.wp
    rw [he]
    clear he
    go_simp
    exact hK.out _ _ (InvG.next (W := W) hv 2 (.string kind) (put_in 2 hnd rfl) (fun _ _ h => h) rfl (hg.keep (by decide) fun _ h => SpG.keep h (by decide) fun _ h => h))
  case o3 =>
    rintro Q' L _ W h0L hpre ⟨v, rfl, hv, hg⟩ K hK
    have r8 := (eval_out (v := v) (show 8 ∉ ([43, 44, 45, 46, 47, 48, 49, 50, 51, 52, 53, 54, 55, 62, 3, 4, 5] : List Nat) by decide)).trans h8
    have he : execOp (putS a [43, 44, 45, 46, 47, 48, 49, 50, 51, 52, 53, 54, 55, 62, 3, 4, 5] v).eval opg7_3 = execOp (Act.eval ⟨#[undef], []⟩) ⟨some 0, .fieldAddr 46 (.const (.pointer (some ⟨R, 0, none⟩))) 1, 0, "", #[], none⟩ := by simp only [execOp, eval_const, opg7_3, r8]
    refine Lid.mk ?_
    unfold Oper.wp
    rw [he]
    clear he
    go_simp
    exact hK.out _ _ (InvG.next (W := W) hv 3 (.pointer (some ⟨R, 1, none⟩)) (put_in 3 hnd rfl) (fun _ _ h => h) rfl (hg.keep (by decide) fun _ h => SpG.keep h (by decide) fun _ h => h))
  case o4 =>
    rintro Q' L _ W h0L hpre ⟨v, rfl, hv, hg⟩ K hK
    obtain ⟨rv, hrv, hsp⟩ := id hg
    obtain ⟨k', hk', hJ', hR', hL'⟩ := hsp.get
    have cb := cell_of_block hR' 1
    simp only [List.getElem?_toArray, List.getElem?_cons_zero, List.getElem?_cons_succ] at cb
    have r46 : (putS a [43, 44, 45, 46, 47, 48, 49, 50, 51, 52, 53, 54, 55, 62, 3, 4, 5] v).eval (.tmp 46) = _ := (eval_in 3 hnd rfl (by omega)).trans (hv 3 (hpre 3 (by simp)))
    have he : execOp (putS a [43, 44, 45, 46, 47, 48, 49, 50, 51, 52, 53, 54, 55, 62, 3, 4, 5] v).eval opg7_4 = execOp (Act.eval ⟨#[undef], []⟩) ⟨some 0, .load 9 (.const (.pointer (some ⟨R, 1, none⟩))), 0, "", #[], none⟩ := by simp only [execOp, eval_const, opg7_4, r46]
    refine Lid.mk ?_
    unfold Oper.wp
    rw [he]
    clear he
    go_simp
    exact hK.out _ _ (InvG.next (W := W) hv 4 (.string name) (put_in 4 hnd rfl) (fun _ _ h => h) rfl (hg.keep (by decide) fun _ h => SpG.keep h (by decide) fun _ h => h))
  case o5 =>
    rintro Q' L _ W h0L hpre ⟨v, rfl, hv, hg⟩ K hK
    have r9 := (eval_out (v := v) (show 9 ∉ ([43, 44, 45, 46, 47, 48, 49, 50, 51, 52, 53, 54, 55, 62, 3, 4, 5] : List Nat) by decide)).trans h9
    have he : execOp (putS a [43, 44, 45, 46, 47, 48, 49, 50, 51, 52, 53, 54, 55, 62, 3, 4, 5] v).eval opg7_5 = execOp (Act.eval ⟨#[undef], []⟩) ⟨some 0, .move (.const (.slice (some ⟨gr, 0, none⟩) nR rc)), 0, "", #[], none⟩ := by simp only [execOp, eval_const, opg7_5, r9]
    refine Lid.mk ?_
    unfold Oper.wp
    rw [he]
    clear he
    go_simp
    exact hK.out _ _ (InvG.next (W := W) hv 5 (.slice (some ⟨gr, 0, none⟩) nR rc) (put_in 5 hnd rfl) (fun _ _ h => h) rfl (hg.keep (by decide) fun _ h => SpG.keep h (by decide) fun _ h => h))
  case o6 =>
    rintro Q' L _ W h0L hpre ⟨v, rfl, hv, hg⟩ K hK
    have r6 := (eval_out (v := v) (show 6 ∉ ([43, 44, 45, 46, 47, 48, 49, 50, 51, 52, 53, 54, 55, 62, 3, 4, 5] : List Nat) by decide)).trans h6
    have he : execOp (putS a [43, 44, 45, 46, 47, 48, 49, 50, 51, 52, 53, 54, 55, 62, 3, 4, 5] v).eval opg7_6 = execOp (Act.eval ⟨#[undef], []⟩) ⟨some 0, .move (.const (.pointer (some ⟨p, 0, none⟩))), 0, "", #[], none⟩ := by simp only [execOp, eval_const, opg7_6, r6]
    refine Lid.mk ?_
    unfold Oper.wp
    rw [he]
    clear he
    go_simp
    exact hK.out _ _ (InvG.next (W := W) hv 6 (.pointer (some ⟨p, 0, none⟩)) (put_in 6 hnd rfl) (fun _ _ h => h) rfl (hg.keep (by decide) fun _ h => SpG.keep h (by decide) fun _ h => h))
  case o7 =>
    rintro Q' L _ W h0L hpre ⟨v, rfl, hv, hg⟩ K hK
    have r9 := (eval_out (v := v) (show 9 ∉ ([43, 44, 45, 46, 47, 48, 49, 50, 51, 52, 53, 54, 55, 62, 3, 4, 5] : List Nat) by decide)).trans h9
    have he : execOp (putS a [43, 44, 45, 46, 47, 48, 49, 50, 51, 52, 53, 54, 55, 62, 3, 4, 5] v).eval opg7_7 = execOp (Act.eval ⟨#[undef], []⟩) ⟨some 0, .move (.const (.slice (some ⟨gr, 0, none⟩) nR rc)), 0, "", #[], none⟩ := by simp only [execOp, eval_const, opg7_7, r9]
    refine Lid.mk ?_
    unfold Oper.wp
    rw [he]
    clear he
    go_simp
    exact hK.out _ _ (InvG.next (W := W) hv 7 (.slice (some ⟨gr, 0, none⟩) nR rc) (put_in 7 hnd rfl) (fun _ _ h => h) rfl (hg.keep (by decide) fun _ h => SpG.keep h (by decide) fun _ h => h))
  case o8 =>
    rintro Q' L _ W h0L hpre ⟨v, rfl, hv, hg⟩ K hK
    have r50 : (putS a [43, 44, 45, 46, 47, 48, 49, 50, 51, 52, 53, 54, 55, 62, 3, 4, 5] v).eval (.tmp 50) = _ := (eval_in 7 hnd rfl (by omega)).trans (hv 7 (hpre 7 (by simp)))
    refine Lid.mk ?_
    unfold Oper.wp
    simp only [execOp, opg7_8, resolve, List.map_toArray, List.map_cons, List.map_nil, r50]
    go_simp
    exact hK.out _ _ (InvG.next (W := W) hv 8 (.int .i64 (nR : Int)) (put_in 8 hnd rfl) (fun _ _ h => h) rfl (hg.keep (by decide) fun _ h => SpG.keep h (by decide) fun _ h => h))
  case o9 =>
    rintro Q' L _ W h0L hpre ⟨v, rfl, hv, hg⟩ K hK
    have r49 : (putS a [43, 44, 45, 46, 47, 48, 49, 50, 51, 52, 53, 54, 55, 62, 3, 4, 5] v).eval (.tmp 49) = _ := (eval_in 6 hnd rfl (by omega)).trans (hv 6 (hpre 6 (by simp)))
    have r51 : (putS a [43, 44, 45, 46, 47, 48, 49, 50, 51, 52, 53, 54, 55, 62, 3, 4, 5] v).eval (.tmp 51) = _ := (eval_in 8 hnd rfl (by omega)).trans (hv 8 (hpre 8 (by simp)))
    obtain ⟨rv, hrv, hsp⟩ := id hg
    obtain ⟨k', hk', hJ', hR', hL'⟩ := hsp.get0 h0L
    have HP := pick_any w.heap.size p k' nR W hJ'.rd h1n hn2 (by omega)
    have he : execOp (putS a [43, 44, 45, 46, 47, 48, 49, 50, 51, 52, 53, 54, 55, 62, 3, 4, 5] v).eval opg7_9 = execOp (Act.eval ⟨#[undef], []⟩) ⟨some 0, .call { callee := .value (.func 44), args := #[.const (.pointer (some ⟨p, 0, none⟩)), .const (.int .i64 (nR : Int))], argTypes := #[65, 3] }, 0, "", #[], none⟩ := by simp only [execOp, eval_const, eval_func, opg7_9, resolve, List.map_toArray, List.map_cons, List.map_nil, r49, r51]
    refine Lid.mk ?_
    unfold Oper.wp
    rw [he]
    clear he
    go_simp
    refine HP.mono ?_
    rintro e W' ⟨y, hy, rfl, hr', hg'⟩
    exact hK.out _ _ (InvG.next (W := W) hv 9 (.int .i64 (y : Int)) (put_in 9 hnd rfl) (fun _ _ h => h) ⟨y, hy, rfl⟩ ⟨rv, by simpa [upd] using hrv, SpG.put hk' (Nat.le_refl _) ⟨hJ'.grown hg' hr', KeepP.grown hg' R _ hpR hR', Mem.other hL' hg' hB2⟩⟩)
  case o10 =>
    rintro Q' L _ W h0L hpre ⟨v, rfl, hv, hg⟩ K hK
    obtain ⟨y, hy, e9⟩ := hv 9 (hpre 9 (by simp))
    have r48 : (putS a [43, 44, 45, 46, 47, 48, 49, 50, 51, 52, 53, 54, 55, 62, 3, 4, 5] v).eval (.tmp 48) = _ := (eval_in 5 hnd rfl (by omega)).trans (hv 5 (hpre 5 (by simp)))
    have r52 : (putS a [43, 44, 45, 46, 47, 48, 49, 50, 51, 52, 53, 54, 55, 62, 3, 4, 5] v).eval (.tmp 52) = _ := (eval_in 9 hnd rfl (by omega)).trans e9
    have y0 : (0 : Int) ≤ (y : Int) := by omega
    have y3 : (y : Int) < (nR : Int) := by omega
    have he : execOp (putS a [43, 44, 45, 46, 47, 48, 49, 50, 51, 52, 53, 54, 55, 62, 3, 4, 5] v).eval opg7_10 = execOp (Act.eval ⟨#[undef], []⟩) ⟨some 0, .indexAddr 47 (.const (.slice (some ⟨gr, 0, none⟩) nR rc)) (.const (.int .i64 (y : Int))), 0, "", #[], none⟩ := by simp only [execOp, eval_const, opg7_10, r48, r52]
    refine Lid.mk ?_
    unfold Oper.wp
    rw [he]
    clear he
    go_simp
    exact hK.out _ _ (InvG.next (W := W) hv 10 (.pointer (some ⟨gr, y * 4, none⟩)) (put_in 10 hnd rfl) (fun _ _ h => h) ⟨y, hy, rfl⟩ (hg.keep (by decide) fun _ h => SpG.keep h (by decide) fun _ h => h))
  case o11 =>
    rintro Q' L _ W h0L hpre ⟨v, rfl, hv, hg⟩ K hK
    obtain ⟨y, hy, e10⟩ := hv 10 (hpre 10 (by simp))
    have r53 : (putS a [43, 44, 45, 46, 47, 48, 49, 50, 51, 52, 53, 54, 55, 62, 3, 4, 5] v).eval (.tmp 53) = _ := (eval_in 10 hnd rfl (by omega)).trans e10
    have he : execOp (putS a [43, 44, 45, 46, 47, 48, 49, 50, 51, 52, 53, 54, 55, 62, 3, 4, 5] v).eval opg7_11 = execOp (Act.eval ⟨#[undef], []⟩) ⟨some 0, .fieldAddr 54 (.const (.pointer (some ⟨gr, y * 4, none⟩))) 0, 0, "", #[], none⟩ := by simp only [execOp, eval_const, opg7_11, r53]
    refine Lid.mk ?_
    unfold Oper.wp
    rw [he]
    clear he
    go_simp
    exact hK.out _ _ (InvG.next (W := W) hv 11 (.pointer (some ⟨gr, y * 4, none⟩)) (put_in 11 hnd rfl) (fun _ _ h => h) ⟨y, hy, rfl⟩ (hg.keep (by decide) fun _ h => SpG.keep h (by decide) fun _ h => h))
  case o12 =>
    rintro Q' L _ W h0L hpre ⟨v, rfl, hv, hg⟩ K hK
    obtain ⟨y, hy, e11⟩ := hv 11 (hpre 11 (by simp))
    have r54 : (putS a [43, 44, 45, 46, 47, 48, 49, 50, 51, 52, 53, 54, 55, 62, 3, 4, 5] v).eval (.tmp 54) = _ := (eval_in 11 hnd rfl (by omega)).trans e11
    obtain ⟨rv, hrv, hsp⟩ := id hg
    obtain ⟨k', hk', hJ', hR', hL'⟩ := hsp.get
    obtain ⟨D, q, T, e2, hD⟩ := split1 LR y (by omega)
    rw [e2] at hL'
    have cq := hL'.rm.cell 0 (by decide)
    simp only [RAt.cells, List.getElem?_cons_zero, Nat.add_zero, hD] at cq
    have he : execOp (putS a [43, 44, 45, 46, 47, 48, 49, 50, 51, 52, 53, 54, 55, 62, 3, 4, 5] v).eval opg7_12 = execOp (Act.eval ⟨#[undef], []⟩) ⟨some 0, .load 9 (.const (.pointer (some ⟨gr, y * 4, none⟩))), 0, "", #[], none⟩ := by simp only [execOp, eval_const, opg7_12, r54]
    refine Lid.mk ?_
    unfold Oper.wp
    rw [he]
    clear he
    go_simp
    exact hK.out _ _ (InvG.next (W := W) hv 12 (.string q.key) (put_in 12 hnd rfl) (fun _ _ h => h) ⟨_, rfl⟩ (hg.keep (by decide) fun _ h => SpG.keep h (by decide) fun _ h => h))
  case o13 =>
    rintro Q' L _ W h0L hpre ⟨v, rfl, hv, hg⟩ K hK
    obtain ⟨rv, hrv, hsp⟩ := id hg
    obtain ⟨k', hk', hJ', hR', hL'⟩ := hsp
    have cr := cell_of_block hJ'.res 0
    have fr := frozen_of_block hJ'.res 0
    simp only [List.getElem?_toArray, List.getElem?_cons_zero] at cr
    have HF := hid_in hJ'.store
    have HR := hid_in ((grown_setCell W w.heap.size 0 (.slice sa n sc)).block R (Array.getElem?_eq_some_iff.1 hR').1 (by intro e; have := Option.some.inj e; have := hJ'.wp; have := hJ'.pS; omega) |>.trans hR')
    have HL := hid_in (Mem.setCell hL' ⟨w.heap.size, 0, none⟩ (by have := hJ'.wp; simp only; omega) (.slice sa n sc))
    have r2 := (eval_out (v := v) (show 2 ∉ ([43, 44, 45, 46, 47, 48, 49, 50, 51, 52, 53, 54, 55, 62, 3, 4, 5] : List Nat) by decide)).trans h2
    have r43 : (putS a [43, 44, 45, 46, 47, 48, 49, 50, 51, 52, 53, 54, 55, 62, 3, 4, 5] v).eval (.tmp 43) = _ := (eval_in 0 hnd rfl (by omega)).trans (hv 0 (hpre 0 (by simp)))
    have he : execOp (putS a [43, 44, 45, 46, 47, 48, 49, 50, 51, 52, 53, 54, 55, 62, 3, 4, 5] v).eval opg7_13 = execOp (Act.eval ⟨#[undef], []⟩) ⟨some 0, .store 25 (.const (.pointer (some ⟨w.heap.size, 0, none⟩))) (.const (.agg #[.slice sa n sc])), 0, "", #[], none⟩ := by simp only [execOp, eval_const, opg7_13, r2, r43]
    refine Lid.mk ?_
    unfold Oper.wp
    rw [he]
    clear he
    go_simp
    exact hK.out _ _ (InvG.next (W := W) hv 13 undef (put_out 13 hnd rfl (by omega)) (fun _ _ h => h) trivial ⟨_, fun _ => rfl, k', by simpa [upd] using hk', HF.out, HR.out, HL.out⟩)
  case o14 =>
    rintro Q' L _ W h0L hpre ⟨v, rfl, hv, hg⟩ K hK
    have r45 : (putS a [43, 44, 45, 46, 47, 48, 49, 50, 51, 52, 53, 54, 55, 62, 3, 4, 5] v).eval (.tmp 45) = _ := (eval_in 2 hnd rfl (by omega)).trans (hv 2 (hpre 2 (by simp)))
    have he : execOp (putS a [43, 44, 45, 46, 47, 48, 49, 50, 51, 52, 53, 54, 55, 62, 3, 4, 5] v).eval opg7_14 = execOp (Act.eval ⟨#[undef], []⟩) ⟨some 0, .assign (.const (.string kind)), 0, "", #[], none⟩ := by simp only [execOp, eval_const, opg7_14, r45]
    refine Lid.mk ?_
    unfold Oper.wp
    rw [he]
    clear he
    go_simp
    exact hK.out _ _ (InvG.next (W := W) hv 14 (.string kind) (put_in 14 hnd rfl) (fun _ _ h => h) rfl (hg.keep (by decide) fun _ h => SpG.keep h (by decide) fun _ h => h))
  case o15 =>
    rintro Q' L _ W h0L hpre ⟨v, rfl, hv, hg⟩ K hK
    have r47 : (putS a [43, 44, 45, 46, 47, 48, 49, 50, 51, 52, 53, 54, 55, 62, 3, 4, 5] v).eval (.tmp 47) = _ := (eval_in 4 hnd rfl (by omega)).trans (hv 4 (hpre 4 (by simp)))
    have he : execOp (putS a [43, 44, 45, 46, 47, 48, 49, 50, 51, 52, 53, 54, 55, 62, 3, 4, 5] v).eval opg7_15 = execOp (Act.eval ⟨#[undef], []⟩) ⟨some 0, .assign (.const (.string name)), 0, "", #[], none⟩ := by simp only [execOp, eval_const, opg7_15, r47]
    refine Lid.mk ?_
    unfold Oper.wp
    rw [he]
    clear he
    go_simp
    exact hK.out _ _ (InvG.next (W := W) hv 15 (.string name) (put_in 15 hnd rfl) (fun _ _ h => h) rfl (hg.keep (by decide) fun _ h => SpG.keep h (by decide) fun _ h => h))
  case o16 =>
    rintro Q' L _ W h0L hpre ⟨v, rfl, hv, hg⟩ K hK
    obtain ⟨u, e12⟩ := hv 12 (hpre 12 (by simp))
    have r55 : (putS a [43, 44, 45, 46, 47, 48, 49, 50, 51, 52, 53, 54, 55, 62, 3, 4, 5] v).eval (.tmp 55) = _ := (eval_in 12 hnd rfl (by omega)).trans e12
    have he : execOp (putS a [43, 44, 45, 46, 47, 48, 49, 50, 51, 52, 53, 54, 55, 62, 3, 4, 5] v).eval opg7_16 = execOp (Act.eval ⟨#[undef], []⟩) ⟨some 0, .assign (.const (.string u)), 0, "", #[], none⟩ := by simp only [execOp, eval_const, opg7_16, r55]
    refine Lid.mk ?_
    unfold Oper.wp
    rw [he]
    clear he
    go_simp
    refine hK.out _ _ (NoPanic.normal (hQ (fun j => if j = 16 then .string u else v j) u W _ (put_in 16 hnd rfl) ?_ ?_ rfl ?_))
    · exact hv 14 (hpre 14 (by simp))
    · exact hv 15 (hpre 15 (by simp))
    · obtain ⟨k', hk', hJ', _⟩ := (hg.fin (hpre 13 (by simp))).get
      exact hJ'.fin
end Go.Proofs.YtpdahhnjhggocaaGreatDoor
