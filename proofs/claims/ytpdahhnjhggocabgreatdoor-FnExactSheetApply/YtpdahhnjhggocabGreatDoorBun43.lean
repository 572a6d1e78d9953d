import Derived.Test.YtpdahhnjhggocabGreatDoorBun42
import Derived.Test.YtpdahhnjhggocabGreatDoorBun34
import Derived.Test.YtpdahhnjhggocabGreatDoorBun24
import Derived.Test.YtpdahhnjhggocabGreatDoorBun14
import Derived.Handy
namespace Go.Proofs.YtpdahhnjhggocabGreatDoor
open Go.RowKit
set_option maxHeartbeats 2000000 in
set_option maxRecDepth 100000 in
theorem head_any (k n : ByteArray) (w : World) : Calls Tryz.prog 328 #[.agg #[.string k, .string n]] w fun e w' => e = .returned (.agg #[.string k, .string n]) ∧ Below w.heap.size w w' := by
 go_enter Tryz.func328, Tryz.ntmps328
 go_wp2
 have g1 := alloc_here (w.alloc (.cells #[.string k, .string n] 124)) (.cells #[.string k, .string n] 124)
 rw [World.size_alloc] at g1
 have y0 := cell_of_block g1 0
 have y1 := cell_of_block g1 1
 simp only [List.getElem?_toArray, List.getElem?_cons_zero, List.getElem?_cons_succ] at y0 y1
 exact bodyPost_ret (v := .agg #[.string k, .string n]) (by simp [results, Tryz.results328, go_sem, y0, y1]) rfl ⟨rfl, ((Below.refl w.heap.size w).alloc (Nat.le_refl _) _).alloc (by simp) _⟩
def BlkAt (w : World) (g : Nat) (cs : Array Value) (T : TypeId) : Prop := w.heap[g]? = some (.cells cs T (0, 0))
theorem BlkAt.lt {w : World} {g : Nat} {cs : Array Value} {T : TypeId} (h : BlkAt w g cs T) : g < w.heap.size := (Array.getElem?_eq_some_iff.1 h).1
theorem BlkAt.below {w w' : World} {g : Nat} {cs : Array Value} {T : TypeId} (h : BlkAt w g cs T) (hb : Below w.heap.size w w') : BlkAt w' g cs T := (hb.block g h.lt).trans h
theorem BlkAt.new (w : World) (cs : Array Value) (T : TypeId) : BlkAt (w.alloc (.cells cs T)) w.heap.size cs T := alloc_here w _
theorem BlkAt.set {w : World} {g : Nat} {cs : Array Value} {T : TypeId} (h : BlkAt w g cs T) (i : Nat) (v : Value) : BlkAt (w.setCell ⟨g, i, none⟩ v) g (cs.setIfInBounds i v) T := heap_setCell_same w g i cs T v h
theorem BlkAt.other {w : World} {g q : Nat} {cs : Array Value} {T : TypeId} (h : BlkAt w g cs T) (i : Nat) (v : Value) (hq : g ≠ q) : BlkAt (w.setCell ⟨q, i, none⟩ v) g cs T := (heap_setCell_other w ⟨q, i, none⟩ g v hq).trans h
theorem ta_gone_gone (p : Value) (W : World) : (Instr.typeAssert (.iface 217 p) 136 217 true).run Tryz.prog W = .ok (.tuple #[p, .bool true]) W := by kernel_rfl
theorem ta_new_new (p : Value) (W : World) : (Instr.typeAssert (.iface 220 p) 136 220 true).run Tryz.prog W = .ok (.tuple #[p, .bool true]) W := by kernel_rfl
theorem ta_set_gone (p : Value) (W : World) : (Instr.typeAssert (.iface 223 p) 136 217 true).run Tryz.prog W = .ok (.tuple #[.agg #[.string ⟨#[]⟩, .string ⟨#[]⟩], .bool false]) W := by kernel_rfl
theorem ta_set_new (p : Value) (W : World) : (Instr.typeAssert (.iface 223 p) 136 220 true).run Tryz.prog W = .ok (.tuple #[.agg #[.string ⟨#[]⟩, .string ⟨#[]⟩, .slice none 0 0], .bool false]) W := by kernel_rfl
theorem ta_set_set (p : Value) (W : World) : (Instr.typeAssert (.iface 223 p) 136 223 true).run Tryz.prog W = .ok (.tuple #[p, .bool true]) W := by kernel_rfl
theorem ta_unset_gone (p : Value) (W : World) : (Instr.typeAssert (.iface 225 p) 136 217 true).run Tryz.prog W = .ok (.tuple #[.agg #[.string ⟨#[]⟩, .string ⟨#[]⟩], .bool false]) W := by kernel_rfl
theorem ta_unset_new (p : Value) (W : World) : (Instr.typeAssert (.iface 225 p) 136 220 true).run Tryz.prog W = .ok (.tuple #[.agg #[.string ⟨#[]⟩, .string ⟨#[]⟩, .slice none 0 0], .bool false]) W := by kernel_rfl
theorem ta_unset_set (p : Value) (W : World) : (Instr.typeAssert (.iface 225 p) 136 223 true).run Tryz.prog W = .ok (.tuple #[.agg #[.string ⟨#[]⟩, .string ⟨#[]⟩, .string ⟨#[]⟩, .slice none 0 0], .bool false]) W := by kernel_rfl
theorem ta_unset_unset (p : Value) (W : World) : (Instr.typeAssert (.iface 225 p) 136 225 true).run Tryz.prog W = .ok (.tuple #[p, .bool true]) W := by kernel_rfl
end Go.Proofs.YtpdahhnjhggocabGreatDoor
namespace Go.Proofs.YtpdahhnjhggocabGreatDoor
open Go.RowKit
def CAt.step (c : CAt) : Value :=
 if c.what = 1 then .iface 217 (.agg #[.string c.kind, .string c.name])
 else if c.what = 2 then .iface 220 (.agg #[.string c.kind, .string c.name, c.v])
 else if c.what = 3 then .iface 223 (.agg #[.string c.kind, .string c.name, .string c.key, c.v])
 else .iface 225 (.agg #[.string c.kind, .string c.name, .string c.key])
def StepIn (w : World) (c : CAt) : Prop := (c.what = 1 ∧ c.key = ⟨#[]⟩ ∧ c.ls = []) ∨ (c.what = 2 ∧ c.key = ⟨#[]⟩ ∧ LinesIn w c.v c.ls) ∨ (c.what = 3 ∧ LinesIn w c.v c.ls) ∨ (c.what = 4 ∧ c.ls = [])
def CAt.own (c : CAt) : List MRow := if c.what = 3 then [⟨c.v, 82, 2, c.ls.length, c.ls.flatMap LAt.cells⟩] else []
theorem StepIn.below {w w' : World} {c : CAt} (h : StepIn w c) (hb : Below w.heap.size w w') : StepIn w' c := by
 rcases h with h | ⟨h1, h2, h3⟩ | ⟨h1, h3⟩ | h
 ·exact .inl h
 ·exact .inr (.inl ⟨h1, h2, h3.below hb⟩)
 ·exact .inr (.inr (.inl ⟨h1, h3.below hb⟩))
 ·exact .inr (.inr (.inr h))
end Go.Proofs.YtpdahhnjhggocabGreatDoor
namespace Go.Proofs.YtpdahhnjhggocabGreatDoor
open Go.RowKit
def WinS (g h : Nat) (yk yn : ByteArray) (yv : Value) (rk : ByteArray) (W : World) : Prop := W.cell? ⟨g, 0, none⟩ = some (.string yk) ∧ W.cell? ⟨g, 1, none⟩ = some (.string yn) ∧ W.cell? ⟨g, 2, none⟩ = some yv ∧ W.cell? ⟨h, 0, none⟩ = some (.string rk)
theorem WinS.below {g h : Nat} {yk yn : ByteArray} {yv : Value} {rk : ByteArray} {w W : World} (s : WinS g h yk yn yv rk w) (hb : Below w.heap.size w W) : WinS g h yk yn yv rk W := ⟨(hb.cell (World.block_lt_of_cell? w _ s.1)).trans s.1, (hb.cell (World.block_lt_of_cell? w _ s.2.1)).trans s.2.1, (hb.cell (World.block_lt_of_cell? w _ s.2.2.1)).trans s.2.2.1, (hb.cell (World.block_lt_of_cell? w _ s.2.2.2)).trans s.2.2.2⟩
theorem WinS.far {g h : Nat} {yk yn : ByteArray} {yv : Value} {rk : ByteArray} {w W : World} {row : Option Nat} (s : WinS g h yk yn yv rk w) (hg : w.grownBy W row) (h1 : row ≠ some g) (h2 : row ≠ some h) : WinS g h yk yn yv rk W := ⟨(hg.cell_far ⟨g, 0, none⟩ (World.block_lt_of_cell? w _ s.1) (Ne.symm h1)).trans s.1, (hg.cell_far ⟨g, 1, none⟩ (World.block_lt_of_cell? w _ s.2.1) (Ne.symm h1)).trans s.2.1, (hg.cell_far ⟨g, 2, none⟩ (World.block_lt_of_cell? w _ s.2.2.1) (Ne.symm h1)).trans s.2.2.1, (hg.cell_far ⟨h, 0, none⟩ (World.block_lt_of_cell? w _ s.2.2.2) (Ne.symm h2)).trans s.2.2.2⟩
end Go.Proofs.YtpdahhnjhggocabGreatDoor
namespace Go.Proofs.YtpdahhnjhggocabGreatDoor
open Go.RowKit
theorem cmpAt_get {P : List PBlock} {kind name : ByteArray} {t : Nat} (ht : t < P.length) : cmpAt P kind name t = blockCmp P[t].kind P[t].name kind name := by
 unfold cmpAt
 rw [List.getElem?_eq_getElem ht]
theorem cmp_head {b : PBlock} {kind name : ByteArray} : blockCmp b.kind b.name kind name = 0 ↔ isHead kind name b = true := by
 unfold blockCmp orI isHead
 rw [Bool.and_eq_true, beq_iff_eq, beq_iff_eq]
 by_cases h : cmpL b.kind.toList kind.toList = 0
 ·rw [if_pos h, cmpL_zero]
  rw [cmpL_zero] at h
  exact ⟨fun k => ⟨h, k⟩, fun k => k.2⟩
 ·rw [if_neg h]
  exact ⟨fun k => absurd k h, fun k => absurd ((cmpL_zero _ _).2 k.1) h⟩
theorem find_at {P : List PBlock} {q : PBlock → Bool} {i : Nat} (hi : i < P.length) (h : q P[i] = true) (hb : ∀ t (ht : t < P.length), t < i → q P[t] = false) : P.find? q = some P[i] := by
 rw [List.find?_eq_some_iff_getElem]
 exact ⟨h, i, hi, rfl, fun j hj => by rw [hb j (by omega) hj]; rfl⟩
theorem bs_hit {P : List PBlock} {kind name : ByteArray} {i : Nat} (h : Belongs P kind name i) (hi : i < P.length) (hc : cmpAt P kind name i = 0) : P.find? (isHead kind name) = some P[i] := by
 refine find_at hi (cmp_head.1 (by rw [← cmpAt_get hi]; exact hc)) fun t ht hti => ?_
 have h1 := h.2.1 t hti
 rw [cmpAt_get ht] at h1
 cases hh : isHead kind name P[t]
 ·rfl
 ·rw [cmp_head.2 hh] at h1
  exact absurd h1 (by decide)
theorem bs_miss {P : List PBlock} {kind name : ByteArray} {i : Nat} (hs : P.Pairwise (fun a b => blockLt a b = true)) (h : Belongs P kind name i) (hc : ¬ (i < P.length ∧ cmpAt P kind name i = 0)) : P.find? (isHead kind name) = none := by
 rw [List.find?_eq_none]
 intro b hb hh
 obtain ⟨t, ht, rfl⟩ := List.mem_iff_getElem.1 hb
 have h0 := cmp_head.2 hh
 have hti : ¬ t < i := fun hlt => by
  have := h.2.1 t hlt
  rw [cmpAt_get ht, h0] at this
  exact absurd this (by decide)
 rcases Nat.lt_or_ge i t with hlt | hge
 ·have hi : i < P.length := by omega
  have h1 := List.pairwise_iff_getElem.1 hs i t hi ht hlt
  have h2 := h.2.2 i (Nat.le_refl _) hi
  rw [cmpAt_get hi] at h2
  have h3 := (blockCmp_lt P[i] P[t]).2 h1
  unfold isHead at hh
  rw [Bool.and_eq_true, beq_iff_eq, beq_iff_eq] at hh
  unfold blockCmp at h2 h3
  rw [hh.1, hh.2] at h3
  exact h2 h3
 ·have e : t = i := by omega
  subst e
  exact hc ⟨ht, by rw [cmpAt_get ht]; exact h0⟩
end Go.Proofs.YtpdahhnjhggocabGreatDoor
