import Derived.Test.YtpdahhnjhggocabGreatDoorBun39
import Derived.Test.YtpdahhnjhggocabGreatDoorBun31
import Derived.Test.YtpdahhnjhggocabGreatDoorBun24
import Derived.Test.YtpdahhnjhggocabGreatDoorBun14
import Derived.Handy
namespace Go.Proofs.YtpdahhnjhggocabGreatDoor
open Go.RowKit
set_option maxHeartbeats 2000000 in
set_option maxRecDepth 100000 in
theorem head_any (k n : ByteArray) (w : World) : Calls Tryz.prog 328 #[.agg #[.string k, .string n]] w fun e w' => e = .returned (.agg #[.string k, .string n]) ∧ Below w.heap.size w w' := by
 go_enter Tryz.func328, Tryz.ntmps328
 go_wp2
 have g1 := alloc_here (w.alloc (.cells #[.string k, .string n] 124)) (.cells #[.string k, .string n] 124)
 rw [World.size_alloc] at g1
 have y0 := cell_of_block g1 0
 have y1 := cell_of_block g1 1
 simp only [List.getElem?_toArray, List.getElem?_cons_zero, List.getElem?_cons_succ] at y0 y1
 exact bodyPost_ret (v := .agg #[.string k, .string n]) (by simp [results, Tryz.results328, go_sem, y0, y1]) rfl ⟨rfl, ((Below.refl w.heap.size w).alloc (Nat.le_refl _) _).alloc (by simp) _⟩
def BlkAt (w : World) (g : Nat) (cs : Array Value) (T : TypeId) : Prop := w.heap[g]? = some (.cells cs T (0, 0))
theorem BlkAt.lt {w : World} {g : Nat} {cs : Array Value} {T : TypeId} (h : BlkAt w g cs T) : g < w.heap.size := (Array.getElem?_eq_some_iff.1 h).1
theorem BlkAt.below {w w' : World} {g : Nat} {cs : Array Value} {T : TypeId} (h : BlkAt w g cs T) (hb : Below w.heap.size w w') : BlkAt w' g cs T := (hb.block g h.lt).trans h
theorem BlkAt.new (w : World) (cs : Array Value) (T : TypeId) : BlkAt (w.alloc (.cells cs T)) w.heap.size cs T := alloc_here w _
theorem BlkAt.set {w : World} {g : Nat} {cs : Array Value} {T : TypeId} (h : BlkAt w g cs T) (i : Nat) (v : Value) : BlkAt (w.setCell ⟨g, i, none⟩ v) g (cs.setIfInBounds i v) T := heap_setCell_same w g i cs T v h
theorem BlkAt.other {w : World} {g q : Nat} {cs : Array Value} {T : TypeId} (h : BlkAt w g cs T) (i : Nat) (v : Value) (hq : g ≠ q) : BlkAt (w.setCell ⟨q, i, none⟩ v) g cs T := (heap_setCell_other w ⟨q, i, none⟩ g v hq).trans h
theorem ta_gone_gone (p : Value) (W : World) : (Instr.typeAssert (.iface 217 p) 136 217 true).run Tryz.prog W = .ok (.tuple #[p, .bool true]) W := by kernel_rfl
theorem ta_new_gone (p : Value) (W : World) : (Instr.typeAssert (.iface 220 p) 136 217 true).run Tryz.prog W = .ok (.tuple #[.agg #[.string ⟨#[]⟩, .string ⟨#[]⟩], .bool false]) W := by kernel_rfl
theorem ta_new_new (p : Value) (W : World) : (Instr.typeAssert (.iface 220 p) 136 220 true).run Tryz.prog W = .ok (.tuple #[p, .bool true]) W := by kernel_rfl
theorem ta_set_gone (p : Value) (W : World) : (Instr.typeAssert (.iface 223 p) 136 217 true).run Tryz.prog W = .ok (.tuple #[.agg #[.string ⟨#[]⟩, .string ⟨#[]⟩], .bool false]) W := by kernel_rfl
theorem ta_set_new (p : Value) (W : World) : (Instr.typeAssert (.iface 223 p) 136 220 true).run Tryz.prog W = .ok (.tuple #[.agg #[.string ⟨#[]⟩, .string ⟨#[]⟩, .slice none 0 0], .bool false]) W := by kernel_rfl
theorem ta_set_set (p : Value) (W : World) : (Instr.typeAssert (.iface 223 p) 136 223 true).run Tryz.prog W = .ok (.tuple #[p, .bool true]) W := by kernel_rfl
theorem ta_unset_gone (p : Value) (W : World) : (Instr.typeAssert (.iface 225 p) 136 217 true).run Tryz.prog W = .ok (.tuple #[.agg #[.string ⟨#[]⟩, .string ⟨#[]⟩], .bool false]) W := by kernel_rfl
theorem ta_unset_new (p : Value) (W : World) : (Instr.typeAssert (.iface 225 p) 136 220 true).run Tryz.prog W = .ok (.tuple #[.agg #[.string ⟨#[]⟩, .string ⟨#[]⟩, .slice none 0 0], .bool false]) W := by kernel_rfl
theorem ta_unset_set (p : Value) (W : World) : (Instr.typeAssert (.iface 225 p) 136 223 true).run Tryz.prog W = .ok (.tuple #[.agg #[.string ⟨#[]⟩, .string ⟨#[]⟩, .string ⟨#[]⟩, .slice none 0 0], .bool false]) W := by kernel_rfl
theorem ta_unset_unset (p : Value) (W : World) : (Instr.typeAssert (.iface 225 p) 136 225 true).run Tryz.prog W = .ok (.tuple #[p, .bool true]) W := by kernel_rfl
set_option maxHeartbeats 4000000 in
set_option maxRecDepth 100000 in
theorem tell_gone (k n : ByteArray) (w : World) : Calls Tryz.prog 93 #[.iface 217 (.agg #[.string k, .string n])] w fun e w' => e = .returned (.agg #[.int .i64 1, .string k, .string n, .string ⟨#[]⟩, .slice none 0 0]) ∧ Below w.heap.size w w' := by
 have HH := fun W => head_any k n W
 have G := (Below.refl w.heap.size w).alloc (Nat.le_refl _) (.cells #[.int .i64 0, .string ⟨#[]⟩, .string ⟨#[]⟩, .string ⟨#[]⟩, .slice none 0 0] 131)
 have zR := BlkAt.new w #[.int .i64 0, .string ⟨#[]⟩, .string ⟨#[]⟩, .string ⟨#[]⟩, .slice none 0 0] 131
 have t0 := fun W => ta_gone_gone (.agg #[.string k, .string n]) W
 have hf0 : ∀ W, (Instr.field 124 (.agg #[.string k, .string n]) 0).run Tryz.prog W = .ok (.string k) W := fun W => by kernel_rfl
 have hf1 : ∀ W, (Instr.field 124 (.agg #[.string k, .string n]) 1).run Tryz.prog W = .ok (.string n) W := fun W => by kernel_rfl
 go_enter Tryz.func93, Tryz.ntmps93
 go_upto_region 1 with fail
 generalize w.alloc (.cells #[.int .i64 0, .string ⟨#[]⟩, .string ⟨#[]⟩, .string ⟨#[]⟩, .slice none 0 0] 131) = W1 at *
 go_wp2_with (go_at_call 328; refine (HH _).mono ?_)
 rintro e w2 ⟨rfl, b2⟩
 go_wp2_with (go_at_call 328; refine (HH _).mono ?_)
 rintro e w3 ⟨rfl, b3⟩
 have B3 := G.trans ((b2.trans (b3.mono b2.size)).mono G.size)
 have zR3 := (zR.below b2).below b3
 have b4 := (Below.refl w3.heap.size w3).alloc (Nat.le_refl _) (.cells #[.int .i64 0, .string k, .string n, .string ⟨#[]⟩, .slice none 0 0] 131)
 have zC := BlkAt.new w3 #[.int .i64 0, .string k, .string n, .string ⟨#[]⟩, .slice none 0 0] 131
 have zR4 := zR3.below b4
 have B4 := B3.trans (b4.mono B3.size)
 have hC : w.heap.size < w3.heap.size := zR3.lt
 clear zR zR3 b2 b3 b4 G B3 HH
 go_upto_region 4 with fail
 generalize w3.alloc (.cells #[.int .i64 0, .string k, .string n, .string ⟨#[]⟩, .slice none 0 0] 131) = W4 at *
 generalize w3.heap.size = C at *
 have b5 := (Below.refl W4.heap.size W4).alloc (Nat.le_refl _) (.cells #[.string k, .string n] 217)
 have zC5 := zC.below b5
 have zR5 := zR4.below b5
 have zS5 := BlkAt.new W4 #[.string k, .string n] 217
 have B5 := B4.trans (b5.mono B4.size)
 have hS : C < W4.heap.size := zC.lt
 clear zC zR4 b5 B4
 go_upto_region 5 with fail
 generalize W4.alloc (.cells #[.string k, .string n] 217) = W5 at *
 generalize W4.heap.size = S at *
 have fX := frozen_of_block zC5 0
 have gX := cell_of_block zC5 0
 simp only [List.getElem?_toArray, List.getElem?_cons_zero] at gX
 have zC9 := zC5.set 0 (.int .i64 1)
 have zR9 := zR5.other 0 (.int .i64 1) (Nat.ne_of_lt hC)
 have B9 := below_setCell B5 ⟨C, 0, none⟩ (Nat.le_of_lt hC) (.int .i64 1)
 simp only [List.setIfInBounds_toArray, List.set_cons_zero] at zC9
 go_upto_region 19 with fail
 generalize W5.setCell ⟨C, 0, none⟩ (.int .i64 1) = W9 at *
 clear fX gX zC5 zR5 B5 zS5
 have c0 := cell_of_block zC9 0
 have c1 := cell_of_block zC9 1
 have c2 := cell_of_block zC9 2
 have c3 := cell_of_block zC9 3
 have c4 := cell_of_block zC9 4
 simp only [List.getElem?_toArray, List.getElem?_cons_zero, List.getElem?_cons_succ] at c0 c1 c2 c3 c4
 have B10 := B9.grown (grown_setRowD W9 w.heap.size #[.int .i64 1, .string k, .string n, .string ⟨#[]⟩, .slice none 0 0]) B9.size (fun q hq => by cases hq; exact Nat.le_refl _)
 have z10 := setRow_heap W9 w.heap.size _ #[.int .i64 1, .string k, .string n, .string ⟨#[]⟩, .slice none 0 0] _ _ zR9
 go_wp2_with (with_reducible show wpList _ _ _ (Oper.mk _ (Op.store _ (Operand.tmp 2) _) _ _ _ _ :: _) _ _; refine wpList_store_row rfl 131 (.tmp 2) (.tmp 46) rfl w.heap.size #[.int .i64 1, .string k, .string n, .string ⟨#[]⟩, .slice none 0 0] ?_ ?_ 131 #[.int .i64 0, .string ⟨#[]⟩, .string ⟨#[]⟩, .string ⟨#[]⟩, .slice none 0 0] ?_ ?_ ?_ ?_ ?_)
 all_goals (first | exact zR9 | rfl | kernel_rfl | skip)
 generalize W9.setRow w.heap.size #[.int .i64 1, .string k, .string n, .string ⟨#[]⟩, .slice none 0 0] = W10 at *
 have y0 := cell_of_block z10 0
 have y1 := cell_of_block z10 1
 have y2 := cell_of_block z10 2
 have y3 := cell_of_block z10 3
 have y4 := cell_of_block z10 4
 simp only [List.getElem?_toArray, List.getElem?_cons_zero, List.getElem?_cons_succ] at y0 y1 y2 y3 y4
 exact bodyPost_ret (v := .agg #[.int .i64 1, .string k, .string n, .string ⟨#[]⟩, .slice none 0 0]) (by simp [results, Tryz.results93, go_sem, y0, y1, y2, y3, y4]) rfl ⟨rfl, B10⟩
set_option maxHeartbeats 4000000 in
set_option maxRecDepth 100000 in
theorem tell_unset (k n key : ByteArray) (w : World) : Calls Tryz.prog 93 #[.iface 225 (.agg #[.string k, .string n, .string key])] w fun e w' => e = .returned (.agg #[.int .i64 4, .string k, .string n, .string key, .slice none 0 0]) ∧ Below w.heap.size w w' := by
 have HH := fun W => head_any k n W
 have G := (Below.refl w.heap.size w).alloc (Nat.le_refl _) (.cells #[.int .i64 0, .string ⟨#[]⟩, .string ⟨#[]⟩, .string ⟨#[]⟩, .slice none 0 0] 131)
 have zR := BlkAt.new w #[.int .i64 0, .string ⟨#[]⟩, .string ⟨#[]⟩, .string ⟨#[]⟩, .slice none 0 0] 131
 have t0 := fun W => ta_unset_gone (.agg #[.string k, .string n, .string key]) W
 have t1 := fun W => ta_unset_new (.agg #[.string k, .string n, .string key]) W
 have t2 := fun W => ta_unset_set (.agg #[.string k, .string n, .string key]) W
 have t3 := fun W => ta_unset_unset (.agg #[.string k, .string n, .string key]) W
 have hf0 : ∀ W, (Instr.field 124 (.agg #[.string k, .string n]) 0).run Tryz.prog W = .ok (.string k) W := fun W => by kernel_rfl
 have hf1 : ∀ W, (Instr.field 124 (.agg #[.string k, .string n]) 1).run Tryz.prog W = .ok (.string n) W := fun W => by kernel_rfl
 go_enter Tryz.func93, Tryz.ntmps93
 go_upto_region 1 with fail
 generalize w.alloc (.cells #[.int .i64 0, .string ⟨#[]⟩, .string ⟨#[]⟩, .string ⟨#[]⟩, .slice none 0 0] 131) = W1 at *
 go_wp2_with (go_at_call 328; refine (HH _).mono ?_)
 rintro e w2 ⟨rfl, b2⟩
 go_wp2_with (go_at_call 328; refine (HH _).mono ?_)
 rintro e w3 ⟨rfl, b3⟩
 have B3 := G.trans ((b2.trans (b3.mono b2.size)).mono G.size)
 have zR3 := (zR.below b2).below b3
 have b4 := (Below.refl w3.heap.size w3).alloc (Nat.le_refl _) (.cells #[.int .i64 0, .string k, .string n, .string ⟨#[]⟩, .slice none 0 0] 131)
 have zC := BlkAt.new w3 #[.int .i64 0, .string k, .string n, .string ⟨#[]⟩, .slice none 0 0] 131
 have zR4 := zR3.below b4
 have B4 := B3.trans (b4.mono B3.size)
 have hC : w.heap.size < w3.heap.size := zR3.lt
 clear zR zR3 b2 b3 b4 G B3 HH
 go_upto_region 16 with fail
 generalize w3.alloc (.cells #[.int .i64 0, .string k, .string n, .string ⟨#[]⟩, .slice none 0 0] 131) = W4 at *
 generalize w3.heap.size = C at *
 have b5 := (Below.refl W4.heap.size W4).alloc (Nat.le_refl _) (.cells #[.string k, .string n, .string key] 225)
 have zC5 := zC.below b5
 have zR5 := zR4.below b5
 have zS5 := BlkAt.new W4 #[.string k, .string n, .string key] 225
 have B5 := B4.trans (b5.mono B4.size)
 have hS : C < W4.heap.size := zC.lt
 clear zC zR4 b5 B4
 go_upto_region 17 with fail
 generalize W4.alloc (.cells #[.string k, .string n, .string key] 225) = W5 at *
 generalize W4.heap.size = S at *
 have fX := frozen_of_block zC5 0
 have gX := cell_of_block zC5 0
 simp only [List.getElem?_toArray, List.getElem?_cons_zero] at gX
 have zC6 := zC5.set 0 (.int .i64 4)
 have zR6 := zR5.other 0 (.int .i64 4) (Nat.ne_of_lt hC)
 have B6 := below_setCell B5 ⟨C, 0, none⟩ (Nat.le_of_lt hC) (.int .i64 4)
 simp only [List.setIfInBounds_toArray, List.set_cons_zero] at zC6
 go_upto_region 18 with fail
 have zS6 := zS5.other (q := C) 0 (.int .i64 4) (Nat.ne_of_gt hS)
 generalize W5.setCell ⟨C, 0, none⟩ (.int .i64 4) = W6 at *
 clear fX gX zC5 zR5 B5 zS5
 have s0 := cell_of_block zS6 2
 simp only [List.getElem?_toArray, List.getElem?_cons_zero, List.getElem?_cons_succ] at s0
 have fX := frozen_of_block zC6 3
 have gX := cell_of_block zC6 3
 simp only [List.getElem?_toArray, List.getElem?_cons_zero, List.getElem?_cons_succ] at gX
 have zC9 := zC6.set 3 (.string key)
 have zR9 := zR6.other 3 (.string key) (Nat.ne_of_lt hC)
 have B9 := below_setCell B6 ⟨C, 3, none⟩ (Nat.le_of_lt hC) (.string key)
 simp only [List.setIfInBounds_toArray, List.set_cons_zero, List.set_cons_succ] at zC9
 go_upto_region 19 with fail
 generalize W6.setCell ⟨C, 3, none⟩ (.string key) = W9 at *
 clear fX gX zC6 zR6 B6 zS6 s0
 have c0 := cell_of_block zC9 0
 have c1 := cell_of_block zC9 1
 have c2 := cell_of_block zC9 2
 have c3 := cell_of_block zC9 3
 have c4 := cell_of_block zC9 4
 simp only [List.getElem?_toArray, List.getElem?_cons_zero, List.getElem?_cons_succ] at c0 c1 c2 c3 c4
 have B10 := B9.grown (grown_setRowD W9 w.heap.size #[.int .i64 4, .string k, .string n, .string key, .slice none 0 0]) B9.size (fun q hq => by cases hq; exact Nat.le_refl _)
 have z10 := setRow_heap W9 w.heap.size _ #[.int .i64 4, .string k, .string n, .string key, .slice none 0 0] _ _ zR9
 go_wp2_with (with_reducible show wpList _ _ _ (Oper.mk _ (Op.store _ (Operand.tmp 2) _) _ _ _ _ :: _) _ _; refine wpList_store_row rfl 131 (.tmp 2) (.tmp 46) rfl w.heap.size #[.int .i64 4, .string k, .string n, .string key, .slice none 0 0] ?_ ?_ 131 #[.int .i64 0, .string ⟨#[]⟩, .string ⟨#[]⟩, .string ⟨#[]⟩, .slice none 0 0] ?_ ?_ ?_ ?_ ?_)
 all_goals (first | exact zR9 | rfl | kernel_rfl | skip)
 generalize W9.setRow w.heap.size #[.int .i64 4, .string k, .string n, .string key, .slice none 0 0] = W10 at *
 have y0 := cell_of_block z10 0
 have y1 := cell_of_block z10 1
 have y2 := cell_of_block z10 2
 have y3 := cell_of_block z10 3
 have y4 := cell_of_block z10 4
 simp only [List.getElem?_toArray, List.getElem?_cons_zero, List.getElem?_cons_succ] at y0 y1 y2 y3 y4
 exact bodyPost_ret (v := .agg #[.int .i64 4, .string k, .string n, .string key, .slice none 0 0]) (by simp [results, Tryz.results93, go_sem, y0, y1, y2, y3, y4]) rfl ⟨rfl, B10⟩
set_option maxHeartbeats 4000000 in
set_option maxRecDepth 100000 in
theorem tell_new (k n : ByteArray) {a : Option Addr} {m c : Nat} {ls : List LAt} {w : World} (h : LinesIn w (.slice a m c) ls) (hs : LinesSmall ls) : Calls Tryz.prog 93 #[.iface 220 (.agg #[.string k, .string n, .slice a m c])] w fun e w' => ∃ v' ls', e = .returned (.agg #[.int .i64 2, .string k, .string n, .string ⟨#[]⟩, v']) ∧ ls'.map LAt.plain = ls.map LAt.plain ∧ LinesOwn w.heap.size w' v' ls' ∧ Below w.heap.size w w' := by
 have HH := fun W => head_any k n W
 have G := (Below.refl w.heap.size w).alloc (Nat.le_refl _) (.cells #[.int .i64 0, .string ⟨#[]⟩, .string ⟨#[]⟩, .string ⟨#[]⟩, .slice none 0 0] 131)
 have zR := BlkAt.new w #[.int .i64 0, .string ⟨#[]⟩, .string ⟨#[]⟩, .string ⟨#[]⟩, .slice none 0 0] 131
 have t0 := fun W => ta_new_gone (.agg #[.string k, .string n, .slice a m c]) W
 have t1 := fun W => ta_new_new (.agg #[.string k, .string n, .slice a m c]) W
 have hf0 : ∀ W, (Instr.field 124 (.agg #[.string k, .string n]) 0).run Tryz.prog W = .ok (.string k) W := fun W => by kernel_rfl
 have hf1 : ∀ W, (Instr.field 124 (.agg #[.string k, .string n]) 1).run Tryz.prog W = .ok (.string n) W := fun W => by kernel_rfl
 go_enter Tryz.func93, Tryz.ntmps93
 go_upto_region 1 with fail
 generalize w.alloc (.cells #[.int .i64 0, .string ⟨#[]⟩, .string ⟨#[]⟩, .string ⟨#[]⟩, .slice none 0 0] 131) = W1 at *
 go_wp2_with (go_at_call 328; refine (HH _).mono ?_)
 rintro e w2 ⟨rfl, b2⟩
 go_wp2_with (go_at_call 328; refine (HH _).mono ?_)
 rintro e w3 ⟨rfl, b3⟩
 have B3 := G.trans ((b2.trans (b3.mono b2.size)).mono G.size)
 have zR3 := (zR.below b2).below b3
 have b4 := (Below.refl w3.heap.size w3).alloc (Nat.le_refl _) (.cells #[.int .i64 0, .string k, .string n, .string ⟨#[]⟩, .slice none 0 0] 131)
 have zC := BlkAt.new w3 #[.int .i64 0, .string k, .string n, .string ⟨#[]⟩, .slice none 0 0] 131
 have zR4 := zR3.below b4
 have B4 := B3.trans (b4.mono B3.size)
 have hC : w.heap.size < w3.heap.size := zR3.lt
 clear zR zR3 b2 b3 b4 G B3 HH
 go_upto_region 7 with fail
 generalize w3.alloc (.cells #[.int .i64 0, .string k, .string n, .string ⟨#[]⟩, .slice none 0 0] 131) = W4 at *
 generalize w3.heap.size = C at *
 have b5 := (Below.refl W4.heap.size W4).alloc (Nat.le_refl _) (.cells #[.string k, .string n, .slice a m c] 220)
 have zC5 := zC.below b5
 have zR5 := zR4.below b5
 have zS5 := BlkAt.new W4 #[.string k, .string n, .slice a m c] 220
 have B5 := B4.trans (b5.mono B4.size)
 have hS : C < W4.heap.size := zC.lt
 clear zC zR4 b5 B4
 go_upto_region 8 with fail
 generalize W4.alloc (.cells #[.string k, .string n, .slice a m c] 220) = W5 at *
 generalize W4.heap.size = S at *
 have fX := frozen_of_block zC5 0
 have gX := cell_of_block zC5 0
 simp only [List.getElem?_toArray, List.getElem?_cons_zero] at gX
 have zC6 := zC5.set 0 (.int .i64 2)
 have zR6 := zR5.other 0 (.int .i64 2) (Nat.ne_of_lt hC)
 have B6 := below_setCell B5 ⟨C, 0, none⟩ (Nat.le_of_lt hC) (.int .i64 2)
 simp only [List.setIfInBounds_toArray, List.set_cons_zero] at zC6
 go_upto_region 9 with fail
 have zS6 := zS5.other (q := C) 0 (.int .i64 2) (Nat.ne_of_gt hS)
 generalize W5.setCell ⟨C, 0, none⟩ (.int .i64 2) = W6 at *
 clear fX gX zC5 zR5 B5 zS5
 have s1 := cell_of_block zS6 2
 simp only [List.getElem?_toArray, List.getElem?_cons_zero, List.getElem?_cons_succ] at s1
 have HCP := copyLines_any (w := W6) (h.below B6) hs
 have hCU : C < W6.heap.size := zC6.lt
 go_wp2_with (go_at_call 78; refine HCP.mono ?_)
 rintro e w8 ⟨v8, ls8, rfl, hp8, o8, b8⟩
 have zC8 := zC6.below b8
 have zR8 := zR6.below b8
 have B8 := B6.trans (b8.mono B6.size)
 have O8 := hid_in o8
 have HP8 := hid_in hp8
 obtain ⟨a8, c8, rfl, _⟩ := own_form o8.row
 clear HCP zS6 zC6 zR6 s1 o8 hp8
 generalize hm8 : ls8.length = m8 at *
 clear hm8
 have fX := frozen_of_block zC8 4
 have gX := cell_of_block zC8 4
 simp only [List.getElem?_toArray, List.getElem?_cons_zero, List.getElem?_cons_succ] at gX
 have zC9 := zC8.set 4 (.slice a8 m8 c8)
 have zR9 := zR8.other 4 (.slice a8 m8 c8) (Nat.ne_of_lt hC)
 have B9 := below_setCell B8 ⟨C, 4, none⟩ (Nat.le_of_lt hC) (.slice a8 m8 c8)
 simp only [List.setIfInBounds_toArray, List.set_cons_zero, List.set_cons_succ] at zC9
 go_upto_region 19 with fail
 have O9 := hid_in (((O8.out.setCell ⟨C, 4, none⟩ hCU (.slice a8 m8 c8)).setRow w.heap.size (by omega) #[.int .i64 2, .string k, .string n, .string ⟨#[]⟩, .slice a8 m8 c8]).mono (show w.heap.size ≤ W6.heap.size by omega))
 generalize w8.setCell ⟨C, 4, none⟩ (.slice a8 m8 c8) = W9 at *
 clear fX gX zC8 zR8 B8 O8 b8
 have c0 := cell_of_block zC9 0
 have c1 := cell_of_block zC9 1
 have c2 := cell_of_block zC9 2
 have c3 := cell_of_block zC9 3
 have c4 := cell_of_block zC9 4
 simp only [List.getElem?_toArray, List.getElem?_cons_zero, List.getElem?_cons_succ] at c0 c1 c2 c3 c4
 have B10 := B9.grown (grown_setRowD W9 w.heap.size #[.int .i64 2, .string k, .string n, .string ⟨#[]⟩, .slice a8 m8 c8]) B9.size (fun q hq => by cases hq; exact Nat.le_refl _)
 have z10 := setRow_heap W9 w.heap.size _ #[.int .i64 2, .string k, .string n, .string ⟨#[]⟩, .slice a8 m8 c8] _ _ zR9
 go_wp2_with (with_reducible show wpList _ _ _ (Oper.mk _ (Op.store _ (Operand.tmp 2) _) _ _ _ _ :: _) _ _; refine wpList_store_row rfl 131 (.tmp 2) (.tmp 46) rfl w.heap.size #[.int .i64 2, .string k, .string n, .string ⟨#[]⟩, .slice a8 m8 c8] ?_ ?_ 131 #[.int .i64 0, .string ⟨#[]⟩, .string ⟨#[]⟩, .string ⟨#[]⟩, .slice none 0 0] ?_ ?_ ?_ ?_ ?_)
 all_goals (first | exact zR9 | rfl | kernel_rfl | skip)
 generalize W9.setRow w.heap.size #[.int .i64 2, .string k, .string n, .string ⟨#[]⟩, .slice a8 m8 c8] = W10 at *
 have y0 := cell_of_block z10 0
 have y1 := cell_of_block z10 1
 have y2 := cell_of_block z10 2
 have y3 := cell_of_block z10 3
 have y4 := cell_of_block z10 4
 simp only [List.getElem?_toArray, List.getElem?_cons_zero, List.getElem?_cons_succ] at y0 y1 y2 y3 y4
 exact bodyPost_ret (v := .agg #[.int .i64 2, .string k, .string n, .string ⟨#[]⟩, .slice a8 m8 c8]) (by simp [results, Tryz.results93, go_sem, y0, y1, y2, y3, y4]) rfl ⟨_, ls8, rfl, HP8.out, O9.out, B10⟩
set_option maxHeartbeats 4000000 in
set_option maxRecDepth 100000 in
theorem tell_set (k n key : ByteArray) {a : Option Addr} {m c : Nat} {ls : List LAt} {w : World} (h : LinesIn w (.slice a m c) ls) (hs : LinesSmall ls) : Calls Tryz.prog 93 #[.iface 223 (.agg #[.string k, .string n, .string key, .slice a m c])] w fun e w' => ∃ v' ls', e = .returned (.agg #[.int .i64 3, .string k, .string n, .string key, v']) ∧ ls'.map LAt.plain = ls.map LAt.plain ∧ LinesOwn w.heap.size w' v' ls' ∧ Below w.heap.size w w' := by
 have HH := fun W => head_any k n W
 have G := (Below.refl w.heap.size w).alloc (Nat.le_refl _) (.cells #[.int .i64 0, .string ⟨#[]⟩, .string ⟨#[]⟩, .string ⟨#[]⟩, .slice none 0 0] 131)
 have zR := BlkAt.new w #[.int .i64 0, .string ⟨#[]⟩, .string ⟨#[]⟩, .string ⟨#[]⟩, .slice none 0 0] 131
 have t0 := fun W => ta_set_gone (.agg #[.string k, .string n, .string key, .slice a m c]) W
 have t1 := fun W => ta_set_new (.agg #[.string k, .string n, .string key, .slice a m c]) W
 have t2 := fun W => ta_set_set (.agg #[.string k, .string n, .string key, .slice a m c]) W
 have hf0 : ∀ W, (Instr.field 124 (.agg #[.string k, .string n]) 0).run Tryz.prog W = .ok (.string k) W := fun W => by kernel_rfl
 have hf1 : ∀ W, (Instr.field 124 (.agg #[.string k, .string n]) 1).run Tryz.prog W = .ok (.string n) W := fun W => by kernel_rfl
 go_enter Tryz.func93, Tryz.ntmps93
 go_upto_region 1 with fail
 generalize w.alloc (.cells #[.int .i64 0, .string ⟨#[]⟩, .string ⟨#[]⟩, .string ⟨#[]⟩, .slice none 0 0] 131) = W1 at *
 go_wp2_with (go_at_call 328; refine (HH _).mono ?_)
 rintro e w2 ⟨rfl, b2⟩
 go_wp2_with (go_at_call 328; refine (HH _).mono ?_)
 rintro e w3 ⟨rfl, b3⟩
 have B3 := G.trans ((b2.trans (b3.mono b2.size)).mono G.size)
 have zR3 := (zR.below b2).below b3
 have b4 := (Below.refl w3.heap.size w3).alloc (Nat.le_refl _) (.cells #[.int .i64 0, .string k, .string n, .string ⟨#[]⟩, .slice none 0 0] 131)
 have zC := BlkAt.new w3 #[.int .i64 0, .string k, .string n, .string ⟨#[]⟩, .slice none 0 0] 131
 have zR4 := zR3.below b4
 have B4 := B3.trans (b4.mono B3.size)
 have hC : w.heap.size < w3.heap.size := zR3.lt
 clear zR zR3 b2 b3 b4 G B3 HH
 go_upto_region 11 with fail
 generalize w3.alloc (.cells #[.int .i64 0, .string k, .string n, .string ⟨#[]⟩, .slice none 0 0] 131) = W4 at *
 generalize w3.heap.size = C at *
 have b5 := (Below.refl W4.heap.size W4).alloc (Nat.le_refl _) (.cells #[.string k, .string n, .string key, .slice a m c] 223)
 have zC5 := zC.below b5
 have zR5 := zR4.below b5
 have zS5 := BlkAt.new W4 #[.string k, .string n, .string key, .slice a m c] 223
 have B5 := B4.trans (b5.mono B4.size)
 have hS : C < W4.heap.size := zC.lt
 clear zC zR4 b5 B4
 go_upto_region 12 with fail
 generalize W4.alloc (.cells #[.string k, .string n, .string key, .slice a m c] 223) = W5 at *
 generalize W4.heap.size = S at *
 have fX := frozen_of_block zC5 0
 have gX := cell_of_block zC5 0
 simp only [List.getElem?_toArray, List.getElem?_cons_zero] at gX
 have zC6 := zC5.set 0 (.int .i64 3)
 have zR6 := zR5.other 0 (.int .i64 3) (Nat.ne_of_lt hC)
 have B6 := below_setCell B5 ⟨C, 0, none⟩ (Nat.le_of_lt hC) (.int .i64 3)
 simp only [List.setIfInBounds_toArray, List.set_cons_zero] at zC6
 go_upto_region 13 with fail
 have zS6 := zS5.other (q := C) 0 (.int .i64 3) (Nat.ne_of_gt hS)
 generalize W5.setCell ⟨C, 0, none⟩ (.int .i64 3) = W6 at *
 clear fX gX zC5 zR5 B5 zS5
 have s0 := cell_of_block zS6 2
 simp only [List.getElem?_toArray, List.getElem?_cons_zero, List.getElem?_cons_succ] at s0
 have fX := frozen_of_block zC6 3
 have gX := cell_of_block zC6 3
 simp only [List.getElem?_toArray, List.getElem?_cons_zero, List.getElem?_cons_succ] at gX
 have zC7 := zC6.set 3 (.string key)
 have zR7 := zR6.other 3 (.string key) (Nat.ne_of_lt hC)
 have B7 := below_setCell B6 ⟨C, 3, none⟩ (Nat.le_of_lt hC) (.string key)
 simp only [List.setIfInBounds_toArray, List.set_cons_zero, List.set_cons_succ] at zC7
 go_upto_region 14 with fail
 have zS7 := zS6.other (q := C) 3 (.string key) (Nat.ne_of_gt hS)
 generalize W6.setCell ⟨C, 3, none⟩ (.string key) = W7 at *
 clear fX gX zC6 zR6 B6 zS6 s0
 have s1 := cell_of_block zS7 3
 simp only [List.getElem?_toArray, List.getElem?_cons_zero, List.getElem?_cons_succ] at s1
 have HCP := copyLines_any (w := W7) (h.below B7) hs
 have hCU : C < W7.heap.size := zC7.lt
 go_wp2_with (go_at_call 78; refine HCP.mono ?_)
 rintro e w8 ⟨v8, ls8, rfl, hp8, o8, b8⟩
 have zC8 := zC7.below b8
 have zR8 := zR7.below b8
 have B8 := B7.trans (b8.mono B7.size)
 have O8 := hid_in o8
 have HP8 := hid_in hp8
 obtain ⟨a8, c8, rfl, _⟩ := own_form o8.row
 clear HCP zS7 zC7 zR7 s1 o8 hp8
 generalize hm8 : ls8.length = m8 at *
 clear hm8
 have fX := frozen_of_block zC8 4
 have gX := cell_of_block zC8 4
 simp only [List.getElem?_toArray, List.getElem?_cons_zero, List.getElem?_cons_succ] at gX
 have zC9 := zC8.set 4 (.slice a8 m8 c8)
 have zR9 := zR8.other 4 (.slice a8 m8 c8) (Nat.ne_of_lt hC)
 have B9 := below_setCell B8 ⟨C, 4, none⟩ (Nat.le_of_lt hC) (.slice a8 m8 c8)
 simp only [List.setIfInBounds_toArray, List.set_cons_zero, List.set_cons_succ] at zC9
 go_upto_region 19 with fail
 have O9 := hid_in (((O8.out.setCell ⟨C, 4, none⟩ hCU (.slice a8 m8 c8)).setRow w.heap.size (by omega) #[.int .i64 3, .string k, .string n, .string key, .slice a8 m8 c8]).mono (show w.heap.size ≤ W7.heap.size by omega))
 generalize w8.setCell ⟨C, 4, none⟩ (.slice a8 m8 c8) = W9 at *
 clear fX gX zC8 zR8 B8 O8 b8
 have c0 := cell_of_block zC9 0
 have c1 := cell_of_block zC9 1
 have c2 := cell_of_block zC9 2
 have c3 := cell_of_block zC9 3
 have c4 := cell_of_block zC9 4
 simp only [List.getElem?_toArray, List.getElem?_cons_zero, List.getElem?_cons_succ] at c0 c1 c2 c3 c4
 have B10 := B9.grown (grown_setRowD W9 w.heap.size #[.int .i64 3, .string k, .string n, .string key, .slice a8 m8 c8]) B9.size (fun q hq => by cases hq; exact Nat.le_refl _)
 have z10 := setRow_heap W9 w.heap.size _ #[.int .i64 3, .string k, .string n, .string key, .slice a8 m8 c8] _ _ zR9
 go_wp2_with (with_reducible show wpList _ _ _ (Oper.mk _ (Op.store _ (Operand.tmp 2) _) _ _ _ _ :: _) _ _; refine wpList_store_row rfl 131 (.tmp 2) (.tmp 46) rfl w.heap.size #[.int .i64 3, .string k, .string n, .string key, .slice a8 m8 c8] ?_ ?_ 131 #[.int .i64 0, .string ⟨#[]⟩, .string ⟨#[]⟩, .string ⟨#[]⟩, .slice none 0 0] ?_ ?_ ?_ ?_ ?_)
 all_goals (first | exact zR9 | rfl | kernel_rfl | skip)
 generalize W9.setRow w.heap.size #[.int .i64 3, .string k, .string n, .string key, .slice a8 m8 c8] = W10 at *
 have y0 := cell_of_block z10 0
 have y1 := cell_of_block z10 1
 have y2 := cell_of_block z10 2
 have y3 := cell_of_block z10 3
 have y4 := cell_of_block z10 4
 simp only [List.getElem?_toArray, List.getElem?_cons_zero, List.getElem?_cons_succ] at y0 y1 y2 y3 y4
 exact bodyPost_ret (v := .agg #[.int .i64 3, .string k, .string n, .string key, .slice a8 m8 c8]) (by simp [results, Tryz.results93, go_sem, y0, y1, y2, y3, y4]) rfl ⟨_, ls8, rfl, HP8.out, O9.out, B10⟩
end Go.Proofs.YtpdahhnjhggocabGreatDoor
namespace Go.Proofs.YtpdahhnjhggocabGreatDoor
open Go.RowKit
theorem infoStep : (Tryz.prog.info? 136).map (fun i => (i.zero, i.size, i.bytes)) = some (some .nilIface, 1, 16) := by kernel_rfl
def CAt.step (c : CAt) : Value :=
 if c.what = 1 then .iface 217 (.agg #[.string c.kind, .string c.name])
 else if c.what = 2 then .iface 220 (.agg #[.string c.kind, .string c.name, c.v])
 else if c.what = 3 then .iface 223 (.agg #[.string c.kind, .string c.name, .string c.key, c.v])
 else .iface 225 (.agg #[.string c.kind, .string c.name, .string c.key])
theorem CAt.step_one (c : CAt) : c.step.oneCell' = true := by
 unfold CAt.step
 split
 ·rfl
 split
 ·rfl
 split <;> rfl
def StepIn (w : World) (c : CAt) : Prop := (c.what = 1 ∧ c.key = ⟨#[]⟩ ∧ c.ls = []) ∨ (c.what = 2 ∧ c.key = ⟨#[]⟩ ∧ LinesIn w c.v c.ls) ∨ (c.what = 3 ∧ LinesIn w c.v c.ls) ∨ (c.what = 4 ∧ c.ls = [])
def StepBase (w : World) (c : CAt) : Prop := (c.what = 1 ∧ c.key = ⟨#[]⟩ ∧ c.ls = []) ∨ (c.what = 2 ∧ c.key = ⟨#[]⟩ ∧ LinesIn w c.v c.ls) ∨ (c.what = 3 ∧ ∀ x ∈ c.ls, LineIn w x) ∨ (c.what = 4 ∧ c.ls = [])
def CAt.own (c : CAt) : List MRow := if c.what = 3 then [⟨c.v, 82, 2, c.ls.length, c.ls.flatMap LAt.cells⟩] else []
def srows (v : Value) (cs : List CAt) : List MRow := ⟨v, 136, 1, cs.length, cs.map CAt.step⟩ :: cs.flatMap CAt.own
theorem StepIn.below {w w' : World} {c : CAt} (h : StepIn w c) (hb : Below w.heap.size w w') : StepIn w' c := by
 rcases h with h | ⟨h1, h2, h3⟩ | ⟨h1, h3⟩ | h
 ·exact .inl h
 ·exact .inr (.inl ⟨h1, h2, h3.below hb⟩)
 ·exact .inr (.inr (.inl ⟨h1, h3.below hb⟩))
 ·exact .inr (.inr (.inr h))
theorem step_of {B : Nat} {w0 w : World} {v : Value} {cs : List CAt} (h : Mem B w (srows v cs)) (hb : Below w0.heap.size w0 w) {c : CAt} (hc : c ∈ cs) (h0 : StepBase w0 c) : StepIn w c := by
 rcases h0 with h0 | ⟨h1, h2, h3⟩ | ⟨h1, h3⟩ | h0
 ·exact .inl h0
 ·exact .inr (.inl ⟨h1, h2, h3.below hb⟩)
 ·refine .inr (.inr (.inl ⟨h1, ?_⟩))
  obtain ⟨A, C, e⟩ := flat_split CAt.own hc
  have h4 : Mem B w (A ++ (c.own ++ C)) := by rw [← e]; exact Mem.tail h
  have h5 := (Mem.right h4).left
  unfold CAt.own at h5
  rw [if_pos h1] at h5
  exact ⟨own_has (Mem.head h5), fun x hx => (h3 x hx).below hb⟩
 ·exact .inr (.inr (.inr h0))
theorem steps_none (B : Nat) (w : World) : Mem B w (srows (.slice none 0 0) []) := ⟨fun r hr => by rw [List.mem_singleton.1 hr]; exact World.ownsRow_nil _ _ 136 1, by simp [srows]⟩
theorem push_any {B : Nat} {wc w2 W w3 : World} {vk v3 : Value} {E : TypeId} {size n n' : Nat} {cells cells' : List Value} {tl new rest : List MRow} (hm : Mem B wc (⟨vk, E, size, n, cells⟩ :: (tl ++ rest))) (hB : B ≤ wc.heap.size) (o2 : Mem wc.heap.size w2 new) (b2 : Below wc.heap.size wc w2) (bW : Below w2.heap.size w2 W)
  (hown3 : w3.ownsRow B E size v3 n' cells') (hgrow : W.grownBy w3 vk.ownBlock) (hv : v3.ownBlock = vk.ownBlock ∨ v3.ownBlock = some W.heap.size) :
  Mem B w3 (⟨v3, E, size, n', cells'⟩ :: (tl ++ new ++ rest)) ∧ Below B wc w3 := by
 have m2 : Mem B w2 (new ++ (⟨vk, E, size, n, cells⟩ :: (tl ++ rest))) := Mem.join hm o2 b2 hB
 have m3 : Mem B w2 (⟨vk, E, size, n, cells⟩ :: (tl ++ new ++ rest)) := m2.perm (by
  rw [List.append_assoc]
  exact List.perm_middle.trans ((List.perm_append_comm_assoc _ _ _).cons _))
 have m4 := m3.below bW
 have m5 := m4.grow (r' := ⟨v3, E, size, n', cells'⟩) hown3 hgrow hv
 have hz := b2.size
 exact ⟨m5, ((b2.mono hB).trans (bW.mono (by omega))).grown hgrow (Nat.le_trans hB (Nat.le_trans hz bW.size)) (fun k hk => (Mem.lt m3 (List.mem_cons_self ..) hk).1)⟩
theorem steps_push {B : Nat} {wc w2 W w3 : World} {vk v3 : Value} {done : List CAt} {x : CAt} {rest : List MRow} (hm : Mem B wc (srows vk done ++ rest)) (hB : B ≤ wc.heap.size) (o2 : Mem wc.heap.size w2 x.own) (b2 : Below wc.heap.size wc w2) (bW : Below w2.heap.size w2 W)
  (hown3 : w3.ownsRow B 136 1 v3 (done.length + 1) (done.map CAt.step ++ [x.step])) (hgrow : W.grownBy w3 vk.ownBlock) (hv : v3.ownBlock = vk.ownBlock ∨ v3.ownBlock = some W.heap.size) :
  Mem B w3 (srows v3 (done ++ [x]) ++ rest) ∧ Below B wc w3 := by
 have h := push_any (tl := done.flatMap CAt.own) (rest := rest) hm hB o2 b2 bW hown3 hgrow hv
 refine ⟨?_, h.2⟩
 unfold srows
 rw [List.map_append, List.map_singleton, List.flatMap_append, List.flatMap_singleton, List.length_append]
 exact h.1
theorem steps_many {B : Nat} {wc w2 W w3 : World} {vk v2 v3 : Value} {done new : List CAt} (hm : Mem B wc (srows vk done)) (hB : B ≤ wc.heap.size) (o2 : Mem wc.heap.size w2 (srows v2 new)) (b2 : Below wc.heap.size wc w2) (bW : Below w2.heap.size w2 W)
  (hown3 : w3.ownsRow B 136 1 v3 (done.length + new.length) (done.map CAt.step ++ new.map CAt.step)) (hgrow : W.grownBy w3 vk.ownBlock) (hv : v3.ownBlock = vk.ownBlock ∨ v3.ownBlock = some W.heap.size) :
  Mem B w3 (srows v3 (done ++ new)) ∧ Below B wc w3 := by
 have h := push_any (tl := done.flatMap CAt.own) (rest := []) (by rw [List.append_nil]; exact hm) hB (Mem.tail o2) b2 bW hown3 hgrow hv
 refine ⟨?_, h.2⟩
 unfold srows
 rw [List.map_append, List.flatMap_append, List.length_append]
 have := h.1
 rw [List.append_nil] at this
 exact this
set_option maxHeartbeats 1000000 in
theorem tellStep_any {c : CAt} {w : World} (h : StepIn w c) (hs : LinesSmall c.ls) : Calls Tryz.prog 93 #[c.step] w fun e w' => ∃ x : CAt, e = .returned (.agg #[.int .i64 x.what, .string x.kind, .string x.name, .string x.key, x.v]) ∧ x.plain = c.plain ∧ LinesOwn w.heap.size w' x.v x.ls ∧ LinesSmall x.ls ∧ Below w.heap.size w w' := by
 obtain ⟨what, k, n, key, v, ls⟩ := c
 unfold StepIn at h
 unfold CAt.step CAt.plain
 simp only at *
 rcases h with ⟨rfl, rfl, rfl⟩ | ⟨rfl, rfl, h⟩ | ⟨rfl, h⟩ | ⟨rfl, rfl⟩
 ·exact (tell_gone k n w).mono fun e w' ⟨he, hb⟩ => ⟨⟨1, k, n, ⟨#[]⟩, .slice none 0 0, []⟩, he, rfl, lines_nil _ _, hs, hb⟩
 ·obtain ⟨a, c, rfl⟩ := h.1.form
  exact (tell_new k n h hs).mono fun e w' ⟨v', ls', he, hp, ho, hb⟩ => ⟨⟨2, k, n, ⟨#[]⟩, v', ls'⟩, he, by simp only [hp], ho, hs.same hp, hb⟩
 ·obtain ⟨a, c, rfl⟩ := h.1.form
  exact (tell_set k n key h hs).mono fun e w' ⟨v', ls', he, hp, ho, hb⟩ => ⟨⟨3, k, n, key, v', ls'⟩, he, by simp only [hp], ho, hs.same hp, hb⟩
 ·exact (tell_unset k n key w).mono fun e w' ⟨he, hb⟩ => ⟨⟨4, k, n, key, .slice none 0 0, []⟩, he, rfl, lines_nil _ _, hs, hb⟩
end Go.Proofs.YtpdahhnjhggocabGreatDoor
namespace Go.Proofs.YtpdahhnjhggocabGreatDoor
open Go.RowKit
theorem headOf_all (k n : ByteArray) (a : Option Addr) (m c : Nat) (w : World) : Calls Tryz.prog 86 #[.agg #[.string k, .string n, .slice a m c]] w fun e w' => e = .returned (.agg #[.string k, .string n]) ∧ Below w.heap.size w w' := by
 go_enter Tryz.func86, Tryz.ntmps86
 go_wp2
 have g1 := alloc_here (w.alloc (.cells #[.string k, .string n, .slice a m c] 64)) (.cells #[.string k, .string n] 124)
 rw [World.size_alloc] at g1
 have y0 := cell_of_block g1 0
 have y1 := cell_of_block g1 1
 simp only [List.getElem?_toArray, List.getElem?_cons_zero, List.getElem?_cons_succ] at y0 y1
 exact bodyPost_ret (v := .agg #[.string k, .string n]) (by simp [results, Tryz.results86, go_sem, y0, y1]) rfl ⟨rfl, ((Below.refl w.heap.size w).alloc (Nat.le_refl _) _).alloc (by simp) _⟩
theorem ws_inj {k : ByteArray} : ∀ {P Q : List PLine}, (∀ x ∈ P, x.key = k) → (∀ x ∈ Q, x.key = k) → P.map PLine.ws = Q.map PLine.ws → P = Q
 | [], [], _, _, _ => rfl
 | [], _ :: _, _, _, h => by cases h
 | _ :: _, [], _, _, h => by cases h
 | a :: P, b :: Q, h1, h2, h => by
  rw [List.map_cons, List.map_cons, List.cons.injEq] at h
  have e := ws_inj (fun x hx => h1 x (List.mem_cons_of_mem _ hx)) (fun x hx => h2 x (List.mem_cons_of_mem _ hx)) h.2
  have ka := h1 a (List.mem_cons_self ..)
  have kb := h2 b (List.mem_cons_self ..)
  obtain ⟨ak, aw⟩ := a
  obtain ⟨bk, bw⟩ := b
  simp only at ka kb h
  rw [e, ka, kb, h.1]
theorem ofK_key {P : List PLine} {k : ByteArray} : ∀ x ∈ ofK P k, x.key = k := fun x hx => bytes_inj (by
 have := (List.mem_filter.1 hx).2
 exact beq_iff_eq.1 this)
theorem words_eq {xs ys : List LAt} {P Q : List PLine} {k : ByteArray} (hx : xs.map LAt.plain = ofK P k) (hy : ys.map LAt.plain = ofK Q k) : xs.map LAt.ws = ys.map LAt.ws ↔ ofK P k = ofK Q k := by
 have e1 : xs.map LAt.ws = (ofK P k).map PLine.ws := by rw [← hx, List.map_map]; rfl
 have e2 : ys.map LAt.ws = (ofK Q k).map PLine.ws := by rw [← hy, List.map_map]; rfl
 rw [e1, e2]
 exact ⟨fun h => ws_inj ofK_key ofK_key h, fun h => by rw [h]⟩
def WinS (g h : Nat) (yk yn : ByteArray) (yv : Value) (rk : ByteArray) (W : World) : Prop := W.cell? ⟨g, 0, none⟩ = some (.string yk) ∧ W.cell? ⟨g, 1, none⟩ = some (.string yn) ∧ W.cell? ⟨g, 2, none⟩ = some yv ∧ W.cell? ⟨h, 0, none⟩ = some (.string rk)
theorem WinS.below {g h : Nat} {yk yn : ByteArray} {yv : Value} {rk : ByteArray} {w W : World} (s : WinS g h yk yn yv rk w) (hb : Below w.heap.size w W) : WinS g h yk yn yv rk W := ⟨(hb.cell (World.block_lt_of_cell? w _ s.1)).trans s.1, (hb.cell (World.block_lt_of_cell? w _ s.2.1)).trans s.2.1, (hb.cell (World.block_lt_of_cell? w _ s.2.2.1)).trans s.2.2.1, (hb.cell (World.block_lt_of_cell? w _ s.2.2.2)).trans s.2.2.2⟩
theorem WinS.far {g h : Nat} {yk yn : ByteArray} {yv : Value} {rk : ByteArray} {w W : World} {row : Option Nat} (s : WinS g h yk yn yv rk w) (hg : w.grownBy W row) (h1 : row ≠ some g) (h2 : row ≠ some h) : WinS g h yk yn yv rk W := ⟨(hg.cell_far ⟨g, 0, none⟩ (World.block_lt_of_cell? w _ s.1) (Ne.symm h1)).trans s.1, (hg.cell_far ⟨g, 1, none⟩ (World.block_lt_of_cell? w _ s.2.1) (Ne.symm h1)).trans s.2.1, (hg.cell_far ⟨g, 2, none⟩ (World.block_lt_of_cell? w _ s.2.2.1) (Ne.symm h1)).trans s.2.2.1, (hg.cell_far ⟨h, 0, none⟩ (World.block_lt_of_cell? w _ s.2.2.2) (Ne.symm h2)).trans s.2.2.2⟩
def WinPost (P : List PChange) (w0 w : World) (e : Ending) (w' : World) : Prop := ∃ v' cs', e = .returned v' ∧ cs'.map CAt.plain = P ∧ (∀ c ∈ cs', StepBase w0 c ∧ LinesSmall c.ls) ∧ Mem w.heap.size w' (srows v' cs') ∧ cs'.length ≤ 12 ∧ Below w.heap.size w w'
def WinRel (B : Nat) (w0 w2 : World) (yk yn : ByteArray) (P Q : List PLine) (nr : Nat) (rr : List MRow) (out i : Value) (wr : World) : Prop := ∃ (k : Nat) (cs : List CAt), i = .int .i64 (k : Int) ∧ k ≤ nr ∧ cs.map CAt.plain = ((rulesOf yk).take k).flatMap (fun p => diffK yk yn P Q p.1) ∧ (∀ c ∈ cs, StepBase w0 c ∧ LinesSmall c.ls) ∧ cs.length ≤ k ∧ Mem B wr (srows out cs ++ rr) ∧ Below B w2 wr
set_option maxHeartbeats 8000000 in
set_option maxRecDepth 100000 in
theorem stepsWithin_any {x y : BAt} {w0 w : World} (h0 : Below w0.heap.size w0 w) (hx : BlockIn w0 x) (hy : BlockIn w0 y) (sx : LinesSmall x.ls) (sy : LinesSmall y.ls) : Calls Tryz.prog 158 #[.agg #[.string x.kind, .string x.name, x.v], .agg #[.string y.kind, .string y.name, y.v]] w fun e w' => WinPost (diffB ⟨y.kind, y.name, x.ls.map LAt.plain⟩ y.plain) w0 w e w' := by
 obtain ⟨xk, xn, xv, xl⟩ := x
 obtain ⟨yk, yn, yv, yl⟩ := y
 unfold BlockIn at hx hy
 simp only at *
 obtain ⟨xa, xc, rfl⟩ := hx.1.form
 obtain ⟨ya, yc, rfl⟩ := hy.1.form
 have G : Below w.heap.size w ((w.alloc (.cells #[.string xk, .string xn, .slice xa xl.length xc] 64)).alloc (.cells #[.string yk, .string yn, .slice ya yl.length yc] 64)) := ((Below.refl w.heap.size w).alloc (Nat.le_refl _) _).alloc (by simp) _
 have hwz : ((w.alloc (.cells #[.string xk, .string xn, .slice xa xl.length xc] 64)).alloc (.cells #[.string yk, .string yn, .slice ya yl.length yc] 64)).heap.size = w.heap.size + 2 := by simp
 have zA := (BlkAt.new w #[.string xk, .string xn, .slice xa xl.length xc] 64).below ((Below.refl _ _).alloc (Nat.le_refl _) (.cells #[.string yk, .string yn, .slice ya yl.length yc] 64))
 have zB := BlkAt.new (w.alloc (.cells #[.string xk, .string xn, .slice xa xl.length xc] 64)) #[.string yk, .string yn, .slice ya yl.length yc] 64
 rw [World.size_alloc] at zB
 have HX0 := hid_in (show LinesIn w0 (.slice xa xl.length xc) xl from hx)
 have HY0 := hid_in (show LinesIn w0 (.slice ya yl.length yc) yl from hy)
 have h02 := h0.trans (G.mono h0.size)
 have HX2 := hid_in (LinesIn.below hx h02)
 have HY2 := hid_in (LinesIn.below hy h02)
 have SX := hid_in sx
 have SY := hid_in sy
 generalize hw2 : (w.alloc (.cells #[.string xk, .string xn, .slice xa xl.length xc] 64)).alloc (.cells #[.string yk, .string yn, .slice ya yl.length yc] 64) = w2 at *
 have ew2 := hid_in hw2
 have M0 := steps_none (w.heap.size + 2) w2
 have b0 := cell_of_block zB 0
 simp only [List.getElem?_toArray, List.getElem?_cons_zero] at b0
 have HSR := fun W => implRules_any yk W
 obtain ⟨i0, hi, hz0, hz1, hz2⟩ := info_parts infoStep
 clear hx hy sx sy hw2
 generalize hnx : xl.length = nx at *
 have enx := hid_in hnx
 clear hnx
 generalize hny : yl.length = ny at *
 have eny := hid_in hny
 clear hny
 go_enter Tryz.func158, Tryz.ntmps158
 go_upto_region 2 with fail
 rw [ew2.out]
 go_wp2_with (go_at_call 54; refine (HSR _).mono ?_)
 rintro e w4 ⟨vr, L, rfl, hpl, hr, b4⟩
 have hLl := rulesOf_twelve yk hpl
 have HPL := hid_in hpl
 have HFO := hid_in (RulesAt.rin hr).2
 obtain ⟨ra, rc, rfl, _⟩ := own_form (show w4.ownsRow _ 105 4 vr L.length (L.flatMap RAt.cells) from Mem.head hr)
 obtain ⟨rr, hrr⟩ : ∃ rr, (⟨.slice ra L.length rc, 105, 4, L.length, L.flatMap RAt.cells⟩ :: L.flatMap RAt.rows : List MRow) = rr := ⟨_, rfl⟩
 have M4 : Mem (w.heap.size + 2) w4 (srows (.slice none 0 0) [] ++ rr) := by
  rw [← hrr]
  exact (Mem.join M0 hr b4 (by omega)).perm List.perm_append_comm
 have B4 : Below (w.heap.size + 2) w2 w4 := b4.mono (by omega)
 have HI := hid_in (show WinRel (w.heap.size + 2) w0 w2 yk yn (xl.map LAt.plain) (yl.map LAt.plain) L.length rr (.slice none 0 0) (.int .i64 0) w4 from ⟨0, [], rfl, by omega, by simp, by simp, by simp, M4, B4⟩)
 have ERR := hid_in hrr
 clear hr b4 hpl HSR M0 M4 B4 b0 hrr
 generalize hnr : L.length = nr at *
 have enr := hid_in hnr
 clear hnr
 go_wp2
 go_loopw [5, 14] (fun out i wr => WinRel (w.heap.size + 2) w0 w2 yk yn (xl.map LAt.plain) (yl.map LAt.plain) nr rr out i wr) (fun _ i _ => nr - (intOf i).toNat)
 case atStart => exact HI.out
 case round =>
  clear HI
  obtain ⟨k, cs, rfl, hk, hcs, hsm, hcl, hm, bw⟩ := hrel
  obtain ⟨qa, qc, rfl, _⟩ := own_form (show wr.ownsRow (w.heap.size + 2) 136 1 _ cs.length (cs.map CAt.step) from Mem.head hm)
  have hszw := bw.size
  rw [hwz] at hszw
  have hB2 : Below w2.heap.size w2 wr := by rw [hwz]; exact bw
  by_cases hlt : k < nr
  ·obtain ⟨D, r, T, eL, hD⟩ := split1 L k (by have := enr.out; omega)
   have hrow : HasRow wr (.slice ra nr rc) nr 4 (L.flatMap RAt.cells) := by
    have := Mem.right hm
    rw [← ERR.out] at this
    have h := own_has (Mem.head this)
    exact h
   rw [eL] at hrow
   obtain ⟨rg, roff, rfl, r0, r1, r2, r3⟩ := hrow.rule
   rw [hD] at r0 r1 r2 r3
   obtain ⟨⟨av, nv, cv, e1⟩, ⟨ad, nd, cd, e2⟩⟩ := HFO.out r (by rw [eL]; simp)
   rw [e1] at r1
   rw [e2] at r3
   have k1 : (0 : Int) ≤ (k : Int) := by omega
   have k2 : (k : Int) < (nr : Int) := by omega
   have HST := hid_in (show ((rulesOf yk).take (k + 1)).flatMap (fun p => diffK yk yn (xl.map LAt.plain) (yl.map LAt.plain) p.1) = cs.map CAt.plain ++ diffK yk yn (xl.map LAt.plain) (yl.map LAt.plain) r.key from by
    have e : rulesOf yk = D.map RAt.plain ++ r.plain :: T.map RAt.plain := by rw [← HPL.out, eL]; simp
    rw [take_flat _ e (by rw [List.length_map]; exact hD), hcs]; rfl)
   have hOWN := hid_in (show ∀ q, (Value.slice qa cs.length qc).ownBlock = some q → w.heap.size + 2 ≤ q ∧ q < wr.heap.size from fun q hq => Mem.lt hm (List.mem_append_left _ (List.mem_cons_self ..)) hq)
   have HM := hid_in hm
   have HSM := hid_in hsm
   clear hm hsm hcs hrow eL hD e1 e2
   generalize r.key = rk at *
   generalize r.many = rmn at *
   have bR := (Below.refl wr.heap.size wr).alloc (Nat.le_refl _) (.cells #[.string rk, .slice av nv cv, .bool rmn, .slice ad nd cd] 105)
   have zR := BlkAt.new wr #[.string rk, .slice av nv cv, .bool rmn, .slice ad nd cd] 105
   have zA4 := (zA.below hB2).below bR
   have zB4 := (zB.below hB2).below bR
   have HX4 := hid_in ((HX2.out.below hB2).below bR)
   have HY4 := hid_in ((HY2.out.below hB2).below bR)
   have HM4 := hid_in (HM.out.below bR)
   have B4 := bw.trans (bR.mono (by omega))
   go_upto_region 5 with fail
   generalize wr.alloc (.cells #[.string rk, .slice av nv cv, .bool rmn, .slice ad nd cd] 105) = W4 at *
   clear r0 r1 r2 r3 HM
   have a2 := cell_of_block zA4 2
   have q0 := cell_of_block zR 0
   simp only [List.getElem?_toArray, List.getElem?_cons_zero, List.getElem?_cons_succ] at a2 q0
   have HK := linesWithKey_any rk HX4.out SX.out.1
   go_wp2_with (go_at_call 149; refine HK.mono ?_)
   first | rintro e w5 v5 rfl o5 b5 | rintro e w5 ⟨v5, rfl, o5, b5⟩
   have hp5 := hid_in (withKey_plain xl rk)
   have hmem5 := hid_in (show ∀ z ∈ withKey xl rk, z ∈ xl from fun z hz => (List.mem_filter.1 hz).1)
   have hl5 : (withKey xl rk).length ≤ 1048576 := Nat.le_trans (List.length_filter_le _ _) SX.out.1
   have hp6 := hid_in (withKey_plain yl rk)
   have hmem6 := hid_in (show ∀ z ∈ withKey yl rk, z ∈ yl from fun z hz => (List.mem_filter.1 hz).1)
   have hl6 : (withKey yl rk).length ≤ 1048576 := Nat.le_trans (List.length_filter_le _ _) SY.out.1
   have HK6 := linesWithKey_any rk (HY4.out.below b5) SY.out.1
   generalize withKey xl rk = l5 at *
   generalize withKey yl rk = l6 at *
   obtain ⟨a5, c5, rfl, _⟩ := own_form o5
   have zB5 := zB4.below b5
   have zR5 := zR.below b5
   have d2 := cell_of_block zB5 2
   have q5 := cell_of_block zR5 0
   simp only [List.getElem?_toArray, List.getElem?_cons_zero, List.getElem?_cons_succ] at d2 q5
   have H5 := hid_in (show LinesIn w5 (.slice a5 l5.length c5) l5 from ⟨own_has o5, fun z hz => (HX4.out.2 z (hmem5.out z hz)).below b5⟩)
   have S5 := hid_in (show LinesSmall l5 from ⟨hl5, fun z hz => SX.out.2 z (hmem5.out z hz)⟩)
   clear HK o5 a2 q0
   generalize hn5 : l5.length = n5 at *
   clear hn5
   go_wp2_with (go_at_call 149; refine HK6.mono ?_)
   first | rintro e w6 v6 rfl o6 b6 | rintro e w6 ⟨v6, rfl, o6, b6⟩
   obtain ⟨a6, c6, rfl, _⟩ := own_form o6
   have S6 := hid_in (show LinesSmall l6 from ⟨hl6, fun z hz => SY.out.2 z (hmem6.out z hz)⟩)
   have H6 := hid_in (show LinesIn w6 (.slice a6 l6.length c6) l6 from ⟨own_has o6, fun z hz => ((HY4.out.below b5).2 z (hmem6.out z hz)).below b6⟩)
   have O6 := hid_in o6
   have HE := eqFunc_any (H5.out.below b6) H6.out S5.out S6.out
   have zB6 := zB5.below b6
   have zR6 := zR5.below b6
   have B5 := B4.trans (b5.mono (by have := B4.size; omega))
   have HM5 := hid_in (HM4.out.below b5)
   generalize hEQ : decide (l5.map LAt.ws = l6.map LAt.ws) = EQ at HE
   have EEQ := hid_in hEQ
   clear HK6 o6 d2 q5 zB5 zR5 zB4 zR zA4 hEQ B4 HM4
   generalize hn6 : l6.length = n6 at *
   have en6 := hid_in hn6
   clear hn6
   have hnn6 : n6 ≤ 1048576 := hl6
   go_wp2_with (go_at_call 217; refine HE.mono ?_)
   rintro e w7 ⟨rfl, b7⟩
   have b67 := b6.trans (b7.mono b6.size)
   have B7 := B5.trans (b67.mono (by have := B5.size; omega))
   cases EQ
   ·have hne := hid_in (show ¬ ofK (xl.map LAt.plain) rk = ofK (yl.map LAt.plain) rk from fun h => of_decide_eq_false EEQ.out ((words_eq hp5.out hp6.out).2 h))
    have zB7 := zB6.below b7
    have zR7 := zR6.below b7
    clear HE zB6 zR6
    have O7 := hid_in (own_below O6.out b7)
    have y0 := cell_of_block zB7 0
    have y1 := cell_of_block zB7 1
    have y2 := cell_of_block zB7 2
    have y3 := cell_of_block zR7 0
    simp only [List.getElem?_toArray, List.getElem?_cons_zero, List.getElem?_cons_succ] at y0 y1 y2 y3
    have HS7 := hid_in (show WinS (w.heap.size + 1) wr.heap.size yk yn (.slice ya ny yc) rk w7 from ⟨y0, y1, y2, y3⟩)
    clear y0 y1 y2 y3 zB7 zR7
    by_cases hn0 : n6 = 0
    ·have HEM := hid_in (show l6.map LAt.plain = [] from by rw [List.length_eq_zero_iff.1 (en6.out.trans hn0)]; rfl)
     subst hn0
     have t0 : ∀ p : { W : World // WinS (w.heap.size + 1) wr.heap.size yk yn (.slice ya ny yc) rk W }, p.1.cell? ⟨w.heap.size + 1, 0, none⟩ = some (.string yk) := fun p => p.2.1
     have t1 : ∀ p : { W : World // WinS (w.heap.size + 1) wr.heap.size yk yn (.slice ya ny yc) rk W }, p.1.cell? ⟨w.heap.size + 1, 1, none⟩ = some (.string yn) := fun p => p.2.2.1
     have t2 : ∀ p : { W : World // WinS (w.heap.size + 1) wr.heap.size yk yn (.slice ya ny yc) rk W }, p.1.cell? ⟨w.heap.size + 1, 2, none⟩ = some (.slice ya ny yc) := fun p => p.2.2.2.1
     have t3 : ∀ p : { W : World // WinS (w.heap.size + 1) wr.heap.size yk yn (.slice ya ny yc) rk W }, p.1.cell? ⟨wr.heap.size, 0, none⟩ = some (.string rk) := fun p => p.2.2.2.2
     letI : Inhabited { W : World // WinS (w.heap.size + 1) wr.heap.size yk yn (.slice ya ny yc) rk W } := ⟨⟨w7, HS7.out⟩⟩
     have Bd : Below w7.heap.size w7 w7.drew := (Below.refl _ _).drew
     have HH := headOf_all yk yn ya ny yc w7.drew
     go_upto_region 9 with fail
     refine wp_region_hold (S := (WinS (w.heap.size + 1) wr.heap.size yk yn (.slice ya ny yc) rk)) 9 10 (by kernel_rfl) rfl ?_
     refine wpHold_mask [true, true, false, true, true, false, false, false, false, false] 6 rfl (by kernel_rfl) (HS7.out.below Bd) ?_
     simp only [maskL_t, maskL_f, maskL_n]
     iterate 4 (refine wpReads_step (fun K hK => ?_); go_simp; refine hK _ ?_; clear hK K)
     refine wpReads_nil ?_
     clear t0 t1 t2 t3
     refine wpHold_branch (f := 5) (rs := [2]) (by kernel_rfl) (by simp) ?_
     refine AllHold.cons rfl (by decide) (fun K hK => ?_) AllHold.nil
     go_simp
     go_wp2_with (go_at_call 86; refine HH.mono ?_; rintro e w8 ⟨rfl, b8⟩)
     have b8' : Below w7.heap.size w7 w8 := Bd.trans b8
     have HS8 := HS7.out.below b8'
     refine hK.out _ _ HS8 ?_
     clear hK K
     refine wpHold_mask [false, false, false, false, false, true, true, false, false, false] 3 rfl (by kernel_rfl) HS8 ?_
     simp only [maskL_t, maskL_f, maskL_n]
     iterate 2 (refine wpReads_step (fun K hK => ?_); go_simp; refine hK _ ?_; clear hK K)
     refine wpReads_nil ?_
     refine wpHold_branch (f := 2) (rs := [7]) (by kernel_rfl) (by simp) ?_
     refine AllHold.cons rfl (by decide) (fun K hK => ?_) AllHold.nil
     go_simp
     have bN := (Below.refl w8.heap.size w8).alloc (Nat.le_refl _) (.cells #[(.iface 225 (.agg #[.string yk, .string yn, .string rk]))] 136)
     have b58 := b67.trans (b8'.mono b67.size)
     have hm3 : (w8.alloc (.cells #[(.iface 225 (.agg #[.string yk, .string yn, .string rk]))] 136)).ownsRow (w.heap.size + 2) 136 1 (.slice qa cs.length qc) cs.length (cs.map CAt.step) := (show w8.ownsRow (w.heap.size + 2) 136 1 (.slice qa cs.length qc) cs.length (cs.map CAt.step) from Mem.head (HM5.out.below b58)).alloc _
     have hrow := lit_has w8 #[(.iface 225 (.agg #[.string yk, .string yn, .string rk]))] 136 1 rfl
     have hone : ∀ u ∈ (#[(.iface 225 (.agg #[.string yk, .string yn, .string rk]))] : Array Value).toList, u.oneCell' = true := by intro u hu; simp at hu; rw [hu]; rfl
     have HSN := HS8.below bN
     refine hK.out _ _ HSN ?_
     clear hK K
     refine wpHold_branch (f := 1) (rs := [8]) (by kernel_rfl) (by simp) ?_
     refine AllHold.cons rfl (by decide) (fun K hK => ?_) AllHold.nil
     have hz5 := B5.size
     have hz58 := b58.size
     refine step_append_has rfl _ _ 133 rfl (w.heap.size + 2) 136 i0 _ 1 16 Tryz.underlying133 hi hz0 hz1 hz2 rfl (by decide) _ cs.length _ rfl hm3 _ 1 _ rfl hrow hone (by unfold maxLen; omega) (by omega) (by rw [World.size_alloc]; omega) ?_
     intro ao' cap' wE hownE hgE hvE
     have HPU := steps_push (x := ⟨4, yk, yn, rk, .slice none 0 0, []⟩) HM5.out (by omega) (⟨fun _ h => (by cases h), (by simp)⟩ : Mem w5.heap.size w8 []) b58 bN hownE hgE hvE
     have BE := B5.trans (HPU.2.mono (by omega))
     have HSE := HSN.far hgE (fun e => by have := (hOWN.out _ e).1; omega) (fun e => by have := (hOWN.out _ e).2; omega)
     refine hK.out _ _ HSE ?_
     clear hK K
     have HR := hid_in (show WinRel (w.heap.size + 2) w0 w2 yk yn (xl.map LAt.plain) (yl.map LAt.plain) nr rr (.slice ao' (cs.length + 1) cap') (.int .i64 ((k : Int) + 1)) wE from ⟨k + 1, cs ++ [⟨4, yk, yn, rk, .slice none 0 0, []⟩], by rw [Int.natCast_add]; rfl, by omega, by
      rw [HST.out, List.map_append, List.map_singleton]
      unfold diffK
      rw [if_neg hne.out]
      show _ = _ ++ [(⟨_, yk, yn, rk, ofK (yl.map LAt.plain) rk⟩ : PChange)]
      rw [← hp6.out, HEM.out, if_pos (by rfl)]; rfl, fun c hc => by
      rcases List.mem_append.1 hc with hc | hc
      ·exact HSM.out c hc
      ·rw [List.mem_singleton.1 hc]; exact ⟨.inr (.inr (.inr ⟨rfl, rfl⟩)), Nat.zero_le _, fun _ h => by cases h⟩, by simp; omega, HPU.1, BE⟩)
     clear hm3 hrow hone hownE hgE hvE HPU bN
     refine wpHold_last (by kernel_rfl) rfl (by kernel_rfl) ?_
     intro K hK
     go_simp
     refine hK.out _ _ (NoPanic.normal ?_)
     clear hK K
     go_wp2
     go_roundw
     case rel => exact HR.out
     case measure => simp [intOf]; omega
    ·have hq0 : ((n6 : Int) == 0) = false := by rw [beq_eq_false_iff_ne]; omega
     have HEM := hid_in (show l6.map LAt.plain ≠ [] from fun e => hn0 (by rw [← en6.out]; exact List.length_eq_zero_iff.2 (List.map_eq_nil_iff.1 e)))
     have t0 : ∀ p : { W : World // WinS (w.heap.size + 1) wr.heap.size yk yn (.slice ya ny yc) rk W }, p.1.cell? ⟨w.heap.size + 1, 0, none⟩ = some (.string yk) := fun p => p.2.1
     have t1 : ∀ p : { W : World // WinS (w.heap.size + 1) wr.heap.size yk yn (.slice ya ny yc) rk W }, p.1.cell? ⟨w.heap.size + 1, 1, none⟩ = some (.string yn) := fun p => p.2.2.1
     have t2 : ∀ p : { W : World // WinS (w.heap.size + 1) wr.heap.size yk yn (.slice ya ny yc) rk W }, p.1.cell? ⟨w.heap.size + 1, 2, none⟩ = some (.slice ya ny yc) := fun p => p.2.2.2.1
     have t3 : ∀ p : { W : World // WinS (w.heap.size + 1) wr.heap.size yk yn (.slice ya ny yc) rk W }, p.1.cell? ⟨wr.heap.size, 0, none⟩ = some (.string rk) := fun p => p.2.2.2.2
     letI : Inhabited { W : World // WinS (w.heap.size + 1) wr.heap.size yk yn (.slice ya ny yc) rk W } := ⟨⟨w7, HS7.out⟩⟩
     have Bd : Below w7.heap.size w7 w7.drew := (Below.refl _ _).drew
     have HH := headOf_all yk yn ya ny yc w7.drew
     go_upto_region 10 with fail
     refine wp_region_hold (S := (WinS (w.heap.size + 1) wr.heap.size yk yn (.slice ya ny yc) rk)) 10 11 (by kernel_rfl) rfl ?_
     refine wpHold_mask [true, true, false, true, true, true, false, false, false, false, false] 6 rfl (by kernel_rfl) (HS7.out.below Bd) ?_
     simp only [maskL_t, maskL_f, maskL_n]
     iterate 5 (refine wpReads_step (fun K hK => ?_); go_simp; refine hK _ ?_; clear hK K)
     refine wpReads_nil ?_
     clear t0 t1 t2 t3
     refine wpHold_branch (f := 5) (rs := [2]) (by kernel_rfl) (by simp) ?_
     refine AllHold.cons rfl (by decide) (fun K hK => ?_) AllHold.nil
     go_simp
     go_wp2_with (go_at_call 86; refine HH.mono ?_; rintro e w8 ⟨rfl, b8⟩)
     have b8' : Below w7.heap.size w7 w8 := Bd.trans b8
     have HS8 := HS7.out.below b8'
     refine hK.out _ _ HS8 ?_
     clear hK K
     refine wpHold_mask [false, false, false, false, false, false, true, true, false, false, false] 3 rfl (by kernel_rfl) HS8 ?_
     simp only [maskL_t, maskL_f, maskL_n]
     iterate 2 (refine wpReads_step (fun K hK => ?_); go_simp; refine hK _ ?_; clear hK K)
     refine wpReads_nil ?_
     refine wpHold_branch (f := 2) (rs := [8]) (by kernel_rfl) (by simp) ?_
     refine AllHold.cons rfl (by decide) (fun K hK => ?_) AllHold.nil
     go_simp
     have bN := (Below.refl w8.heap.size w8).alloc (Nat.le_refl _) (.cells #[(.iface 223 (.agg #[.string yk, .string yn, .string rk, .slice a6 n6 c6]))] 136)
     have b58 := b67.trans (b8'.mono b67.size)
     have hm3 : (w8.alloc (.cells #[(.iface 223 (.agg #[.string yk, .string yn, .string rk, .slice a6 n6 c6]))] 136)).ownsRow (w.heap.size + 2) 136 1 (.slice qa cs.length qc) cs.length (cs.map CAt.step) := (show w8.ownsRow (w.heap.size + 2) 136 1 (.slice qa cs.length qc) cs.length (cs.map CAt.step) from Mem.head (HM5.out.below b58)).alloc _
     have hrow := lit_has w8 #[(.iface 223 (.agg #[.string yk, .string yn, .string rk, .slice a6 n6 c6]))] 136 1 rfl
     have hone : ∀ u ∈ (#[(.iface 223 (.agg #[.string yk, .string yn, .string rk, .slice a6 n6 c6]))] : Array Value).toList, u.oneCell' = true := by intro u hu; simp at hu; rw [hu]; rfl
     have HSN := HS8.below bN
     refine hK.out _ _ HSN ?_
     clear hK K
     refine wpHold_branch (f := 1) (rs := [9]) (by kernel_rfl) (by simp) ?_
     refine AllHold.cons rfl (by decide) (fun K hK => ?_) AllHold.nil
     have hz5 := B5.size
     have hz58 := b58.size
     refine step_append_has rfl _ _ 133 rfl (w.heap.size + 2) 136 i0 _ 1 16 Tryz.underlying133 hi hz0 hz1 hz2 rfl (by decide) _ cs.length _ rfl hm3 _ 1 _ rfl hrow hone (by unfold maxLen; omega) (by omega) (by rw [World.size_alloc]; omega) ?_
     intro ao' cap' wE hownE hgE hvE
     have HPU := steps_push (x := ⟨3, yk, yn, rk, .slice a6 n6 c6, l6⟩) HM5.out (by omega) (Mem.own1 (show w8.ownsRow w5.heap.size 82 2 (.slice a6 n6 c6) l6.length (l6.flatMap LAt.cells) from by rw [en6.out]; exact own_below O7.out b8')) b58 bN hownE hgE hvE
     have BE := B5.trans (HPU.2.mono (by omega))
     have HSE := HSN.far hgE (fun e => by have := (hOWN.out _ e).1; omega) (fun e => by have := (hOWN.out _ e).2; omega)
     refine hK.out _ _ HSE ?_
     clear hK K
     have HR := hid_in (show WinRel (w.heap.size + 2) w0 w2 yk yn (xl.map LAt.plain) (yl.map LAt.plain) nr rr (.slice ao' (cs.length + 1) cap') (.int .i64 ((k : Int) + 1)) wE from ⟨k + 1, cs ++ [⟨3, yk, yn, rk, .slice a6 n6 c6, l6⟩], by rw [Int.natCast_add]; rfl, by omega, by
      rw [HST.out, List.map_append, List.map_singleton]
      unfold diffK
      rw [if_neg hne.out]
      show _ = _ ++ [(⟨_, yk, yn, rk, ofK (yl.map LAt.plain) rk⟩ : PChange)]
      rw [← hp6.out, if_neg (by rw [List.isEmpty_iff]; exact HEM.out)]; rfl, fun c hc => by
      rcases List.mem_append.1 hc with hc | hc
      ·exact HSM.out c hc
      ·rw [List.mem_singleton.1 hc]; exact ⟨.inr (.inr (.inl ⟨rfl, fun z hz => HY0.out.2 z (hmem6.out z hz)⟩)), S6.out⟩, by simp; omega, HPU.1, BE⟩)
     clear hm3 hrow hone hownE hgE hvE HPU bN
     refine wpHold_last (by kernel_rfl) rfl (by kernel_rfl) ?_
     intro K hK
     go_simp
     refine hK.out _ _ (NoPanic.normal ?_)
     clear hK K
     go_wp2
     go_roundw
     case rel => exact HR.out
     case measure => simp [intOf]; omega
   ·have heq := (words_eq hp5.out hp6.out).1 (of_decide_eq_true EEQ.out)
    have HR := hid_in (show WinRel (w.heap.size + 2) w0 w2 yk yn (xl.map LAt.plain) (yl.map LAt.plain) nr rr (.slice qa cs.length qc) (.int .i64 ((k : Int) + 1)) w7 from ⟨k + 1, cs, by rw [Int.natCast_add]; rfl, by omega, by
     rw [HST.out]
     unfold diffK
     rw [if_pos heq, List.append_nil], HSM.out, by omega, HM5.out.below b67, B7⟩)
    clear HE zB6 zR6 B5 b6 b7 b67 B7
    go_wp2
    go_roundw
    case rel => exact HR.out
    case measure => simp [intOf]; omega
  ·obtain rfl : k = nr := by omega
   have HO := hid_in (show WinPost (diffB ⟨yk, yn, xl.map LAt.plain⟩ ⟨yk, yn, yl.map LAt.plain⟩) w0 w (.returned (.slice qa cs.length qc)) wr from ⟨_, cs, rfl, by
    rw [hcs, ← enr.out, ← List.length_map (f := RAt.plain), HPL.out, List.take_length]; rfl, hsm, Mem.mono (Mem.left hm) (by omega), by omega, G.trans (bw.mono (by omega))⟩)
   clear hm hsm hcs
   generalize cs.length = nc at *
   go_wp2
   go_ret
   exact HO.out
end Go.Proofs.YtpdahhnjhggocabGreatDoor
namespace Go.Proofs.YtpdahhnjhggocabGreatDoor
open Go.RowKit
theorem cmpAt_get {P : List PBlock} {kind name : ByteArray} {t : Nat} (ht : t < P.length) : cmpAt P kind name t = blockCmp P[t].kind P[t].name kind name := by
 unfold cmpAt
 rw [List.getElem?_eq_getElem ht]
theorem cmp_head {b : PBlock} {kind name : ByteArray} : blockCmp b.kind b.name kind name = 0 ↔ isHead kind name b = true := by
 unfold blockCmp orI isHead
 rw [Bool.and_eq_true, beq_iff_eq, beq_iff_eq]
 by_cases h : cmpL b.kind.toList kind.toList = 0
 ·rw [if_pos h, cmpL_zero]
  rw [cmpL_zero] at h
  exact ⟨fun k => ⟨h, k⟩, fun k => k.2⟩
 ·rw [if_neg h]
  exact ⟨fun k => absurd k h, fun k => absurd ((cmpL_zero _ _).2 k.1) h⟩
theorem find_at {P : List PBlock} {q : PBlock → Bool} {i : Nat} (hi : i < P.length) (h : q P[i] = true) (hb : ∀ t (ht : t < P.length), t < i → q P[t] = false) : P.find? q = some P[i] := by
 rw [List.find?_eq_some_iff_getElem]
 exact ⟨h, i, hi, rfl, fun j hj => by rw [hb j (by omega) hj]; rfl⟩
theorem bs_hit {P : List PBlock} {kind name : ByteArray} {i : Nat} (h : Belongs P kind name i) (hi : i < P.length) (hc : cmpAt P kind name i = 0) : P.find? (isHead kind name) = some P[i] := by
 refine find_at hi (cmp_head.1 (by rw [← cmpAt_get hi]; exact hc)) fun t ht hti => ?_
 have h1 := h.2.1 t hti
 rw [cmpAt_get ht] at h1
 cases hh : isHead kind name P[t]
 ·rfl
 ·rw [cmp_head.2 hh] at h1
  exact absurd h1 (by decide)
theorem bs_miss {P : List PBlock} {kind name : ByteArray} {i : Nat} (hs : P.Pairwise (fun a b => blockLt a b = true)) (h : Belongs P kind name i) (hc : ¬ (i < P.length ∧ cmpAt P kind name i = 0)) : P.find? (isHead kind name) = none := by
 rw [List.find?_eq_none]
 intro b hb hh
 obtain ⟨t, ht, rfl⟩ := List.mem_iff_getElem.1 hb
 have h0 := cmp_head.2 hh
 have hti : ¬ t < i := fun hlt => by
  have := h.2.1 t hlt
  rw [cmpAt_get ht, h0] at this
  exact absurd this (by decide)
 rcases Nat.lt_or_ge i t with hlt | hge
 ·have hi : i < P.length := by omega
  have h1 := List.pairwise_iff_getElem.1 hs i t hi ht hlt
  have h2 := h.2.2 i (Nat.le_refl _) hi
  rw [cmpAt_get hi] at h2
  have h3 := (blockCmp_lt P[i] P[t]).2 h1
  unfold isHead at hh
  rw [Bool.and_eq_true, beq_iff_eq, beq_iff_eq] at hh
  unfold blockCmp at h2 h3
  rw [hh.1, hh.2] at h3
  exact h2 h3
 ·have e : t = i := by omega
  subst e
  exact hc ⟨ht, by rw [cmpAt_get ht]; exact h0⟩
end Go.Proofs.YtpdahhnjhggocabGreatDoor
namespace Go.Proofs.YtpdahhnjhggocabGreatDoor
open Go.RowKit
def BlkS (g : Nat) (k n : ByteArray) (v : Value) (W : World) : Prop := W.cell? ⟨g, 0, none⟩ = some (.string k) ∧ W.cell? ⟨g, 1, none⟩ = some (.string n) ∧ W.cell? ⟨g, 2, none⟩ = some v
theorem BlkS.below {g : Nat} {k n : ByteArray} {v : Value} {w W : World} (s : BlkS g k n v w) (hb : Below w.heap.size w W) : BlkS g k n v W := ⟨(hb.cell (World.block_lt_of_cell? w _ s.1)).trans s.1, (hb.cell (World.block_lt_of_cell? w _ s.2.1)).trans s.2.1, (hb.cell (World.block_lt_of_cell? w _ s.2.2)).trans s.2.2⟩
theorem BlkS.far {g : Nat} {k n : ByteArray} {v : Value} {w W : World} {row : Option Nat} (s : BlkS g k n v w) (hg : w.grownBy W row) (h1 : row ≠ some g) : BlkS g k n v W := ⟨(hg.cell_far ⟨g, 0, none⟩ (World.block_lt_of_cell? w _ s.1) (Ne.symm h1)).trans s.1, (hg.cell_far ⟨g, 1, none⟩ (World.block_lt_of_cell? w _ s.2.1) (Ne.symm h1)).trans s.2.1, (hg.cell_far ⟨g, 2, none⟩ (World.block_lt_of_cell? w _ s.2.2) (Ne.symm h1)).trans s.2.2⟩
def RowS (g o : Nat) (k n : ByteArray) (v : Value) (W : World) : Prop := W.cell? ⟨g, o, none⟩ = some (.string k) ∧ W.cell? ⟨g, o + 1, none⟩ = some (.string n) ∧ W.cell? ⟨g, o + 2, none⟩ = some v
theorem RowS.upto {g o B : Nat} {k n : ByteArray} {v : Value} {w W : World} (s : RowS g o k n v w) (hg : g < B) (hb : Below B w W) : RowS g o k n v W := ⟨(hb.cell (p := ⟨g, o, none⟩) hg).trans s.1, (hb.cell (p := ⟨g, o + 1, none⟩) hg).trans s.2.1, (hb.cell (p := ⟨g, o + 2, none⟩) hg).trans s.2.2⟩
def BetPost (P : List PChange) (w : World) (e : Ending) (w' : World) : Prop := ∃ v' cs', e = .returned v' ∧ cs'.map CAt.plain = P ∧ (∀ c ∈ cs', StepBase w c ∧ LinesSmall c.ls) ∧ cs'.length ≤ 14000000 ∧ Mem w.heap.size w' (srows v' cs') ∧ Below w.heap.size w w'
def Bet1 (w : World) (A Q : List PBlock) (na : Nat) (out i : Value) (wr : World) : Prop := ∃ (k : Nat) (cs : List CAt), i = .int .i64 (k : Int) ∧ k ≤ na ∧ cs.map CAt.plain = goneS (A.take k) Q ∧ (∀ c ∈ cs, StepBase w c ∧ LinesSmall c.ls) ∧ cs.length ≤ k ∧ Mem w.heap.size wr (srows out cs) ∧ Below w.heap.size w wr
def Bet2 (w : World) (A Q : List PBlock) (na nb : Nat) (out i : Value) (wr : World) : Prop := ∃ (k : Nat) (cs : List CAt), i = .int .i64 (k : Int) ∧ k ≤ nb ∧ cs.map CAt.plain = goneS A Q ++ (Q.take k).flatMap (diffY A) ∧ (∀ c ∈ cs, StepBase w c ∧ LinesSmall c.ls) ∧ cs.length ≤ na + 12 * k ∧ Mem w.heap.size wr (srows out cs) ∧ Below w.heap.size w wr
set_option maxHeartbeats 8000000 in
set_option maxRecDepth 100000 in
theorem stepsBetween_any {va vb : Value} {az bs : List BAt} {w : World} (ha : BlocksIn w va az) (hb : BlocksIn w vb bs) (sa : BlocksSmall az) (sb : BlocksSmall bs) (oka : SheetOk (az.map BAt.plain)) (okb : SheetOk (bs.map BAt.plain)) : Calls Tryz.prog 92 #[va, vb] w fun e w' => BetPost (goneS (az.map BAt.plain) (bs.map BAt.plain) ++ (bs.map BAt.plain).flatMap (diffY (az.map BAt.plain))) w e w' := by
 obtain ⟨aa, ac, rfl⟩ := ha.1.form
 obtain ⟨ba, bc, rfl⟩ := hb.1.form
 have HA := hid_in ha
 have HB := hid_in hb
 have SA := hid_in sa
 have SB := hid_in sb
 have hal : az.length ≤ 1048576 := sa.1
 have hbl : bs.length ≤ 1048576 := sb.1
 have HFA := hid_in (show ∀ kind name W, Below w.heap.size w W → Calls Tryz.prog 157 #[.slice aa az.length ac, .agg #[.string kind, .string name]] W fun e w' => BsPost (az.map BAt.plain) kind name W e w' from fun kind name W hW => findBlock_any kind name (ha.below hW) hal (fun s t h1 h2 h3 => sheet_mono oka.2.2 kind name s t h1 (by rw [List.length_map]; exact h2) h3))
 have HFB := hid_in (show ∀ kind name W, Below w.heap.size w W → Calls Tryz.prog 157 #[.slice ba bs.length bc, .agg #[.string kind, .string name]] W fun e w' => BsPost (bs.map BAt.plain) kind name W e w' from fun kind name W hW => findBlock_any kind name (hb.below hW) hbl (fun s t h1 h2 h3 => sheet_mono okb.2.2 kind name s t h1 (by rw [List.length_map]; exact h2) h3))
 have PWA := hid_in oka.2.2
 have PWB := hid_in okb.2.2
 have M0 := steps_none w.heap.size w
 obtain ⟨i0, hi, hz0, hz1, hz2⟩ := info_parts infoStep
 clear ha hb sa sb oka okb
 obtain ⟨PA, ePA⟩ : ∃ PA, az.map BAt.plain = PA := ⟨_, rfl⟩
 obtain ⟨PB, ePB⟩ : ∃ PB, bs.map BAt.plain = PB := ⟨_, rfl⟩
 rw [ePA, ePB]
 rw [ePA] at HFA PWA
 rw [ePB] at HFB PWB
 have EPA := hid_in ePA
 have EPB := hid_in ePB
 clear ePA ePB
 generalize hna : az.length = na at *
 have ena := hid_in hna
 clear hna
 generalize hnb : bs.length = nb at *
 have enb := hid_in hnb
 clear hnb
 have HI1 := hid_in (show Bet1 w PA PB na (.slice none 0 0) (.int .i64 0) w from ⟨0, [], rfl, by omega, by simp [goneS], by simp, by simp, M0, Below.refl _ _⟩)
 clear M0
 go_enter Tryz.func92, Tryz.ntmps92
 go_wp2
 go_loopw [5, 16] (fun out i wr => Bet1 w PA PB na out i wr) (fun _ i _ => na - (intOf i).toNat)
 case atStart => exact HI1.out
 case round =>
  clear HI1
  obtain ⟨k, cs, rfl, hk, hcs, hsm, hcl, hm, bw⟩ := hrel
  obtain ⟨qa, qc, rfl, _⟩ := own_form (show wr.ownsRow w.heap.size 136 1 _ cs.length (cs.map CAt.step) from Mem.head hm)
  have hszw := bw.size
  by_cases hlt : k < na
  ·obtain ⟨D, x, T, eL, hD⟩ := split1 az k (by have := ena.out; omega)
   have hrow := HA.out.1
   rw [eL] at hrow
   obtain ⟨g, off, rfl, d0, d1, d2⟩ := hrow.block
   rw [hD] at d0 d1 d2
   have hxm : x ∈ az := by rw [eL]; simp
   obtain ⟨xa, xc, ex⟩ := (HA.out.2 x hxm).1.form
   rw [ex] at d2
   have HST := hid_in (show goneS (PA.take (k + 1)) PB = cs.map CAt.plain ++ (if (PB.find? (isHead x.kind x.name)).isNone = true then [goneOf x.plain] else []) from by
    have e : PA = D.map BAt.plain ++ x.plain :: T.map BAt.plain := by rw [← EPA.out, eL]; simp
    have := goneS_snoc (B := PB) e
    rw [List.length_map, hD] at this
    rw [this, hcs]; rfl)
   have HGO := hid_in (show goneOf x.plain = CAt.plain ⟨1, x.kind, x.name, ⟨#[]⟩, .slice none 0 0, []⟩ from rfl)
   have lg := World.block_lt_of_cell? w _ d0
   have c0 := (bw.cell (p := ⟨g, off + k * 3, none⟩) lg).trans d0
   have c1 := (bw.cell (p := ⟨g, off + k * 3 + 1, none⟩) lg).trans d1
   have c2 := (bw.cell (p := ⟨g, off + k * 3 + 2, none⟩) lg).trans d2
   have k1 : (0 : Int) ≤ (k : Int) := by omega
   have k2 : (k : Int) < (na : Int) := by omega
   have HM := hid_in hm
   have HSM := hid_in hsm
   clear hm hsm hcs hrow eL hD d0 d1 d2 ex hxm
   generalize x.plain = xp at *
   generalize x.kind = xk at *
   generalize x.name = xn at *
   generalize x.ls.length = nx at *
   have bR := (Below.refl wr.heap.size wr).alloc (Nat.le_refl _) (.cells #[.string xk, .string xn, .slice xa nx xc] 64)
   have zR := BlkAt.new wr #[.string xk, .string xn, .slice xa nx xc] 64
   have HM4 := hid_in (HM.out.below bR)
   have B4 := bw.trans (bR.mono hszw)
   go_upto_region 5 with fail
   generalize wr.alloc (.cells #[.string xk, .string xn, .slice xa nx xc] 64) = W4 at *
   clear c0 c1 c2 HM bR
   have y0 := cell_of_block zR 0
   have y1 := cell_of_block zR 1
   have y2 := cell_of_block zR 2
   simp only [List.getElem?_toArray, List.getElem?_cons_zero, List.getElem?_cons_succ] at y0 y1 y2
   have HH := fun W => headOf_all xk xn xa nx xc W
   go_wp2_with (go_at_call 86; refine (HH _).mono ?_)
   first | rintro e w5 rfl b5 | rintro e w5 ⟨rfl, b5⟩
   have B5 := B4.trans (b5.mono B4.size)
   have zR5 := zR.below b5
   have HM5 := hid_in (HM4.out.below b5)
   clear y0 y1 y2 zR HM4 B4
   have HF := HFB.out xk xn w5 B5
   go_wp2_with (go_at_call 157; refine HF.mono ?_)
   first | rintro e w6 i f rfl hbe hf b6 | rintro e w6 ⟨i, f, rfl, hbe, hf, b6⟩
   have B6 := B5.trans (b6.mono B5.size)
   have zR6 := zR5.below b6
   have HM6 := hid_in (HM5.out.below b6)
   clear zR5 HM5 HF B5
   cases f
   ·have HNO := hid_in (bs_miss PWB.out hbe (fun h => by have := hf.2 h; cases this))
    have y0 := cell_of_block zR6 0
    have y1 := cell_of_block zR6 1
    have y2 := cell_of_block zR6 2
    simp only [List.getElem?_toArray, List.getElem?_cons_zero, List.getElem?_cons_succ] at y0 y1 y2
    clear hbe hf
    go_wp2_with (go_at_call 86; refine (HH _).mono ?_)
    first | rintro e w7 rfl b7 | rintro e w7 ⟨rfl, b7⟩
    have B7 := B6.trans (b7.mono B6.size)
    have bN := (Below.refl w7.heap.size w7).alloc (Nat.le_refl _) (.cells #[.iface 217 (.agg #[.string xk, .string xn])] 136)
    have hm3 : (w7.alloc (.cells #[.iface 217 (.agg #[.string xk, .string xn])] 136)).ownsRow w.heap.size 136 1 (.slice qa cs.length qc) cs.length (cs.map CAt.step) := (show w7.ownsRow w.heap.size 136 1 (.slice qa cs.length qc) cs.length (cs.map CAt.step) from Mem.head (HM6.out.below b7)).alloc _
    have hrow := lit_has w7 #[.iface 217 (.agg #[.string xk, .string xn])] 136 1 rfl
    have hone : ∀ u ∈ (#[.iface 217 (.agg #[.string xk, .string xn])] : Array Value).toList, u.oneCell' = true := by intro u hu; simp at hu; rw [hu]; rfl
    have hz6 := B6.size
    have hz7 := B7.size
    clear y0 y1 y2 zR6 HH
    go_wp2_with (at_builtin; refine wpList_append_has (by rfl) _ _ 133 (by rfl) w.heap.size 136 i0 _ 1 16 Tryz.underlying133 hi hz0 hz1 hz2 rfl (by decide) _ cs.length _ (by rfl) hm3 _ 1 _ (by rfl) hrow hone ?c3 ?c4 (by rw [World.size_alloc]; omega) ?_)
    case c3 => unfold maxLen; omega
    case c4 => omega
    intro ao' cap' wE hownE hgE hvE
    have HPU := steps_push (x := ⟨1, xk, xn, ⟨#[]⟩, .slice none 0 0, []⟩) (rest := []) (by rw [List.append_nil]; exact HM6.out) hz6 (⟨fun _ h => (by cases h), (by simp)⟩ : Mem w6.heap.size w7 []) b7 bN hownE hgE (by rw [World.size_alloc]; exact hvE)
    rw [List.append_nil] at HPU
    have HR := hid_in (show Bet1 w PA PB na (.slice ao' (cs.length + 1) cap') (.int .i64 ((k : Int) + 1)) wE from ⟨k + 1, cs ++ [⟨1, xk, xn, ⟨#[]⟩, .slice none 0 0, []⟩], by rw [Int.natCast_add]; rfl, by omega, by
     rw [HST.out, HNO.out, List.map_append, List.map_singleton, if_pos (by rfl), HGO.out], fun c hc => by
     rcases List.mem_append.1 hc with hc | hc
     ·exact HSM.out c hc
     ·rw [List.mem_singleton.1 hc]; exact ⟨.inl ⟨rfl, rfl, rfl⟩, Nat.zero_le _, fun _ h => by cases h⟩, by simp; omega, HPU.1, B6.trans (HPU.2.mono (Nat.le_refl _))⟩)
    clear hm3 hrow hone hownE hgE hvE HPU bN
    go_wp2
    go_roundw
    case rel => exact HR.out
    case measure => simp [intOf]; omega
   ·obtain ⟨hi1, hi2⟩ := hf.1 rfl
    have HYES := hid_in (bs_hit hbe hi1 hi2)
    have HR := hid_in (show Bet1 w PA PB na (.slice qa cs.length qc) (.int .i64 ((k : Int) + 1)) w6 from ⟨k + 1, cs, by rw [Int.natCast_add]; rfl, by omega, by
     rw [HST.out, HYES.out, if_neg (by simp), List.append_nil], HSM.out, by omega, HM6.out, B6⟩)
    clear HYES hbe hf zR6 HH hi1 hi2
    go_wp2
    go_roundw
    case rel => exact HR.out
    case measure => simp [intOf]; omega
  ·obtain rfl : k = na := by omega
   have hPA : PA.take k = PA := by rw [← EPA.out, ← ena.out, ← List.length_map (f := BAt.plain), List.take_length]
   rw [hPA] at hcs
   have HI2 := hid_in (show Bet2 w PA PB k nb (.slice qa cs.length qc) (.int .i64 0) wr from ⟨0, cs, rfl, by omega, by simp [hcs], hsm, by omega, hm, bw⟩)
   clear hm hsm hcs bw hszw hPA
   generalize cs.length = nc at *
   clear hcl cs
   go_wp2
   go_loopw [5, 39] (fun out i wr => Bet2 w PA PB k nb out i wr) (fun _ i _ => nb - (intOf i).toNat)
   case atStart => exact HI2.out
   case round =>
    clear HI2
    obtain ⟨j, cs, rfl, hj, hcs, hsm, hcl, hm, bw⟩ := hrel
    obtain ⟨qa, qc, rfl, _⟩ := own_form (show wr.ownsRow w.heap.size 136 1 _ cs.length (cs.map CAt.step) from Mem.head hm)
    have hszw := bw.size
    by_cases hlt : j < nb
    ·obtain ⟨D, y, T, eL, hD⟩ := split1 bs j (by have := enb.out; omega)
     have hrow := HB.out.1
     rw [eL] at hrow
     obtain ⟨g, off, rfl, d0, d1, d2⟩ := hrow.block
     rw [hD] at d0 d1 d2
     have hym : y ∈ bs := by rw [eL]; simp
     have hyl := HB.out.2 y hym
     have hys := (SB.out.2 y hym).2
     have HST := hid_in (show goneS PA PB ++ (PB.take (j + 1)).flatMap (diffY PA) = cs.map CAt.plain ++ diffY PA y.plain from by
      have e : PB = D.map BAt.plain ++ y.plain :: T.map BAt.plain := by rw [← EPB.out, eL]; simp
      rw [take_flat _ e (by rw [List.length_map]; exact hD), hcs, List.append_assoc])
     have hOWN := hid_in (show ∀ q, (Value.slice qa cs.length qc).ownBlock = some q → q < wr.heap.size from fun q hq => (Mem.lt hm (List.mem_cons_self ..) hq).2)
     obtain ⟨yk, yn, yv, yl⟩ := y
     have hyl2 : LinesIn w yv yl := hyl
     obtain ⟨ya, yc, rfl⟩ := hyl2.1.form
     have HYL := hid_in hyl2
     have HYS := hid_in (show LinesSmall yl from hys)
     have HYP := hid_in (show BAt.plain ⟨yk, yn, .slice ya yl.length yc, yl⟩ = ⟨yk, yn, yl.map LAt.plain⟩ from rfl)
     have lg := World.block_lt_of_cell? w _ d0
     have c0 := (bw.cell (p := ⟨g, off + j * 3, none⟩) lg).trans d0
     have c1 := (bw.cell (p := ⟨g, off + j * 3 + 1, none⟩) lg).trans d1
     have c2 := (bw.cell (p := ⟨g, off + j * 3 + 2, none⟩) lg).trans d2
     have k1 : (0 : Int) ≤ (j : Int) := by omega
     have k2 : (j : Int) < (nb : Int) := by omega
     have HM := hid_in hm
     have HSM := hid_in hsm
     simp only at c0 c1 c2
     rw [HYP.out] at HST
     clear hm hsm hcs hrow eL hD d0 d1 d2 hym hyl hyl2 hys HYP
     generalize hny : yl.length = ny at *
     have eny := hid_in hny
     clear hny
     have bR := (Below.refl wr.heap.size wr).alloc (Nat.le_refl _) (.cells #[.string yk, .string yn, .slice ya ny yc] 64)
     have zR := BlkAt.new wr #[.string yk, .string yn, .slice ya ny yc] 64
     have HM4 := hid_in (HM.out.below bR)
     have B4 := bw.trans (bR.mono hszw)
     go_upto_region 12 with fail
     generalize wr.alloc (.cells #[.string yk, .string yn, .slice ya ny yc] 64) = W4 at *
     clear c0 c1 c2 HM bR
     have y0 := cell_of_block zR 0
     have y1 := cell_of_block zR 1
     have y2 := cell_of_block zR 2
     simp only [List.getElem?_toArray, List.getElem?_cons_zero, List.getElem?_cons_succ] at y0 y1 y2
     have HH := fun W => headOf_all yk yn ya ny yc W
     go_wp2_with (go_at_call 86; refine (HH _).mono ?_)
     first | rintro e w5 rfl b5 | rintro e w5 ⟨rfl, b5⟩
     have B5 := B4.trans (b5.mono B4.size)
     have zR5 := zR.below b5
     have HM5 := hid_in (HM4.out.below b5)
     clear y0 y1 y2 zR HM4 B4
     have HF := HFA.out yk yn w5 B5
     go_wp2_with (go_at_call 157; refine HF.mono ?_)
     first | rintro e w6 i f rfl hbe hf b6 | rintro e w6 ⟨i, f, rfl, hbe, hf, b6⟩
     have B6 := B5.trans (b6.mono B5.size)
     have zR6 := zR5.below b6
     have HM6 := hid_in (HM5.out.below b6)
     have hz6 := B6.size
     have y0 := cell_of_block zR6 0
     have y1 := cell_of_block zR6 1
     have y2 := cell_of_block zR6 2
     simp only [List.getElem?_toArray, List.getElem?_cons_zero, List.getElem?_cons_succ] at y0 y1 y2
     have HS6 := hid_in (show BlkS wr.heap.size yk yn (.slice ya ny yc) w6 from ⟨y0, y1, y2⟩)
     clear zR5 HM5 HF B5 zR6 y0 y1 y2
     have Bd : Below w6.heap.size w6 w6.drew := (Below.refl _ _).drew
     cases f
     ·have HNO := hid_in (show PA.find? (isHead (⟨yk, yn, yl.map LAt.plain⟩ : PBlock).kind (⟨yk, yn, yl.map LAt.plain⟩ : PBlock).name) = none from bs_miss PWA.out hbe (fun h => by have := hf.2 h; cases this))
      clear hbe hf
      have t0 : ∀ p : { W : World // BlkS wr.heap.size yk yn (.slice ya ny yc) W }, p.1.cell? ⟨wr.heap.size, 0, none⟩ = some (.string yk) := fun p => p.2.1
      have t1 : ∀ p : { W : World // BlkS wr.heap.size yk yn (.slice ya ny yc) W }, p.1.cell? ⟨wr.heap.size, 1, none⟩ = some (.string yn) := fun p => p.2.2.1
      have t2 : ∀ p : { W : World // BlkS wr.heap.size yk yn (.slice ya ny yc) W }, p.1.cell? ⟨wr.heap.size, 2, none⟩ = some (.slice ya ny yc) := fun p => p.2.2.2
      letI : Inhabited { W : World // BlkS wr.heap.size yk yn (.slice ya ny yc) W } := ⟨⟨w6, HS6.out⟩⟩
      have HHd := HH w6.drew
      go_upto_region 15 with fail
      refine wp_region_hold (S := (BlkS wr.heap.size yk yn (.slice ya ny yc))) 9 10 (by kernel_rfl) rfl ?_
      refine wpHold_mask [true, true, false, true, true, false, false, false, false, false] 6 rfl (by kernel_rfl) (HS6.out.below Bd) ?_
      simp only [maskL_t, maskL_f, maskL_n]
      iterate 4 (refine wpReads_step (fun K hK => ?_); go_simp; refine hK _ ?_; clear hK K)
      refine wpReads_nil ?_
      clear t0 t1 t2
      refine wpHold_branch (f := 5) (rs := [2]) (by kernel_rfl) (by simp) ?_
      refine AllHold.cons rfl (by decide) (fun K hK => ?_) AllHold.nil
      go_simp
      go_wp2_with (go_at_call 86; refine HHd.mono ?_; rintro e w8 ⟨rfl, b8⟩)
      have b8' : Below w6.heap.size w6 w8 := Bd.trans b8
      have HS8 := HS6.out.below b8'
      refine hK.out _ _ HS8 ?_
      clear hK K
      refine wpHold_mask [false, false, false, false, false, true, true, false, false, false] 3 rfl (by kernel_rfl) HS8 ?_
      simp only [maskL_t, maskL_f, maskL_n]
      iterate 2 (refine wpReads_step (fun K hK => ?_); go_simp; refine hK _ ?_; clear hK K)
      refine wpReads_nil ?_
      refine wpHold_branch (f := 2) (rs := [7]) (by kernel_rfl) (by simp) ?_
      refine AllHold.cons rfl (by decide) (fun K hK => ?_) AllHold.nil
      go_simp
      have bN := (Below.refl w8.heap.size w8).alloc (Nat.le_refl _) (.cells #[(.iface 220 (.agg #[.string yk, .string yn, .slice ya ny yc]))] 136)
      have hm3 : (w8.alloc (.cells #[(.iface 220 (.agg #[.string yk, .string yn, .slice ya ny yc]))] 136)).ownsRow w.heap.size 136 1 (.slice qa cs.length qc) cs.length (cs.map CAt.step) := (show w8.ownsRow w.heap.size 136 1 (.slice qa cs.length qc) cs.length (cs.map CAt.step) from Mem.head (HM6.out.below b8')).alloc _
      have hrow := lit_has w8 #[(.iface 220 (.agg #[.string yk, .string yn, .slice ya ny yc]))] 136 1 rfl
      have hone : ∀ u ∈ (#[(.iface 220 (.agg #[.string yk, .string yn, .slice ya ny yc]))] : Array Value).toList, u.oneCell' = true := by intro u hu; simp at hu; rw [hu]; rfl
      have HSN := HS8.below bN
      refine hK.out _ _ HSN ?_
      clear hK K
      refine wpHold_branch (f := 1) (rs := [8]) (by kernel_rfl) (by simp) ?_
      refine AllHold.cons rfl (by decide) (fun K hK => ?_) AllHold.nil
      have hz8 := b8'.size
      refine step_append_has rfl _ _ 133 rfl w.heap.size 136 i0 _ 1 16 Tryz.underlying133 hi hz0 hz1 hz2 rfl (by decide) _ cs.length _ rfl hm3 _ 1 _ rfl hrow hone (by unfold maxLen; omega) (by omega) (by rw [World.size_alloc]; omega) ?_
      intro ao' cap' wE hownE hgE hvE
      have HPU := steps_push (x := ⟨2, yk, yn, ⟨#[]⟩, .slice ya ny yc, yl⟩) (rest := []) (by rw [List.append_nil]; exact HM6.out) hz6 (⟨fun _ h => (by cases h), (by simp)⟩ : Mem w6.heap.size w8 []) b8' bN hownE hgE hvE
      rw [List.append_nil] at HPU
      have BE := B6.trans (HPU.2.mono (Nat.le_refl _))
      have HSE := HSN.far hgE (fun e => by have := hOWN.out _ e; omega)
      refine hK.out _ _ HSE ?_
      clear hK K
      have HR := hid_in (show Bet2 w PA PB k nb (.slice ao' (cs.length + 1) cap') (.int .i64 ((j : Int) + 1)) wE from ⟨j + 1, cs ++ [⟨2, yk, yn, ⟨#[]⟩, .slice ya ny yc, yl⟩], by rw [Int.natCast_add]; rfl, by omega, by
       rw [HST.out, List.map_append, List.map_singleton]
       unfold diffY
       rw [HNO.out]; rfl, fun c hc => by
       rcases List.mem_append.1 hc with hc | hc
       ·exact HSM.out c hc
       ·rw [List.mem_singleton.1 hc]; exact ⟨.inr (.inl ⟨rfl, rfl, HYL.out⟩), HYS.out⟩, by simp; omega, HPU.1, BE⟩)
      clear hm3 hrow hone hownE hgE hvE HPU bN
      refine wpHold_last (by kernel_rfl) rfl (by kernel_rfl) ?_
      intro K hK
      go_simp
      refine hK.out _ _ (NoPanic.normal ?_)
      clear hK K
      go_wp2
      go_roundw
      case rel => exact HR.out
      case measure => simp [intOf]; omega
     ·obtain ⟨hi1, hi2⟩ := hf.1 rfl
      have hfind := bs_hit hbe hi1 hi2
      have hiz : i < az.length := by rw [← EPA.out, List.length_map] at hi1; exact hi1
      obtain ⟨D2, x, T2, eL2, hD2⟩ := split1 az i hiz
      have hPx : PA[i]'hi1 = x.plain := by
       have h1 : PA[i]? = some x.plain := by rw [← EPA.out, eL2, List.getElem?_map, List.getElem?_append_right (by omega), hD2, Nat.sub_self]; rfl
       rw [List.getElem?_eq_getElem hi1] at h1; exact Option.some.inj h1
      rw [hPx] at hfind
      have hrow2 := HA.out.1
      rw [eL2] at hrow2
      obtain ⟨g2, off2, rfl, p0, p1, p2⟩ := hrow2.block
      rw [hD2] at p0 p1 p2
      have hxm : x ∈ az := by rw [eL2]; simp
      have hxs := (SA.out.2 x hxm).2
      have hxl := HA.out.2 x hxm
      have HBK := stepsWithin_any (x := x) (y := ⟨yk, yn, .slice ya ny yc, yl⟩) (w0 := w) (w := w6.drew) (B6.trans (Bd.mono hz6)) hxl HYL.out hxs HYS.out
      have HDY := hid_in (show diffY PA ⟨yk, yn, yl.map LAt.plain⟩ = diffB ⟨yk, yn, x.ls.map LAt.plain⟩ ⟨yk, yn, yl.map LAt.plain⟩ from by
       unfold diffY
       rw [show PA.find? (isHead (⟨yk, yn, yl.map LAt.plain⟩ : PBlock).kind (⟨yk, yn, yl.map LAt.plain⟩ : PBlock).name) = some x.plain from hfind]
       have hh := List.find?_some hfind
       unfold isHead at hh
       rw [Bool.and_eq_true, beq_iff_eq, beq_iff_eq] at hh
       have e1 : x.plain = ⟨yk, yn, x.ls.map LAt.plain⟩ := by
        rw [← toList_inj hh.1, ← toList_inj hh.2]; rfl
       rw [e1])
      obtain ⟨xk, xn, xv, xl⟩ := x
      have hxl2 : LinesIn w xv xl := hxl
      obtain ⟨xa, xc, rfl⟩ := hxl2.1.form
      simp only at HBK p0 p1 p2 HDY
      have lg2 := World.block_lt_of_cell? w _ p0
      have HRS := hid_in (show RowS g2 (off2 + i * 3) xk xn (.slice xa xl.length xc) w from ⟨p0, p1, p2⟩)
      have i1 : (0 : Int) ≤ (i : Int) := by omega
      have i2 : (i : Int) < (k : Int) := by have := ena.out; omega
      clear hxl hxl2 hxs hxm hrow2 eL2 hPx p0 p1 p2 hfind hbe hf hi1 hi2 hiz
      generalize hnx : xl.length = nx at *
      clear hnx
      have HSS := hid_in (show ∀ W, Below w.heap.size w W → BlkS wr.heap.size yk yn (.slice ya ny yc) W → RowS g2 (off2 + i * 3) xk xn (.slice xa nx xc) W ∧ BlkS wr.heap.size yk yn (.slice ya ny yc) W from fun W h1 h2 => ⟨HRS.out.upto lg2 h1, h2⟩)
      have t0 : ∀ p : { W : World // RowS g2 (off2 + i * 3) xk xn (.slice xa nx xc) W ∧ BlkS wr.heap.size yk yn (.slice ya ny yc) W }, p.1.cell? ⟨wr.heap.size, 0, none⟩ = some (.string yk) := fun p => p.2.2.1
      have t1 : ∀ p : { W : World // RowS g2 (off2 + i * 3) xk xn (.slice xa nx xc) W ∧ BlkS wr.heap.size yk yn (.slice ya ny yc) W }, p.1.cell? ⟨wr.heap.size, 1, none⟩ = some (.string yn) := fun p => p.2.2.2.1
      have t2 : ∀ p : { W : World // RowS g2 (off2 + i * 3) xk xn (.slice xa nx xc) W ∧ BlkS wr.heap.size yk yn (.slice ya ny yc) W }, p.1.cell? ⟨wr.heap.size, 2, none⟩ = some (.slice ya ny yc) := fun p => p.2.2.2.2
      have t3 : ∀ p : { W : World // RowS g2 (off2 + i * 3) xk xn (.slice xa nx xc) W ∧ BlkS wr.heap.size yk yn (.slice ya ny yc) W }, p.1.cell? ⟨g2, off2 + i * 3, none⟩ = some (.string xk) := fun p => p.2.1.1
      have t4 : ∀ p : { W : World // RowS g2 (off2 + i * 3) xk xn (.slice xa nx xc) W ∧ BlkS wr.heap.size yk yn (.slice ya ny yc) W }, p.1.cell? ⟨g2, off2 + i * 3 + 1, none⟩ = some (.string xn) := fun p => p.2.1.2.1
      have t5 : ∀ p : { W : World // RowS g2 (off2 + i * 3) xk xn (.slice xa nx xc) W ∧ BlkS wr.heap.size yk yn (.slice ya ny yc) W }, p.1.cell? ⟨g2, off2 + i * 3 + 2, none⟩ = some (.slice xa nx xc) := fun p => p.2.1.2.2
      have hS0 := HSS.out _ (B6.trans (Bd.mono hz6)) (HS6.out.below Bd)
      letI : Inhabited { W : World // RowS g2 (off2 + i * 3) xk xn (.slice xa nx xc) W ∧ BlkS wr.heap.size yk yn (.slice ya ny yc) W } := ⟨⟨w6.drew, hS0⟩⟩
      go_upto_region 14 with fail
      refine wp_region_hold (S := fun W => RowS g2 (off2 + i * 3) xk xn (.slice xa nx xc) W ∧ BlkS wr.heap.size yk yn (.slice ya ny yc) W) 8 9 (by kernel_rfl) rfl ?_
      refine wpHold_mask [true, true, true, true, true, true, false, false, false] 3 rfl (by kernel_rfl) hS0 ?_
      simp only [maskL_t, maskL_f, maskL_n]
      iterate 6 (refine wpReads_step (fun K hK => ?_); go_simp; refine hK _ ?_; clear hK K)
      refine wpReads_nil ?_
      clear t0 t1 t2 t3 t4 t5
      refine wpHold_branch (f := 2) (rs := [6]) (by kernel_rfl) (by simp) ?_
      refine AllHold.cons rfl (by decide) (fun K hK => ?_) AllHold.nil
      go_simp
      go_wp2_with (go_at_call 158; refine HBK.mono ?_; rintro e w7 ⟨v7, cs7, rfl, hp7, hs7, o7, hl7, b7⟩; obtain ⟨a7, c7, rfl, _⟩ := own_form (show w7.ownsRow _ 136 1 _ cs7.length (cs7.map CAt.step) from Mem.head o7))
      have b7' : Below w6.heap.size w6 w7 := Bd.trans b7
      have hz7 := b7'.size
      have B7 := B6.trans (b7'.mono hz6)
      refine hK.out _ _ (HSS.out _ B7 (HS6.out.below b7')) ?_
      clear hK K
      refine wpHold_branch (f := 1) (rs := [7]) (by kernel_rfl) (by simp) ?_
      refine AllHold.cons rfl (by decide) (fun K hK => ?_) AllHold.nil
      have hm3 : w7.ownsRow w.heap.size 136 1 (.slice qa cs.length qc) cs.length (cs.map CAt.step) := Mem.head (HM6.out.below b7')
      have hrow := own_has (show w7.ownsRow _ 136 1 _ cs7.length (cs7.map CAt.step) from Mem.head o7)
      have hone : ∀ u ∈ cs7.map CAt.step, u.oneCell' = true := by intro u hu; obtain ⟨c, _, rfl⟩ := List.mem_map.1 hu; exact c.step_one
      refine step_append_has rfl _ _ 133 rfl w.heap.size 136 i0 _ 1 16 Tryz.underlying133 hi hz0 hz1 hz2 rfl (by decide) _ cs.length _ rfl hm3 _ cs7.length _ rfl hrow hone (by unfold maxLen; omega) (by omega) (by omega) ?_
      intro ao' cap' wE hownE hgE hvE
      have HPU := steps_many HM6.out hz6 o7 b7' (Below.refl _ _) hownE hgE hvE
      have BE := B6.trans (HPU.2.mono (Nat.le_refl _))
      have HSE := (HS6.out.below b7').far hgE (fun e => by have := hOWN.out _ e; omega)
      refine hK.out _ _ (HSS.out _ BE HSE) ?_
      clear hK K
      have HR := hid_in (show Bet2 w PA PB k nb (.slice ao' (cs.length + cs7.length) cap') (.int .i64 ((j : Int) + 1)) wE from ⟨j + 1, cs ++ cs7, by rw [Int.natCast_add]; rfl, by omega, by
       rw [HST.out, List.map_append, HDY.out, hp7]; rfl, fun c hc => by
       rcases List.mem_append.1 hc with hc | hc
       ·exact HSM.out c hc
       ·exact hs7 c hc, by rw [List.length_append]; omega, HPU.1, BE⟩)
      clear hm3 hrow hone hownE hgE hvE HPU o7 hp7
      generalize cs7.length = n77 at *
      refine wpHold_last (by kernel_rfl) rfl (by kernel_rfl) ?_
      intro K hK
      go_simp
      refine hK.out _ _ (NoPanic.normal ?_)
      clear hK K
      go_wp2
      go_roundw
      case rel => exact HR.out
      case measure => simp [intOf]; omega
    ·obtain rfl : j = nb := by omega
     have hPB : PB.take j = PB := by rw [← EPB.out, ← enb.out, ← List.length_map (f := BAt.plain), List.take_length]
     rw [hPB] at hcs
     have HO := hid_in (show BetPost (goneS PA PB ++ PB.flatMap (diffY PA)) w (.returned (.slice qa cs.length qc)) wr from ⟨_, cs, rfl, hcs, hsm, by omega, hm, bw⟩)
     clear hm hsm hcs
     generalize cs.length = nc2 at *
     go_wp2
     go_ret
     exact HO.out
end Go.Proofs.YtpdahhnjhggocabGreatDoor
namespace Go.Proofs.YtpdahhnjhggocabGreatDoor
open Go.RowKit
def TellRel (B : Nat) (w2 : World) (P : List PChange) (n : Nat) (rest : List MRow) (out i : Value) (wr : World) : Prop := ∃ (k : Nat) (ds : List CAt), i = .int .i64 (k : Int) ∧ k ≤ n ∧ ds.map CAt.plain = P.take k ∧ (∀ c ∈ ds, LinesSmall c.ls) ∧ ds.length ≤ k ∧ Mem B wr (crows out ds ++ rest) ∧ Below B w2 wr
set_option maxHeartbeats 8000000 in
set_option maxRecDepth 100000 in
theorem implDiff_any {va vb : Value} {az bs : List BAt} {w : World} (ha : BlocksIn w va az) (hb : BlocksIn w vb bs) (sa : BlocksSmall az) (sb : BlocksSmall bs) (hst : StdAt w) : Calls Tryz.prog 34 #[.agg #[va], .agg #[vb]] w fun e w' => DiffPost (diffS (az.map BAt.plain) (bs.map BAt.plain)) w e w' := by
 obtain ⟨aa, ac, rfl⟩ := ha.1.form
 obtain ⟨ba, bc, rfl⟩ := hb.1.form
 have G : Below w.heap.size w ((w.alloc (.cells #[.slice aa az.length ac] 24)).alloc (.cells #[.slice ba bs.length bc] 24)) := ((Below.refl w.heap.size w).alloc (Nat.le_refl _) _).alloc (by simp) _
 have hwz : ((w.alloc (.cells #[.slice aa az.length ac] 24)).alloc (.cells #[.slice ba bs.length bc] 24)).heap.size = w.heap.size + 2 := by simp
 have kk := two_boxes (w := w) (cs := #[.slice aa az.length ac]) (ds := #[.slice ba bs.length bc]) (T := 24) (U := 24)
 have cA := kk.1 0
 have cB := kk.2 0
 simp only [List.getElem?_toArray, List.getElem?_cons_zero] at cA cB
 clear kk
 have HA2 := hid_in (ha.below G)
 have HB2 := hid_in (hb.below G)
 have ST := hid_in (hst.below G)
 have SA := hid_in sa
 have SB := hid_in sb
 generalize hw2 : (w.alloc (.cells #[.slice aa az.length ac] 24)).alloc (.cells #[.slice ba bs.length bc] 24) = w2 at *
 have ew2 := hid_in hw2
 have HVA := implValid_any HA2.out SA.out ST.out
 have HVB := hid_in (show ∀ W, Below w2.heap.size w2 W → Calls Tryz.prog 64 #[.agg #[.slice ba bs.length bc]] W fun e w' => e = .returned (.bool (sheetB (bs.map BAt.plain))) ∧ Below W.heap.size W w' from fun W h => implValid_any (HB2.out.below h) SB.out (ST.out.below h))
 have HSB := hid_in (show sheetB (az.map BAt.plain) = true → sheetB (bs.map BAt.plain) = true → ∀ W, Below w2.heap.size w2 W → Calls Tryz.prog 92 #[.slice aa az.length ac, .slice ba bs.length bc] W fun e w' => BetPost (goneS (az.map BAt.plain) (bs.map BAt.plain) ++ (bs.map BAt.plain).flatMap (diffY (az.map BAt.plain))) W e w' from fun h1 h2 W h => stepsBetween_any (HA2.out.below h) (HB2.out.below h) SA.out SB.out (sheetB_iff.1 h1) (sheetB_iff.1 h2))
 obtain ⟨i0, hi, hz0, hz1, hz2⟩ := info_parts infoChange
 clear ha hb sa sb hst hw2
 obtain ⟨PA, ePA⟩ : ∃ PA, az.map BAt.plain = PA := ⟨_, rfl⟩
 obtain ⟨PB, ePB⟩ : ∃ PB, bs.map BAt.plain = PB := ⟨_, rfl⟩
 rw [ePA] at HVA HSB
 rw [ePB] at HVB HSB
 rw [ePA, ePB]
 have HDF := hid_in (show ∀ b1 b2, sheetB PA = b1 → sheetB PB = b2 → diffS PA PB = if b1 = true ∧ b2 = true then goneS PA PB ++ PB.flatMap (diffY PA) else [] from fun b1 b2 h1 h2 => by rw [← h1, ← h2]; rfl)
 generalize hv1 : sheetB PA = V1 at HVA
 generalize hv2 : sheetB PB = V2 at HVB
 have HV := hid_in (HDF.out V1 V2 hv1 hv2)
 have HV1 := hid_in hv1
 have HV2 := hid_in hv2
 generalize goneS PA PB ++ PB.flatMap (diffY PA) = PD at *
 generalize diffS PA PB = DS at *
 clear ePA ePB HDF hv1 hv2
 generalize az.length = na at *
 generalize bs.length = nb at *
 go_enter Tryz.func34, Tryz.ntmps34
 go_upto_region 1 with fail
 rw [ew2.out]
 go_wp2_with (go_at_call 64; refine HVA.mono ?_)
 first | rintro e w4 rfl b4 | rintro e w4 ⟨rfl, b4⟩
 have y1 := (b4.cell (World.block_lt_of_cell? _ _ cB)).trans cB
 clear HVA
 cases V1
 ·have HO := hid_in (show DiffPost DS w (.returned (.slice none 0 0)) w4 from ⟨_, [], rfl, by rw [HV.out]; simp, by simp, by simp, changes_none _ _, G.trans (b4.mono G.size)⟩)
  go_wp2
  go_ret
  exact HO.out
 ·have HVB4 := HVB.out w4 b4
  go_wp2_with (go_at_call 64; refine HVB4.mono ?_)
  first | rintro e w5 rfl b5 | rintro e w5 ⟨rfl, b5⟩
  have B5 := b4.trans (b5.mono b4.size)
  clear HVB4
  cases V2
  ·have HO := hid_in (show DiffPost DS w (.returned (.slice none 0 0)) w5 from ⟨_, [], rfl, by rw [HV.out]; simp, by simp, by simp, changes_none _ _, G.trans (B5.mono G.size)⟩)
   go_wp2
   go_ret
   exact HO.out
  ·have HDS := hid_in (show DS = PD from by rw [HV.out]; simp)
   have HST := HSB.out HV1.out HV2.out w5 B5
   have q0 := (B5.cell (World.block_lt_of_cell? _ _ cA)).trans cA
   have q1 := (B5.cell (World.block_lt_of_cell? _ _ cB)).trans cB
   clear HV HV1 HV2 HSB HVB y1
   go_wp2_with (go_at_call 92; refine HST.mono ?_)
   first | rintro e w6 v6 cs rfl hp6 hs6 hl6 hm6 b6 | rintro e w6 ⟨v6, cs, rfl, hp6, hs6, hl6, hm6, b6⟩
   obtain ⟨sa, sc, rfl, _⟩ := own_form (show w6.ownsRow _ 136 1 v6 cs.length (cs.map CAt.step) from Mem.head hm6)
   have hz5 := B5.size
   have hz6 := b6.size
   rw [hwz] at hz5
   obtain ⟨rest, hrest⟩ : ∃ rest, srows (.slice sa cs.length sc) cs = rest := ⟨_, rfl⟩
   have M6 : Mem w5.heap.size w6 (crows (.slice none 0 0) [] ++ rest) := by
    have m0 : Mem w5.heap.size w5 (crows (.slice none 0 0) []) := changes_none _ _
    rw [← hrest]
    exact (Mem.join m0 hm6 b6 (Nat.le_refl _)).perm List.perm_append_comm
   have HI := hid_in (show TellRel w5.heap.size w5 PD cs.length rest (.slice none 0 0) (.int .i64 0) w6 from ⟨0, [], rfl, by omega, by simp, by simp, by simp, M6, b6⟩)
   have HPD := hid_in hp6
   have HSS := hid_in hs6
   have ERR := hid_in hrest
   have G5 := hid_in (G.trans (B5.mono G.size))
   have hg5' : w.heap.size ≤ w5.heap.size := by omega
   clear M6 hm6 b6 hp6 hs6 hrest q0 q1 HST b4 b5 B5 G
   generalize hn : cs.length = n at *
   have en := hid_in hn
   clear hn
   go_wp2
   go_loopw [5, 22] (fun out i wr => TellRel w5.heap.size w5 PD n rest out i wr) (fun _ i _ => n - (intOf i).toNat)
   case atStart => exact HI.out
   case round =>
    clear HI
    obtain ⟨k, ds, rfl, hk, hds, hsm, hdl, hm, bw⟩ := hrel
    obtain ⟨qa, qc, rfl, _⟩ := own_form (show wr.ownsRow w5.heap.size 131 5 _ ds.length (ds.flatMap CAt.cells) from Mem.head hm)
    have hszw := bw.size
    by_cases hlt : k < n
    ·obtain ⟨D, x, T, eL, hD⟩ := split1 cs k (by have := en.out; omega)
     have hxm : x ∈ cs := by rw [eL]; simp
     have hmr := Mem.right hm
     rw [← ERR.out] at hmr
     have hrow := own_has (show wr.ownsRow _ 136 1 (.slice sa n sc) cs.length (cs.map CAt.step) from Mem.head hmr)
     obtain ⟨g, off, rfl, hc⟩ := hrow.at (by have := en.out; omega)
     have c0 := hc k x.step (by rw [eL, List.map_append, List.map_cons, List.getElem?_append_right (by rw [List.length_map]; omega), List.length_map, hD, Nat.sub_self]; rfl)
     have HT := tellStep_any (step_of hmr bw hxm (HSS.out x hxm).1) (HSS.out x hxm).2
     have HTK := hid_in (show PD.take (k + 1) = ds.map CAt.plain ++ [x.plain] from by
      rw [hds, ← HPD.out, eL]
      have e : (D ++ x :: T).map CAt.plain = D.map CAt.plain ++ x.plain :: T.map CAt.plain := by simp
      have hl : (D.map CAt.plain).length = k := by rw [List.length_map]; exact hD
      rw [e, ← hl, take_one, take_front])
     have k1 : (0 : Int) ≤ (k : Int) := by omega
     have k2 : (k : Int) < (n : Int) := by omega
     have HM := hid_in hm
     have HSM := hid_in hsm
     clear hm hsm hds hrow hmr hc eL hD hxm
     generalize x.step = xs at *
     generalize x.plain = xp at *
     go_wp2_with (go_at_call 93; refine HT.mono ?_)
     first | rintro e w7 x7 rfl hp7 o7 s7 b7 | rintro e w7 ⟨x7, rfl, hp7, o7, s7, b7⟩
     obtain ⟨what, ck, cn, cy, cv, cl⟩ := x7
     have hp7 : CAt.plain ⟨what, ck, cn, cy, cv, cl⟩ = xp := hp7
     have o7 : LinesOwn wr.heap.size w7 cv cl := o7
     have s7 : LinesSmall cl := s7
     obtain ⟨va, vc, rfl, _⟩ := own_form (LinesOwn.row o7)
     have bN := (Below.refl w7.heap.size w7).alloc (Nat.le_refl _) (.cells #[.int .i64 what, .string ck, .string cn, .string cy, .slice va cl.length vc] 131)
     have hm3 : (w7.alloc (.cells #[.int .i64 what, .string ck, .string cn, .string cy, .slice va cl.length vc] 131)).ownsRow w5.heap.size 131 5 (.slice qa ds.length qc) ds.length (ds.flatMap CAt.cells) := (show w7.ownsRow w5.heap.size 131 5 (.slice qa ds.length qc) ds.length (ds.flatMap CAt.cells) from Mem.head (HM.out.below b7)).alloc _
     have hrow := lit_has w7 #[.int .i64 what, .string ck, .string cn, .string cy, .slice va cl.length vc] 131 5 rfl
     have hone : ∀ u ∈ (#[.int .i64 what, .string ck, .string cn, .string cy, .slice va cl.length vc] : Array Value).toList, u.oneCell' = true := by intro u hu; simp at hu; rcases hu with rfl | rfl | rfl | rfl | rfl <;> rfl
     have hz7 := b7.size
     have O7 := hid_in o7
     have S7 := hid_in s7
     have HP7 := hid_in hp7
     clear HT c0 o7 s7 hp7
     generalize hncl : cl.length = ncl at *
     have encl := hid_in hncl
     clear hncl
     go_wp2_with (at_builtin; refine wpList_append_has (by rfl) _ _ 49 (by rfl) w5.heap.size 131 i0 _ 5 80 Tryz.underlying49 hi hz0 hz1 hz2 rfl (by decide) _ ds.length _ (by rfl) hm3 _ 1 _ (by rfl) hrow hone ?c3 ?c4 (by rw [World.size_alloc]; omega) ?_)
     case c3 => unfold maxLen; omega
     case c4 => omega
     intro ao' cap' wE hownE hgE hvE
     have HPU := push_any (tl := ds.flatMap CAt.rows) (rest := rest) (new := lrows (.slice va ncl vc) cl) HM.out hszw O7.out b7 bN hownE hgE (by rw [World.size_alloc]; exact hvE)
     have HR := hid_in (show TellRel w5.heap.size w5 PD n rest (.slice ao' (ds.length + 1) cap') (.int .i64 ((k : Int) + 1)) wE from ⟨k + 1, ds ++ [⟨what, ck, cn, cy, .slice va ncl vc, cl⟩], by rw [Int.natCast_add]; rfl, by omega, by
      rw [HTK.out, List.map_append, List.map_singleton, ← HP7.out], fun c hc => by
      rcases List.mem_append.1 hc with hc | hc
      ·exact HSM.out c hc
      ·rw [List.mem_singleton.1 hc]; exact S7.out, by simp; omega, by
      unfold crows
      rw [List.flatMap_append, List.flatMap_append, List.length_append, List.flatMap_singleton, List.flatMap_singleton]
      exact HPU.1, bw.trans (HPU.2.mono (Nat.le_refl _))⟩)
     clear hm3 hrow hone hownE hgE hvE HPU bN
     go_wp2
     go_roundw
     case rel => exact HR.out
     case measure => simp [intOf]; omega
    ·obtain rfl : k = n := by omega
     have hPD : PD.take k = PD := by rw [← HPD.out, ← en.out, ← List.length_map (f := CAt.plain), List.take_length]
     rw [hPD] at hds
     have HO := hid_in (show DiffPost DS w (.returned (.slice qa ds.length qc)) wr from ⟨_, ds, rfl, by rw [HDS.out, hds], hsm, by omega, Mem.mono (Mem.left hm) hg5', G5.out.trans (bw.mono hg5')⟩)
     clear hm hsm hds
     generalize ds.length = nc2 at *
     go_wp2
     go_ret
     exact HO.out
end Go.Proofs.YtpdahhnjhggocabGreatDoor
