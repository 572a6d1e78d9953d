import Derived.Test.YtpdahhnjhggocabGreatDoorBun31
import Derived.Test.YtpdahhnjhggocabGreatDoorBun30
import Derived.Test.YtpdahhnjhggocabGreatDoorBun26
import Derived.Test.YtpdahhnjhggocabGreatDoorBun17
namespace Go.Proofs.YtpdahhnjhggocabGreatDoor
open Go.RowKit
theorem grown_setCell' (W : World) (g j : Nat) (u : Value) : W.grownBy (W.setCell ⟨g, j, none⟩ u) (some g) := ⟨rfl, rfl, rfl, by simp, fun i _ hi => heap_setCell_other W ⟨g, j, none⟩ i _ (fun e => hi (by simp [e]))⟩
/-- A block's box, filled anew. -/
theorem box_turn {W : World} {X : Nat} {k n k' n' : ByteArray} {v v' : Value} (h : W.heap[X]? = some (.cells #[.string k, .string n, v] 64 (0, 0))) : (((W.setCell ⟨X, 0, none⟩ (.string k')).setCell ⟨X, 1, none⟩ (.string n')).setCell ⟨X, 2, none⟩ v').heap[X]? = some (.cells #[.string k', .string n', v'] 64 (0, 0)) ∧ W.grownBy (((W.setCell ⟨X, 0, none⟩ (.string k')).setCell ⟨X, 1, none⟩ (.string n')).setCell ⟨X, 2, none⟩ v') (some X) := by
  have z1 : (W.setCell ⟨X, 0, none⟩ (.string k')).heap[X]? = some (.cells #[.string k', .string n, v] 64 (0, 0)) := by rw [heap_setCell_same W X 0 _ _ _ h]; rfl
  have z2 : ((W.setCell ⟨X, 0, none⟩ (.string k')).setCell ⟨X, 1, none⟩ (.string n')).heap[X]? = some (.cells #[.string k', .string n', v] 64 (0, 0)) := by rw [heap_setCell_same _ X 1 _ _ _ z1]; rfl
  refine ⟨?_, grown_trans (grown_setCell' W X 0 _) (grown_trans (grown_setCell' _ X 1 _) (grown_setCell' _ X 2 _))⟩
  rw [heap_setCell_same _ X 2 _ _ _ z2]; rfl
/-- What the operations yield of a region that puts a line into the block in a box. -/
def OvF (_X O i b0 off n c : Nat) (kind name key : ByteArray) (bv xv : Value) (J : Value → World → Prop) (j : Nat) (x : Value) (W : World) : Prop := match j with
  | 0 => x = .agg #[.string kind, .string name, bv]
  | 1 => x = .pointer (some ⟨O, 2, none⟩)
  | 2 => x = .slice (some ⟨b0, off, none⟩) n c
  | 3 => x = .int .i64 (i : Int)
  | 4 => x = .pointer (some ⟨b0, off + i * 2, none⟩)
  | 5 => x = .agg #[.string key, xv]
  | 6 => ∃ a m cc, x = .agg #[.string kind, .string name, .slice a m cc] ∧ J (.slice a m cc) W
  | _ => True
def opv5_0 : Oper := { dst := some 20, op := Op.load 64 (Operand.tmp 5), type := 64, pos := "l6_over.go:9", after := #[], guard := none }
def opv5_1 : Oper := { dst := some 21, op := Op.fieldAddr 64 (Operand.tmp 3) 2, type := 0, pos := "l6_over.go:9", after := #[], guard := none }
def opv5_2 : Oper := { dst := some 22, op := Op.load 41 (Operand.tmp 21), type := 41, pos := "l6_over.go:9", after := #[{ on := 1, ground := Ground.data }], guard := none }
def opv5_3 : Oper := { dst := some 23, op := Op.move (Operand.tmp 6), type := 3, pos := "l6_over.go:9", after := #[], guard := none }
def opv5_4 : Oper := { dst := some 24, op := Op.indexAddr 41 (Operand.tmp 22) (Operand.tmp 23), type := 0, pos := "l6_over.go:9", after := #[{ on := 2, ground := Ground.data }, { on := 3, ground := Ground.data }], guard := none }
def opv5_5 : Oper := { dst := some 25, op := Op.load 82 (Operand.tmp 24), type := 82, pos := "l6_over.go:9", after := #[{ on := 4, ground := Ground.data }], guard := none }
def opv5_6 : Oper := { dst := some 26, op := Op.call { callee := Callee.value (Operand.func 70), args := #[Operand.tmp 20, Operand.tmp 25], argTypes := #[64, 82] }, type := 64, pos := "l6_over.go:9", after := #[{ on := 0, ground := Ground.data }, { on := 5, ground := Ground.data }], guard := none }
def opv5_7 : Oper := { dst := none, op := Op.store 64 (Operand.tmp 5) (Operand.tmp 26), type := 0, pos := "l6_over.go:9", after := #[{ on := 6, ground := Ground.data }, { on := 6, ground := Ground.chain }, { on := 0, ground := Ground.phase }, { on := 1, ground := Ground.phase }, { on := 2, ground := Ground.phase }, { on := 3, ground := Ground.phase }, { on := 4, ground := Ground.phase }, { on := 5, ground := Ground.phase }, { on := 6, ground := Ground.phase }], guard := none }
def opsv5 : List Oper := [opv5_0, opv5_1, opv5_2, opv5_3, opv5_4, opv5_5, opv5_6, opv5_7]
def opv10_0 : Oper := { dst := some 44, op := Op.load 64 (Operand.tmp 5), type := 64, pos := "l6_over.go:13", after := #[], guard := none }
def opv10_1 : Oper := { dst := some 45, op := Op.fieldAddr 64 (Operand.tmp 2) 2, type := 0, pos := "l6_over.go:13", after := #[], guard := none }
def opv10_2 : Oper := { dst := some 46, op := Op.load 41 (Operand.tmp 45), type := 41, pos := "l6_over.go:13", after := #[{ on := 1, ground := Ground.data }], guard := none }
def opv10_3 : Oper := { dst := some 47, op := Op.move (Operand.tmp 7), type := 3, pos := "l6_over.go:13", after := #[], guard := none }
def opv10_4 : Oper := { dst := some 48, op := Op.indexAddr 41 (Operand.tmp 46) (Operand.tmp 47), type := 0, pos := "l6_over.go:13", after := #[{ on := 2, ground := Ground.data }, { on := 3, ground := Ground.data }], guard := none }
def opv10_5 : Oper := { dst := some 49, op := Op.load 82 (Operand.tmp 48), type := 82, pos := "l6_over.go:13", after := #[{ on := 4, ground := Ground.data }], guard := none }
def opv10_6 : Oper := { dst := some 50, op := Op.call { callee := Callee.value (Operand.func 70), args := #[Operand.tmp 44, Operand.tmp 49], argTypes := #[64, 82] }, type := 64, pos := "l6_over.go:13", after := #[{ on := 0, ground := Ground.data }, { on := 5, ground := Ground.data }], guard := none }
def opv10_7 : Oper := { dst := none, op := Op.store 64 (Operand.tmp 5) (Operand.tmp 50), type := 0, pos := "l6_over.go:13", after := #[{ on := 6, ground := Ground.data }, { on := 6, ground := Ground.chain }, { on := 0, ground := Ground.phase }, { on := 1, ground := Ground.phase }, { on := 2, ground := Ground.phase }, { on := 3, ground := Ground.phase }, { on := 4, ground := Ground.phase }, { on := 5, ground := Ground.phase }, { on := 6, ground := Ground.phase }], guard := none }
def opsv10 : List Oper := [opv10_0, opv10_1, opv10_2, opv10_3, opv10_4, opv10_5, opv10_6, opv10_7]
def opv9_0 : Oper := { dst := some 34, op := Op.load 64 (Operand.tmp 3), type := 64, pos := "l6_over.go:12", after := #[], guard := none }
def opv9_1 : Oper := { dst := some 35, op := Op.fieldAddr 64 (Operand.tmp 2) 2, type := 0, pos := "l6_over.go:12", after := #[], guard := none }
def opv9_2 : Oper := { dst := some 36, op := Op.load 41 (Operand.tmp 35), type := 41, pos := "l6_over.go:12", after := #[{ on := 1, ground := Ground.data }], guard := none }
def opv9_3 : Oper := { dst := some 37, op := Op.move (Operand.tmp 7), type := 3, pos := "l6_over.go:12", after := #[], guard := none }
def opv9_4 : Oper := { dst := some 38, op := Op.indexAddr 41 (Operand.tmp 36) (Operand.tmp 37), type := 0, pos := "l6_over.go:12", after := #[{ on := 2, ground := Ground.data }, { on := 3, ground := Ground.data }], guard := none }
def opv9_5 : Oper := { dst := some 39, op := Op.fieldAddr 82 (Operand.tmp 38) 0, type := 0, pos := "l6_over.go:12", after := #[{ on := 4, ground := Ground.data }], guard := none }
def opv9_6 : Oper := { dst := some 40, op := Op.load 9 (Operand.tmp 39), type := 9, pos := "l6_over.go:12", after := #[{ on := 5, ground := Ground.data }], guard := none }
def opv9_7 : Oper := { dst := some 41, op := Op.call { callee := Callee.value (Operand.func 69), args := #[Operand.tmp 34, Operand.tmp 40], argTypes := #[64, 9] }, type := 41, pos := "l6_over.go:12", after := #[{ on := 0, ground := Ground.data }, { on := 6, ground := Ground.data }], guard := none }
def opv9_8 : Oper := { dst := some 42, op := Op.call { callee := Callee.builtin Builtin.len, args := #[Operand.tmp 41], argTypes := #[41] }, type := 3, pos := "l6_over.go:12", after := #[{ on := 7, ground := Ground.data }], guard := none }
def opv9_9 : Oper := { dst := some 43, op := Op.binOp BinOp.eql 3 (Operand.tmp 42) (Operand.const (Value.int IntKind.i64 0)) 3, type := 4, pos := "l6_over.go:12", after := #[{ on := 8, ground := Ground.data }], guard := none }
def opsv9 : List Oper := [opv9_0, opv9_1, opv9_2, opv9_3, opv9_4, opv9_5, opv9_6, opv9_7, opv9_8, opv9_9]
set_option maxHeartbeats 2000000 in
set_option maxRecDepth 10000 in
theorem regionV5 {Q : Exit → Act → World → Prop} {a : Act} {W0 : World} {X O i b0 off n c bn bc xn xc : Nat} {kind name key : ByteArray} {ba xa : Option Addr} (P : World → Value → World → Prop) (hX0 : W0.heap[X]? = some (.cells #[.string kind, .string name, (.slice ba bn bc)] 64 (0, 0))) (hO0 : W0.cell? ⟨O, 2, none⟩ = some (.slice (some ⟨b0, off, none⟩) n c)) (hc0 : W0.cell? ⟨b0, off + i * 2, none⟩ = some (.string key)) (hc1 : W0.cell? ⟨b0, off + i * 2 + 1, none⟩ = some (.slice xa xn xc)) (hi : i < n) (HP : ∀ W, Below W0.heap.size W0 W → Calls Tryz.prog 70 #[.agg #[.string kind, .string name, (.slice ba bn bc)], .agg #[.string key, (.slice xa xn xc)]] W fun e w' => ∃ q m cc, e = .returned (.agg #[.string kind, .string name, .slice q m cc]) ∧ P W (.slice q m cc) w' ∧ Below W.heap.size W w')
    (hsX : a.eval (.tmp 5) = .pointer (some ⟨X, 0, none⟩)) (hsO : a.eval (.tmp 3) = .pointer (some ⟨O, 0, none⟩)) (hsI : a.eval (.tmp 6) = .int .i64 (i : Int)) (hsz : a.tmps.size = 52)
    (hQ : ∀ v a' q m cc W1 W2, a' = putS a [20, 21, 22, 23, 24, 25, 26] v → Below W0.heap.size W0 W1 → P W1 (.slice q m cc) W2 → Below W1.heap.size W1 W2 → Q .normal a' (((W2.setCell ⟨X, 0, none⟩ (.string kind)).setCell ⟨X, 1, none⟩ (.string name)).setCell ⟨X, 2, none⟩ (.slice q m cc))) : (Code.region 5 opsv5.toArray true).wp Tryz.prog Q a W0 := by
  have hnd : ([20, 21, 22, 23, 24, 25, 26] : List Nat).Nodup := by decide
  have i3 : (0 : Int) ≤ (i : Int) := by omega
  have i4 : (i : Int) < (n : Int) := by omega
  refine wp_region_invS0 [20, 21, 22, 23, 24, 25, 26] (OvF X O i b0 off n c kind name key (.slice ba bn bc) (.slice xa xn xc) (fun v W => ∃ W1, Below W0.heap.size W0 W1 ∧ P W1 v W ∧ Below W1.heap.size W1 W)) (fun _ W => W.heap[X]? = some (.cells #[.string kind, .string name, (.slice ba bn bc)] 64 (0, 0)) ∧ W.cell? ⟨O, 2, none⟩ = some (.slice (some ⟨b0, off, none⟩) n c) ∧ W.cell? ⟨b0, off + i * 2, none⟩ = some (.string key) ∧ W.cell? ⟨b0, off + i * 2 + 1, none⟩ = some (.slice xa xn xc) ∧ Below W0.heap.size W0 W) 7 8 [0, 1, 2, 3, 4, 5, 6, 7] (by kernel_rfl) rfl (by decide) (by kernel_rfl) ?h1 ⟨hX0, hO0, hc0, hc1, (Below.refl _ _).drew⟩ ?hall
  case h1 =>
    intro i x W hi
    unfold OvF
    split <;> first | omega | trivial
  refine AllInv.consQ (o := opv5_0) [] (by kernel_rfl) (by decide) (by kernel_rfl) rfl ?o0 (AllInv.consQ (o := opv5_1) [] (by kernel_rfl) (by decide) (by kernel_rfl) rfl ?o1 (AllInv.consQ (o := opv5_2) [1] (by kernel_rfl) (by decide) (by kernel_rfl) rfl ?o2 (AllInv.consQ (o := opv5_3) [] (by kernel_rfl) (by decide) (by kernel_rfl) rfl ?o3 (AllInv.consQ (o := opv5_4) [2, 3] (by kernel_rfl) (by decide) (by kernel_rfl) rfl ?o4 (AllInv.consQ (o := opv5_5) [4] (by kernel_rfl) (by decide) (by kernel_rfl) rfl ?o5 (AllInv.consQ (o := opv5_6) [0, 5] (by kernel_rfl) (by decide) (by kernel_rfl) rfl ?o6 (AllInv.lastQ (o := opv5_7) [6, 6, 0, 1, 2, 3, 4, 5, 6] (by kernel_rfl) (by kernel_rfl) rfl ?o7)))))))
  case o0 =>
    rintro Q' L _ W h0L hpre ⟨v, rfl, hv, hX, hO, c0, c1, hb⟩ K hK
    have g0 := cell_of_block hX 0
    have g1 := cell_of_block hX 1
    have g2 := cell_of_block hX 2
    simp only [List.getElem?_toArray, List.getElem?_cons_zero, List.getElem?_cons_succ] at g0 g1 g2
    have r5 := (eval_out (v := v) (show 5 ∉ ([20, 21, 22, 23, 24, 25, 26] : List Nat) by decide)).trans hsX
    have he : execOp (putS a [20, 21, 22, 23, 24, 25, 26] v).eval opv5_0 = execOp (Act.eval ⟨#[undef], []⟩) ⟨some 0, .load 64 (.const (.pointer (some ⟨X, 0, none⟩))), 0, "", #[], none⟩ := by simp only [execOp, eval_const, opv5_0, r5]
    refine Lid.mk ?_
    unfold Oper.wp
    rw [he]
    clear he
    go_simp
    exact hK.out _ _ (InvG.nextL (W := W) hv 0 (.agg #[.string kind, .string name, (.slice ba bn bc)]) (put_in 0 hnd rfl) (fun _ _ _ h => h) rfl ⟨hX, hO, c0, c1, hb⟩)
  case o1 =>
    rintro Q' L _ W h0L hpre ⟨v, rfl, hv, hX, hO, c0, c1, hb⟩ K hK
    have r3 := (eval_out (v := v) (show 3 ∉ ([20, 21, 22, 23, 24, 25, 26] : List Nat) by decide)).trans hsO
    have he : execOp (putS a [20, 21, 22, 23, 24, 25, 26] v).eval opv5_1 = execOp (Act.eval ⟨#[undef], []⟩) ⟨some 0, .fieldAddr 64 (.const (.pointer (some ⟨O, 0, none⟩))) 2, 0, "", #[], none⟩ := by simp only [execOp, eval_const, opv5_1, r3]
    refine Lid.mk ?_
    unfold Oper.wp
    rw [he]
    clear he
    go_simp
    exact hK.out _ _ (InvG.nextL (W := W) hv 1 (.pointer (some ⟨O, 2, none⟩)) (put_in 1 hnd rfl) (fun _ _ _ h => h) rfl ⟨hX, hO, c0, c1, hb⟩)
  case o2 =>
    rintro Q' L _ W h0L hpre ⟨v, rfl, hv, hX, hO, c0, c1, hb⟩ K hK
    have r21 : (putS a [20, 21, 22, 23, 24, 25, 26] v).eval (.tmp 21) = _ := (eval_in 1 hnd rfl (by omega)).trans (hv 1 (hpre 1 (by simp)))
    have he : execOp (putS a [20, 21, 22, 23, 24, 25, 26] v).eval opv5_2 = execOp (Act.eval ⟨#[undef], []⟩) ⟨some 0, .load 41 (.const (.pointer (some ⟨O, 2, none⟩))), 0, "", #[], none⟩ := by simp only [execOp, eval_const, opv5_2, r21]
    refine Lid.mk ?_
    unfold Oper.wp
    rw [he]
    clear he
    go_simp
    exact hK.out _ _ (InvG.nextL (W := W) hv 2 (.slice (some ⟨b0, off, none⟩) n c) (put_in 2 hnd rfl) (fun _ _ _ h => h) rfl ⟨hX, hO, c0, c1, hb⟩)
  case o3 =>
    rintro Q' L _ W h0L hpre ⟨v, rfl, hv, hX, hO, c0, c1, hb⟩ K hK
    have r6 := (eval_out (v := v) (show 6 ∉ ([20, 21, 22, 23, 24, 25, 26] : List Nat) by decide)).trans hsI
    have he : execOp (putS a [20, 21, 22, 23, 24, 25, 26] v).eval opv5_3 = execOp (Act.eval ⟨#[undef], []⟩) ⟨some 0, .move (.const (.int .i64 (i : Int))), 0, "", #[], none⟩ := by simp only [execOp, eval_const, opv5_3, r6]
    refine Lid.mk ?_
    unfold Oper.wp
    rw [he]
    clear he
    go_simp
    exact hK.out _ _ (InvG.nextL (W := W) hv 3 (.int .i64 (i : Int)) (put_in 3 hnd rfl) (fun _ _ _ h => h) rfl ⟨hX, hO, c0, c1, hb⟩)
  case o4 =>
    rintro Q' L _ W h0L hpre ⟨v, rfl, hv, hX, hO, c0, c1, hb⟩ K hK
    have r22 : (putS a [20, 21, 22, 23, 24, 25, 26] v).eval (.tmp 22) = _ := (eval_in 2 hnd rfl (by omega)).trans (hv 2 (hpre 2 (by simp)))
    have r23 : (putS a [20, 21, 22, 23, 24, 25, 26] v).eval (.tmp 23) = _ := (eval_in 3 hnd rfl (by omega)).trans (hv 3 (hpre 3 (by simp)))
    have he : execOp (putS a [20, 21, 22, 23, 24, 25, 26] v).eval opv5_4 = execOp (Act.eval ⟨#[undef], []⟩) ⟨some 0, .indexAddr 41 (.const (.slice (some ⟨b0, off, none⟩) n c)) (.const (.int .i64 (i : Int))), 0, "", #[], none⟩ := by simp only [execOp, eval_const, opv5_4, r22, r23]
    refine Lid.mk ?_
    unfold Oper.wp
    rw [he]
    clear he
    go_simp
    exact hK.out _ _ (InvG.nextL (W := W) hv 4 (.pointer (some ⟨b0, off + i * 2, none⟩)) (put_in 4 hnd rfl) (fun _ _ _ h => h) rfl ⟨hX, hO, c0, c1, hb⟩)
  case o5 =>
    rintro Q' L _ W h0L hpre ⟨v, rfl, hv, hX, hO, c0, c1, hb⟩ K hK
    have r24 : (putS a [20, 21, 22, 23, 24, 25, 26] v).eval (.tmp 24) = _ := (eval_in 4 hnd rfl (by omega)).trans (hv 4 (hpre 4 (by simp)))
    have he : execOp (putS a [20, 21, 22, 23, 24, 25, 26] v).eval opv5_5 = execOp (Act.eval ⟨#[undef], []⟩) ⟨some 0, .load 82 (.const (.pointer (some ⟨b0, off + i * 2, none⟩))), 0, "", #[], none⟩ := by simp only [execOp, eval_const, opv5_5, r24]
    refine Lid.mk ?_
    unfold Oper.wp
    rw [he]
    clear he
    go_simp
    exact hK.out _ _ (InvG.nextL (W := W) hv 5 (.agg #[.string key, (.slice xa xn xc)]) (put_in 5 hnd rfl) (fun _ _ _ h => h) rfl ⟨hX, hO, c0, c1, hb⟩)
  case o6 =>
    rintro Q' L _ W h0L hpre ⟨v, rfl, hv, hX, hO, c0, c1, hb⟩ K hK
    have r20 : (putS a [20, 21, 22, 23, 24, 25, 26] v).eval (.tmp 20) = _ := (eval_in 0 hnd rfl (by omega)).trans (hv 0 (hpre 0 (by simp)))
    have r25 : (putS a [20, 21, 22, 23, 24, 25, 26] v).eval (.tmp 25) = _ := (eval_in 5 hnd rfl (by omega)).trans (hv 5 (hpre 5 (by simp)))
    have HPW := HP W hb
    have he : execOp (putS a [20, 21, 22, 23, 24, 25, 26] v).eval opv5_6 = execOp (Act.eval ⟨#[undef], []⟩) ⟨some 0, .call { callee := .value (.func 70), args := #[.const (.agg #[.string kind, .string name, (.slice ba bn bc)]), .const (.agg #[.string key, (.slice xa xn xc)])], argTypes := #[64, 82] }, 0, "", #[], none⟩ := by simp only [execOp, eval_const, opv5_6, resolve, eval_func, List.map_toArray, List.map_cons, List.map_nil, r20, r25]
    refine Lid.mk ?_
    unfold Oper.wp
    rw [he]
    clear he
    go_simp
    refine HPW.mono ?_
    rintro e W' ⟨q, m, cc, rfl, hP, b'⟩
    refine hK.out _ _ (InvG.nextL (W := W) hv 6 (.agg #[.string kind, .string name, .slice q m cc]) (put_in 6 hnd rfl) (fun j y hj h => ?_) ⟨q, m, cc, rfl, W, hb, hP, b'⟩ ⟨(b'.block X (Array.getElem?_eq_some_iff.1 hX).1).trans hX, (b'.cell (World.block_lt_of_cell? _ _ hO)).trans hO, (b'.cell (World.block_lt_of_cell? _ _ c0)).trans c0, (b'.cell (World.block_lt_of_cell? _ _ c1)).trans c1, hb.trans (b'.mono hb.size)⟩)
    have h6 : j ≠ 6 := fun e => by rw [e, h0L] at hj; cases hj
    unfold OvF at *
    split <;> simp only at h
    all_goals first | exact h | exact absurd rfl h6 | trivial
  case o7 =>
    rintro Q' L _ W h0L hpre ⟨v, rfl, hv, hX, hO, c0, c1, hb⟩ K hK
    obtain ⟨q, m, cc, e6, W1, hb1, hP, hb2⟩ := hv 6 (hpre 6 (by simp))
    have r26 : (putS a [20, 21, 22, 23, 24, 25, 26] v).eval (.tmp 26) = _ := (eval_in 6 hnd rfl (by omega)).trans e6
    have r5 := (eval_out (v := v) (show 5 ∉ ([20, 21, 22, 23, 24, 25, 26] : List Nat) by decide)).trans hsX
    have g0 := cell_of_block hX 0
    have g1 := cell_of_block hX 1
    have g2 := cell_of_block hX 2
    simp only [List.getElem?_toArray, List.getElem?_cons_zero, List.getElem?_cons_succ] at g0 g1 g2
    have f0 := frozen_of_block hX 0
    have f1 := frozen_of_block hX 1
    have f2 := frozen_of_block hX 2
    have HQ := hid_in (hQ v _ q m cc W1 W rfl hb1 hP hb2)
    have he : execOp (putS a [20, 21, 22, 23, 24, 25, 26] v).eval opv5_7 = execOp (Act.eval ⟨#[undef], []⟩) ⟨some 0, .store 64 (.const (.pointer (some ⟨X, 0, none⟩))) (.const (.agg #[.string kind, .string name, .slice q m cc])), 0, "", #[], none⟩ := by simp only [execOp, eval_const, opv5_7, r5, r26]
    refine Lid.mk ?_
    unfold Oper.wp
    rw [he]
    clear he
    go_simp
    exact hK.out _ _ (NoPanic.normal HQ.out)
set_option maxHeartbeats 2000000 in
set_option maxRecDepth 10000 in
theorem regionV10 {Q : Exit → Act → World → Prop} {a : Act} {W0 : World} {X O i b0 off n c bn bc xn xc : Nat} {kind name key : ByteArray} {ba xa : Option Addr} (P : World → Value → World → Prop) (hX0 : W0.heap[X]? = some (.cells #[.string kind, .string name, (.slice ba bn bc)] 64 (0, 0))) (hO0 : W0.cell? ⟨O, 2, none⟩ = some (.slice (some ⟨b0, off, none⟩) n c)) (hc0 : W0.cell? ⟨b0, off + i * 2, none⟩ = some (.string key)) (hc1 : W0.cell? ⟨b0, off + i * 2 + 1, none⟩ = some (.slice xa xn xc)) (hi : i < n) (HP : ∀ W, Below W0.heap.size W0 W → Calls Tryz.prog 70 #[.agg #[.string kind, .string name, (.slice ba bn bc)], .agg #[.string key, (.slice xa xn xc)]] W fun e w' => ∃ q m cc, e = .returned (.agg #[.string kind, .string name, .slice q m cc]) ∧ P W (.slice q m cc) w' ∧ Below W.heap.size W w')
    (hsX : a.eval (.tmp 5) = .pointer (some ⟨X, 0, none⟩)) (hsO : a.eval (.tmp 2) = .pointer (some ⟨O, 0, none⟩)) (hsI : a.eval (.tmp 7) = .int .i64 (i : Int)) (hsz : a.tmps.size = 52)
    (hQ : ∀ v a' q m cc W1 W2, a' = putS a [44, 45, 46, 47, 48, 49, 50] v → Below W0.heap.size W0 W1 → P W1 (.slice q m cc) W2 → Below W1.heap.size W1 W2 → Q .normal a' (((W2.setCell ⟨X, 0, none⟩ (.string kind)).setCell ⟨X, 1, none⟩ (.string name)).setCell ⟨X, 2, none⟩ (.slice q m cc))) : (Code.region 10 opsv10.toArray true).wp Tryz.prog Q a W0 := by
  have hnd : ([44, 45, 46, 47, 48, 49, 50] : List Nat).Nodup := by decide
  have i3 : (0 : Int) ≤ (i : Int) := by omega
  have i4 : (i : Int) < (n : Int) := by omega
  refine wp_region_invS0 [44, 45, 46, 47, 48, 49, 50] (OvF X O i b0 off n c kind name key (.slice ba bn bc) (.slice xa xn xc) (fun v W => ∃ W1, Below W0.heap.size W0 W1 ∧ P W1 v W ∧ Below W1.heap.size W1 W)) (fun _ W => W.heap[X]? = some (.cells #[.string kind, .string name, (.slice ba bn bc)] 64 (0, 0)) ∧ W.cell? ⟨O, 2, none⟩ = some (.slice (some ⟨b0, off, none⟩) n c) ∧ W.cell? ⟨b0, off + i * 2, none⟩ = some (.string key) ∧ W.cell? ⟨b0, off + i * 2 + 1, none⟩ = some (.slice xa xn xc) ∧ Below W0.heap.size W0 W) 7 8 [0, 1, 2, 3, 4, 5, 6, 7] (by kernel_rfl) rfl (by decide) (by kernel_rfl) ?h1 ⟨hX0, hO0, hc0, hc1, (Below.refl _ _).drew⟩ ?hall
  case h1 =>
    intro i x W hi
    unfold OvF
    split <;> first | omega | trivial
  refine AllInv.consQ (o := opv10_0) [] (by kernel_rfl) (by decide) (by kernel_rfl) rfl ?o0 (AllInv.consQ (o := opv10_1) [] (by kernel_rfl) (by decide) (by kernel_rfl) rfl ?o1 (AllInv.consQ (o := opv10_2) [1] (by kernel_rfl) (by decide) (by kernel_rfl) rfl ?o2 (AllInv.consQ (o := opv10_3) [] (by kernel_rfl) (by decide) (by kernel_rfl) rfl ?o3 (AllInv.consQ (o := opv10_4) [2, 3] (by kernel_rfl) (by decide) (by kernel_rfl) rfl ?o4 (AllInv.consQ (o := opv10_5) [4] (by kernel_rfl) (by decide) (by kernel_rfl) rfl ?o5 (AllInv.consQ (o := opv10_6) [0, 5] (by kernel_rfl) (by decide) (by kernel_rfl) rfl ?o6 (AllInv.lastQ (o := opv10_7) [6, 6, 0, 1, 2, 3, 4, 5, 6] (by kernel_rfl) (by kernel_rfl) rfl ?o7)))))))
  case o0 =>
    rintro Q' L _ W h0L hpre ⟨v, rfl, hv, hX, hO, c0, c1, hb⟩ K hK
    have g0 := cell_of_block hX 0
    have g1 := cell_of_block hX 1
    have g2 := cell_of_block hX 2
    simp only [List.getElem?_toArray, List.getElem?_cons_zero, List.getElem?_cons_succ] at g0 g1 g2
    have r5 := (eval_out (v := v) (show 5 ∉ ([44, 45, 46, 47, 48, 49, 50] : List Nat) by decide)).trans hsX
    have he : execOp (putS a [44, 45, 46, 47, 48, 49, 50] v).eval opv10_0 = execOp (Act.eval ⟨#[undef], []⟩) ⟨some 0, .load 64 (.const (.pointer (some ⟨X, 0, none⟩))), 0, "", #[], none⟩ := by simp only [execOp, eval_const, opv10_0, r5]
    refine Lid.mk ?_
    unfold Oper.wp
    rw [he]
    clear he
    go_simp
    exact hK.out _ _ (InvG.nextL (W := W) hv 0 (.agg #[.string kind, .string name, (.slice ba bn bc)]) (put_in 0 hnd rfl) (fun _ _ _ h => h) rfl ⟨hX, hO, c0, c1, hb⟩)
  case o1 =>
    rintro Q' L _ W h0L hpre ⟨v, rfl, hv, hX, hO, c0, c1, hb⟩ K hK
    have r2 := (eval_out (v := v) (show 2 ∉ ([44, 45, 46, 47, 48, 49, 50] : List Nat) by decide)).trans hsO
    have he : execOp (putS a [44, 45, 46, 47, 48, 49, 50] v).eval opv10_1 = execOp (Act.eval ⟨#[undef], []⟩) ⟨some 0, .fieldAddr 64 (.const (.pointer (some ⟨O, 0, none⟩))) 2, 0, "", #[], none⟩ := by simp only [execOp, eval_const, opv10_1, r2]
    refine Lid.mk ?_
    unfold Oper.wp
    rw [he]
    clear he
    go_simp
    exact hK.out _ _ (InvG.nextL (W := W) hv 1 (.pointer (some ⟨O, 2, none⟩)) (put_in 1 hnd rfl) (fun _ _ _ h => h) rfl ⟨hX, hO, c0, c1, hb⟩)
  case o2 =>
    rintro Q' L _ W h0L hpre ⟨v, rfl, hv, hX, hO, c0, c1, hb⟩ K hK
    have r45 : (putS a [44, 45, 46, 47, 48, 49, 50] v).eval (.tmp 45) = _ := (eval_in 1 hnd rfl (by omega)).trans (hv 1 (hpre 1 (by simp)))
    have he : execOp (putS a [44, 45, 46, 47, 48, 49, 50] v).eval opv10_2 = execOp (Act.eval ⟨#[undef], []⟩) ⟨some 0, .load 41 (.const (.pointer (some ⟨O, 2, none⟩))), 0, "", #[], none⟩ := by simp only [execOp, eval_const, opv10_2, r45]
    refine Lid.mk ?_
    unfold Oper.wp
    rw [he]
    clear he
    go_simp
    exact hK.out _ _ (InvG.nextL (W := W) hv 2 (.slice (some ⟨b0, off, none⟩) n c) (put_in 2 hnd rfl) (fun _ _ _ h => h) rfl ⟨hX, hO, c0, c1, hb⟩)
  case o3 =>
    rintro Q' L _ W h0L hpre ⟨v, rfl, hv, hX, hO, c0, c1, hb⟩ K hK
    have r7 := (eval_out (v := v) (show 7 ∉ ([44, 45, 46, 47, 48, 49, 50] : List Nat) by decide)).trans hsI
    have he : execOp (putS a [44, 45, 46, 47, 48, 49, 50] v).eval opv10_3 = execOp (Act.eval ⟨#[undef], []⟩) ⟨some 0, .move (.const (.int .i64 (i : Int))), 0, "", #[], none⟩ := by simp only [execOp, eval_const, opv10_3, r7]
    refine Lid.mk ?_
    unfold Oper.wp
    rw [he]
    clear he
    go_simp
    exact hK.out _ _ (InvG.nextL (W := W) hv 3 (.int .i64 (i : Int)) (put_in 3 hnd rfl) (fun _ _ _ h => h) rfl ⟨hX, hO, c0, c1, hb⟩)
  case o4 =>
    rintro Q' L _ W h0L hpre ⟨v, rfl, hv, hX, hO, c0, c1, hb⟩ K hK
    have r46 : (putS a [44, 45, 46, 47, 48, 49, 50] v).eval (.tmp 46) = _ := (eval_in 2 hnd rfl (by omega)).trans (hv 2 (hpre 2 (by simp)))
    have r47 : (putS a [44, 45, 46, 47, 48, 49, 50] v).eval (.tmp 47) = _ := (eval_in 3 hnd rfl (by omega)).trans (hv 3 (hpre 3 (by simp)))
    have he : execOp (putS a [44, 45, 46, 47, 48, 49, 50] v).eval opv10_4 = execOp (Act.eval ⟨#[undef], []⟩) ⟨some 0, .indexAddr 41 (.const (.slice (some ⟨b0, off, none⟩) n c)) (.const (.int .i64 (i : Int))), 0, "", #[], none⟩ := by simp only [execOp, eval_const, opv10_4, r46, r47]
    refine Lid.mk ?_
    unfold Oper.wp
    rw [he]
    clear he
    go_simp
    exact hK.out _ _ (InvG.nextL (W := W) hv 4 (.pointer (some ⟨b0, off + i * 2, none⟩)) (put_in 4 hnd rfl) (fun _ _ _ h => h) rfl ⟨hX, hO, c0, c1, hb⟩)
  case o5 =>
    rintro Q' L _ W h0L hpre ⟨v, rfl, hv, hX, hO, c0, c1, hb⟩ K hK
    have r48 : (putS a [44, 45, 46, 47, 48, 49, 50] v).eval (.tmp 48) = _ := (eval_in 4 hnd rfl (by omega)).trans (hv 4 (hpre 4 (by simp)))
    have he : execOp (putS a [44, 45, 46, 47, 48, 49, 50] v).eval opv10_5 = execOp (Act.eval ⟨#[undef], []⟩) ⟨some 0, .load 82 (.const (.pointer (some ⟨b0, off + i * 2, none⟩))), 0, "", #[], none⟩ := by simp only [execOp, eval_const, opv10_5, r48]
    refine Lid.mk ?_
    unfold Oper.wp
    rw [he]
    clear he
    go_simp
    exact hK.out _ _ (InvG.nextL (W := W) hv 5 (.agg #[.string key, (.slice xa xn xc)]) (put_in 5 hnd rfl) (fun _ _ _ h => h) rfl ⟨hX, hO, c0, c1, hb⟩)
  case o6 =>
    rintro Q' L _ W h0L hpre ⟨v, rfl, hv, hX, hO, c0, c1, hb⟩ K hK
    have r44 : (putS a [44, 45, 46, 47, 48, 49, 50] v).eval (.tmp 44) = _ := (eval_in 0 hnd rfl (by omega)).trans (hv 0 (hpre 0 (by simp)))
    have r49 : (putS a [44, 45, 46, 47, 48, 49, 50] v).eval (.tmp 49) = _ := (eval_in 5 hnd rfl (by omega)).trans (hv 5 (hpre 5 (by simp)))
    have HPW := HP W hb
    have he : execOp (putS a [44, 45, 46, 47, 48, 49, 50] v).eval opv10_6 = execOp (Act.eval ⟨#[undef], []⟩) ⟨some 0, .call { callee := .value (.func 70), args := #[.const (.agg #[.string kind, .string name, (.slice ba bn bc)]), .const (.agg #[.string key, (.slice xa xn xc)])], argTypes := #[64, 82] }, 0, "", #[], none⟩ := by simp only [execOp, eval_const, opv10_6, resolve, eval_func, List.map_toArray, List.map_cons, List.map_nil, r44, r49]
    refine Lid.mk ?_
    unfold Oper.wp
    rw [he]
    clear he
    go_simp
    refine HPW.mono ?_
    rintro e W' ⟨q, m, cc, rfl, hP, b'⟩
    refine hK.out _ _ (InvG.nextL (W := W) hv 6 (.agg #[.string kind, .string name, .slice q m cc]) (put_in 6 hnd rfl) (fun j y hj h => ?_) ⟨q, m, cc, rfl, W, hb, hP, b'⟩ ⟨(b'.block X (Array.getElem?_eq_some_iff.1 hX).1).trans hX, (b'.cell (World.block_lt_of_cell? _ _ hO)).trans hO, (b'.cell (World.block_lt_of_cell? _ _ c0)).trans c0, (b'.cell (World.block_lt_of_cell? _ _ c1)).trans c1, hb.trans (b'.mono hb.size)⟩)
    have h6 : j ≠ 6 := fun e => by rw [e, h0L] at hj; cases hj
    unfold OvF at *
    split <;> simp only at h
    all_goals first | exact h | exact absurd rfl h6 | trivial
  case o7 =>
    rintro Q' L _ W h0L hpre ⟨v, rfl, hv, hX, hO, c0, c1, hb⟩ K hK
    obtain ⟨q, m, cc, e6, W1, hb1, hP, hb2⟩ := hv 6 (hpre 6 (by simp))
    have r50 : (putS a [44, 45, 46, 47, 48, 49, 50] v).eval (.tmp 50) = _ := (eval_in 6 hnd rfl (by omega)).trans e6
    have r5 := (eval_out (v := v) (show 5 ∉ ([44, 45, 46, 47, 48, 49, 50] : List Nat) by decide)).trans hsX
    have g0 := cell_of_block hX 0
    have g1 := cell_of_block hX 1
    have g2 := cell_of_block hX 2
    simp only [List.getElem?_toArray, List.getElem?_cons_zero, List.getElem?_cons_succ] at g0 g1 g2
    have f0 := frozen_of_block hX 0
    have f1 := frozen_of_block hX 1
    have f2 := frozen_of_block hX 2
    have HQ := hid_in (hQ v _ q m cc W1 W rfl hb1 hP hb2)
    have he : execOp (putS a [44, 45, 46, 47, 48, 49, 50] v).eval opv10_7 = execOp (Act.eval ⟨#[undef], []⟩) ⟨some 0, .store 64 (.const (.pointer (some ⟨X, 0, none⟩))) (.const (.agg #[.string kind, .string name, .slice q m cc])), 0, "", #[], none⟩ := by simp only [execOp, eval_const, opv10_7, r5, r50]
    refine Lid.mk ?_
    unfold Oper.wp
    rw [he]
    clear he
    go_simp
    exact hK.out _ _ (NoPanic.normal HQ.out)
def OvG (U i b0 off n c : Nat) (kind name key : ByteArray) (ov : Value) (KK : Bool) (j : Nat) (x : Value) : Prop := match j with
  | 0 => x = .agg #[.string kind, .string name, ov]
  | 1 => x = .pointer (some ⟨U, 2, none⟩)
  | 2 => x = .slice (some ⟨b0, off, none⟩) n c
  | 3 => x = .int .i64 (i : Int)
  | 4 => x = .pointer (some ⟨b0, off + i * 2, none⟩)
  | 5 => x = .pointer (some ⟨b0, off + i * 2, none⟩)
  | 6 => x = .string key
  | 7 => ∃ a m cc, x = .slice a m cc ∧ ((m : Int) == 0) = KK
  | 8 => ∃ m : Nat, x = .int .i64 (m : Int) ∧ ((m : Int) == 0) = KK
  | 9 => x = .bool KK
  | _ => True
set_option maxHeartbeats 2000000 in
set_option maxRecDepth 10000 in
theorem regionV9 {Q : Exit → Act → World → Prop} {a : Act} {W0 : World} {O U i b0 off n c on oc : Nat} {kind name key : ByteArray} {oa : Option Addr} {KK : Bool} (hO0 : W0.heap[O]? = some (.cells #[.string kind, .string name, (.slice oa on oc)] 64 (0, 0))) (hU0 : W0.cell? ⟨U, 2, none⟩ = some (.slice (some ⟨b0, off, none⟩) n c)) (hc0 : W0.cell? ⟨b0, off + i * 2, none⟩ = some (.string key)) (hi : i < n) (HP : ∀ W, Below W0.heap.size W0 W → Calls Tryz.prog 69 #[.agg #[.string kind, .string name, (.slice oa on oc)], .string key] W fun e w' => NonePost KK W e w')
    (hsO : a.eval (.tmp 3) = .pointer (some ⟨O, 0, none⟩)) (hsU : a.eval (.tmp 2) = .pointer (some ⟨U, 0, none⟩)) (hsI : a.eval (.tmp 7) = .int .i64 (i : Int)) (hsz : a.tmps.size = 52)
    (hQ : ∀ v a' W', a' = putS a [34, 35, 36, 37, 38, 39, 40, 41, 42, 43] v → v 9 = .bool KK → Below W0.heap.size W0 W' → Q .normal a' W') : (Code.region 9 opsv9.toArray true).wp Tryz.prog Q a W0 := by
  have hnd : ([34, 35, 36, 37, 38, 39, 40, 41, 42, 43] : List Nat).Nodup := by decide
  have i3 : (0 : Int) ≤ (i : Int) := by omega
  have i4 : (i : Int) < (n : Int) := by omega
  refine wp_region_invE0 [34, 35, 36, 37, 38, 39, 40, 41, 42, 43] (fun j x _ => OvG U i b0 off n c kind name key (.slice oa on oc) KK j x) (fun _ W => W.heap[O]? = some (.cells #[.string kind, .string name, (.slice oa on oc)] 64 (0, 0)) ∧ W.cell? ⟨U, 2, none⟩ = some (.slice (some ⟨b0, off, none⟩) n c) ∧ W.cell? ⟨b0, off + i * 2, none⟩ = some (.string key) ∧ Below W0.heap.size W0 W) 10 [0, 1, 2, 3, 4, 5, 6, 7, 8, 9] (by kernel_rfl) rfl (by decide) (by kernel_rfl) ?h1 ⟨hO0, hU0, hc0, (Below.refl _ _).drew⟩ ?hall ?hend
  case h1 =>
    intro i x W hi
    unfold OvG
    split <;> first | omega | trivial
  case hend =>
    intro v W' L hL hv hg
    exact NoPanic.normal (hQ v _ W' rfl (hv 9) hg.2.2.2)
  refine AllInv.consQ (o := opv9_0) [] (by kernel_rfl) (by decide) (by kernel_rfl) rfl ?o0 (AllInv.consQ (o := opv9_1) [] (by kernel_rfl) (by decide) (by kernel_rfl) rfl ?o1 (AllInv.consQ (o := opv9_2) [1] (by kernel_rfl) (by decide) (by kernel_rfl) rfl ?o2 (AllInv.consQ (o := opv9_3) [] (by kernel_rfl) (by decide) (by kernel_rfl) rfl ?o3 (AllInv.consQ (o := opv9_4) [2, 3] (by kernel_rfl) (by decide) (by kernel_rfl) rfl ?o4 (AllInv.consQ (o := opv9_5) [4] (by kernel_rfl) (by decide) (by kernel_rfl) rfl ?o5 (AllInv.consQ (o := opv9_6) [5] (by kernel_rfl) (by decide) (by kernel_rfl) rfl ?o6 (AllInv.consQ (o := opv9_7) [0, 6] (by kernel_rfl) (by decide) (by kernel_rfl) rfl ?o7 (AllInv.consQ (o := opv9_8) [7] (by kernel_rfl) (by decide) (by kernel_rfl) rfl ?o8 (AllInv.consQ (o := opv9_9) [8] (by kernel_rfl) (by decide) (by kernel_rfl) rfl ?o9 AllInv.nil)))))))))
  case o0 =>
    rintro Q' L _ W h0L hpre ⟨v, rfl, hv, hO, hU, c0, hb⟩ K hK
    have g0 := cell_of_block hO 0
    have g1 := cell_of_block hO 1
    have g2 := cell_of_block hO 2
    simp only [List.getElem?_toArray, List.getElem?_cons_zero, List.getElem?_cons_succ] at g0 g1 g2
    have r3 := (eval_out (v := v) (show 3 ∉ ([34, 35, 36, 37, 38, 39, 40, 41, 42, 43] : List Nat) by decide)).trans hsO
    have he : execOp (putS a [34, 35, 36, 37, 38, 39, 40, 41, 42, 43] v).eval opv9_0 = execOp (Act.eval ⟨#[undef], []⟩) ⟨some 0, .load 64 (.const (.pointer (some ⟨O, 0, none⟩))), 0, "", #[], none⟩ := by simp only [execOp, eval_const, opv9_0, r3]
    refine Lid.mk ?_
    unfold Oper.wp
    rw [he]
    clear he
    go_simp
    exact hK.out _ _ (InvG.next (W := W) hv 0 (.agg #[.string kind, .string name, (.slice oa on oc)]) (put_in 0 hnd rfl) (fun _ _ h => h) rfl ⟨hO, hU, c0, hb⟩)
  case o1 =>
    rintro Q' L _ W h0L hpre ⟨v, rfl, hv, hO, hU, c0, hb⟩ K hK
    have r2 := (eval_out (v := v) (show 2 ∉ ([34, 35, 36, 37, 38, 39, 40, 41, 42, 43] : List Nat) by decide)).trans hsU
    have he : execOp (putS a [34, 35, 36, 37, 38, 39, 40, 41, 42, 43] v).eval opv9_1 = execOp (Act.eval ⟨#[undef], []⟩) ⟨some 0, .fieldAddr 64 (.const (.pointer (some ⟨U, 0, none⟩))) 2, 0, "", #[], none⟩ := by simp only [execOp, eval_const, opv9_1, r2]
    refine Lid.mk ?_
    unfold Oper.wp
    rw [he]
    clear he
    go_simp
    exact hK.out _ _ (InvG.next (W := W) hv 1 (.pointer (some ⟨U, 2, none⟩)) (put_in 1 hnd rfl) (fun _ _ h => h) rfl ⟨hO, hU, c0, hb⟩)
  case o2 =>
    rintro Q' L _ W h0L hpre ⟨v, rfl, hv, hO, hU, c0, hb⟩ K hK
    have r35 : (putS a [34, 35, 36, 37, 38, 39, 40, 41, 42, 43] v).eval (.tmp 35) = _ := (eval_in 1 hnd rfl (by omega)).trans (hv 1 (hpre 1 (by simp)))
    have he : execOp (putS a [34, 35, 36, 37, 38, 39, 40, 41, 42, 43] v).eval opv9_2 = execOp (Act.eval ⟨#[undef], []⟩) ⟨some 0, .load 41 (.const (.pointer (some ⟨U, 2, none⟩))), 0, "", #[], none⟩ := by simp only [execOp, eval_const, opv9_2, r35]
    refine Lid.mk ?_
    unfold Oper.wp
    rw [he]
    clear he
    go_simp
    exact hK.out _ _ (InvG.next (W := W) hv 2 (.slice (some ⟨b0, off, none⟩) n c) (put_in 2 hnd rfl) (fun _ _ h => h) rfl ⟨hO, hU, c0, hb⟩)
  case o3 =>
    rintro Q' L _ W h0L hpre ⟨v, rfl, hv, hO, hU, c0, hb⟩ K hK
    have r7 := (eval_out (v := v) (show 7 ∉ ([34, 35, 36, 37, 38, 39, 40, 41, 42, 43] : List Nat) by decide)).trans hsI
    have he : execOp (putS a [34, 35, 36, 37, 38, 39, 40, 41, 42, 43] v).eval opv9_3 = execOp (Act.eval ⟨#[undef], []⟩) ⟨some 0, .move (.const (.int .i64 (i : Int))), 0, "", #[], none⟩ := by simp only [execOp, eval_const, opv9_3, r7]
    refine Lid.mk ?_
    unfold Oper.wp
    rw [he]
    clear he
    go_simp
    exact hK.out _ _ (InvG.next (W := W) hv 3 (.int .i64 (i : Int)) (put_in 3 hnd rfl) (fun _ _ h => h) rfl ⟨hO, hU, c0, hb⟩)
  case o4 =>
    rintro Q' L _ W h0L hpre ⟨v, rfl, hv, hO, hU, c0, hb⟩ K hK
    have r36 : (putS a [34, 35, 36, 37, 38, 39, 40, 41, 42, 43] v).eval (.tmp 36) = _ := (eval_in 2 hnd rfl (by omega)).trans (hv 2 (hpre 2 (by simp)))
    have r37 : (putS a [34, 35, 36, 37, 38, 39, 40, 41, 42, 43] v).eval (.tmp 37) = _ := (eval_in 3 hnd rfl (by omega)).trans (hv 3 (hpre 3 (by simp)))
    have he : execOp (putS a [34, 35, 36, 37, 38, 39, 40, 41, 42, 43] v).eval opv9_4 = execOp (Act.eval ⟨#[undef], []⟩) ⟨some 0, .indexAddr 41 (.const (.slice (some ⟨b0, off, none⟩) n c)) (.const (.int .i64 (i : Int))), 0, "", #[], none⟩ := by simp only [execOp, eval_const, opv9_4, r36, r37]
    refine Lid.mk ?_
    unfold Oper.wp
    rw [he]
    clear he
    go_simp
    exact hK.out _ _ (InvG.next (W := W) hv 4 (.pointer (some ⟨b0, off + i * 2, none⟩)) (put_in 4 hnd rfl) (fun _ _ h => h) rfl ⟨hO, hU, c0, hb⟩)
  case o5 =>
    rintro Q' L _ W h0L hpre ⟨v, rfl, hv, hO, hU, c0, hb⟩ K hK
    have r38 : (putS a [34, 35, 36, 37, 38, 39, 40, 41, 42, 43] v).eval (.tmp 38) = _ := (eval_in 4 hnd rfl (by omega)).trans (hv 4 (hpre 4 (by simp)))
    have he : execOp (putS a [34, 35, 36, 37, 38, 39, 40, 41, 42, 43] v).eval opv9_5 = execOp (Act.eval ⟨#[undef], []⟩) ⟨some 0, .fieldAddr 82 (.const (.pointer (some ⟨b0, off + i * 2, none⟩))) 0, 0, "", #[], none⟩ := by simp only [execOp, eval_const, opv9_5, r38]
    refine Lid.mk ?_
    unfold Oper.wp
    rw [he]
    clear he
    go_simp
    exact hK.out _ _ (InvG.next (W := W) hv 5 (.pointer (some ⟨b0, off + i * 2, none⟩)) (put_in 5 hnd rfl) (fun _ _ h => h) rfl ⟨hO, hU, c0, hb⟩)
  case o6 =>
    rintro Q' L _ W h0L hpre ⟨v, rfl, hv, hO, hU, c0, hb⟩ K hK
    have r39 : (putS a [34, 35, 36, 37, 38, 39, 40, 41, 42, 43] v).eval (.tmp 39) = _ := (eval_in 5 hnd rfl (by omega)).trans (hv 5 (hpre 5 (by simp)))
    have he : execOp (putS a [34, 35, 36, 37, 38, 39, 40, 41, 42, 43] v).eval opv9_6 = execOp (Act.eval ⟨#[undef], []⟩) ⟨some 0, .load 9 (.const (.pointer (some ⟨b0, off + i * 2, none⟩))), 0, "", #[], none⟩ := by simp only [execOp, eval_const, opv9_6, r39]
    refine Lid.mk ?_
    unfold Oper.wp
    rw [he]
    clear he
    go_simp
    exact hK.out _ _ (InvG.next (W := W) hv 6 (.string key) (put_in 6 hnd rfl) (fun _ _ h => h) rfl ⟨hO, hU, c0, hb⟩)
  case o7 =>
    rintro Q' L _ W h0L hpre ⟨v, rfl, hv, hO, hU, c0, hb⟩ K hK
    have r34 : (putS a [34, 35, 36, 37, 38, 39, 40, 41, 42, 43] v).eval (.tmp 34) = _ := (eval_in 0 hnd rfl (by omega)).trans (hv 0 (hpre 0 (by simp)))
    have r40 : (putS a [34, 35, 36, 37, 38, 39, 40, 41, 42, 43] v).eval (.tmp 40) = _ := (eval_in 6 hnd rfl (by omega)).trans (hv 6 (hpre 6 (by simp)))
    have HPW := HP W hb
    have he : execOp (putS a [34, 35, 36, 37, 38, 39, 40, 41, 42, 43] v).eval opv9_7 = execOp (Act.eval ⟨#[undef], []⟩) ⟨some 0, .call { callee := .value (.func 69), args := #[.const (.agg #[.string kind, .string name, (.slice oa on oc)]), .const (.string key)], argTypes := #[64, 9] }, 0, "", #[], none⟩ := by simp only [execOp, eval_const, opv9_7, resolve, eval_func, List.map_toArray, List.map_cons, List.map_nil, r34, r40]
    refine Lid.mk ?_
    unfold Oper.wp
    rw [he]
    clear he
    go_simp
    refine HPW.mono ?_
    rintro e W' ⟨q, m, cc, rfl, hK0, b'⟩
    exact hK.out _ _ (InvG.next (W := W) hv 7 (.slice q m cc) (put_in 7 hnd rfl) (fun _ _ h => h) ⟨q, m, cc, rfl, hK0⟩ ⟨(b'.block O (Array.getElem?_eq_some_iff.1 hO).1).trans hO, (b'.cell (World.block_lt_of_cell? _ _ hU)).trans hU, (b'.cell (World.block_lt_of_cell? _ _ c0)).trans c0, hb.trans (b'.mono hb.size)⟩)
  case o8 =>
    rintro Q' L _ W h0L hpre ⟨v, rfl, hv, hO, hU, c0, hb⟩ K hK
    obtain ⟨q, m, cc, e7, hm⟩ := hv 7 (hpre 7 (by simp))
    have r41 : (putS a [34, 35, 36, 37, 38, 39, 40, 41, 42, 43] v).eval (.tmp 41) = _ := (eval_in 7 hnd rfl (by omega)).trans e7
    refine Lid.mk ?_
    unfold Oper.wp
    simp only [execOp, opv9_8, resolve, List.map_toArray, List.map_cons, List.map_nil, r41]
    go_simp
    exact hK.out _ _ (InvG.next (W := W) hv 8 (.int .i64 (m : Int)) (put_in 8 hnd rfl) (fun _ _ h => h) ⟨m, rfl, hm⟩ ⟨hO, hU, c0, hb⟩)
  case o9 =>
    rintro Q' L _ W h0L hpre ⟨v, rfl, hv, hO, hU, c0, hb⟩ K hK
    obtain ⟨m, e8, hm⟩ := hv 8 (hpre 8 (by simp))
    have r42 : (putS a [34, 35, 36, 37, 38, 39, 40, 41, 42, 43] v).eval (.tmp 42) = _ := (eval_in 8 hnd rfl (by omega)).trans e8
    refine Lid.mk ?_
    unfold Oper.wp
    simp only [execOp, opv9_9, eval_const, r42]
    go_simp
    exact hK.out _ _ (InvG.next (W := W) hv 9 (.bool KK) (put_in 9 hnd rfl) (fun _ _ h => h) rfl ⟨hO, hU, c0, hb⟩)
end Go.Proofs.YtpdahhnjhggocabGreatDoor
