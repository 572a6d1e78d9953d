import Derived.Test.YtpdahhnjhggocaaGreatDoorBun31
import Derived.Test.YtpdahhnjhggocaaGreatDoorBun29
namespace Go.Proofs.YtpdahhnjhggocaaGreatDoor
open Go.RowKit
def opw10_0 : Oper := { dst := some 40, op := Op.fieldAddr 25 (Operand.tmp 2) 0, type := 0, pos := "l6_over.go:29", after := #[], guard := none }
def opw10_1 : Oper := { dst := some 41, op := Op.load 23 (Operand.tmp 40), type := 23, pos := "l6_over.go:29", after := #[{ on := 0, ground := Ground.data }], guard := none }
def opw10_2 : Oper := { dst := some 42, op := Op.move (Operand.tmp 8), type := 3, pos := "l6_over.go:29", after := #[], guard := none }
def opw10_3 : Oper := { dst := some 43, op := Op.indexAddr 23 (Operand.tmp 41) (Operand.tmp 42), type := 0, pos := "l6_over.go:29", after := #[{ on := 1, ground := Ground.data }, { on := 2, ground := Ground.data }], guard := none }
def opw10_4 : Oper := { dst := some 44, op := Op.load 46 (Operand.tmp 43), type := 46, pos := "l6_over.go:29", after := #[{ on := 3, ground := Ground.data }], guard := none }
def opw10_5 : Oper := { dst := some 45, op := Op.load 46 (Operand.tmp 7), type := 46, pos := "l6_over.go:29", after := #[], guard := none }
def opw10_6 : Oper := { dst := some 46, op := Op.call { callee := Callee.value (Operand.func 53), args := #[Operand.tmp 44, Operand.tmp 45], argTypes := #[46, 46] }, type := 46, pos := "l6_over.go:29", after := #[{ on := 4, ground := Ground.data }, { on := 5, ground := Ground.data }], guard := none }
def opw10_7 : Oper := { dst := none, op := Op.store 46 (Operand.tmp 7) (Operand.tmp 46), type := 0, pos := "l6_over.go:29", after := #[{ on := 6, ground := Ground.data }, { on := 6, ground := Ground.chain }, { on := 0, ground := Ground.phase }, { on := 1, ground := Ground.phase }, { on := 2, ground := Ground.phase }, { on := 3, ground := Ground.phase }, { on := 4, ground := Ground.phase }, { on := 5, ground := Ground.phase }, { on := 6, ground := Ground.phase }], guard := none }
def opsw10 : List Oper := [opw10_0, opw10_1, opw10_2, opw10_3, opw10_4, opw10_5, opw10_6, opw10_7]
def opw15_0 : Oper := { dst := some 57, op := Op.load 25 (Operand.tmp 3), type := 25, pos := "l6_over.go:34", after := #[], guard := none }
def opw15_1 : Oper := { dst := some 58, op := Op.fieldAddr 25 (Operand.tmp 2) 0, type := 0, pos := "l6_over.go:34", after := #[], guard := none }
def opw15_2 : Oper := { dst := some 59, op := Op.load 23 (Operand.tmp 58), type := 23, pos := "l6_over.go:34", after := #[{ on := 1, ground := Ground.data }], guard := none }
def opw15_3 : Oper := { dst := some 60, op := Op.move (Operand.tmp 9), type := 3, pos := "l6_over.go:34", after := #[], guard := none }
def opw15_4 : Oper := { dst := some 61, op := Op.indexAddr 23 (Operand.tmp 59) (Operand.tmp 60), type := 0, pos := "l6_over.go:34", after := #[{ on := 2, ground := Ground.data }, { on := 3, ground := Ground.data }], guard := none }
def opw15_5 : Oper := { dst := some 62, op := Op.fieldAddr 46 (Operand.tmp 61) 0, type := 0, pos := "l6_over.go:34", after := #[{ on := 4, ground := Ground.data }], guard := none }
def opw15_6 : Oper := { dst := some 63, op := Op.load 9 (Operand.tmp 62), type := 9, pos := "l6_over.go:34", after := #[{ on := 5, ground := Ground.data }], guard := none }
def opw15_7 : Oper := { dst := some 64, op := Op.fieldAddr 25 (Operand.tmp 2) 0, type := 0, pos := "l6_over.go:34", after := #[], guard := none }
def opw15_8 : Oper := { dst := some 65, op := Op.load 23 (Operand.tmp 64), type := 23, pos := "l6_over.go:34", after := #[{ on := 7, ground := Ground.data }], guard := none }
def opw15_9 : Oper := { dst := some 66, op := Op.move (Operand.tmp 9), type := 3, pos := "l6_over.go:34", after := #[], guard := none }
def opw15_10 : Oper := { dst := some 67, op := Op.indexAddr 23 (Operand.tmp 65) (Operand.tmp 66), type := 0, pos := "l6_over.go:34", after := #[{ on := 8, ground := Ground.data }, { on := 9, ground := Ground.data }], guard := none }
def opw15_11 : Oper := { dst := some 68, op := Op.fieldAddr 46 (Operand.tmp 67) 1, type := 0, pos := "l6_over.go:34", after := #[{ on := 10, ground := Ground.data }], guard := none }
def opw15_12 : Oper := { dst := some 69, op := Op.load 9 (Operand.tmp 68), type := 9, pos := "l6_over.go:34", after := #[{ on := 11, ground := Ground.data }], guard := none }
def opw15_13 : Oper := { dst := some 70, op := Op.call { callee := Callee.value (Operand.func 52), args := #[Operand.tmp 57, Operand.tmp 63, Operand.tmp 69], argTypes := #[25, 9, 9] }, type := 3, pos := "l6_over.go:34", after := #[{ on := 0, ground := Ground.data }, { on := 6, ground := Ground.data }, { on := 12, ground := Ground.data }], guard := none }
def opw15_14 : Oper := { dst := some 71, op := Op.binOp BinOp.lss 3 (Operand.tmp 70) (Operand.const (Value.int IntKind.i64 0)) 3, type := 4, pos := "l6_over.go:34", after := #[{ on := 13, ground := Ground.data }], guard := none }
def opsw15 : List Oper := [opw15_0, opw15_1, opw15_2, opw15_3, opw15_4, opw15_5, opw15_6, opw15_7, opw15_8, opw15_9, opw15_10, opw15_11, opw15_12, opw15_13, opw15_14]
def opw16_0 : Oper := { dst := some 72, op := Op.load 25 (Operand.tmp 5), type := 25, pos := "l6_over.go:35", after := #[], guard := none }
def opw16_1 : Oper := { dst := some 73, op := Op.fieldAddr 25 (Operand.tmp 2) 0, type := 0, pos := "l6_over.go:35", after := #[], guard := none }
def opw16_2 : Oper := { dst := some 74, op := Op.load 23 (Operand.tmp 73), type := 23, pos := "l6_over.go:35", after := #[{ on := 1, ground := Ground.data }], guard := none }
def opw16_3 : Oper := { dst := some 75, op := Op.move (Operand.tmp 9), type := 3, pos := "l6_over.go:35", after := #[], guard := none }
def opw16_4 : Oper := { dst := some 76, op := Op.indexAddr 23 (Operand.tmp 74) (Operand.tmp 75), type := 0, pos := "l6_over.go:35", after := #[{ on := 2, ground := Ground.data }, { on := 3, ground := Ground.data }], guard := none }
def opw16_5 : Oper := { dst := some 77, op := Op.load 46 (Operand.tmp 76), type := 46, pos := "l6_over.go:35", after := #[{ on := 4, ground := Ground.data }], guard := none }
def opw16_6 : Oper := { dst := some 78, op := Op.call { callee := Callee.value (Operand.func 54), args := #[Operand.tmp 72, Operand.tmp 77], argTypes := #[25, 46] }, type := 25, pos := "l6_over.go:35", after := #[{ on := 0, ground := Ground.data }, { on := 5, ground := Ground.data }], guard := none }
def opw16_7 : Oper := { dst := none, op := Op.store 25 (Operand.tmp 5) (Operand.tmp 78), type := 0, pos := "l6_over.go:35", after := #[{ on := 6, ground := Ground.data }, { on := 6, ground := Ground.chain }, { on := 0, ground := Ground.phase }, { on := 1, ground := Ground.phase }, { on := 2, ground := Ground.phase }, { on := 3, ground := Ground.phase }, { on := 4, ground := Ground.phase }, { on := 5, ground := Ground.phase }, { on := 6, ground := Ground.phase }], guard := none }
def opsw16 : List Oper := [opw16_0, opw16_1, opw16_2, opw16_3, opw16_4, opw16_5, opw16_6, opw16_7]
def OwF (U i b0 off n c : Nat) (uk un bk bnm : ByteArray) (uv bv : Value) (J : Value → World → Prop) (j : Nat) (x : Value) (W : World) : Prop := match j with
  | 0 => x = .pointer (some ⟨U, 0, none⟩)
  | 1 => x = .slice (some ⟨b0, off, none⟩) n c
  | 2 => x = .int .i64 (i : Int)
  | 3 => x = .pointer (some ⟨b0, off + i * 3, none⟩)
  | 4 => x = .agg #[.string uk, .string un, uv]
  | 5 => x = .agg #[.string bk, .string bnm, bv]
  | 6 => ∃ a m cc, x = .agg #[.string bk, .string bnm, .slice a m cc] ∧ J (.slice a m cc) W
  | _ => True
set_option maxHeartbeats 2000000 in
set_option maxRecDepth 10000 in
theorem regionW10 {Q : Exit → Act → World → Prop} {a : Act} {W0 : World} {R U i b0 off n c bn bc ul uc : Nat} {uk un bk bnm : ByteArray} {ba ua : Option Addr} (P : World → Value → World → Prop) (hR0 : W0.heap[R]? = some (.cells #[.string bk, .string bnm, (.slice ba bn bc)] 46 (0, 0))) (hU0 : W0.cell? ⟨U, 0, none⟩ = some (.slice (some ⟨b0, off, none⟩) n c)) (hc0 : W0.cell? ⟨b0, off + i * 3, none⟩ = some (.string uk)) (hc1 : W0.cell? ⟨b0, off + i * 3 + 1, none⟩ = some (.string un)) (hc2 : W0.cell? ⟨b0, off + i * 3 + 2, none⟩ = some (.slice ua ul uc)) (hi : i < n) (HP : ∀ W, Below W0.heap.size W0 W → Calls Tryz.prog 53 #[.agg #[.string uk, .string un, (.slice ua ul uc)], .agg #[.string bk, .string bnm, (.slice ba bn bc)]] W fun e w' => ∃ q m cc, e = .returned (.agg #[.string bk, .string bnm, .slice q m cc]) ∧ P W (.slice q m cc) w' ∧ Below W.heap.size W w')
    (hsR : a.eval (.tmp 7) = .pointer (some ⟨R, 0, none⟩)) (hsU : a.eval (.tmp 2) = .pointer (some ⟨U, 0, none⟩)) (hsI : a.eval (.tmp 8) = .int .i64 (i : Int)) (hsz : a.tmps.size = 85)
    (hQ : ∀ v a' q m cc W1 W2, a' = putS a [40, 41, 42, 43, 44, 45, 46] v → Below W0.heap.size W0 W1 → P W1 (.slice q m cc) W2 → Below W1.heap.size W1 W2 → Q .normal a' (((W2.setCell ⟨R, 0, none⟩ (.string bk)).setCell ⟨R, 1, none⟩ (.string bnm)).setCell ⟨R, 2, none⟩ (.slice q m cc))) : (Code.region 10 opsw10.toArray true).wp Tryz.prog Q a W0 := by
  have hnd : ([40, 41, 42, 43, 44, 45, 46] : List Nat).Nodup := by decide
  have i3 : (0 : Int) ≤ (i : Int) := by omega
  have i4 : (i : Int) < (n : Int) := by omega
  refine wp_region_invS0 [40, 41, 42, 43, 44, 45, 46] (OwF U i b0 off n c uk un bk bnm (.slice ua ul uc) (.slice ba bn bc) (fun v W => ∃ W1, Below W0.heap.size W0 W1 ∧ P W1 v W ∧ Below W1.heap.size W1 W)) (fun _ W => W.heap[R]? = some (.cells #[.string bk, .string bnm, (.slice ba bn bc)] 46 (0, 0)) ∧ W.cell? ⟨U, 0, none⟩ = some (.slice (some ⟨b0, off, none⟩) n c) ∧ W.cell? ⟨b0, off + i * 3, none⟩ = some (.string uk) ∧ W.cell? ⟨b0, off + i * 3 + 1, none⟩ = some (.string un) ∧ W.cell? ⟨b0, off + i * 3 + 2, none⟩ = some (.slice ua ul uc) ∧ Below W0.heap.size W0 W) 7 8 [0, 1, 2, 3, 4, 5, 6, 7] (by kernel_rfl) rfl (by decide) (by kernel_rfl) ?h1 ⟨hR0, hU0, hc0, hc1, hc2, (Below.refl _ _).drew⟩ ?hall
  case h1 =>
    intro i x W hi
    unfold OwF
    split <;> first | omega | trivial
  refine AllInv.consQ (o := opw10_0) [] (by kernel_rfl) (by decide) (by kernel_rfl) rfl ?o0 (AllInv.consQ (o := opw10_1) [0] (by kernel_rfl) (by decide) (by kernel_rfl) rfl ?o1 (AllInv.consQ (o := opw10_2) [] (by kernel_rfl) (by decide) (by kernel_rfl) rfl ?o2 (AllInv.consQ (o := opw10_3) [1, 2] (by kernel_rfl) (by decide) (by kernel_rfl) rfl ?o3 (AllInv.consQ (o := opw10_4) [3] (by kernel_rfl) (by decide) (by kernel_rfl) rfl ?o4 (AllInv.consQ (o := opw10_5) [] (by kernel_rfl) (by decide) (by kernel_rfl) rfl ?o5 (AllInv.consQ (o := opw10_6) [4, 5] (by kernel_rfl) (by decide) (by kernel_rfl) rfl ?o6 (AllInv.lastQ (o := opw10_7) [6, 6, 0, 1, 2, 3, 4, 5, 6] (by kernel_rfl) (by kernel_rfl) rfl ?o7)))))))
  case o0 =>
    rintro Q' L _ W h0L hpre ⟨v, rfl, hv, hR, hU, c0, c1, c2, hb⟩ K hK
    have r2 := (eval_out (v := v) (show 2 ∉ ([40, 41, 42, 43, 44, 45, 46] : List Nat) by decide)).trans hsU
    have he : execOp (putS a [40, 41, 42, 43, 44, 45, 46] v).eval opw10_0 = execOp (Act.eval ⟨#[undef], []⟩) ⟨some 0, .fieldAddr 25 (.const (.pointer (some ⟨U, 0, none⟩))) 0, 0, "", #[], none⟩ := by simp only [execOp, eval_const, opw10_0, r2]
    refine Lid.mk ?_
    unfold Oper.wp
    rw [he]
    clear he
    go_simp
    exact hK.out _ _ (InvG.nextL (W := W) hv 0 (.pointer (some ⟨U, 0, none⟩)) (put_in 0 hnd rfl) (fun _ _ _ h => h) rfl ⟨hR, hU, c0, c1, c2, hb⟩)
  case o1 =>
    rintro Q' L _ W h0L hpre ⟨v, rfl, hv, hR, hU, c0, c1, c2, hb⟩ K hK
    have r40 : (putS a [40, 41, 42, 43, 44, 45, 46] v).eval (.tmp 40) = _ := (eval_in 0 hnd rfl (by omega)).trans (hv 0 (hpre 0 (by simp)))
    have he : execOp (putS a [40, 41, 42, 43, 44, 45, 46] v).eval opw10_1 = execOp (Act.eval ⟨#[undef], []⟩) ⟨some 0, .load 23 (.const (.pointer (some ⟨U, 0, none⟩))), 0, "", #[], none⟩ := by simp only [execOp, eval_const, opw10_1, r40]
    refine Lid.mk ?_
    unfold Oper.wp
    rw [he]
    clear he
    go_simp
    exact hK.out _ _ (InvG.nextL (W := W) hv 1 (.slice (some ⟨b0, off, none⟩) n c) (put_in 1 hnd rfl) (fun _ _ _ h => h) rfl ⟨hR, hU, c0, c1, c2, hb⟩)
  case o2 =>
    rintro Q' L _ W h0L hpre ⟨v, rfl, hv, hR, hU, c0, c1, c2, hb⟩ K hK
    have r8 := (eval_out (v := v) (show 8 ∉ ([40, 41, 42, 43, 44, 45, 46] : List Nat) by decide)).trans hsI
    have he : execOp (putS a [40, 41, 42, 43, 44, 45, 46] v).eval opw10_2 = execOp (Act.eval ⟨#[undef], []⟩) ⟨some 0, .move (.const (.int .i64 (i : Int))), 0, "", #[], none⟩ := by simp only [execOp, eval_const, opw10_2, r8]
    refine Lid.mk ?_
    unfold Oper.wp
    rw [he]
    clear he
    go_simp
    exact hK.out _ _ (InvG.nextL (W := W) hv 2 (.int .i64 (i : Int)) (put_in 2 hnd rfl) (fun _ _ _ h => h) rfl ⟨hR, hU, c0, c1, c2, hb⟩)
  case o3 =>
    rintro Q' L _ W h0L hpre ⟨v, rfl, hv, hR, hU, c0, c1, c2, hb⟩ K hK
    have r41 : (putS a [40, 41, 42, 43, 44, 45, 46] v).eval (.tmp 41) = _ := (eval_in 1 hnd rfl (by omega)).trans (hv 1 (hpre 1 (by simp)))
    have r42 : (putS a [40, 41, 42, 43, 44, 45, 46] v).eval (.tmp 42) = _ := (eval_in 2 hnd rfl (by omega)).trans (hv 2 (hpre 2 (by simp)))
    have he : execOp (putS a [40, 41, 42, 43, 44, 45, 46] v).eval opw10_3 = execOp (Act.eval ⟨#[undef], []⟩) ⟨some 0, .indexAddr 23 (.const (.slice (some ⟨b0, off, none⟩) n c)) (.const (.int .i64 (i : Int))), 0, "", #[], none⟩ := by simp only [execOp, eval_const, opw10_3, r41, r42]
    refine Lid.mk ?_
    unfold Oper.wp
    rw [he]
    clear he
    go_simp
    exact hK.out _ _ (InvG.nextL (W := W) hv 3 (.pointer (some ⟨b0, off + i * 3, none⟩)) (put_in 3 hnd rfl) (fun _ _ _ h => h) rfl ⟨hR, hU, c0, c1, c2, hb⟩)
  case o4 =>
    rintro Q' L _ W h0L hpre ⟨v, rfl, hv, hR, hU, c0, c1, c2, hb⟩ K hK
    have r43 : (putS a [40, 41, 42, 43, 44, 45, 46] v).eval (.tmp 43) = _ := (eval_in 3 hnd rfl (by omega)).trans (hv 3 (hpre 3 (by simp)))
    have he : execOp (putS a [40, 41, 42, 43, 44, 45, 46] v).eval opw10_4 = execOp (Act.eval ⟨#[undef], []⟩) ⟨some 0, .load 46 (.const (.pointer (some ⟨b0, off + i * 3, none⟩))), 0, "", #[], none⟩ := by simp only [execOp, eval_const, opw10_4, r43]
    refine Lid.mk ?_
    unfold Oper.wp
    rw [he]
    clear he
    go_simp
    exact hK.out _ _ (InvG.nextL (W := W) hv 4 (.agg #[.string uk, .string un, (.slice ua ul uc)]) (put_in 4 hnd rfl) (fun _ _ _ h => h) rfl ⟨hR, hU, c0, c1, c2, hb⟩)
  case o5 =>
    rintro Q' L _ W h0L hpre ⟨v, rfl, hv, hR, hU, c0, c1, c2, hb⟩ K hK
    have g0 := cell_of_block hR 0
    have g1 := cell_of_block hR 1
    have g2 := cell_of_block hR 2
    simp only [List.getElem?_toArray, List.getElem?_cons_zero, List.getElem?_cons_succ] at g0 g1 g2
    have r7 := (eval_out (v := v) (show 7 ∉ ([40, 41, 42, 43, 44, 45, 46] : List Nat) by decide)).trans hsR
    have he : execOp (putS a [40, 41, 42, 43, 44, 45, 46] v).eval opw10_5 = execOp (Act.eval ⟨#[undef], []⟩) ⟨some 0, .load 46 (.const (.pointer (some ⟨R, 0, none⟩))), 0, "", #[], none⟩ := by simp only [execOp, eval_const, opw10_5, r7]
    refine Lid.mk ?_
    unfold Oper.wp
    rw [he]
    clear he
    go_simp
    exact hK.out _ _ (InvG.nextL (W := W) hv 5 (.agg #[.string bk, .string bnm, (.slice ba bn bc)]) (put_in 5 hnd rfl) (fun _ _ _ h => h) rfl ⟨hR, hU, c0, c1, c2, hb⟩)
  case o6 =>
    rintro Q' L _ W h0L hpre ⟨v, rfl, hv, hR, hU, c0, c1, c2, hb⟩ K hK
    have r44 : (putS a [40, 41, 42, 43, 44, 45, 46] v).eval (.tmp 44) = _ := (eval_in 4 hnd rfl (by omega)).trans (hv 4 (hpre 4 (by simp)))
    have r45 : (putS a [40, 41, 42, 43, 44, 45, 46] v).eval (.tmp 45) = _ := (eval_in 5 hnd rfl (by omega)).trans (hv 5 (hpre 5 (by simp)))
    have HPW := HP W hb
    have he : execOp (putS a [40, 41, 42, 43, 44, 45, 46] v).eval opw10_6 = execOp (Act.eval ⟨#[undef], []⟩) ⟨some 0, .call { callee := .value (.func 53), args := #[.const (.agg #[.string uk, .string un, (.slice ua ul uc)]), .const (.agg #[.string bk, .string bnm, (.slice ba bn bc)])], argTypes := #[46, 46] }, 0, "", #[], none⟩ := by simp only [execOp, eval_const, opw10_6, resolve, eval_func, List.map_toArray, List.map_cons, List.map_nil, r44, r45]
    refine Lid.mk ?_
    unfold Oper.wp
    rw [he]
    clear he
    go_simp
    refine HPW.mono ?_
    rintro e W' ⟨q, m, cc, rfl, hP, b'⟩
    refine hK.out _ _ (InvG.nextL (W := W) hv 6 (.agg #[.string bk, .string bnm, .slice q m cc]) (put_in 6 hnd rfl) (fun j y hj h => ?_) ⟨q, m, cc, rfl, W, hb, hP, b'⟩ ⟨(b'.block R (Array.getElem?_eq_some_iff.1 hR).1).trans hR, (b'.cell (World.block_lt_of_cell? _ _ hU)).trans hU, (b'.cell (World.block_lt_of_cell? _ _ c0)).trans c0, (b'.cell (World.block_lt_of_cell? _ _ c1)).trans c1, (b'.cell (World.block_lt_of_cell? _ _ c2)).trans c2, hb.trans (b'.mono hb.size)⟩)
    have h6 : j ≠ 6 := fun e => by rw [e, h0L] at hj; cases hj
    unfold OwF at *
    split <;> simp only at h
    all_goals first | exact h | exact absurd rfl h6 | trivial
  case o7 =>
    rintro Q' L _ W h0L hpre ⟨v, rfl, hv, hR, hU, c0, c1, c2, hb⟩ K hK
    obtain ⟨q, m, cc, e6, W1, hb1, hP, hb2⟩ := hv 6 (hpre 6 (by simp))
    have r46 : (putS a [40, 41, 42, 43, 44, 45, 46] v).eval (.tmp 46) = _ := (eval_in 6 hnd rfl (by omega)).trans e6
    have r7 := (eval_out (v := v) (show 7 ∉ ([40, 41, 42, 43, 44, 45, 46] : List Nat) by decide)).trans hsR
    have g0 := cell_of_block hR 0
    have g1 := cell_of_block hR 1
    have g2 := cell_of_block hR 2
    simp only [List.getElem?_toArray, List.getElem?_cons_zero, List.getElem?_cons_succ] at g0 g1 g2
    have f0 := frozen_of_block hR 0
    have f1 := frozen_of_block hR 1
    have f2 := frozen_of_block hR 2
    have HQ := hid_in (hQ v _ q m cc W1 W rfl hb1 hP hb2)
    have he : execOp (putS a [40, 41, 42, 43, 44, 45, 46] v).eval opw10_7 = execOp (Act.eval ⟨#[undef], []⟩) ⟨some 0, .store 46 (.const (.pointer (some ⟨R, 0, none⟩))) (.const (.agg #[.string bk, .string bnm, .slice q m cc])), 0, "", #[], none⟩ := by simp only [execOp, eval_const, opw10_7, r7, r46]
    refine Lid.mk ?_
    unfold Oper.wp
    rw [he]
    clear he
    go_simp
    exact hK.out _ _ (NoPanic.normal HQ.out)
def OxF (_X U i b0 off n c : Nat) (uk un : ByteArray) (uv xv : Value) (J : Value → World → Prop) (j : Nat) (x : Value) (W : World) : Prop := match j with
  | 0 => x = .agg #[xv]
  | 1 => x = .pointer (some ⟨U, 0, none⟩)
  | 2 => x = .slice (some ⟨b0, off, none⟩) n c
  | 3 => x = .int .i64 (i : Int)
  | 4 => x = .pointer (some ⟨b0, off + i * 3, none⟩)
  | 5 => x = .agg #[.string uk, .string un, uv]
  | 6 => ∃ a m cc, x = .agg #[.slice a m cc] ∧ J (.slice a m cc) W
  | _ => True
set_option maxHeartbeats 2000000 in
set_option maxRecDepth 10000 in
theorem regionW16 {Q : Exit → Act → World → Prop} {a : Act} {W0 : World} {X U i b0 off n c xn xc ul uc : Nat} {uk un : ByteArray} {xa ua : Option Addr} (P : World → Value → World → Prop) (hX0 : W0.heap[X]? = some (.cells #[(.slice xa xn xc)] 25 (0, 0))) (hU0 : W0.cell? ⟨U, 0, none⟩ = some (.slice (some ⟨b0, off, none⟩) n c)) (hc0 : W0.cell? ⟨b0, off + i * 3, none⟩ = some (.string uk)) (hc1 : W0.cell? ⟨b0, off + i * 3 + 1, none⟩ = some (.string un)) (hc2 : W0.cell? ⟨b0, off + i * 3 + 2, none⟩ = some (.slice ua ul uc)) (hi : i < n) (HP : ∀ W, Below W0.heap.size W0 W → Calls Tryz.prog 54 #[.agg #[(.slice xa xn xc)], .agg #[.string uk, .string un, (.slice ua ul uc)]] W fun e w' => ∃ q m cc, e = .returned (.agg #[.slice q m cc]) ∧ P W (.slice q m cc) w' ∧ Below W.heap.size W w')
    (hsX : a.eval (.tmp 5) = .pointer (some ⟨X, 0, none⟩)) (hsU : a.eval (.tmp 2) = .pointer (some ⟨U, 0, none⟩)) (hsI : a.eval (.tmp 9) = .int .i64 (i : Int)) (hsz : a.tmps.size = 85)
    (hQ : ∀ v a' q m cc W1 W2, a' = putS a [72, 73, 74, 75, 76, 77, 78] v → Below W0.heap.size W0 W1 → P W1 (.slice q m cc) W2 → Below W1.heap.size W1 W2 → Q .normal a' (W2.setCell ⟨X, 0, none⟩ (.slice q m cc))) : (Code.region 16 opsw16.toArray true).wp Tryz.prog Q a W0 := by
  have hnd : ([72, 73, 74, 75, 76, 77, 78] : List Nat).Nodup := by decide
  have i3 : (0 : Int) ≤ (i : Int) := by omega
  have i4 : (i : Int) < (n : Int) := by omega
  refine wp_region_invS0 [72, 73, 74, 75, 76, 77, 78] (OxF X U i b0 off n c uk un (.slice ua ul uc) (.slice xa xn xc) (fun v W => ∃ W1, Below W0.heap.size W0 W1 ∧ P W1 v W ∧ Below W1.heap.size W1 W)) (fun _ W => W.heap[X]? = some (.cells #[(.slice xa xn xc)] 25 (0, 0)) ∧ W.cell? ⟨U, 0, none⟩ = some (.slice (some ⟨b0, off, none⟩) n c) ∧ W.cell? ⟨b0, off + i * 3, none⟩ = some (.string uk) ∧ W.cell? ⟨b0, off + i * 3 + 1, none⟩ = some (.string un) ∧ W.cell? ⟨b0, off + i * 3 + 2, none⟩ = some (.slice ua ul uc) ∧ Below W0.heap.size W0 W) 7 8 [0, 1, 2, 3, 4, 5, 6, 7] (by kernel_rfl) rfl (by decide) (by kernel_rfl) ?h1 ⟨hX0, hU0, hc0, hc1, hc2, (Below.refl _ _).drew⟩ ?hall
  case h1 =>
    intro i x W hi
    unfold OxF
    split <;> first | omega | trivial
  refine AllInv.consQ (o := opw16_0) [] (by kernel_rfl) (by decide) (by kernel_rfl) rfl ?o0 (AllInv.consQ (o := opw16_1) [] (by kernel_rfl) (by decide) (by kernel_rfl) rfl ?o1 (AllInv.consQ (o := opw16_2) [1] (by kernel_rfl) (by decide) (by kernel_rfl) rfl ?o2 (AllInv.consQ (o := opw16_3) [] (by kernel_rfl) (by decide) (by kernel_rfl) rfl ?o3 (AllInv.consQ (o := opw16_4) [2, 3] (by kernel_rfl) (by decide) (by kernel_rfl) rfl ?o4 (AllInv.consQ (o := opw16_5) [4] (by kernel_rfl) (by decide) (by kernel_rfl) rfl ?o5 (AllInv.consQ (o := opw16_6) [0, 5] (by kernel_rfl) (by decide) (by kernel_rfl) rfl ?o6 (AllInv.lastQ (o := opw16_7) [6, 6, 0, 1, 2, 3, 4, 5, 6] (by kernel_rfl) (by kernel_rfl) rfl ?o7)))))))
  case o0 =>
    rintro Q' L _ W h0L hpre ⟨v, rfl, hv, hX, hU, c0, c1, c2, hb⟩ K hK
    have g0 := cell_of_block hX 0
    simp only [List.getElem?_toArray, List.getElem?_cons_zero] at g0
    have r5 := (eval_out (v := v) (show 5 ∉ ([72, 73, 74, 75, 76, 77, 78] : List Nat) by decide)).trans hsX
    have he : execOp (putS a [72, 73, 74, 75, 76, 77, 78] v).eval opw16_0 = execOp (Act.eval ⟨#[undef], []⟩) ⟨some 0, .load 25 (.const (.pointer (some ⟨X, 0, none⟩))), 0, "", #[], none⟩ := by simp only [execOp, eval_const, opw16_0, r5]
    refine Lid.mk ?_
    unfold Oper.wp
    rw [he]
    clear he
    go_simp
    exact hK.out _ _ (InvG.nextL (W := W) hv 0 (.agg #[(.slice xa xn xc)]) (put_in 0 hnd rfl) (fun _ _ _ h => h) rfl ⟨hX, hU, c0, c1, c2, hb⟩)
  case o1 =>
    rintro Q' L _ W h0L hpre ⟨v, rfl, hv, hX, hU, c0, c1, c2, hb⟩ K hK
    have r2 := (eval_out (v := v) (show 2 ∉ ([72, 73, 74, 75, 76, 77, 78] : List Nat) by decide)).trans hsU
    have he : execOp (putS a [72, 73, 74, 75, 76, 77, 78] v).eval opw16_1 = execOp (Act.eval ⟨#[undef], []⟩) ⟨some 0, .fieldAddr 25 (.const (.pointer (some ⟨U, 0, none⟩))) 0, 0, "", #[], none⟩ := by simp only [execOp, eval_const, opw16_1, r2]
    refine Lid.mk ?_
    unfold Oper.wp
    rw [he]
    clear he
    go_simp
    exact hK.out _ _ (InvG.nextL (W := W) hv 1 (.pointer (some ⟨U, 0, none⟩)) (put_in 1 hnd rfl) (fun _ _ _ h => h) rfl ⟨hX, hU, c0, c1, c2, hb⟩)
  case o2 =>
    rintro Q' L _ W h0L hpre ⟨v, rfl, hv, hX, hU, c0, c1, c2, hb⟩ K hK
    have r73 : (putS a [72, 73, 74, 75, 76, 77, 78] v).eval (.tmp 73) = _ := (eval_in 1 hnd rfl (by omega)).trans (hv 1 (hpre 1 (by simp)))
    have he : execOp (putS a [72, 73, 74, 75, 76, 77, 78] v).eval opw16_2 = execOp (Act.eval ⟨#[undef], []⟩) ⟨some 0, .load 23 (.const (.pointer (some ⟨U, 0, none⟩))), 0, "", #[], none⟩ := by simp only [execOp, eval_const, opw16_2, r73]
    refine Lid.mk ?_
    unfold Oper.wp
    rw [he]
    clear he
    go_simp
    exact hK.out _ _ (InvG.nextL (W := W) hv 2 (.slice (some ⟨b0, off, none⟩) n c) (put_in 2 hnd rfl) (fun _ _ _ h => h) rfl ⟨hX, hU, c0, c1, c2, hb⟩)
  case o3 =>
    rintro Q' L _ W h0L hpre ⟨v, rfl, hv, hX, hU, c0, c1, c2, hb⟩ K hK
    have r9 := (eval_out (v := v) (show 9 ∉ ([72, 73, 74, 75, 76, 77, 78] : List Nat) by decide)).trans hsI
    have he : execOp (putS a [72, 73, 74, 75, 76, 77, 78] v).eval opw16_3 = execOp (Act.eval ⟨#[undef], []⟩) ⟨some 0, .move (.const (.int .i64 (i : Int))), 0, "", #[], none⟩ := by simp only [execOp, eval_const, opw16_3, r9]
    refine Lid.mk ?_
    unfold Oper.wp
    rw [he]
    clear he
    go_simp
    exact hK.out _ _ (InvG.nextL (W := W) hv 3 (.int .i64 (i : Int)) (put_in 3 hnd rfl) (fun _ _ _ h => h) rfl ⟨hX, hU, c0, c1, c2, hb⟩)
  case o4 =>
    rintro Q' L _ W h0L hpre ⟨v, rfl, hv, hX, hU, c0, c1, c2, hb⟩ K hK
    have r74 : (putS a [72, 73, 74, 75, 76, 77, 78] v).eval (.tmp 74) = _ := (eval_in 2 hnd rfl (by omega)).trans (hv 2 (hpre 2 (by simp)))
    have r75 : (putS a [72, 73, 74, 75, 76, 77, 78] v).eval (.tmp 75) = _ := (eval_in 3 hnd rfl (by omega)).trans (hv 3 (hpre 3 (by simp)))
    have he : execOp (putS a [72, 73, 74, 75, 76, 77, 78] v).eval opw16_4 = execOp (Act.eval ⟨#[undef], []⟩) ⟨some 0, .indexAddr 23 (.const (.slice (some ⟨b0, off, none⟩) n c)) (.const (.int .i64 (i : Int))), 0, "", #[], none⟩ := by simp only [execOp, eval_const, opw16_4, r74, r75]
    refine Lid.mk ?_
    unfold Oper.wp
    rw [he]
    clear he
    go_simp
    exact hK.out _ _ (InvG.nextL (W := W) hv 4 (.pointer (some ⟨b0, off + i * 3, none⟩)) (put_in 4 hnd rfl) (fun _ _ _ h => h) rfl ⟨hX, hU, c0, c1, c2, hb⟩)
  case o5 =>
    rintro Q' L _ W h0L hpre ⟨v, rfl, hv, hX, hU, c0, c1, c2, hb⟩ K hK
    have r76 : (putS a [72, 73, 74, 75, 76, 77, 78] v).eval (.tmp 76) = _ := (eval_in 4 hnd rfl (by omega)).trans (hv 4 (hpre 4 (by simp)))
    have he : execOp (putS a [72, 73, 74, 75, 76, 77, 78] v).eval opw16_5 = execOp (Act.eval ⟨#[undef], []⟩) ⟨some 0, .load 46 (.const (.pointer (some ⟨b0, off + i * 3, none⟩))), 0, "", #[], none⟩ := by simp only [execOp, eval_const, opw16_5, r76]
    refine Lid.mk ?_
    unfold Oper.wp
    rw [he]
    clear he
    go_simp
    exact hK.out _ _ (InvG.nextL (W := W) hv 5 (.agg #[.string uk, .string un, (.slice ua ul uc)]) (put_in 5 hnd rfl) (fun _ _ _ h => h) rfl ⟨hX, hU, c0, c1, c2, hb⟩)
  case o6 =>
    rintro Q' L _ W h0L hpre ⟨v, rfl, hv, hX, hU, c0, c1, c2, hb⟩ K hK
    have r72 : (putS a [72, 73, 74, 75, 76, 77, 78] v).eval (.tmp 72) = _ := (eval_in 0 hnd rfl (by omega)).trans (hv 0 (hpre 0 (by simp)))
    have r77 : (putS a [72, 73, 74, 75, 76, 77, 78] v).eval (.tmp 77) = _ := (eval_in 5 hnd rfl (by omega)).trans (hv 5 (hpre 5 (by simp)))
    have HPW := HP W hb
    have he : execOp (putS a [72, 73, 74, 75, 76, 77, 78] v).eval opw16_6 = execOp (Act.eval ⟨#[undef], []⟩) ⟨some 0, .call { callee := .value (.func 54), args := #[.const (.agg #[(.slice xa xn xc)]), .const (.agg #[.string uk, .string un, (.slice ua ul uc)])], argTypes := #[25, 46] }, 0, "", #[], none⟩ := by simp only [execOp, eval_const, opw16_6, resolve, eval_func, List.map_toArray, List.map_cons, List.map_nil, r72, r77]
    refine Lid.mk ?_
    unfold Oper.wp
    rw [he]
    clear he
    go_simp
    refine HPW.mono ?_
    rintro e W' ⟨q, m, cc, rfl, hP, b'⟩
    refine hK.out _ _ (InvG.nextL (W := W) hv 6 (.agg #[.slice q m cc]) (put_in 6 hnd rfl) (fun j y hj h => ?_) ⟨q, m, cc, rfl, W, hb, hP, b'⟩ ⟨(b'.block X (Array.getElem?_eq_some_iff.1 hX).1).trans hX, (b'.cell (World.block_lt_of_cell? _ _ hU)).trans hU, (b'.cell (World.block_lt_of_cell? _ _ c0)).trans c0, (b'.cell (World.block_lt_of_cell? _ _ c1)).trans c1, (b'.cell (World.block_lt_of_cell? _ _ c2)).trans c2, hb.trans (b'.mono hb.size)⟩)
    have h6 : j ≠ 6 := fun e => by rw [e, h0L] at hj; cases hj
    unfold OxF at *
    split <;> simp only at h
    all_goals first | exact h | exact absurd rfl h6 | trivial
  case o7 =>
    rintro Q' L _ W h0L hpre ⟨v, rfl, hv, hX, hU, c0, c1, c2, hb⟩ K hK
    obtain ⟨q, m, cc, e6, W1, hb1, hP, hb2⟩ := hv 6 (hpre 6 (by simp))
    have r78 : (putS a [72, 73, 74, 75, 76, 77, 78] v).eval (.tmp 78) = _ := (eval_in 6 hnd rfl (by omega)).trans e6
    have r5 := (eval_out (v := v) (show 5 ∉ ([72, 73, 74, 75, 76, 77, 78] : List Nat) by decide)).trans hsX
    have g0 := cell_of_block hX 0
    simp only [List.getElem?_toArray, List.getElem?_cons_zero] at g0
    have f0 := frozen_of_block hX 0
    have HQ := hid_in (hQ v _ q m cc W1 W rfl hb1 hP hb2)
    have he : execOp (putS a [72, 73, 74, 75, 76, 77, 78] v).eval opw16_7 = execOp (Act.eval ⟨#[undef], []⟩) ⟨some 0, .store 25 (.const (.pointer (some ⟨X, 0, none⟩))) (.const (.agg #[.slice q m cc])), 0, "", #[], none⟩ := by simp only [execOp, eval_const, opw16_7, r5, r78]
    refine Lid.mk ?_
    unfold Oper.wp
    rw [he]
    clear he
    go_simp
    exact hK.out _ _ (NoPanic.normal HQ.out)
def OyF (U i b0 off n c : Nat) (uk un : ByteArray) (ov : Value) (KK : Bool) (j : Nat) (x : Value) : Prop := match j with
  | 0 => x = .agg #[ov]
  | 1 => x = .pointer (some ⟨U, 0, none⟩)
  | 2 => x = .slice (some ⟨b0, off, none⟩) n c
  | 3 => x = .int .i64 (i : Int)
  | 4 => x = .pointer (some ⟨b0, off + i * 3, none⟩)
  | 5 => x = .pointer (some ⟨b0, off + i * 3, none⟩)
  | 6 => x = .string uk
  | 7 => x = .pointer (some ⟨U, 0, none⟩)
  | 8 => x = .slice (some ⟨b0, off, none⟩) n c
  | 9 => x = .int .i64 (i : Int)
  | 10 => x = .pointer (some ⟨b0, off + i * 3, none⟩)
  | 11 => x = .pointer (some ⟨b0, off + i * 3 + 1, none⟩)
  | 12 => x = .string un
  | 13 => ∃ z : Int, x = .int .i64 z ∧ decide (z < 0) = KK
  | 14 => x = .bool KK
  | _ => True
set_option maxHeartbeats 2000000 in
set_option maxRecDepth 10000 in
theorem regionW15 {Q : Exit → Act → World → Prop} {a : Act} {W0 : World} {O U i b0 off n c on oc : Nat} {uk un : ByteArray} {oa : Option Addr} {KK : Bool} (hO0 : W0.cell? ⟨O, 0, none⟩ = some (.slice oa on oc)) (hU0 : W0.cell? ⟨U, 0, none⟩ = some (.slice (some ⟨b0, off, none⟩) n c)) (hc0 : W0.cell? ⟨b0, off + i * 3, none⟩ = some (.string uk)) (hc1 : W0.cell? ⟨b0, off + i * 3 + 1, none⟩ = some (.string un)) (hi : i < n) (HP : ∀ W, Below W0.heap.size W0 W → Calls Tryz.prog 52 #[.agg #[(.slice oa on oc)], .string uk, .string un] W fun e w' => (∃ z : Int, e = .returned (.int .i64 z) ∧ decide (z < 0) = KK) ∧ Below W.heap.size W w')
    (hsO : a.eval (.tmp 3) = .pointer (some ⟨O, 0, none⟩)) (hsU : a.eval (.tmp 2) = .pointer (some ⟨U, 0, none⟩)) (hsI : a.eval (.tmp 9) = .int .i64 (i : Int)) (hsz : a.tmps.size = 85)
    (hQ : ∀ v a' W', a' = putS a [57, 58, 59, 60, 61, 62, 63, 64, 65, 66, 67, 68, 69, 70, 71] v → v 14 = .bool KK → Below W0.heap.size W0 W' → Q .normal a' W') : (Code.region 15 opsw15.toArray true).wp Tryz.prog Q a W0 := by
  have hnd : ([57, 58, 59, 60, 61, 62, 63, 64, 65, 66, 67, 68, 69, 70, 71] : List Nat).Nodup := by decide
  have i3 : (0 : Int) ≤ (i : Int) := by omega
  have i4 : (i : Int) < (n : Int) := by omega
  refine wp_region_invE0 [57, 58, 59, 60, 61, 62, 63, 64, 65, 66, 67, 68, 69, 70, 71] (fun j x _ => OyF U i b0 off n c uk un (.slice oa on oc) KK j x) (fun _ W => W.cell? ⟨O, 0, none⟩ = some (.slice oa on oc) ∧ W.cell? ⟨U, 0, none⟩ = some (.slice (some ⟨b0, off, none⟩) n c) ∧ W.cell? ⟨b0, off + i * 3, none⟩ = some (.string uk) ∧ W.cell? ⟨b0, off + i * 3 + 1, none⟩ = some (.string un) ∧ Below W0.heap.size W0 W) 15 [0, 1, 2, 3, 4, 5, 6, 7, 8, 9, 10, 11, 12, 13, 14] (by kernel_rfl) rfl (by decide) (by kernel_rfl) ?h1 ⟨hO0, hU0, hc0, hc1, (Below.refl _ _).drew⟩ ?hall ?hend
  case h1 =>
    intro i x W hi
    unfold OyF
    split <;> first | omega | trivial
  case hend =>
    intro v W' L hL hv hg
    exact NoPanic.normal (hQ v _ W' rfl (hv 14) hg.2.2.2.2)
  refine AllInv.consQ (o := opw15_0) [] (by kernel_rfl) (by decide) (by kernel_rfl) rfl ?o0 (AllInv.consQ (o := opw15_1) [] (by kernel_rfl) (by decide) (by kernel_rfl) rfl ?o1 (AllInv.consQ (o := opw15_2) [1] (by kernel_rfl) (by decide) (by kernel_rfl) rfl ?o2 (AllInv.consQ (o := opw15_3) [] (by kernel_rfl) (by decide) (by kernel_rfl) rfl ?o3 (AllInv.consQ (o := opw15_4) [2, 3] (by kernel_rfl) (by decide) (by kernel_rfl) rfl ?o4 (AllInv.consQ (o := opw15_5) [4] (by kernel_rfl) (by decide) (by kernel_rfl) rfl ?o5 (AllInv.consQ (o := opw15_6) [5] (by kernel_rfl) (by decide) (by kernel_rfl) rfl ?o6 (AllInv.consQ (o := opw15_7) [] (by kernel_rfl) (by decide) (by kernel_rfl) rfl ?o7 (AllInv.consQ (o := opw15_8) [7] (by kernel_rfl) (by decide) (by kernel_rfl) rfl ?o8 (AllInv.consQ (o := opw15_9) [] (by kernel_rfl) (by decide) (by kernel_rfl) rfl ?o9 (AllInv.consQ (o := opw15_10) [8, 9] (by kernel_rfl) (by decide) (by kernel_rfl) rfl ?o10 (AllInv.consQ (o := opw15_11) [10] (by kernel_rfl) (by decide) (by kernel_rfl) rfl ?o11 (AllInv.consQ (o := opw15_12) [11] (by kernel_rfl) (by decide) (by kernel_rfl) rfl ?o12 (AllInv.consQ (o := opw15_13) [0, 6, 12] (by kernel_rfl) (by decide) (by kernel_rfl) rfl ?o13 (AllInv.consQ (o := opw15_14) [13] (by kernel_rfl) (by decide) (by kernel_rfl) rfl ?o14 AllInv.nil))))))))))))))
  case o0 =>
    rintro Q' L _ W h0L hpre ⟨v, rfl, hv, hO, hU, c0, c1, hb⟩ K hK
    have r3 := (eval_out (v := v) (show 3 ∉ ([57, 58, 59, 60, 61, 62, 63, 64, 65, 66, 67, 68, 69, 70, 71] : List Nat) by decide)).trans hsO
    have he : execOp (putS a [57, 58, 59, 60, 61, 62, 63, 64, 65, 66, 67, 68, 69, 70, 71] v).eval opw15_0 = execOp (Act.eval ⟨#[undef], []⟩) ⟨some 0, .load 25 (.const (.pointer (some ⟨O, 0, none⟩))), 0, "", #[], none⟩ := by simp only [execOp, eval_const, opw15_0, r3]
    refine Lid.mk ?_
    unfold Oper.wp
    rw [he]
    clear he
    go_simp
    exact hK.out _ _ (InvG.next (W := W) hv 0 (.agg #[(.slice oa on oc)]) (put_in 0 hnd rfl) (fun _ _ h => h) rfl ⟨hO, hU, c0, c1, hb⟩)
  case o1 =>
    rintro Q' L _ W h0L hpre ⟨v, rfl, hv, hO, hU, c0, c1, hb⟩ K hK
    have r2 := (eval_out (v := v) (show 2 ∉ ([57, 58, 59, 60, 61, 62, 63, 64, 65, 66, 67, 68, 69, 70, 71] : List Nat) by decide)).trans hsU
    have he : execOp (putS a [57, 58, 59, 60, 61, 62, 63, 64, 65, 66, 67, 68, 69, 70, 71] v).eval opw15_1 = execOp (Act.eval ⟨#[undef], []⟩) ⟨some 0, .fieldAddr 25 (.const (.pointer (some ⟨U, 0, none⟩))) 0, 0, "", #[], none⟩ := by simp only [execOp, eval_const, opw15_1, r2]
    refine Lid.mk ?_
    unfold Oper.wp
    rw [he]
    clear he
    go_simp
    exact hK.out _ _ (InvG.next (W := W) hv 1 (.pointer (some ⟨U, 0, none⟩)) (put_in 1 hnd rfl) (fun _ _ h => h) rfl ⟨hO, hU, c0, c1, hb⟩)
  case o2 =>
    rintro Q' L _ W h0L hpre ⟨v, rfl, hv, hO, hU, c0, c1, hb⟩ K hK
    have r58 : (putS a [57, 58, 59, 60, 61, 62, 63, 64, 65, 66, 67, 68, 69, 70, 71] v).eval (.tmp 58) = _ := (eval_in 1 hnd rfl (by omega)).trans (hv 1 (hpre 1 (by simp)))
    have he : execOp (putS a [57, 58, 59, 60, 61, 62, 63, 64, 65, 66, 67, 68, 69, 70, 71] v).eval opw15_2 = execOp (Act.eval ⟨#[undef], []⟩) ⟨some 0, .load 23 (.const (.pointer (some ⟨U, 0, none⟩))), 0, "", #[], none⟩ := by simp only [execOp, eval_const, opw15_2, r58]
    refine Lid.mk ?_
    unfold Oper.wp
    rw [he]
    clear he
    go_simp
    exact hK.out _ _ (InvG.next (W := W) hv 2 (.slice (some ⟨b0, off, none⟩) n c) (put_in 2 hnd rfl) (fun _ _ h => h) rfl ⟨hO, hU, c0, c1, hb⟩)
  case o3 =>
    rintro Q' L _ W h0L hpre ⟨v, rfl, hv, hO, hU, c0, c1, hb⟩ K hK
    have r9 := (eval_out (v := v) (show 9 ∉ ([57, 58, 59, 60, 61, 62, 63, 64, 65, 66, 67, 68, 69, 70, 71] : List Nat) by decide)).trans hsI
    have he : execOp (putS a [57, 58, 59, 60, 61, 62, 63, 64, 65, 66, 67, 68, 69, 70, 71] v).eval opw15_3 = execOp (Act.eval ⟨#[undef], []⟩) ⟨some 0, .move (.const (.int .i64 (i : Int))), 0, "", #[], none⟩ := by simp only [execOp, eval_const, opw15_3, r9]
    refine Lid.mk ?_
    unfold Oper.wp
    rw [he]
    clear he
    go_simp
    exact hK.out _ _ (InvG.next (W := W) hv 3 (.int .i64 (i : Int)) (put_in 3 hnd rfl) (fun _ _ h => h) rfl ⟨hO, hU, c0, c1, hb⟩)
  case o4 =>
    rintro Q' L _ W h0L hpre ⟨v, rfl, hv, hO, hU, c0, c1, hb⟩ K hK
    have r59 : (putS a [57, 58, 59, 60, 61, 62, 63, 64, 65, 66, 67, 68, 69, 70, 71] v).eval (.tmp 59) = _ := (eval_in 2 hnd rfl (by omega)).trans (hv 2 (hpre 2 (by simp)))
    have r60 : (putS a [57, 58, 59, 60, 61, 62, 63, 64, 65, 66, 67, 68, 69, 70, 71] v).eval (.tmp 60) = _ := (eval_in 3 hnd rfl (by omega)).trans (hv 3 (hpre 3 (by simp)))
    have he : execOp (putS a [57, 58, 59, 60, 61, 62, 63, 64, 65, 66, 67, 68, 69, 70, 71] v).eval opw15_4 = execOp (Act.eval ⟨#[undef], []⟩) ⟨some 0, .indexAddr 23 (.const (.slice (some ⟨b0, off, none⟩) n c)) (.const (.int .i64 (i : Int))), 0, "", #[], none⟩ := by simp only [execOp, eval_const, opw15_4, r59, r60]
    refine Lid.mk ?_
    unfold Oper.wp
    rw [he]
    clear he
    go_simp
    exact hK.out _ _ (InvG.next (W := W) hv 4 (.pointer (some ⟨b0, off + i * 3, none⟩)) (put_in 4 hnd rfl) (fun _ _ h => h) rfl ⟨hO, hU, c0, c1, hb⟩)
  case o7 =>
    rintro Q' L _ W h0L hpre ⟨v, rfl, hv, hO, hU, c0, c1, hb⟩ K hK
    have r2 := (eval_out (v := v) (show 2 ∉ ([57, 58, 59, 60, 61, 62, 63, 64, 65, 66, 67, 68, 69, 70, 71] : List Nat) by decide)).trans hsU
    have he : execOp (putS a [57, 58, 59, 60, 61, 62, 63, 64, 65, 66, 67, 68, 69, 70, 71] v).eval opw15_7 = execOp (Act.eval ⟨#[undef], []⟩) ⟨some 0, .fieldAddr 25 (.const (.pointer (some ⟨U, 0, none⟩))) 0, 0, "", #[], none⟩ := by simp only [execOp, eval_const, opw15_7, r2]
    refine Lid.mk ?_
    unfold Oper.wp
    rw [he]
    clear he
    go_simp
    exact hK.out _ _ (InvG.next (W := W) hv 7 (.pointer (some ⟨U, 0, none⟩)) (put_in 7 hnd rfl) (fun _ _ h => h) rfl ⟨hO, hU, c0, c1, hb⟩)
  case o8 =>
    rintro Q' L _ W h0L hpre ⟨v, rfl, hv, hO, hU, c0, c1, hb⟩ K hK
    have r64 : (putS a [57, 58, 59, 60, 61, 62, 63, 64, 65, 66, 67, 68, 69, 70, 71] v).eval (.tmp 64) = _ := (eval_in 7 hnd rfl (by omega)).trans (hv 7 (hpre 7 (by simp)))
    have he : execOp (putS a [57, 58, 59, 60, 61, 62, 63, 64, 65, 66, 67, 68, 69, 70, 71] v).eval opw15_8 = execOp (Act.eval ⟨#[undef], []⟩) ⟨some 0, .load 23 (.const (.pointer (some ⟨U, 0, none⟩))), 0, "", #[], none⟩ := by simp only [execOp, eval_const, opw15_8, r64]
    refine Lid.mk ?_
    unfold Oper.wp
    rw [he]
    clear he
    go_simp
    exact hK.out _ _ (InvG.next (W := W) hv 8 (.slice (some ⟨b0, off, none⟩) n c) (put_in 8 hnd rfl) (fun _ _ h => h) rfl ⟨hO, hU, c0, c1, hb⟩)
  case o9 =>
    rintro Q' L _ W h0L hpre ⟨v, rfl, hv, hO, hU, c0, c1, hb⟩ K hK
    have r9 := (eval_out (v := v) (show 9 ∉ ([57, 58, 59, 60, 61, 62, 63, 64, 65, 66, 67, 68, 69, 70, 71] : List Nat) by decide)).trans hsI
    have he : execOp (putS a [57, 58, 59, 60, 61, 62, 63, 64, 65, 66, 67, 68, 69, 70, 71] v).eval opw15_9 = execOp (Act.eval ⟨#[undef], []⟩) ⟨some 0, .move (.const (.int .i64 (i : Int))), 0, "", #[], none⟩ := by simp only [execOp, eval_const, opw15_9, r9]
    refine Lid.mk ?_
    unfold Oper.wp
    rw [he]
    clear he
    go_simp
    exact hK.out _ _ (InvG.next (W := W) hv 9 (.int .i64 (i : Int)) (put_in 9 hnd rfl) (fun _ _ h => h) rfl ⟨hO, hU, c0, c1, hb⟩)
  case o10 =>
    rintro Q' L _ W h0L hpre ⟨v, rfl, hv, hO, hU, c0, c1, hb⟩ K hK
    have r65 : (putS a [57, 58, 59, 60, 61, 62, 63, 64, 65, 66, 67, 68, 69, 70, 71] v).eval (.tmp 65) = _ := (eval_in 8 hnd rfl (by omega)).trans (hv 8 (hpre 8 (by simp)))
    have r66 : (putS a [57, 58, 59, 60, 61, 62, 63, 64, 65, 66, 67, 68, 69, 70, 71] v).eval (.tmp 66) = _ := (eval_in 9 hnd rfl (by omega)).trans (hv 9 (hpre 9 (by simp)))
    have he : execOp (putS a [57, 58, 59, 60, 61, 62, 63, 64, 65, 66, 67, 68, 69, 70, 71] v).eval opw15_10 = execOp (Act.eval ⟨#[undef], []⟩) ⟨some 0, .indexAddr 23 (.const (.slice (some ⟨b0, off, none⟩) n c)) (.const (.int .i64 (i : Int))), 0, "", #[], none⟩ := by simp only [execOp, eval_const, opw15_10, r65, r66]
    refine Lid.mk ?_
    unfold Oper.wp
    rw [he]
    clear he
    go_simp
    exact hK.out _ _ (InvG.next (W := W) hv 10 (.pointer (some ⟨b0, off + i * 3, none⟩)) (put_in 10 hnd rfl) (fun _ _ h => h) rfl ⟨hO, hU, c0, c1, hb⟩)
  case o5 =>
    rintro Q' L _ W h0L hpre ⟨v, rfl, hv, hO, hU, c0, c1, hb⟩ K hK
    have r61 : (putS a [57, 58, 59, 60, 61, 62, 63, 64, 65, 66, 67, 68, 69, 70, 71] v).eval (.tmp 61) = _ := (eval_in 4 hnd rfl (by omega)).trans (hv 4 (hpre 4 (by simp)))
    have he : execOp (putS a [57, 58, 59, 60, 61, 62, 63, 64, 65, 66, 67, 68, 69, 70, 71] v).eval opw15_5 = execOp (Act.eval ⟨#[undef], []⟩) ⟨some 0, .fieldAddr 46 (.const (.pointer (some ⟨b0, off + i * 3, none⟩))) 0, 0, "", #[], none⟩ := by simp only [execOp, eval_const, opw15_5, r61]
    refine Lid.mk ?_
    unfold Oper.wp
    rw [he]
    clear he
    go_simp
    exact hK.out _ _ (InvG.next (W := W) hv 5 (.pointer (some ⟨b0, off + i * 3, none⟩)) (put_in 5 hnd rfl) (fun _ _ h => h) rfl ⟨hO, hU, c0, c1, hb⟩)
  case o6 =>
    rintro Q' L _ W h0L hpre ⟨v, rfl, hv, hO, hU, c0, c1, hb⟩ K hK
    have r62 : (putS a [57, 58, 59, 60, 61, 62, 63, 64, 65, 66, 67, 68, 69, 70, 71] v).eval (.tmp 62) = _ := (eval_in 5 hnd rfl (by omega)).trans (hv 5 (hpre 5 (by simp)))
    have he : execOp (putS a [57, 58, 59, 60, 61, 62, 63, 64, 65, 66, 67, 68, 69, 70, 71] v).eval opw15_6 = execOp (Act.eval ⟨#[undef], []⟩) ⟨some 0, .load 9 (.const (.pointer (some ⟨b0, off + i * 3, none⟩))), 0, "", #[], none⟩ := by simp only [execOp, eval_const, opw15_6, r62]
    refine Lid.mk ?_
    unfold Oper.wp
    rw [he]
    clear he
    go_simp
    exact hK.out _ _ (InvG.next (W := W) hv 6 (.string uk) (put_in 6 hnd rfl) (fun _ _ h => h) rfl ⟨hO, hU, c0, c1, hb⟩)
  case o11 =>
    rintro Q' L _ W h0L hpre ⟨v, rfl, hv, hO, hU, c0, c1, hb⟩ K hK
    have r67 : (putS a [57, 58, 59, 60, 61, 62, 63, 64, 65, 66, 67, 68, 69, 70, 71] v).eval (.tmp 67) = _ := (eval_in 10 hnd rfl (by omega)).trans (hv 10 (hpre 10 (by simp)))
    have he : execOp (putS a [57, 58, 59, 60, 61, 62, 63, 64, 65, 66, 67, 68, 69, 70, 71] v).eval opw15_11 = execOp (Act.eval ⟨#[undef], []⟩) ⟨some 0, .fieldAddr 46 (.const (.pointer (some ⟨b0, off + i * 3, none⟩))) 1, 0, "", #[], none⟩ := by simp only [execOp, eval_const, opw15_11, r67]
    refine Lid.mk ?_
    unfold Oper.wp
    rw [he]
    clear he
    go_simp
    exact hK.out _ _ (InvG.next (W := W) hv 11 (.pointer (some ⟨b0, off + i * 3 + 1, none⟩)) (put_in 11 hnd rfl) (fun _ _ h => h) rfl ⟨hO, hU, c0, c1, hb⟩)
  case o12 =>
    rintro Q' L _ W h0L hpre ⟨v, rfl, hv, hO, hU, c0, c1, hb⟩ K hK
    have r68 : (putS a [57, 58, 59, 60, 61, 62, 63, 64, 65, 66, 67, 68, 69, 70, 71] v).eval (.tmp 68) = _ := (eval_in 11 hnd rfl (by omega)).trans (hv 11 (hpre 11 (by simp)))
    have he : execOp (putS a [57, 58, 59, 60, 61, 62, 63, 64, 65, 66, 67, 68, 69, 70, 71] v).eval opw15_12 = execOp (Act.eval ⟨#[undef], []⟩) ⟨some 0, .load 9 (.const (.pointer (some ⟨b0, off + i * 3 + 1, none⟩))), 0, "", #[], none⟩ := by simp only [execOp, eval_const, opw15_12, r68]
    refine Lid.mk ?_
    unfold Oper.wp
    rw [he]
    clear he
    go_simp
    exact hK.out _ _ (InvG.next (W := W) hv 12 (.string un) (put_in 12 hnd rfl) (fun _ _ h => h) rfl ⟨hO, hU, c0, c1, hb⟩)
  case o13 =>
    rintro Q' L _ W h0L hpre ⟨v, rfl, hv, hO, hU, c0, c1, hb⟩ K hK
    have r57 : (putS a [57, 58, 59, 60, 61, 62, 63, 64, 65, 66, 67, 68, 69, 70, 71] v).eval (.tmp 57) = _ := (eval_in 0 hnd rfl (by omega)).trans (hv 0 (hpre 0 (by simp)))
    have r63 : (putS a [57, 58, 59, 60, 61, 62, 63, 64, 65, 66, 67, 68, 69, 70, 71] v).eval (.tmp 63) = _ := (eval_in 6 hnd rfl (by omega)).trans (hv 6 (hpre 6 (by simp)))
    have r69 : (putS a [57, 58, 59, 60, 61, 62, 63, 64, 65, 66, 67, 68, 69, 70, 71] v).eval (.tmp 69) = _ := (eval_in 12 hnd rfl (by omega)).trans (hv 12 (hpre 12 (by simp)))
    have HPW := HP W hb
    have he : execOp (putS a [57, 58, 59, 60, 61, 62, 63, 64, 65, 66, 67, 68, 69, 70, 71] v).eval opw15_13 = execOp (Act.eval ⟨#[undef], []⟩) ⟨some 0, .call { callee := .value (.func 52), args := #[.const (.agg #[(.slice oa on oc)]), .const (.string uk), .const (.string un)], argTypes := #[25, 9, 9] }, 0, "", #[], none⟩ := by simp only [execOp, eval_const, opw15_13, resolve, eval_func, List.map_toArray, List.map_cons, List.map_nil, r57, r63, r69]
    refine Lid.mk ?_
    unfold Oper.wp
    rw [he]
    clear he
    go_simp
    refine HPW.mono ?_
    rintro e W' ⟨⟨z, rfl, hz⟩, b'⟩
    exact hK.out _ _ (InvG.next (W := W) hv 13 (.int .i64 z) (put_in 13 hnd rfl) (fun _ _ h => h) ⟨z, rfl, hz⟩ ⟨(b'.cell (World.block_lt_of_cell? _ _ hO)).trans hO, (b'.cell (World.block_lt_of_cell? _ _ hU)).trans hU, (b'.cell (World.block_lt_of_cell? _ _ c0)).trans c0, (b'.cell (World.block_lt_of_cell? _ _ c1)).trans c1, hb.trans (b'.mono hb.size)⟩)
  case o14 =>
    rintro Q' L _ W h0L hpre ⟨v, rfl, hv, hO, hU, c0, c1, hb⟩ K hK
    obtain ⟨z, e13, hz⟩ := hv 13 (hpre 13 (by simp))
    have r70 : (putS a [57, 58, 59, 60, 61, 62, 63, 64, 65, 66, 67, 68, 69, 70, 71] v).eval (.tmp 70) = _ := (eval_in 13 hnd rfl (by omega)).trans e13
    refine Lid.mk ?_
    unfold Oper.wp
    simp only [execOp, opw15_14, eval_const, r70]
    go_simp
    exact hK.out _ _ (InvG.next (W := W) hv 14 (.bool KK) (put_in 14 hnd rfl) (fun _ _ h => h) rfl ⟨hO, hU, c0, c1, hb⟩)
end Go.Proofs.YtpdahhnjhggocaaGreatDoor
namespace Go.Proofs.YtpdahhnjhggocaaGreatDoor
open Go.RowKit
def insB (bs : List PBlock) : List PBlock := bs.foldl (fun acc a => putIn blockLt a acc) []
theorem insB_snoc (bs : List PBlock) (b : PBlock) : insB (bs ++ [b]) = putIn blockLt b (insB bs) := by simp [insB]
theorem ins_raw {us os : List PBlock} (hu : SheetOk us) (ho : SheetOk os) : insB (overRaw us os) = normBs (overRaw us os) := by
  unfold normBs
  rw [norm_same (fun b hb => (overRaw_each hu ho b hb).2.2)]
  rfl
theorem over_good' {us os : List PBlock} (hu : sheetB us = true) (ho : sheetB os = true) (h : sheetB (insB (overRaw us os)) = true) : overS us os = insB (overRaw us os) := by
  have hu' := sheetB_iff.1 hu
  have ho' := sheetB_iff.1 ho
  rw [ins_raw hu' ho'] at h ⊢
  refine overS_of hu' ho' ?_
  have h1 := (sheetB_iff.1 h).1
  rw [(normBs_perm _).length_eq, List.length_map] at h1
  exact h1
theorem over_bad {us os : List PBlock} (hu : sheetB us = true) (ho : sheetB os = true) (h : sheetB (insB (overRaw us os)) = false) : overS us os = [] := by
  have hu' := sheetB_iff.1 hu
  have ho' := sheetB_iff.1 ho
  unfold overS
  rw [if_neg]
  rintro ⟨_, _, hl⟩
  have h1 := sheetB_iff.2 (overS_ok hu' ho' hl)
  rw [overS_of hu' ho' hl, ← ins_raw hu' ho', h] at h1
  cases h1
theorem over_not {us os : List PBlock} (h : sheetB us = false ∨ sheetB os = false) : overS us os = [] := by
  unfold overS
  rw [if_neg]
  rintro ⟨h1, h2, _⟩
  rcases h with h | h
  · rw [h1] at h; cases h
  · rw [h2] at h; cases h
structure S6S (w : World) (X : Nat) (uv ov : Value) (us os xs : List BAt) (v : Value) (W : World) : Prop where
  bw : Below w.heap.size w W
  ub : W.heap[w.heap.size]? = some (.cells #[uv] 25 (0, 0))
  ob : W.heap[w.heap.size + 1]? = some (.cells #[ov] 25 (0, 0))
  rb : W.heap[w.heap.size + 2]? = some (.cells #[.slice none 0 0] 25 (0, 0))
  xb : W.heap[X]? = some (.cells #[v] 25 (0, 0))
  uin : BlocksIn W uv us
  oin : BlocksIn W ov os
  bin : BlocksIn W v xs
  far : BlocksFar X v xs
  ufar : ∀ q, w.heap.size ≤ q → BlocksFar q uv us
  ofar : ∀ q, w.heap.size ≤ q → BlocksFar q ov os
  small : ∀ y ∈ xs, y.name.size ≤ 1048576 ∧ LinesSmall y.ls
  hX : w.heap.size + 3 ≤ X
theorem S6S.below {w : World} {X : Nat} {uv ov v : Value} {us os xs : List BAt} {W W' : World} (h : S6S w X uv ov us os xs v W) (hb : Below W.heap.size W W') : S6S w X uv ov us os xs v W' :=
  ⟨h.bw.trans (hb.mono h.bw.size), (hb.block _ (Array.getElem?_eq_some_iff.1 h.ub).1).trans h.ub, (hb.block _ (Array.getElem?_eq_some_iff.1 h.ob).1).trans h.ob, (hb.block _ (Array.getElem?_eq_some_iff.1 h.rb).1).trans h.rb, (hb.block X (Array.getElem?_eq_some_iff.1 h.xb).1).trans h.xb, h.uin.below hb, h.oin.below hb, h.bin.below hb, h.far, h.ufar, h.ofar, h.small, h.hX⟩
theorem S6S.turn {w : World} {X R : Nat} {uv ov v : Value} {us os xs : List BAt} {W W' : World} (h : S6S w X uv ov us os xs v W) (hg : W.grownBy W' (some R)) (hR : w.heap.size + 3 ≤ R) (hRX : R ≠ X) (hf : BlocksFar R v xs) : S6S w X uv ov us os xs v W' := by
  have hs := h.bw.size
  exact ⟨belowGrown h.bw hs (by omega) hg, (hg.block _ (Array.getElem?_eq_some_iff.1 h.ub).1 (by intro e; have := Option.some.inj e; omega)).trans h.ub, (hg.block _ (Array.getElem?_eq_some_iff.1 h.ob).1 (by intro e; have := Option.some.inj e; omega)).trans h.ob, (hg.block _ (Array.getElem?_eq_some_iff.1 h.rb).1 (by intro e; have := Option.some.inj e; omega)).trans h.rb, (hg.block X (Array.getElem?_eq_some_iff.1 h.xb).1 (by intro e; exact hRX (Option.some.inj e).symm)).trans h.xb, h.uin.far (h.ufar R (by omega)) hg, h.oin.far (h.ofar R (by omega)) hg, h.bin.far hf hg, h.far, h.ufar, h.ofar, h.small, h.hX⟩
def PutBP (xs : List BAt) (v : Value) (x : BAt) (W1 : World) (v' : Value) (W2 : World) : Prop := ∃ xs' : List BAt, xs'.map BAt.plain = putIn blockLt x.plain (xs.map BAt.plain) ∧ xs'.length = xs.length + 1 ∧ (∀ y ∈ xs', y = x ∨ y ∈ xs) ∧ BlocksIn W2 v' xs' ∧ ∀ q, q < W1.heap.size → BlocksFar q v xs → LinesFar q x.v x.ls → BlocksFar q v' xs'
theorem putBlock_p {v : Value} {xs : List BAt} {x : BAt} {W : World} (hb : BlocksIn W v xs) (hl : xs.length ≤ 1048576) (hx : BlockIn W x) : Calls Tryz.prog 54 #[.agg #[v], .agg #[.string x.kind, .string x.name, x.v]] W fun e w' => ∃ q m cc, e = .returned (.agg #[.slice q m cc]) ∧ PutBP xs v x W (.slice q m cc) w' ∧ Below W.heap.size W w' := by
  refine (l3PutBlock_all hb hl hx).mono ?_
  rintro e w' ⟨a, n, c, xs', rfl, h, b⟩
  exact ⟨a, n, c, rfl, ⟨xs', h⟩, b⟩
def PutBE (xs : List BAt) (v : Value) (x : BAt) (W : World) (e : Ending) (w' : World) : Prop := ∃ q m cc, e = .returned (.agg #[.slice q m cc]) ∧ PutBP xs v x W (.slice q m cc) w' ∧ Below W.heap.size W w'
theorem putBlock_e {kind name : ByteArray} {bv : Value} {bl : List LAt} {v : Value} {xs : List BAt} {W : World} (hb : BlocksIn W v xs) (hl : xs.length ≤ 1048576) (hx : LinesIn W bv bl) : Calls Tryz.prog 54 #[.agg #[v], .agg #[.string kind, .string name, bv]] W fun e w' => PutBE xs v ⟨kind, name, bv, bl⟩ W e w' := putBlock_p (x := ⟨kind, name, bv, bl⟩) hb hl hx
theorem S6S.put {w : World} {X : Nat} {uv ov v v' : Value} {us os xs xs' : List BAt} {x : BAt} {W W1 W2 W3 : World} (h : S6S w X uv ov us os xs v W) (hb1 : Below W.heap.size W W1) (hb2 : Below W1.heap.size W1 W2) (hg : W2.grownBy W3 (some X)) (hz : W3.heap[X]? = some (.cells #[v'] 25 (0, 0))) (hl : BlocksIn W2 v' xs') (hm : ∀ y ∈ xs', y = x ∨ y ∈ xs) (hf : ∀ q, q < W1.heap.size → BlocksFar q v xs → LinesFar q x.v x.ls → BlocksFar q v' xs') (hxf : LinesFar X x.v x.ls) (hxs : x.name.size ≤ 1048576 ∧ LinesSmall x.ls) : S6S w X uv ov us os xs' v' W3 := by
  have h1 := h.below hb1
  have h2 := h1.below hb2
  have hs := h2.bw.size
  have hX := h.hX
  have hXl : X < W1.heap.size := (Array.getElem?_eq_some_iff.1 h1.xb).1
  have hfX := hf X hXl h.far hxf
  refine ⟨belowGrown h2.bw hs (by omega) hg, (hg.block _ (Array.getElem?_eq_some_iff.1 h2.ub).1 (by intro e; have := Option.some.inj e; omega)).trans h2.ub, (hg.block _ (Array.getElem?_eq_some_iff.1 h2.ob).1 (by intro e; have := Option.some.inj e; omega)).trans h2.ob, (hg.block _ (Array.getElem?_eq_some_iff.1 h2.rb).1 (by intro e; have := Option.some.inj e; omega)).trans h2.rb, hz, h2.uin.far (h.ufar X (by omega)) hg, h2.oin.far (h.ofar X (by omega)) hg, hl.far hfX hg, hfX, h.ufar, h.ofar, fun y hy => ?_, hX⟩
  rcases hm y hy with rfl | hy
  · exact hxs
  · exact h.small y hy
theorem BlocksIn.fresh' {w : World} {q : Nat} {v : Value} {bs : List BAt} (h : BlocksIn w v bs) (hq : w.heap.size ≤ q) : BlocksFar q v bs := ⟨FarV.of_lt h.1 (by decide) hq, fun x hx => LinesIn.fresh (h.2 x hx) hq⟩
def L6P (u o : BAt) (W1 : World) (v' : Value) (W2 : World) : Prop := ∃ ls : List LAt, ls.map LAt.plain = overL (rulesOf o.kind) (u.ls.map LAt.plain) (o.ls.map LAt.plain) ∧ (∀ y ∈ ls, y ∈ o.ls ∨ y ∈ u.ls) ∧ LinesIn W2 v' ls ∧ ∀ q, q < W1.heap.size → LinesFar q u.v u.ls → LinesFar q o.v o.ls → LinesFar q v' ls
def LoopO (w : World) (X : Nat) (uv ov : Value) (us os : List BAt) (i : Value) (W : World) : Prop := ∃ (j : Nat) (v : Value) (xs : List BAt), i = .int .i64 (j : Int) ∧ j ≤ os.length ∧ xs.length = j ∧ xs.map BAt.plain = insB (((os.map BAt.plain).take j).map (layB (us.map BAt.plain))) ∧ S6S w X uv ov us os xs v W
def LoopN (w : World) (X : Nat) (uv ov : Value) (us os : List BAt) (i : Value) (W : World) : Prop := ∃ (j : Nat) (v : Value) (xs : List BAt), i = .int .i64 (j : Int) ∧ j ≤ us.length ∧ xs.length ≤ os.length + j ∧ xs.map BAt.plain = insB ((os.map BAt.plain).map (layB (us.map BAt.plain)) ++ restU ((us.map BAt.plain).take j) (os.map BAt.plain)) ∧ S6S w X uv ov us os xs v W
theorem rest_snoc {us os : List PBlock} {a : PBlock} : restU (us ++ [a]) os = restU us os ++ (if (look os a.kind a.name).isNone = true then [a] else []) := by
  unfold restU
  rw [List.filter_append]
  congr 1
  simp [List.filter_cons]
theorem over_len {R : List Plain} {u o : List PLine} : (overL R u o).length ≤ o.length + u.length := by
  unfold overL
  rw [(normLs_perm _ _).length_eq, List.length_append]
  have : (leftL u o).length ≤ u.length := List.length_filter_le _ _
  omega
end Go.Proofs.YtpdahhnjhggocaaGreatDoor
namespace Go.Proofs.YtpdahhnjhggocaaGreatDoor
open Go.RowKit
def notKey (key : ByteArray) (x : LAt) : Bool := !(x.key.toList == key.toList)
def WithoutPost (b : BAt) (key : ByteArray) (w : World) (e : Ending) (w' : World) : Prop := ∃ a n c, e = .returned (.agg #[.string b.kind, .string b.name, .slice a n c]) ∧ w'.ownsRow w.heap.size 115 2 (.slice a n c) (b.ls.filter (notKey key)).length ((b.ls.filter (notKey key)).flatMap LAt.cells) ∧ Below w.heap.size w w'
set_option maxHeartbeats 4000000 in
set_option maxRecDepth 100000 in
theorem l7Without_any {b : BAt} (key : ByteArray) {w : World} (hb : BlockIn w b) (hs : LinesSmall b.ls) : Calls Tryz.prog 107 #[.agg #[.string b.kind, .string b.name, b.v], .string key] w fun e w' => WithoutPost b key w e w' := by
  obtain ⟨bk, bn, bv, ls⟩ := b
  unfold WithoutPost
  unfold BlockIn at hb
  simp only at *
  obtain ⟨ao, cap, rfl⟩ := hb.1.form
  have hl := hs.1
  generalize hn : ls.length = len at *
  have en := hid_in hn
  clear hn
  obtain ⟨i0, hi, hz0, hz1, hz2⟩ := info_parts infoLine
  have G : Below w.heap.size w ((w.alloc (.cells #[.string bk, .string bn, .slice ao len cap] 46)).alloc (.cells #[.string ⟨#[]⟩, .string ⟨#[]⟩, .slice none 0 0] 46)) := ((Below.refl w.heap.size w).alloc (Nat.le_refl _) _).alloc (by simp) _
  have hwz2 : ((w.alloc (.cells #[.string bk, .string bn, .slice ao len cap] 46)).alloc (.cells #[.string ⟨#[]⟩, .string ⟨#[]⟩, .slice none 0 0] 46)).heap.size = w.heap.size + 2 := by simp
  have hA : ((w.alloc (.cells #[.string bk, .string bn, .slice ao len cap] 46)).alloc (.cells #[.string ⟨#[]⟩, .string ⟨#[]⟩, .slice none 0 0] 46)).heap[w.heap.size]? = some (.cells #[.string bk, .string bn, .slice ao len cap] 46 (0, 0)) := by
    have b1 := (Below.refl (w.alloc (.cells #[.string bk, .string bn, .slice ao len cap] 46)).heap.size (w.alloc (.cells #[.string bk, .string bn, .slice ao len cap] 46))).alloc (Nat.le_refl _) (.cells #[.string ⟨#[]⟩, .string ⟨#[]⟩, .slice none 0 0] 46)
    rw [b1.block w.heap.size (by simp)]; exact alloc_here w _
  have hR : ((w.alloc (.cells #[.string bk, .string bn, .slice ao len cap] 46)).alloc (.cells #[.string ⟨#[]⟩, .string ⟨#[]⟩, .slice none 0 0] 46)).heap[w.heap.size + 1]? = some (.cells #[.string ⟨#[]⟩, .string ⟨#[]⟩, .slice none 0 0] 46 (0, 0)) := by
    have := alloc_here (w.alloc (.cells #[.string bk, .string bn, .slice ao len cap] 46)) (.cells #[.string ⟨#[]⟩, .string ⟨#[]⟩, .slice none 0 0] 46)
    rw [World.size_alloc] at this; exact this
  generalize hw2 : ((w.alloc (.cells #[.string bk, .string bn, .slice ao len cap] 46)).alloc (.cells #[.string ⟨#[]⟩, .string ⟨#[]⟩, .slice none 0 0] 46)) = w2 at *
  have k2 := cell_of_block hA 2
  simp only [List.getElem?_toArray, List.getElem?_cons_zero, List.getElem?_cons_succ] at k2
  have hb0 := hb.below G
  have hown0 := World.ownsRow_lit (base := w.heap.size + 2) (e := 115) (size := 2) w2 #[] 0 (by omega) (by decide) rfl
  rw [hwz2] at hown0
  have b00 := (Below.refl (w.heap.size + 2) w2).alloc (by omega) (.cells #[] 115)
  have ew2 := hid_in hw2
  clear hb hw2
  go_enter Tryz.func107, Tryz.ntmps107
  go_wp2
  rw [ew2.out]
  go_loopw [5, 6] (fun u i wr => ∃ (j : Nat) (done : List LAt), j ≤ len ∧ i = .int .i64 (j : Int) ∧ done = (ls.take j).filter (notKey key) ∧ wr.ownsRow (w.heap.size + 2) 115 2 u done.length (done.flatMap LAt.cells) ∧ Below (w.heap.size + 2) w2 wr) (fun _ i _ => len - (intOf i).toNat)
  case atStart => exact ⟨0, [], by omega, rfl, by simp, by simpa using hown0, b00⟩
  case round =>
    obtain ⟨j, done, hj, rfl, hdn, hm, bw⟩ := hrel
    obtain ⟨qa, qc, rfl, _⟩ := own_form hm
    have hdl : done.length ≤ j := by rw [hdn]; exact Nat.le_trans (List.length_filter_le _ _) (by simp; omega)
    have k3 := (bw.cell (p := ⟨w.heap.size, 2, none⟩) (by simp)).trans k2
    have kB := (bw.block w.heap.size (by omega)).trans hA
    have kR := (bw.block (w.heap.size + 1) (by omega)).trans hR
    have hszw := bw.size
    rw [hwz2] at hszw
    by_cases hlt : j < len
    · obtain ⟨D, x, T, e0, hD⟩ := split1 ls j (by have := en.out; omega)
      have h5 := hb0.below (by rw [hwz2]; exact bw)
      have hxm : x ∈ ls := by rw [e0]; simp
      have h6 := h5
      rw [e0] at h6
      obtain ⟨g, off, rfl, c1, c2⟩ := h6.1.line
      obtain ⟨ax, cx, e1⟩ := HasRow.form (h5.2 x hxm)
      have hst := hid_in (show (ls.take (j + 1)).filter (notKey key) = done ++ [x].filter (notKey key) from by rw [hdn, e0, ← hD, take_front, take_one, List.filter_append])
      rw [e1] at c2
      rw [hD] at c1 c2
      have hB0 : (0 : Int) ≤ (j : Int) := by omega
      have hB1 : (j : Int) < (len : Int) := by omega
      have hcells := hid_in (show (LAt.cells x) = [.string x.key, .slice ax x.ws.length cx] from by unfold LAt.cells; rw [e1])
      have hm' := hid_in hm
      have hbase := hid_in (show ∀ k, (Value.slice qa done.length qc).ownBlock = some k → w.heap.size + 2 ≤ k from fun k hk => (hm.lt k hk).1)
      cases hp : (x.key.toList == key.toList)
      rotate_left 1
      · have hst' := hid_in (show (ls.take (j + 1)).filter (notKey key) = done from by rw [hst.out]; simp [notKey, hp])
        clear h5 h6 hdn hm e0 e1 hD hxm hst hcells hb0 hs
        generalize x.key = xk at *
        generalize x.ws.length = nx at *
        go_wp2
        go_roundw
        case rel => exact ⟨j + 1, done, by omega, by go_num, hst'.out.symm, hm'.out, bw⟩
        case measure => simp [intOf]; omega
      · have hst' := hid_in (show (ls.take (j + 1)).filter (notKey key) = done ++ [x] from by rw [hst.out]; simp [notKey, hp])
        have hone := lcells_one (ls := [x]) (fun y hy => by rw [List.mem_singleton.1 hy]; exact ⟨_, _, _, e1⟩)
        rw [List.flatMap_singleton, hcells.out] at hone
        clear h5 h6 hdn hm e0 e1 hD hxm hst hb0 hs
        have hm3 := hm'.out.alloc (.cells #[.string x.key, .slice ax x.ws.length cx] 115)
        have b4 := bw.alloc hszw (.cells #[.string x.key, .slice ax x.ws.length cx] 115)
        have hrow := lit_has wr #[.string x.key, .slice ax x.ws.length cx] 115 2 rfl
        go_wp2_with (at_builtin; refine wpList_append_has (by rfl) _ _ 44 (by rfl) (w.heap.size + 2) 115 i0 _ 2 40 Tryz.underlying44 hi hz0 hz1 hz2 rfl (by decide) _ done.length _ (by rfl) hm3 _ 1 _ (by rfl) hrow hone ?c3 ?c4 (Nat.le_trans hszw (by simp)) ?_)
        case c3 => unfold maxLen; omega
        case c4 => omega
        intro ao' cap' w5 hown5 hg5 _
        have hB5 := b4.grown hg5 (by simp; omega) hbase.out
        have HO := hid_in (show w5.ownsRow (w.heap.size + 2) 115 2 (.slice ao' (done.length + 1) cap') (done ++ [x]).length ((done ++ [x]).flatMap LAt.cells) from by
          rw [List.flatMap_append, List.flatMap_singleton, hcells.out, List.length_append]; exact hown5)
        clear hm3 hrow hone hown5 hg5 hbase hm'
        go_wp2
        go_roundw
        case rel => exact ⟨j + 1, done ++ [x], by omega, by go_num, hst'.out.symm, HO.out, hB5⟩
        case measure => simp [intOf]; omega
    · obtain rfl : j = len := by omega
      have hls : ls.take j = ls := by rw [← en.out, List.take_length]
      rw [hls] at hdn
      have gC := grown_setCell' wr w.heap.size 2 (.slice qa done.length qc)
      have zB : (wr.setCell ⟨w.heap.size, 2, none⟩ (.slice qa done.length qc)).heap[w.heap.size]? = some (.cells #[.string bk, .string bn, .slice qa done.length qc] 46 (0, 0)) := by rw [heap_setCell_same wr w.heap.size 2 _ _ _ kB]; rfl
      have zR := (gC.block (w.heap.size + 1) (by omega) (by intro e; have := Option.some.inj e; omega)).trans kR
      have f2 := frozen_of_block kB 2
      have x0 := cell_of_block zB 0
      have x1 := cell_of_block zB 1
      have x2 := cell_of_block zB 2
      simp only [List.getElem?_toArray, List.getElem?_cons_zero, List.getElem?_cons_succ] at x0 x1 x2
      have gS := grown_setRow (wr.setCell ⟨w.heap.size, 2, none⟩ (.slice qa done.length qc)) (w.heap.size + 1) #[.string bk, .string bn, .slice qa done.length qc]
      have HO := hid_in (show ((wr.setCell ⟨w.heap.size, 2, none⟩ (.slice qa done.length qc)).setRow (w.heap.size + 1) #[.string bk, .string bn, .slice qa done.length qc]).ownsRow w.heap.size 115 2 (.slice qa done.length qc) (ls.filter (notKey key)).length ((ls.filter (notKey key)).flatMap LAt.cells) from by
        rw [← hdn]; exact own_mono (own_other (own_other hm gC (by omega)) gS (by omega)) (by omega))
      have HB := hid_in (belowGrown (belowGrown (G.trans (bw.mono (by omega))) (by omega) (Nat.le_refl _) gC) (by have := gC.size; omega) (by omega) gS)
      clear hb0 hs hm hdn hls kB kR hA hR G b00 hown0 gC gS
      generalize done.length = nd at *
      go_wp2_with (with_reducible show wpList _ _ _ (Oper.mk _ (Op.store _ (Operand.tmp 4) _) _ _ _ _ :: _) _ _; refine wpList_store_row rfl 46 _ _ rfl (w.heap.size + 1) #[.string bk, .string bn, .slice qa nd qc] ?_ ?_ 46 _ zR ?_ ?_ ?_ ?_)
      all_goals (first | rfl | kernel_rfl | exact ⟨rfl, rfl, rfl⟩ | (obtain ⟨i9, e9, _, s9, _⟩ := info_parts infoBlock; exact ⟨i9, e9, s9⟩) | skip)
      have z5 := setRow_heap _ _ _ #[.string bk, .string bn, .slice qa nd qc] _ _ zR
      have y0 := cell_of_block z5 0
      have y1 := cell_of_block z5 1
      have y2 := cell_of_block z5 2
      simp only [List.getElem?_toArray, List.getElem?_cons_zero, List.getElem?_cons_succ] at y0 y1 y2
      generalize (wr.setCell ⟨w.heap.size, 2, none⟩ (.slice qa nd qc)).setRow (w.heap.size + 1) #[.string bk, .string bn, .slice qa nd qc] = W at HO HB y0 y1 y2 z5 ⊢
      exact bodyPost_ret (v := .agg #[.string bk, .string bn, .slice qa nd qc]) (by simp [results, Tryz.results107, go_sem, y0, y1, y2]) rfl ⟨qa, nd, qc, rfl, HO.out, HB.out⟩
end Go.Proofs.YtpdahhnjhggocaaGreatDoor
namespace Go.Proofs.YtpdahhnjhggocaaGreatDoor
open Go.RowKit
set_option maxHeartbeats 32000000 in
set_option maxRecDepth 100000 in
theorem specOver_any {uv ov : Value} {us os : List BAt} {w : World} (hu : BlocksIn w uv us) (ho : BlocksIn w ov os) (hsu : BlocksSmall us) (hso : BlocksSmall os) : Calls Tryz.prog 13 #[.agg #[uv], .agg #[ov]] w fun e w' => ∃ v' bs', e = .returned (.agg #[v']) ∧ bs'.map BAt.plain = overS (us.map BAt.plain) (os.map BAt.plain) ∧ BlocksOwn w.heap.size w' v' bs' ∧ Below w.heap.size w w' := by
  obtain ⟨ua, uc, rfl⟩ := hu.1.form
  obtain ⟨oa, oc, rfl⟩ := ho.1.form
  have a3 := alloc3 (w := w) (o1 := .cells #[.slice ua us.length uc] 25) (o2 := .cells #[.slice oa os.length oc] 25) (o3 := .cells #[.slice none 0 0] 25)
  have b3 : Below w.heap.size w (((w.alloc (.cells #[.slice ua us.length uc] 25)).alloc (.cells #[.slice oa os.length oc] 25)).alloc (.cells #[.slice none 0 0] 25)) := (((Below.refl _ _).alloc (Nat.le_refl _) _).alloc (by simp) _).alloc (by simp; omega) _
  have HV := specValid_any (hu.below b3) hsu
  have HU := hid_in hu
  have HO := hid_in ho
  have HSU := hid_in hsu
  have HSO := hid_in hso
  clear hu ho hsu hso
  generalize hnu : us.length = nu at *
  generalize hno : os.length = no at *
  have ENU := hid_in hnu
  have ENO := hid_in hno
  clear hnu hno
  obtain ⟨s3, hub, hob, hrb⟩ := a3
  have cu := cell_of_block hub 0
  have co := cell_of_block hob 0
  simp only [List.getElem?_toArray, List.getElem?_cons_zero] at cu co
  generalize hW3 : ((w.alloc (.cells #[.slice ua nu uc] 25)).alloc (.cells #[.slice oa no oc] 25)).alloc (.cells #[.slice none 0 0] 25) = W3 at *
  go_enter Tryz.func13, Tryz.ntmps13
  go_wp2_with (go_at_call 14; (try rw [hW3]); refine HV.mono ?_)
  first | rintro e w1 rfl b1 | rintro e w1 ⟨rfl, b1⟩
  have hz1 := b1.size
  have g1 := b3.trans (b1.mono b3.size)
  have ub1 := (b1.block w.heap.size (by omega)).trans hub
  have ob1 := (b1.block (w.heap.size + 1) (by omega)).trans hob
  have rb1 := (b1.block (w.heap.size + 2) (by omega)).trans hrb
  have co1 := cell_of_block ob1 0
  simp only [List.getElem?_toArray, List.getElem?_cons_zero] at co1
  clear HV cu co hub hob hrb hW3 b3 b1
  cases hUK : sheetB (us.map BAt.plain)
  · have HG := hid_in (show ([] : List BAt).map BAt.plain = overS (us.map BAt.plain) (os.map BAt.plain) from (over_not (.inl hUK)).symm)
    clear hUK
    have b5 : Below w.heap.size w (w1.setRow (w.heap.size + 2) #[.slice none 0 0]) := ⟨g1.os, g1.tape, g1.output, by rw [setRow_size]; exact g1.size, fun k hk => by rw [setRow_other _ _ _ _ (by omega)]; exact g1.block k hk⟩
    go_wp2_with (with_reducible show wpList _ _ _ (Oper.mk _ (Op.store _ (Operand.tmp 4) _) _ _ _ _ :: _) _ _; refine wpList_store_row rfl 25 _ _ rfl (w.heap.size + 2) #[.slice none 0 0] ?_ ?_ 25 _ rb1 ?_ ?_ ?_ ?_)
    all_goals (first | rfl | kernel_rfl | exact sheet_size | skip)
    have z5 : (w1.setRow (w.heap.size + 2) #[.slice none 0 0]).heap[w.heap.size + 2]? = some (.cells #[.slice none 0 0] 25 (0, 0)) := setRow_heap _ _ _ _ _ _ rb1
    have y0 := cell_of_block z5 0
    simp only [List.getElem?_toArray, List.getElem?_cons_zero] at y0
    generalize w1.setRow (w.heap.size + 2) #[.slice none 0 0] = W at b5 y0 z5 ⊢
    exact bodyPost_ret (v := .agg #[.slice none 0 0]) (by simp [results, Tryz.results13, go_sem, y0]) rfl ⟨_, [], rfl, HG.out, blocks_none _ _, b5⟩
  · have HUK := hid_in hUK
    clear hUK
    have HV2 := specValid_any (HO.out.below g1) HSO.out
    go_wp2_with (go_at_call 14; refine HV2.mono ?_)
    first | rintro e w2 rfl b2 | rintro e w2 ⟨rfl, b2⟩
    have hz2 := b2.size
    have g2 := g1.trans (b2.mono g1.size)
    have ub2 := (b2.block w.heap.size (by omega)).trans ub1
    have ob2 := (b2.block (w.heap.size + 1) (by omega)).trans ob1
    have rb2 := (b2.block (w.heap.size + 2) (by omega)).trans rb1
    clear HV2 ub1 ob1 rb1 co1 b2
    cases hOK : sheetB (os.map BAt.plain)
    · have HG := hid_in (show ([] : List BAt).map BAt.plain = overS (us.map BAt.plain) (os.map BAt.plain) from (over_not (.inr hOK)).symm)
      clear hOK
      have b5 : Below w.heap.size w (w2.setRow (w.heap.size + 2) #[.slice none 0 0]) := ⟨g2.os, g2.tape, g2.output, by rw [setRow_size]; exact g2.size, fun k hk => by rw [setRow_other _ _ _ _ (by omega)]; exact g2.block k hk⟩
      go_wp2_with (with_reducible show wpList _ _ _ (Oper.mk _ (Op.store _ (Operand.tmp 4) _) _ _ _ _ :: _) _ _; refine wpList_store_row rfl 25 _ _ rfl (w.heap.size + 2) #[.slice none 0 0] ?_ ?_ 25 _ rb2 ?_ ?_ ?_ ?_)
      all_goals (first | rfl | kernel_rfl | exact sheet_size | skip)
      have z5 : (w2.setRow (w.heap.size + 2) #[.slice none 0 0]).heap[w.heap.size + 2]? = some (.cells #[.slice none 0 0] 25 (0, 0)) := setRow_heap _ _ _ _ _ _ rb2
      have y0 := cell_of_block z5 0
      simp only [List.getElem?_toArray, List.getElem?_cons_zero] at y0
      generalize w2.setRow (w.heap.size + 2) #[.slice none 0 0] = W at b5 y0 z5 ⊢
      exact bodyPost_ret (v := .agg #[.slice none 0 0]) (by simp [results, Tryz.results13, go_sem, y0]) rfl ⟨_, [], rfl, HG.out, blocks_none _ _, b5⟩
    · have HOK := hid_in hOK
      clear hOK
      have x3 := (Below.refl w2.heap.size w2).alloc (Nat.le_refl _) (.cells #[.slice none 0 0] 25)
      have HS0 : S6S w w2.heap.size (.slice ua nu uc) (.slice oa no oc) us os [] (.slice none 0 0) (w2.alloc (.cells #[.slice none 0 0] 25)) :=
        ⟨g2.trans (x3.mono g2.size), (x3.block _ (by omega)).trans ub2, (x3.block _ (by omega)).trans ob2, (x3.block _ (by omega)).trans rb2, alloc_here _ _, HU.out.below (g2.trans (x3.mono g2.size)), HO.out.below (g2.trans (x3.mono g2.size)), ⟨⟨rfl, none, 0, rfl, ⟨Nat.le_refl _, Nat.zero_le _⟩, .inl rfl⟩, by simp⟩, ⟨.inl rfl, by simp⟩, fun q hq => BlocksIn.fresh' HU.out hq, fun q hq => BlocksIn.fresh' HO.out hq, by simp, by omega⟩
      have HS0H := hid_in HS0
      have hn60 : no ≤ 60 ∧ nu ≤ 60 := by
        have h1 := (sheetB_iff.1 HOK.out).1
        have h2 := (sheetB_iff.1 HUK.out).1
        rw [List.length_map] at h1 h2
        have := ENO.out
        have := ENU.out
        omega
      have hlinO := hid_in (show ∀ b ∈ os, b.ls.length ≤ 400 from fun b hb => by
        have h1 := ((sheetB_iff.1 HOK.out).2.1 b.plain (List.mem_map_of_mem hb)).2.2.few
        have h2 := (rulesOf_like b.kind).1
        simp only [BAt.plain, List.length_map] at h1
        omega)
      have hlinU := hid_in (show ∀ b ∈ us, b.ls.length ≤ 400 from fun b hb => by
        have h1 := ((sheetB_iff.1 HUK.out).2.1 b.plain (List.mem_map_of_mem hb)).2.2.few
        have h2 := (rulesOf_like b.kind).1
        simp only [BAt.plain, List.length_map] at h1
        omega)
      clear HS0 x3 ub2 ob2 rb2
      generalize hXX : w2.heap.size = X at *
      go_wp2
      go_loopw [6] (fun i wr => LoopO w X (.slice ua nu uc) (.slice oa no oc) us os i wr) (fun i _ => no - (intOf i).toNat)
      case atStart =>
        (try rw [hXX])
        exact ⟨0, .slice none 0 0, [], rfl, Nat.zero_le _, rfl, by simp [insB], HS0H.out⟩
      case round =>
        obtain ⟨j, v, xs, rfl, hj, hlj, hpl, HS⟩ := hrel
        rw [ENO.out] at hj
        clear HS0H
        have cO := cell_of_block HS.ob 0
        have cU := cell_of_block HS.ub 0
        simp only [List.getElem?_toArray, List.getElem?_cons_zero] at cO cU
        obtain ⟨xa, xc, rfl⟩ := HS.bin.1.form
        by_cases hlt : j < no
        · have hlt' : (j : Int) < (no : Int) := by omega
          have i1 : (0 : Int) ≤ (j : Int) := by omega
          obtain ⟨D, ⟨bk, bnm, bv, bl⟩, T, eos, hD⟩ := split1 os j (by have := ENO.out; omega)
          have eos' := eos
          have hrow := HS.oin.1
          rw [eos] at hrow
          obtain ⟨b0, off, rfl, d0, d1, d2⟩ := hrow.block
          rw [hD] at d0 d1 d2
          have hbin := HS.oin.2 ⟨bk, bnm, bv, bl⟩ (by rw [eos]; simp)
          obtain ⟨ba, bc, ebv⟩ := hbin.1.form
          simp only at ebv
          subst ebv
          have hbm : (⟨bk, bnm, .slice ba bl.length bc, bl⟩ : BAt) ∈ os := by rw [eos]; simp
          have hbs := HSO.out.2 _ hbm
          have hbl := hlinO.out _ hbm
          have bR := (Below.refl wr.heap.size wr).alloc (Nat.le_refl _) (.cells #[.string bk, .string bnm, .slice ba bl.length bc] 46)
          have zR := alloc_here wr (.cells #[.string bk, .string bnm, .slice ba bl.length bc] 46)
          have HS1 := HS.below bR
          have HF := l3Find_any bk bnm HS1.uin HSU.out.1
          have hXr : X < wr.heap.size := (Array.getElem?_eq_some_iff.1 HS.xb).1
          have hwr := HS.bw.size
          have q0 := cell_of_block zR 0
          have q1 := cell_of_block zR 1
          have q2 := cell_of_block zR 2
          have cU1 := cell_of_block HS1.ub 0
          simp only [List.getElem?_toArray, List.getElem?_cons_zero, List.getElem?_cons_succ] at q0 q1 q2 cU1
          have hz1' : (wr.alloc (.cells #[.string bk, .string bnm, .slice ba bl.length bc] 46)).heap.size = wr.heap.size + 1 := by simp
          have HS1H := hid_in HS1
          have HBX := hid_in (LinesIn.fresh hbin (Nat.le_refl _))
          have HXF := hid_in ((HS.ofar X (by have := HS.hX; omega)).2 _ hbm)
          have HB1 := hid_in (BlockIn.below hbin bR)
          have HFR := hid_in (HS.bin.fresh' (Nat.le_refl _))
          have HUR := hid_in (HS.uin.fresh' (Nat.le_refl _))
          have hX3 := HS.hX
          clear HS HS1 hrow hbin
          generalize hnl : bl.length = nl at *
          generalize hnx : xs.length = nx at *
          generalize hnn : us.length = nn at *
          have ENX := hid_in hnx
          have ENN := hid_in hnn
          have ENL := hid_in hnl
          have HLJ := hid_in hlj
          have hnx60 : nx ≤ 60 := by omega
          clear hnx hnn hnl hlj
          generalize hW5 : wr.alloc (.cells #[.string bk, .string bnm, .slice ba nl bc] 46) = w5 at *
          generalize hRR : wr.heap.size = R at *
          go_wp2_with (go_at_call 52; (try rw [hW5]); refine HF.mono ?_)
          first | rintro e w6 hf b6 | rintro e w6 ⟨hf, b6⟩
          have b6' : Below w5.heap.size w5 w6 := by first | exact b6 | (rw [hz1']; exact b6)
          have S6 := hid_in (HS1H.out.below b6')
          have zR6 := (b6'.block R (by omega)).trans zR
          have r0 := cell_of_block zR6 0
          have r1 := cell_of_block zR6 1
          have r2 := cell_of_block zR6 2
          simp only [List.getElem?_toArray, List.getElem?_cons_zero, List.getElem?_cons_succ] at r0 r1 r2
          have B6 := hid_in (BlockIn.below HB1.out b6')
          have hz6 := b6'.size
          have HPLH := hid_in hpl
          clear HF HS1H HB1 zR q0 q1 q2 cU cU1 cO d0 d1 d2 hW5 bR b6 b6' hpl
          rcases hf with ⟨hnone, rfl⟩ | ⟨Du, ⟨uk, un, uvv, ul⟩, Tu, eus, hsome, rfl⟩
          · have HLAY := hid_in (show BAt.plain ⟨bk, bnm, .slice ba nl bc, bl⟩ = layB (us.map BAt.plain) (BAt.plain ⟨bk, bnm, .slice ba nl bc, bl⟩) from by
              unfold layB
              rw [show look (us.map BAt.plain) (BAt.plain ⟨bk, bnm, .slice ba nl bc, bl⟩).kind (BAt.plain ⟨bk, bnm, .slice ba nl bc, bl⟩).name = none from hnone])
            clear hnone
            have xN := cell_of_block S6.out.xb 0
            simp only [List.getElem?_toArray, List.getElem?_cons_zero] at xN
            have HPB := putBlock_e (kind := bk) (name := bnm) (bv := .slice ba nl bc) (bl := bl) S6.out.bin (by have := ENX.out; omega) B6.out
            go_wp2_with (go_at_call 54; refine HPB.mono ?_)
            rintro e w9 ⟨q, m, cc, rfl, ⟨xs', h1, h2, h3, h4, h5⟩, b9⟩
            have xb9 := (b9.block X (Array.getElem?_eq_some_iff.1 S6.out.xb).1).trans S6.out.xb
            have z9 : (w9.setRow X #[.slice q m cc]).heap[X]? = some (.cells #[.slice q m cc] 25 (0, 0)) := setRow_heap _ _ _ _ _ _ xb9
            have HS9 := hid_in (S6.out.put (x := ⟨bk, bnm, .slice ba nl bc, bl⟩) (Below.refl _ _) b9 (grown_setRow w9 X #[.slice q m cc]) z9 h4 h3 h5 HXF.out hbs)
            have HPL9 := hid_in (show xs'.map BAt.plain = insB (((os.map BAt.plain).take (j + 1)).map (layB (us.map BAt.plain))) from by rw [h1, HPLH.out, ← hD, map_take_snoc BAt.plain eos', List.map_append, List.map_singleton, insB_snoc]; exact congrArg (fun z => putIn blockLt z _) HLAY.out)
            have H2 := hid_in h2
            clear HPB h1 h2 h3 h4 h5 b9 S6 xN
            go_wp2_with (with_reducible show wpList _ _ _ (Oper.mk _ (Op.store _ (Operand.tmp 5) _) _ _ _ _ :: _) _ _; refine wpList_store_row rfl 25 _ _ rfl X #[.slice q m cc] ?_ ?_ 25 _ xb9 ?_ ?_ ?_ ?_)
            all_goals (first | rfl | kernel_rfl | exact sheet_size | skip)
            go_roundw
            case rel => exact ⟨j + 1, .slice q m cc, xs', by go_num, by have := ENO.out; omega, by have := H2.out; have := ENX.out; have := HLJ.out; omega, HPL9.out, HS9.out⟩
            case measure => simp [intOf]; omega
          · have hk0 : (0 : Int) ≤ (Du.length : Int) := by omega
            have hrowu := S6.out.uin.1
            rw [eus] at hrowu
            obtain ⟨b1, off1, rfl, e0, e1, e2⟩ := hrowu.block
            have hum : (⟨uk, un, uvv, ul⟩ : BAt) ∈ us := by rw [eus]; simp
            have huin := S6.out.uin.2 _ hum
            obtain ⟨va, vc, evv⟩ := huin.1.form
            simp only at evv
            subst evv
            have hus := HSU.out.2 _ hum
            have hull := hlinU.out _ hum
            simp only at hull hbl
            have hkn : Du.length < nu := by
              have := congrArg List.length eus
              have := ENU.out
              have := ENN.out
              simp only [List.length_append, List.length_cons] at *
              omega
            have HUX := hid_in ((S6.out.ufar X (by omega)).2 _ hum)
            have HUR' := hid_in ((S6.out.ufar R (by omega)).2 _ hum)
            have HP : ∀ W, Below w6.heap.size w6 W → Calls Tryz.prog 53 #[.agg #[.string uk, .string un, .slice va ul.length vc], .agg #[.string bk, .string bnm, .slice ba nl bc]] W fun e w' => ∃ q m cc, e = .returned (.agg #[.string bk, .string bnm, .slice q m cc]) ∧ L6P ⟨uk, un, .slice va ul.length vc, ul⟩ ⟨bk, bnm, .slice ba nl bc, bl⟩ W (.slice q m cc) w' ∧ Below W.heap.size W w' := fun W hb => by
              refine (l6Block_any (u := ⟨uk, un, .slice va ul.length vc, ul⟩) (o := ⟨bk, bnm, .slice ba nl bc, bl⟩) (BlockIn.below huin hb) (BlockIn.below B6.out hb) hus.2 hbs.2 (by have := ENL.out; simp only; omega)).mono ?_
              rintro e w' ⟨a, n, c, ls, rfl, h, b⟩
              exact ⟨a, n, c, rfl, ⟨ls, h⟩, b⟩
            have cU6 := cell_of_block S6.out.ub 0
            simp only [List.getElem?_toArray, List.getElem?_cons_zero] at cU6
            have HLAY0 := hid_in (show ∀ z : List PLine, z = overL (rulesOf bk) (ul.map LAt.plain) (bl.map LAt.plain) → (⟨bk, bnm, z⟩ : PBlock) = layB (us.map BAt.plain) (BAt.plain ⟨bk, bnm, .slice ba nl bc, bl⟩) from fun z hz => by
              unfold layB
              rw [show look (us.map BAt.plain) (BAt.plain ⟨bk, bnm, .slice ba nl bc, bl⟩).kind (BAt.plain ⟨bk, bnm, .slice ba nl bc, bl⟩).name = some (BAt.plain ⟨uk, un, .slice va ul.length vc, ul⟩) from hsome, hz]
              rfl)
            clear hsome hrowu huin eus
            generalize hnul : ul.length = nul at *
            have ENUL := hid_in hnul
            clear hnul
            go_upto_region 10 with fail
            refine regionW10 (L6P ⟨uk, un, .slice va nul vc, ul⟩ ⟨bk, bnm, .slice ba nl bc, bl⟩) zR6 cU6 e0 e1 e2 hkn HP (by kernel_rfl) (by kernel_rfl) (by kernel_rfl) (by kernel_rfl) ?_
            rintro v2 a' q' m' cc' W1 W2 ha' hb1 ⟨ls', p1, p2, p3, p4⟩ hb2
            simp only [putS, setS, List.setIfInBounds_toArray, List.set_cons_zero, List.set_cons_succ] at ha'
            subst ha'
            have zR2 := (hb2.block R (by have := hb1.size; omega)).trans ((hb1.block R (by omega)).trans zR6)
            obtain ⟨z3, gz⟩ := box_turn (k' := bk) (n' := bnm) (v' := .slice q' m' cc') zR2
            have hR1 : R < W1.heap.size := by have := hb1.size; omega
            have S7 := hid_in (((S6.out.below hb1).below hb2).turn gz (by omega) (by omega) HFR.out)
            have B7 := hid_in (show LinesIn (((W2.setCell ⟨R, 0, none⟩ (.string bk)).setCell ⟨R, 1, none⟩ (.string bnm)).setCell ⟨R, 2, none⟩ (.slice q' m' cc')) (.slice q' m' cc') ls' from p3.far (p4 R hR1 HUR'.out HBX.out) gz)
            have X7 := hid_in (p4 X (by omega) HUX.out HXF.out)
            have hlen7 : ls'.length ≤ 800 := by
              have h1 := congrArg List.length p1
              have h2 := @over_len (rulesOf bk) (ul.map LAt.plain) (bl.map LAt.plain)
              have := ENUL.out
              have := ENL.out
              simp only [List.length_map] at h1 h2
              omega
            have M7 : (⟨bk, bnm, .slice q' m' cc', ls'⟩ : BAt).name.size ≤ 1048576 ∧ LinesSmall (⟨bk, bnm, .slice q' m' cc', ls'⟩ : BAt).ls := ⟨hbs.1, small_sub hbs.2 hus.2 p2 (Nat.le_trans hlen7 (by decide))⟩
            have HLAY := hid_in (HLAY0.out _ p1)
            have t0 := cell_of_block z3 0
            have t1 := cell_of_block z3 1
            have t2 := cell_of_block z3 2
            simp only [List.getElem?_toArray, List.getElem?_cons_zero, List.getElem?_cons_succ] at t0 t1 t2
            clear HP S6 r0 r1 r2 e0 e1 e2 cU6 zR6 zR2 gz p1 p3 p4 hb1 hb2 HLAY0
            generalize ((W2.setCell ⟨R, 0, none⟩ (.string bk)).setCell ⟨R, 1, none⟩ (.string bnm)).setCell ⟨R, 2, none⟩ (.slice q' m' cc') = W7 at *
            have xN := cell_of_block S7.out.xb 0
            simp only [List.getElem?_toArray, List.getElem?_cons_zero] at xN
            have HPB := putBlock_e (kind := bk) (name := bnm) (bv := .slice q' m' cc') (bl := ls') S7.out.bin (by have := ENX.out; omega) B7.out
            go_wp2_with (go_at_call 54; refine HPB.mono ?_)
            rintro e w9 ⟨q, m, cc, rfl, ⟨xs', h1, h2, h3, h4, h5⟩, b9⟩
            have xb9 := (b9.block X (Array.getElem?_eq_some_iff.1 S7.out.xb).1).trans S7.out.xb
            have z9 : (w9.setRow X #[.slice q m cc]).heap[X]? = some (.cells #[.slice q m cc] 25 (0, 0)) := setRow_heap _ _ _ _ _ _ xb9
            have HS9 := hid_in (S7.out.put (x := ⟨bk, bnm, .slice q' m' cc', ls'⟩) (Below.refl _ _) b9 (grown_setRow w9 X #[.slice q m cc]) z9 h4 h3 h5 X7.out M7)
            have HPL9 := hid_in (show xs'.map BAt.plain = insB (((os.map BAt.plain).take (j + 1)).map (layB (us.map BAt.plain))) from by rw [h1, HPLH.out, ← hD, map_take_snoc BAt.plain eos', List.map_append, List.map_singleton, insB_snoc]; exact congrArg (fun z => putIn blockLt z _) HLAY.out)
            have H2 := hid_in h2
            clear HPB h1 h2 h3 h4 h5 b9 S7 xN
            go_wp2_with (with_reducible show wpList _ _ _ (Oper.mk _ (Op.store _ (Operand.tmp 5) _) _ _ _ _ :: _) _ _; refine wpList_store_row rfl 25 _ _ rfl X #[.slice q m cc] ?_ ?_ 25 _ xb9 ?_ ?_ ?_ ?_)
            all_goals (first | rfl | kernel_rfl | exact sheet_size | skip)
            go_roundw
            case rel => exact ⟨j + 1, .slice q m cc, xs', by go_num, by have := ENO.out; omega, by have := H2.out; have := ENX.out; have := HLJ.out; omega, HPL9.out, HS9.out⟩
            case measure => simp [intOf]; omega
        · obtain rfl : j = no := by omega
          have hlt' : ¬ ((j : Int) < (j : Int)) := by omega
          have hall : (os.map BAt.plain).take j = os.map BAt.plain := List.take_of_length_le (by rw [List.length_map, ENO.out]; exact Nat.le_refl _)
          rw [hall] at hpl
          have HSH := hid_in HS
          have HPL := hid_in hpl
          clear HS hpl hall cU
          generalize hnx : xs.length = nx at *
          have ENX := hid_in hnx
          have HLJ := hid_in hlj
          clear hnx hlj
          go_wp2
          go_loopw [9] (fun i wr => LoopN w X (.slice ua nu uc) (.slice oa j oc) us os i wr) (fun i _ => nu - (intOf i).toNat)
          case atStart => exact ⟨0, .slice xa nx xc, xs, rfl, Nat.zero_le _, by have := ENO.out; have := ENX.out; have := HLJ.out; omega, by simpa [restU] using HPL.out, HSH.out⟩
          case round =>
            obtain ⟨k, v2, xs2, rfl, hk, hl2, hpl2, HS⟩ := hrel
            rw [ENU.out] at hk
            rw [ENO.out] at hl2
            clear HSH HPL
            have cU2 := cell_of_block HS.ub 0
            have cO2 := cell_of_block HS.ob 0
            simp only [List.getElem?_toArray, List.getElem?_cons_zero] at cU2 cO2
            obtain ⟨xa2, xc2, rfl⟩ := HS.bin.1.form
            by_cases hlt2 : k < nu
            · have hlt2' : (k : Int) < (nu : Int) := by omega
              obtain ⟨D, ⟨uk, un, uvv, ul⟩, T, eus, hD⟩ := split1 us k (by have := ENU.out; omega)
              have hrow := HS.uin.1
              rw [eus] at hrow
              obtain ⟨b0, off, rfl, d0, d1, d2⟩ := hrow.block
              rw [hD] at d0 d1 d2
              have hum : (⟨uk, un, uvv, ul⟩ : BAt) ∈ us := by rw [eus]; simp
              have huin := HS.uin.2 _ hum
              obtain ⟨va, vc, evv⟩ := huin.1.form
              simp only at evv
              subst evv
              have hus := HSU.out.2 _ hum
              have HF : ∀ W, Below wr.heap.size wr W → Calls Tryz.prog 52 #[.agg #[.slice oa j oc], .string uk, .string un] W fun e w' => (∃ z : Int, e = .returned (.int .i64 z) ∧ decide (z < 0) = (look (os.map BAt.plain) uk un).isNone) ∧ Below W.heap.size W w' := fun W hb => by
                refine (l3Find_any uk un (HS.oin.below hb) HSO.out.1).mono ?_
                rintro e w' ⟨hf, b⟩
                refine ⟨?_, b⟩
                rcases hf with ⟨hnone, rfl⟩ | ⟨D', b', T', _, hsome, rfl⟩
                · exact ⟨_, rfl, by rw [show look (os.map BAt.plain) uk un = none from hnone]; rfl⟩
                · refine ⟨_, rfl, ?_⟩
                  rw [show look (os.map BAt.plain) uk un = some b'.plain from hsome]
                  simp only [Option.isNone_some, decide_eq_false_iff_not]
                  omega
              have hrest := hid_in (show restU ((us.map BAt.plain).take (k + 1)) (os.map BAt.plain) = restU ((us.map BAt.plain).take k) (os.map BAt.plain) ++ (if (look (os.map BAt.plain) uk un).isNone = true then [BAt.plain ⟨uk, un, .slice va ul.length vc, ul⟩] else []) from by rw [← hD, map_take_snoc BAt.plain eus, rest_snoc]; rfl)
              have HPL2 := hid_in hpl2
              have HUX := hid_in ((HS.ufar X (by have := HS.hX; omega)).2 _ hum)
              have hx260 : xs2.length ≤ 120 := by omega
              cases hKK : (look (os.map BAt.plain) uk un).isNone
              · rw [hKK] at HF
                have hpl3 := hid_in (show xs2.map BAt.plain = insB ((os.map BAt.plain).map (layB (us.map BAt.plain)) ++ restU ((us.map BAt.plain).take (k + 1)) (os.map BAt.plain)) from by rw [hrest.out, hKK, HPL2.out]; simp)
                have HSH := hid_in HS
                clear HS hrow huin hpl2 eus hrest HPL2 hKK
                generalize hnx2 : xs2.length = nx2 at *
                generalize hnul : ul.length = nul at *
                have ENX2 := hid_in hnx2
                clear hnx2 hnul
                go_upto_region 15 with fail
                refine regionW15 cO2 cU2 d0 d1 (by omega) HF (by kernel_rfl) (by kernel_rfl) (by kernel_rfl) (by kernel_rfl) ?_
                intro v3 a' W' ha' e14 hb
                simp only [putS, setS, List.setIfInBounds_toArray, List.set_cons_zero, List.set_cons_succ, e14] at ha'
                subst ha'
                have HS3 := hid_in (HSH.out.below hb)
                clear HF HSH hb d0 d1 d2 cU2 cO2 e14
                go_wp2
                go_roundw
                case rel => exact ⟨k + 1, .slice xa2 nx2 xc2, xs2, by go_num, by have := ENU.out; omega, by have := ENX2.out; have := ENO.out; omega, hpl3.out, HS3.out⟩
                case measure => simp [intOf]; omega
              · rw [hKK] at HF
                have hpl3 := hid_in (show insB ((os.map BAt.plain).map (layB (us.map BAt.plain)) ++ restU ((us.map BAt.plain).take (k + 1)) (os.map BAt.plain)) = putIn blockLt (BAt.plain ⟨uk, un, .slice va ul.length vc, ul⟩) (xs2.map BAt.plain) from by rw [hrest.out, hKK, HPL2.out, if_pos rfl, ← List.append_assoc, insB_snoc])
                have HSH := hid_in HS
                have HUI := hid_in huin
                clear HS hrow huin hpl2 eus hrest HPL2 hKK
                generalize hnx2 : xs2.length = nx2 at *
                generalize hnul : ul.length = nul at *
                have ENX2 := hid_in hnx2
                clear hnx2 hnul
                go_upto_region 15 with fail
                refine regionW15 cO2 cU2 d0 d1 (by omega) HF (by kernel_rfl) (by kernel_rfl) (by kernel_rfl) (by kernel_rfl) ?_
                intro v3 a' W' ha' e14 hb
                simp only [putS, setS, List.setIfInBounds_toArray, List.set_cons_zero, List.set_cons_succ, e14] at ha'
                subst ha'
                have HS3 := HSH.out.below hb
                have cU3 := (hb.cell (World.block_lt_of_cell? _ _ cU2)).trans cU2
                have d03 := (hb.cell (World.block_lt_of_cell? _ _ d0)).trans d0
                have d13 := (hb.cell (World.block_lt_of_cell? _ _ d1)).trans d1
                have d23 := (hb.cell (World.block_lt_of_cell? _ _ d2)).trans d2
                have HP : ∀ W, Below W'.heap.size W' W → Calls Tryz.prog 54 #[.agg #[.slice xa2 nx2 xc2], .agg #[.string uk, .string un, .slice va nul vc]] W fun e w' => ∃ q m cc, e = .returned (.agg #[.slice q m cc]) ∧ PutBP xs2 (.slice xa2 nx2 xc2) ⟨uk, un, .slice va nul vc, ul⟩ W (.slice q m cc) w' ∧ Below W.heap.size W w' := fun W hb2 => putBlock_p (x := ⟨uk, un, .slice va nul vc, ul⟩) (HS3.bin.below hb2) (by have := ENX2.out; omega) (BlockIn.below (BlockIn.below HUI.out hb) hb2)
                have xb3 := HS3.xb
                have HS3H := hid_in HS3
                clear HF HSH d0 d1 d2 cU2 cO2 e14 HS3
                go_upto_region 16 with fail
                refine regionW16 (PutBP xs2 (.slice xa2 nx2 xc2) ⟨uk, un, .slice va nul vc, ul⟩) xb3 cU3 d03 d13 d23 (by omega) HP (by kernel_rfl) (by kernel_rfl) (by kernel_rfl) (by kernel_rfl) ?_
                rintro v4 a' q m cc W1 W2 ha' hb1 ⟨xs', h1, h2, h3, h4, h5⟩ hb2
                simp only [putS, setS, List.setIfInBounds_toArray, List.set_cons_zero, List.set_cons_succ] at ha'
                subst ha'
                have xb2 := (hb2.block X (by have := hb1.size; have := (Array.getElem?_eq_some_iff.1 xb3).1; omega)).trans ((hb1.block X (Array.getElem?_eq_some_iff.1 xb3).1).trans xb3)
                have z9 : (W2.setCell ⟨X, 0, none⟩ (.slice q m cc)).heap[X]? = some (.cells #[.slice q m cc] 25 (0, 0)) := by rw [heap_setCell_same W2 X 0 _ _ _ xb2]; rfl
                have HS4 := hid_in (HS3H.out.put (x := ⟨uk, un, .slice va nul vc, ul⟩) hb1 hb2 (grown_setCell' W2 X 0 _) z9 h4 h3 h5 HUX.out hus)
                have HPL := hid_in (h1.trans hpl3.out.symm)
                have H2 := hid_in h2
                clear HP HS3H h1 h2 h3 h4 h5 hb1 hb2 d03 d13 d23 cU3 xb3 xb2 z9
                go_wp2
                go_roundw
                case rel => exact ⟨k + 1, .slice q m cc, xs', by go_num, by have := ENU.out; omega, by have := ENX2.out; have := ENO.out; have := H2.out; omega, HPL.out, HS4.out⟩
                case measure => simp [intOf]; omega
            · obtain rfl : k = nu := by omega
              have hlt2' : ¬ ((k : Int) < (k : Int)) := by omega
              have hall : (us.map BAt.plain).take k = us.map BAt.plain := List.take_of_length_le (by rw [List.length_map, ENU.out]; exact Nat.le_refl _)
              rw [hall] at hpl2
              have HRAW := hid_in (show xs2.map BAt.plain = insB (overRaw (us.map BAt.plain) (os.map BAt.plain)) from hpl2)
              have hsm2 : BlocksSmall xs2 := ⟨by omega, HS.small⟩
              have HV3 := specValid_any HS.bin hsm2
              rw [HRAW.out] at HV3
              have HSH := hid_in HS
              have HSM2 := hid_in hsm2
              have cx := cell_of_block HS.xb 0
              simp only [List.getElem?_toArray, List.getElem?_cons_zero] at cx
              have hX3 := HS.hX
              have hXl := (Array.getElem?_eq_some_iff.1 HS.xb).1
              clear HS hpl2 hall hsm2 hl2 cO2
              generalize hnx2 : xs2.length = nx2 at *
              clear hnx2
              go_wp2_with (go_at_call 14; refine HV3.mono ?_)
              first | rintro e w9 rfl b9 | rintro e w9 ⟨rfl, b9⟩
              have S9 := HSH.out.below b9
              have g9 := S9.bw
              have rb9 := S9.rb
              have c9 := cell_of_block S9.xb 0
              simp only [List.getElem?_toArray, List.getElem?_cons_zero] at c9
              have hz9 := b9.size
              have hwz := HSH.out.bw.size
              cases hBK : sheetB (insB (overRaw (us.map BAt.plain) (os.map BAt.plain)))
              · have HG := hid_in (show ([] : List BAt).map BAt.plain = overS (us.map BAt.plain) (os.map BAt.plain) from (over_bad HUK.out HOK.out hBK).symm)
                clear hBK HV3 HSH cx S9
                have b5 : Below w.heap.size w (w9.setRow (w.heap.size + 2) #[.slice none 0 0]) := ⟨g9.os, g9.tape, g9.output, by rw [setRow_size]; exact g9.size, fun k hk => by rw [setRow_other _ _ _ _ (by omega)]; exact g9.block k hk⟩
                go_wp2_with (with_reducible show wpList _ _ _ (Oper.mk _ (Op.store _ (Operand.tmp 4) _) _ _ _ _ :: _) _ _; refine wpList_store_row rfl 25 _ _ rfl (w.heap.size + 2) #[.slice none 0 0] ?_ ?_ 25 _ rb9 ?_ ?_ ?_ ?_)
                all_goals (first | rfl | kernel_rfl | exact sheet_size | skip)
                have z5 : (w9.setRow (w.heap.size + 2) #[.slice none 0 0]).heap[w.heap.size + 2]? = some (.cells #[.slice none 0 0] 25 (0, 0)) := setRow_heap _ _ _ _ _ _ rb9
                have y0 := cell_of_block z5 0
                simp only [List.getElem?_toArray, List.getElem?_cons_zero] at y0
                generalize w9.setRow (w.heap.size + 2) #[.slice none 0 0] = W at b5 y0 z5 ⊢
                exact bodyPost_ret (v := .agg #[.slice none 0 0]) (by simp [results, Tryz.results13, go_sem, y0]) rfl ⟨_, [], rfl, HG.out, blocks_none _ _, b5⟩
              · have HG := hid_in (show xs2.map BAt.plain = overS (us.map BAt.plain) (os.map BAt.plain) from by rw [HRAW.out]; exact (over_good' HUK.out HOK.out hBK).symm)
                have HC := l3Copy_any S9.bin HSM2.out
                clear hBK HV3 HSH cx S9
                go_wp2_with (go_at_call 55; refine HC.mono ?_)
                first | rintro e w5 v5 rfl bs5 hp5 o5 b5 | rintro e w5 v5 bs5 rfl hp5 o5 b5 | rintro e w5 ⟨v5, bs5, rfl, hp5, o5, b5⟩
                have z5 := (b5.block (w.heap.size + 2) (by omega)).trans rb9
                have g5 := g9.trans (b5.mono g9.size)
                have HG5 := hid_in (hp5.trans HG.out)
                have O5 := hid_in (o5.mono (show w.heap.size + 3 ≤ w9.heap.size by omega))
                obtain ⟨a5, c5, rfl, _⟩ := own_form o5.row
                clear HC hp5 o5 b5 HG rb9 c9
                generalize bs5.length = n5 at *
                go_wp2_with (with_reducible show wpList _ _ _ (Oper.mk _ (Op.store _ (Operand.tmp 4) _) _ _ _ _ :: _) _ _; refine wpList_store_row rfl 25 _ _ rfl (w.heap.size + 2) #[.slice a5 n5 c5] ?_ ?_ 25 _ z5 ?_ ?_ ?_ ?_)
                all_goals (first | rfl | kernel_rfl | exact sheet_size | skip)
                have z6 : (w5.setRow (w.heap.size + 2) #[.slice a5 n5 c5]).heap[w.heap.size + 2]? = some (.cells #[.slice a5 n5 c5] 25 (0, 0)) := setRow_heap _ _ _ _ _ _ z5
                have b6 : Below w.heap.size w (w5.setRow (w.heap.size + 2) #[.slice a5 n5 c5]) := ⟨g5.os, g5.tape, g5.output, by rw [setRow_size]; exact g5.size, fun k hk => by rw [setRow_other _ _ _ _ (by omega)]; exact g5.block k hk⟩
                have o6 := (O5.out.setRow (w.heap.size + 2) (by omega) #[.slice a5 n5 c5]).mono (show w.heap.size ≤ w.heap.size + 3 by omega)
                have y0 := cell_of_block z6 0
                simp only [List.getElem?_toArray, List.getElem?_cons_zero] at y0
                generalize w5.setRow (w.heap.size + 2) #[.slice a5 n5 c5] = W at b6 y0 z6 o6 ⊢
                exact bodyPost_ret (v := .agg #[.slice a5 n5 c5]) (by simp [results, Tryz.results13, go_sem, y0]) rfl ⟨_, bs5, rfl, HG5.out, o6, b6⟩
end Go.Proofs.YtpdahhnjhggocaaGreatDoor
