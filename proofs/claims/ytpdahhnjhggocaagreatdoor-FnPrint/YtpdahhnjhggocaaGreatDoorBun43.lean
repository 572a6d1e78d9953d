import Derived.Test.YtpdahhnjhggocaaGreatDoorBun41
namespace Go.Proofs.YtpdahhnjhggocaaGreatDoor
open Go.RowKit
def Sp6F (Y l : Nat) (lv v1 : Value) (i : Nat) (x : Value) : Prop := match i with
  | 0 => x = .pointer (some ⟨Y, 2, none⟩)
  | 1 => x = lv
  | 2 => x = .pointer (some ⟨Y, 2, none⟩)
  | 3 => x = lv
  | 4 => x = .pointer (some ⟨l, 2, none⟩)
  | 5 => x = v1
  | 6 => x = .pointer (some ⟨l, 0, none⟩)
  | _ => True
set_option maxHeartbeats 2000000 in
set_option maxRecDepth 10000 in
theorem region30_any {Q : Exit → Act → World → Prop} {a : Act} {W0 : World} {B p c X Y l nl yc : Nat} {w1 : World} {D T : List BAt} {yk yn : ByteArray} {E : List LAt} {x0 : LAt} {k1 : ByteArray} {a1 : Option Addr} {n1 c1 : Nat} {u1 : List (List UInt8)} {g n cap kk : Nat} {bk bn : ByteArray} (hJ : SpO B p c X Y w1 D T ⟨yk, yn, .slice (some ⟨l, 0, none⟩) nl yc, x0 :: ⟨k1, .slice a1 n1 c1, u1⟩ :: E⟩ g n cap bk bn kk W0) (hn : (x0 :: ⟨k1, .slice a1 n1 c1, u1⟩ :: E).length = nl) (h7 : a.eval (.tmp 7) = .pointer (some ⟨Y, 0, none⟩)) (hsz : a.tmps.size = 199)
    (hQ : ∀ v W' a', a' = putS a [156, 157, 158, 159, 160, 161, 162] v → SpO B p c X Y w1 D T ⟨yk, yn, .slice (some ⟨l, 0, none⟩) nl yc, x0 :: ⟨k1, .slice a1 n1 c1, u1⟩ :: E⟩ g n cap bk bn kk W' → Below W0.heap.size W0 W' → Q .normal a' (W'.setCells l 0 [.string k1, .slice a1 n1 c1])) : (Code.region 30 ops30.toArray true).wp Tryz.prog Q a W0 := by
  have hnd : ([156, 157, 158, 159, 160, 161, 162] : List Nat).Nodup := by decide
  have hl2 : 2 ≤ nl := by rw [← hn]; simp
  have i4 : (1 : Int) < (nl : Int) := by omega
  have i5 : (0 : Int) < (nl : Int) := by omega
  have i6 : 1 < nl := by omega
  have i7 : 0 < nl := by omega
  refine wp_region_invS0 [156, 157, 158, 159, 160, 161, 162] (fun i x _ => Sp6F Y l (.slice (some ⟨l, 0, none⟩) nl yc) (.agg #[.string k1, .slice a1 n1 c1]) i x) (fun _ W => SpO B p c X Y w1 D T ⟨yk, yn, .slice (some ⟨l, 0, none⟩) nl yc, x0 :: ⟨k1, .slice a1 n1 c1, u1⟩ :: E⟩ g n cap bk bn kk W ∧ Below W0.heap.size W0 W) 7 8 [0, 1, 2, 3, 4, 5, 6, 7] (by kernel_rfl) rfl (by decide) (by kernel_rfl) ?h1 ⟨hJ.below (Below.refl _ _).drew, (Below.refl _ _).drew⟩ ?hall
  case h1 =>
    intro i x W hi
    unfold Sp6F
    split <;> first | omega | trivial
  refine AllInv.consQ (o := op30_0) [] (by kernel_rfl) (by decide) (by kernel_rfl) rfl ?o0 (AllInv.consQ (o := op30_1) [0] (by kernel_rfl) (by decide) (by kernel_rfl) rfl ?o1 (AllInv.consQ (o := op30_2) [] (by kernel_rfl) (by decide) (by kernel_rfl) rfl ?o2 (AllInv.consQ (o := op30_3) [2] (by kernel_rfl) (by decide) (by kernel_rfl) rfl ?o3 (AllInv.consQ (o := op30_4) [3] (by kernel_rfl) (by decide) (by kernel_rfl) rfl ?o4 (AllInv.consQ (o := op30_5) [4] (by kernel_rfl) (by decide) (by kernel_rfl) rfl ?o5 (AllInv.consQ (o := op30_6) [1, 0, 1, 2, 3, 4, 5] (by kernel_rfl) (by decide) (by kernel_rfl) rfl ?o6 (AllInv.lastQ (o := op30_7) [6, 5, 0, 1, 2, 3, 4, 5] (by kernel_rfl) (by kernel_rfl) rfl ?o7)))))))
  case o0 =>
    rintro Q' L _ W h0L hpre ⟨v, rfl, hv, hg, hb⟩ K hK
    have r7 := (eval_out (v := v) (show 7 ∉ ([156, 157, 158, 159, 160, 161, 162] : List Nat) by decide)).trans h7
    have he : execOp (putS a [156, 157, 158, 159, 160, 161, 162] v).eval op30_0 = execOp (Act.eval ⟨#[undef], []⟩) ⟨some 0, .fieldAddr 46 (.const (.pointer (some ⟨Y, 0, none⟩))) 2, 0, "", #[], none⟩ := by simp only [execOp, eval_const, op30_0, r7]
    refine Lid.mk ?_
    unfold Oper.wp
    rw [he]
    clear he
    go_simp
    exact hK.out _ _ (InvG.next (W := W) hv 0 (.pointer (some ⟨Y, 2, none⟩)) (put_in 0 hnd rfl) (fun _ _ h => h) rfl ⟨hg, hb⟩)
  case o1 =>
    rintro Q' L _ W h0L hpre ⟨v, rfl, hv, hg, hb⟩ K hK
    have cy := cellY hg
    have r156 : (putS a [156, 157, 158, 159, 160, 161, 162] v).eval (.tmp 156) = _ := (eval_in 0 hnd rfl (by omega)).trans (hv 0 (hpre 0 (by simp)))
    have he : execOp (putS a [156, 157, 158, 159, 160, 161, 162] v).eval op30_1 = execOp (Act.eval ⟨#[undef], []⟩) ⟨some 0, .load 44 (.const (.pointer (some ⟨Y, 2, none⟩))), 0, "", #[], none⟩ := by simp only [execOp, eval_const, op30_1, r156]
    refine Lid.mk ?_
    unfold Oper.wp
    rw [he]
    clear he
    go_simp
    exact hK.out _ _ (InvG.next (W := W) hv 1 (.slice (some ⟨l, 0, none⟩) nl yc) (put_in 1 hnd rfl) (fun _ _ h => h) rfl ⟨hg, hb⟩)
  case o2 =>
    rintro Q' L _ W h0L hpre ⟨v, rfl, hv, hg, hb⟩ K hK
    have r7 := (eval_out (v := v) (show 7 ∉ ([156, 157, 158, 159, 160, 161, 162] : List Nat) by decide)).trans h7
    have he : execOp (putS a [156, 157, 158, 159, 160, 161, 162] v).eval op30_2 = execOp (Act.eval ⟨#[undef], []⟩) ⟨some 0, .fieldAddr 46 (.const (.pointer (some ⟨Y, 0, none⟩))) 2, 0, "", #[], none⟩ := by simp only [execOp, eval_const, op30_2, r7]
    refine Lid.mk ?_
    unfold Oper.wp
    rw [he]
    clear he
    go_simp
    exact hK.out _ _ (InvG.next (W := W) hv 2 (.pointer (some ⟨Y, 2, none⟩)) (put_in 2 hnd rfl) (fun _ _ h => h) rfl ⟨hg, hb⟩)
  case o3 =>
    rintro Q' L _ W h0L hpre ⟨v, rfl, hv, hg, hb⟩ K hK
    have cy := cellY hg
    have r158 : (putS a [156, 157, 158, 159, 160, 161, 162] v).eval (.tmp 158) = _ := (eval_in 2 hnd rfl (by omega)).trans (hv 2 (hpre 2 (by simp)))
    have he : execOp (putS a [156, 157, 158, 159, 160, 161, 162] v).eval op30_3 = execOp (Act.eval ⟨#[undef], []⟩) ⟨some 0, .load 44 (.const (.pointer (some ⟨Y, 2, none⟩))), 0, "", #[], none⟩ := by simp only [execOp, eval_const, op30_3, r158]
    refine Lid.mk ?_
    unfold Oper.wp
    rw [he]
    clear he
    go_simp
    exact hK.out _ _ (InvG.next (W := W) hv 3 (.slice (some ⟨l, 0, none⟩) nl yc) (put_in 3 hnd rfl) (fun _ _ h => h) rfl ⟨hg, hb⟩)
  case o4 =>
    rintro Q' L _ W h0L hpre ⟨v, rfl, hv, hg, hb⟩ K hK
    have r159 : (putS a [156, 157, 158, 159, 160, 161, 162] v).eval (.tmp 159) = _ := (eval_in 3 hnd rfl (by omega)).trans (hv 3 (hpre 3 (by simp)))
    have he : execOp (putS a [156, 157, 158, 159, 160, 161, 162] v).eval op30_4 = execOp (Act.eval ⟨#[undef], []⟩) ⟨some 0, .indexAddr 44 (.const (.slice (some ⟨l, 0, none⟩) nl yc)) (.const (.int .i64 1)), 0, "", #[], none⟩ := by simp only [execOp, eval_const, op30_4, r159]
    refine Lid.mk ?_
    unfold Oper.wp
    rw [he]
    clear he
    go_simp
    exact hK.out _ _ (InvG.next (W := W) hv 4 (.pointer (some ⟨l, 2, none⟩)) (put_in 4 hnd rfl) (fun _ _ h => h) rfl ⟨hg, hb⟩)
  case o5 =>
    rintro Q' L _ W h0L hpre ⟨v, rfl, hv, hg, hb⟩ K hK
    have lr := hg.2.bm.lines.size hn
    have cx2 := lr.cellAt 2 (by omega)
    have cx3 := lr.cellAt 3 (by omega)
    simp only [LAt.cells, List.flatMap_cons, List.cons_append, List.nil_append, List.getElem?_cons_zero, List.getElem?_cons_succ] at cx2 cx3
    have r160 : (putS a [156, 157, 158, 159, 160, 161, 162] v).eval (.tmp 160) = _ := (eval_in 4 hnd rfl (by omega)).trans (hv 4 (hpre 4 (by simp)))
    have he : execOp (putS a [156, 157, 158, 159, 160, 161, 162] v).eval op30_5 = execOp (Act.eval ⟨#[undef], []⟩) ⟨some 0, .load 115 (.const (.pointer (some ⟨l, 2, none⟩))), 0, "", #[], none⟩ := by simp only [execOp, eval_const, op30_5, r160]
    refine Lid.mk ?_
    unfold Oper.wp
    rw [he]
    clear he
    go_simp
    exact hK.out _ _ (InvG.next (W := W) hv 5 (.agg #[.string k1, .slice a1 n1 c1]) (put_in 5 hnd rfl) (fun _ _ h => h) rfl ⟨hg, hb⟩)
  case o6 =>
    rintro Q' L _ W h0L hpre ⟨v, rfl, hv, hg, hb⟩ K hK
    have r157 : (putS a [156, 157, 158, 159, 160, 161, 162] v).eval (.tmp 157) = _ := (eval_in 1 hnd rfl (by omega)).trans (hv 1 (hpre 1 (by simp)))
    have he : execOp (putS a [156, 157, 158, 159, 160, 161, 162] v).eval op30_6 = execOp (Act.eval ⟨#[undef], []⟩) ⟨some 0, .indexAddr 44 (.const (.slice (some ⟨l, 0, none⟩) nl yc)) (.const (.int .i64 0)), 0, "", #[], none⟩ := by simp only [execOp, eval_const, op30_6, r157]
    refine Lid.mk ?_
    unfold Oper.wp
    rw [he]
    clear he
    go_simp
    exact hK.out _ _ (InvG.next (W := W) hv 6 (.pointer (some ⟨l, 0, none⟩)) (put_in 6 hnd rfl) (fun _ _ h => h) rfl ⟨hg, hb⟩)
  case o7 =>
    rintro Q' L _ W h0L hpre ⟨v, rfl, hv, hg, hb⟩ K hK
    have r162 : (putS a [156, 157, 158, 159, 160, 161, 162] v).eval (.tmp 162) = _ := (eval_in 6 hnd rfl (by omega)).trans (hv 6 (hpre 6 (by simp)))
    have r161 : (putS a [156, 157, 158, 159, 160, 161, 162] v).eval (.tmp 161) = _ := (eval_in 5 hnd rfl (by omega)).trans (hv 5 (hpre 5 (by simp)))
    have lr := hg.2.bm.lines.size hn
    have cx0 := lr.cellAt 0 (by omega)
    have cx1 := lr.cellAt 1 (by omega)
    simp only [LAt.cells, List.flatMap_cons, List.cons_append, List.nil_append, List.getElem?_cons_zero, List.getElem?_cons_succ] at cx0 cx1
    have fl0 := lr.frozenAt 0
    have fl1 := lr.frozenAt 1
    have HQ := hid_in (hQ v W _ rfl hg hb)
    have he : execOp (putS a [156, 157, 158, 159, 160, 161, 162] v).eval op30_7 = execOp (Act.eval ⟨#[undef], []⟩) ⟨some 0, .store 115 (.const (.pointer (some ⟨l, 0, none⟩))) (.const (.agg #[.string k1, .slice a1 n1 c1])), 0, "", #[], none⟩ := by simp only [execOp, eval_const, op30_7, r162, r161]
    refine Lid.mk ?_
    unfold Oper.wp
    rw [he]
    clear he
    go_simp
    exact hK.out _ _ (NoPanic.normal HQ.out)
end Go.Proofs.YtpdahhnjhggocaaGreatDoor
