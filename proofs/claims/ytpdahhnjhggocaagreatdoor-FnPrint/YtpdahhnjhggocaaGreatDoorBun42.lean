import Derived.Test.YtpdahhnjhggocaaGreatDoorBun41
import Derived.Test.YtpdahhnjhggocaaGreatDoorBun38
namespace Go.Proofs.YtpdahhnjhggocaaGreatDoor
open Go.RowKit
set_option maxHeartbeats 2000000 in
set_option maxRecDepth 10000 in
theorem region23_any {Q : Exit → Act → World → Prop} {a : Act} {W : World} {B p c X Y l nl yc nI : Nat} {w1 : World} {D T : List BAt} {yk yn : ByteArray} {A E : List LAt} {r nw wc : Nat} {xk : ByteArray} {s : List UInt8} {ss : List (List UInt8)} {g n cap kk : Nat} {bk bn : ByteArray} (hJ : SpO B p c X Y w1 D T ⟨yk, yn, .slice (some ⟨l, 0, none⟩) nl yc, A ++ ⟨xk, .slice (some ⟨r, 0, none⟩) nw wc, s :: ss⟩ :: E⟩ g n cap bk bn kk W) (hk : kk ≤ 800000) (hA : A.length = nI) (hn : (A ++ ⟨xk, .slice (some ⟨r, 0, none⟩) nw wc, s :: ss⟩ :: E).length = nl) (hnw : (s :: ss).length = nw) (h0 : a.eval (.tmp 0) = .pointer (some ⟨p, 0, none⟩)) (h7 : a.eval (.tmp 7) = .pointer (some ⟨Y, 0, none⟩)) (h8 : a.eval (.tmp 8) = .int .i64 (nI : Int)) (hsz : a.tmps.size = 199)
    (hQ : ∀ v (t : ByteArray) k' W' a', a' = putS a [121, 122, 123, 124, 125, 126, 127, 128, 129] v → k' ≤ kk + 2 → SpJ B p c X Y w1 D T ⟨yk, yn, .slice (some ⟨l, 0, none⟩) nl yc, A ++ ⟨xk, .slice (some ⟨r, 0, none⟩) nw wc, s :: ss⟩ :: E⟩ g n cap k' bk bn (.slice (some ⟨l, 0, none⟩) nl yc) (A ++ ⟨xk, .slice (some ⟨r, 0, none⟩) nw wc, t.data.toList :: ss⟩ :: E) W' → Q .normal a' W') : (Code.region 23 ops23.toArray true).wp Tryz.prog Q a W := by
  have hnd : ([121, 122, 123, 124, 125, 126, 127, 128, 129] : List Nat).Nodup := by decide
  have hIn : nI < nl := by rw [← hn, ← hA]; simp
  have i3 : (0 : Int) ≤ (nI : Int) := by omega
  have i4 : (nI : Int) < (nl : Int) := by omega
  have i5 : (0 : Int) < (nw : Int) := by rw [← hnw]; simp
  have i6 : 0 < nw := by omega
  refine wp_region_invS0 [121, 122, 123, 124, 125, 126, 127, 128, 129] (fun i x _ => Sp4F p Y l nI r nw wc (.slice (some ⟨l, 0, none⟩) nl yc) i x) (SpG (SpO B p c X Y w1 D T ⟨yk, yn, .slice (some ⟨l, 0, none⟩) nl yc, A ++ ⟨xk, .slice (some ⟨r, 0, none⟩) nw wc, s :: ss⟩ :: E⟩ g n cap bk bn) 7 kk 2) 9 10 [0, 1, 2, 3, 4, 5, 6, 7, 8, 9] (by kernel_rfl) rfl (by decide) (by kernel_rfl) ?h1 ⟨_, Nat.le_refl _, hJ.below (Below.refl _ _).drew⟩ ?hall
  case h1 =>
    intro i x W hi
    unfold Sp4F
    split <;> first | omega | trivial
  refine AllInv.consQ (o := op23_0) [] (by kernel_rfl) (by decide) (by kernel_rfl) rfl ?o0 (AllInv.consQ (o := op23_1) [0] (by kernel_rfl) (by decide) (by kernel_rfl) rfl ?o1 (AllInv.consQ (o := op23_2) [] (by kernel_rfl) (by decide) (by kernel_rfl) rfl ?o2 (AllInv.consQ (o := op23_3) [1, 2] (by kernel_rfl) (by decide) (by kernel_rfl) rfl ?o3 (AllInv.consQ (o := op23_4) [3] (by kernel_rfl) (by decide) (by kernel_rfl) rfl ?o4 (AllInv.consQ (o := op23_5) [4] (by kernel_rfl) (by decide) (by kernel_rfl) rfl ?o5 (AllInv.consQ (o := op23_6) [] (by kernel_rfl) (by decide) (by kernel_rfl) rfl ?o6 (AllInv.consQ (o := op23_7) [6] (by kernel_rfl) (by decide) (by kernel_rfl) rfl ?o7 (AllInv.consQ (o := op23_8) [5, 0, 1, 2, 3, 4, 5, 6, 7] (by kernel_rfl) (by decide) (by kernel_rfl) rfl ?o8 (AllInv.lastQ (o := op23_9) [8, 7, 7, 0, 1, 2, 3, 4, 5, 6, 7] (by kernel_rfl) (by kernel_rfl) rfl ?o9)))))))))
  case o0 =>
    rintro Q' L _ W h0L hpre ⟨v, rfl, hv, hg⟩ K hK
    have r7 := (eval_out (v := v) (show 7 ∉ ([121, 122, 123, 124, 125, 126, 127, 128, 129] : List Nat) by decide)).trans h7
    have he : execOp (putS a [121, 122, 123, 124, 125, 126, 127, 128, 129] v).eval op23_0 = execOp (Act.eval ⟨#[undef], []⟩) ⟨some 0, .fieldAddr 46 (.const (.pointer (some ⟨Y, 0, none⟩))) 2, 0, "", #[], none⟩ := by simp only [execOp, eval_const, op23_0, r7]
    refine Lid.mk ?_
    unfold Oper.wp
    rw [he]
    clear he
    go_simp
    exact hK.out _ _ (InvG.next (W := W) hv 0 (.pointer (some ⟨Y, 2, none⟩)) (put_in 0 hnd rfl) (fun _ _ h => h) rfl (hg.keep (by decide) fun _ h => h))
  case o1 =>
    rintro Q' L _ W h0L hpre ⟨v, rfl, hv, hg⟩ K hK
    obtain ⟨k', hk', hJ'⟩ := hg.get
    have cy := cellY hJ'
    have r121 : (putS a [121, 122, 123, 124, 125, 126, 127, 128, 129] v).eval (.tmp 121) = _ := (eval_in 0 hnd rfl (by omega)).trans (hv 0 (hpre 0 (by simp)))
    have he : execOp (putS a [121, 122, 123, 124, 125, 126, 127, 128, 129] v).eval op23_1 = execOp (Act.eval ⟨#[undef], []⟩) ⟨some 0, .load 44 (.const (.pointer (some ⟨Y, 2, none⟩))), 0, "", #[], none⟩ := by simp only [execOp, eval_const, op23_1, r121]
    refine Lid.mk ?_
    unfold Oper.wp
    rw [he]
    clear he
    go_simp
    exact hK.out _ _ (InvG.next (W := W) hv 1 (.slice (some ⟨l, 0, none⟩) nl yc) (put_in 1 hnd rfl) (fun _ _ h => h) rfl (hg.keep (by decide) fun _ h => h))
  case o2 =>
    rintro Q' L _ W h0L hpre ⟨v, rfl, hv, hg⟩ K hK
    have r8 := (eval_out (v := v) (show 8 ∉ ([121, 122, 123, 124, 125, 126, 127, 128, 129] : List Nat) by decide)).trans h8
    have he : execOp (putS a [121, 122, 123, 124, 125, 126, 127, 128, 129] v).eval op23_2 = execOp (Act.eval ⟨#[undef], []⟩) ⟨some 0, .move (.const (.int .i64 (nI : Int))), 0, "", #[], none⟩ := by simp only [execOp, eval_const, op23_2, r8]
    refine Lid.mk ?_
    unfold Oper.wp
    rw [he]
    clear he
    go_simp
    exact hK.out _ _ (InvG.next (W := W) hv 2 (.int .i64 (nI : Int)) (put_in 2 hnd rfl) (fun _ _ h => h) rfl (hg.keep (by decide) fun _ h => h))
  case o3 =>
    rintro Q' L _ W h0L hpre ⟨v, rfl, hv, hg⟩ K hK
    have r122 : (putS a [121, 122, 123, 124, 125, 126, 127, 128, 129] v).eval (.tmp 122) = _ := (eval_in 1 hnd rfl (by omega)).trans (hv 1 (hpre 1 (by simp)))
    have r123 : (putS a [121, 122, 123, 124, 125, 126, 127, 128, 129] v).eval (.tmp 123) = _ := (eval_in 2 hnd rfl (by omega)).trans (hv 2 (hpre 2 (by simp)))
    have he : execOp (putS a [121, 122, 123, 124, 125, 126, 127, 128, 129] v).eval op23_3 = execOp (Act.eval ⟨#[undef], []⟩) ⟨some 0, .indexAddr 44 (.const (.slice (some ⟨l, 0, none⟩) nl yc)) (.const (.int .i64 (nI : Int))), 0, "", #[], none⟩ := by simp only [execOp, eval_const, op23_3, r122, r123]
    refine Lid.mk ?_
    unfold Oper.wp
    rw [he]
    clear he
    go_simp
    exact hK.out _ _ (InvG.next (W := W) hv 3 (.pointer (some ⟨l, nI * 2, none⟩)) (put_in 3 hnd rfl) (fun _ _ h => h) rfl (hg.keep (by decide) fun _ h => h))
  case o4 =>
    rintro Q' L _ W h0L hpre ⟨v, rfl, hv, hg⟩ K hK
    have r124 : (putS a [121, 122, 123, 124, 125, 126, 127, 128, 129] v).eval (.tmp 124) = _ := (eval_in 3 hnd rfl (by omega)).trans (hv 3 (hpre 3 (by simp)))
    have he : execOp (putS a [121, 122, 123, 124, 125, 126, 127, 128, 129] v).eval op23_4 = execOp (Act.eval ⟨#[undef], []⟩) ⟨some 0, .fieldAddr 115 (.const (.pointer (some ⟨l, nI * 2, none⟩))) 1, 0, "", #[], none⟩ := by simp only [execOp, eval_const, op23_4, r124]
    refine Lid.mk ?_
    unfold Oper.wp
    rw [he]
    clear he
    go_simp
    exact hK.out _ _ (InvG.next (W := W) hv 4 (.pointer (some ⟨l, nI * 2 + 1, none⟩)) (put_in 4 hnd rfl) (fun _ _ h => h) rfl (hg.keep (by decide) fun _ h => h))
  case o5 =>
    rintro Q' L _ W h0L hpre ⟨v, rfl, hv, hg⟩ K hK
    obtain ⟨k', hk', hJ'⟩ := hg.get
    have cl := hJ'.2.bm.lines.cell 1 (by decide)
    simp only [LAt.cells, List.getElem?_cons_zero, List.getElem?_cons_succ, hA] at cl
    have r125 : (putS a [121, 122, 123, 124, 125, 126, 127, 128, 129] v).eval (.tmp 125) = _ := (eval_in 4 hnd rfl (by omega)).trans (hv 4 (hpre 4 (by simp)))
    have he : execOp (putS a [121, 122, 123, 124, 125, 126, 127, 128, 129] v).eval op23_5 = execOp (Act.eval ⟨#[undef], []⟩) ⟨some 0, .load 52 (.const (.pointer (some ⟨l, nI * 2 + 1, none⟩))), 0, "", #[], none⟩ := by simp only [execOp, eval_const, op23_5, r125]
    refine Lid.mk ?_
    unfold Oper.wp
    rw [he]
    clear he
    go_simp
    exact hK.out _ _ (InvG.next (W := W) hv 5 (.slice (some ⟨r, 0, none⟩) nw wc) (put_in 5 hnd rfl) (fun _ _ h => h) rfl (hg.keep (by decide) fun _ h => h))
  case o6 =>
    rintro Q' L _ W h0L hpre ⟨v, rfl, hv, hg⟩ K hK
    have r0 := (eval_out (v := v) (show 0 ∉ ([121, 122, 123, 124, 125, 126, 127, 128, 129] : List Nat) by decide)).trans h0
    have he : execOp (putS a [121, 122, 123, 124, 125, 126, 127, 128, 129] v).eval op23_6 = execOp (Act.eval ⟨#[undef], []⟩) ⟨some 0, .move (.const (.pointer (some ⟨p, 0, none⟩))), 0, "", #[], none⟩ := by simp only [execOp, eval_const, op23_6, r0]
    refine Lid.mk ?_
    unfold Oper.wp
    rw [he]
    clear he
    go_simp
    exact hK.out _ _ (InvG.next (W := W) hv 6 (.pointer (some ⟨p, 0, none⟩)) (put_in 6 hnd rfl) (fun _ _ h => h) rfl (hg.keep (by decide) fun _ h => h))
  case o7 =>
    rintro Q' L _ W h0L hpre ⟨v, rfl, hv, hg⟩ K hK
    have r127 : (putS a [121, 122, 123, 124, 125, 126, 127, 128, 129] v).eval (.tmp 127) = _ := (eval_in 6 hnd rfl (by omega)).trans (hv 6 (hpre 6 (by simp)))
    obtain ⟨k', hk', hJ'⟩ := hg.get0 h0L
    have HP := l2Odd_any B p k' W hJ'.1.rd (by omega)
    have he : execOp (putS a [121, 122, 123, 124, 125, 126, 127, 128, 129] v).eval op23_7 = execOp (Act.eval ⟨#[undef], []⟩) ⟨some 0, .call { callee := .value (.func 164), args := #[.const (.pointer (some ⟨p, 0, none⟩))], argTypes := #[65] }, 0, "", #[], none⟩ := by simp only [execOp, eval_const, eval_func, op23_7, resolve, List.map_toArray, List.map_cons, List.map_nil, r127]
    refine Lid.mk ?_
    unfold Oper.wp
    rw [he]
    clear he
    go_simp
    refine HP.mono ?_
    rintro e W' ⟨t, k2, ht, hk2, rfl, hr', hg'⟩
    exact hK.out _ _ (InvG.next (W := W) hv 7 (.string t) (put_in 7 hnd rfl) (fun _ _ h => h) ⟨t, ht, rfl⟩ (SpG.put hk' hk2 (hJ'.grown hg' hr')))
  case o8 =>
    rintro Q' L _ W h0L hpre ⟨v, rfl, hv, hg⟩ K hK
    have r126 : (putS a [121, 122, 123, 124, 125, 126, 127, 128, 129] v).eval (.tmp 126) = _ := (eval_in 5 hnd rfl (by omega)).trans (hv 5 (hpre 5 (by simp)))
    have he : execOp (putS a [121, 122, 123, 124, 125, 126, 127, 128, 129] v).eval op23_8 = execOp (Act.eval ⟨#[undef], []⟩) ⟨some 0, .indexAddr 52 (.const (.slice (some ⟨r, 0, none⟩) nw wc)) (.const (.int .i64 0)), 0, "", #[], none⟩ := by simp only [execOp, eval_const, op23_8, r126]
    refine Lid.mk ?_
    unfold Oper.wp
    rw [he]
    clear he
    go_simp
    exact hK.out _ _ (InvG.next (W := W) hv 8 (.pointer (some ⟨r, 0, none⟩)) (put_in 8 hnd rfl) (fun _ _ h => h) rfl (hg.keep (by decide) fun _ h => h))
  case o9 =>
    rintro Q' L _ W h0L hpre ⟨v, rfl, hv, hg⟩ K hK
    obtain ⟨t, ht, e7⟩ := hv 7 (hpre 7 (by simp))
    have r129 : (putS a [121, 122, 123, 124, 125, 126, 127, 128, 129] v).eval (.tmp 129) = _ := (eval_in 8 hnd rfl (by omega)).trans (hv 8 (hpre 8 (by simp)))
    have r128 : (putS a [121, 122, 123, 124, 125, 126, 127, 128, 129] v).eval (.tmp 128) = _ := (eval_in 7 hnd rfl (by omega)).trans e7
    obtain ⟨k', hk', hJ'⟩ := hg.get
    have hwr := hJ'.2.bm.lines.words
    simp only [hnw] at hwr
    have cl := hwr.cellAt 0 (by have := i5; omega)
    simp only [strs, List.map_cons, List.getElem?_cons_zero] at cl
    have fl := hwr.frozenAt 0
    have HS := hid_in (SpJ.word hJ'.1 hJ'.2 t ht)
    have he : execOp (putS a [121, 122, 123, 124, 125, 126, 127, 128, 129] v).eval op23_9 = execOp (Act.eval ⟨#[undef], []⟩) ⟨some 0, .store 9 (.const (.pointer (some ⟨r, 0, none⟩))) (.const (.string t)), 0, "", #[], none⟩ := by simp only [execOp, eval_const, op23_9, r129, r128]
    refine Lid.mk ?_
    unfold Oper.wp
    rw [he]
    clear he
    go_simp
    exact hK.out _ _ (NoPanic.normal (hQ v t k' _ _ rfl hk' HS.out))
end Go.Proofs.YtpdahhnjhggocaaGreatDoor
namespace Go.Proofs.YtpdahhnjhggocaaGreatDoor
open Go.RowKit
def Sp6F (Y l : Nat) (lv v1 : Value) (i : Nat) (x : Value) : Prop := match i with
  | 0 => x = .pointer (some ⟨Y, 2, none⟩)
  | 1 => x = lv
  | 2 => x = .pointer (some ⟨Y, 2, none⟩)
  | 3 => x = lv
  | 4 => x = .pointer (some ⟨l, 2, none⟩)
  | 5 => x = v1
  | 6 => x = .pointer (some ⟨l, 0, none⟩)
  | _ => True
set_option maxHeartbeats 2000000 in
set_option maxRecDepth 10000 in
theorem region30_any {Q : Exit → Act → World → Prop} {a : Act} {W0 : World} {B p c X Y l nl yc : Nat} {w1 : World} {D T : List BAt} {yk yn : ByteArray} {E : List LAt} {x0 : LAt} {k1 : ByteArray} {a1 : Option Addr} {n1 c1 : Nat} {u1 : List (List UInt8)} {g n cap kk : Nat} {bk bn : ByteArray} (hJ : SpO B p c X Y w1 D T ⟨yk, yn, .slice (some ⟨l, 0, none⟩) nl yc, x0 :: ⟨k1, .slice a1 n1 c1, u1⟩ :: E⟩ g n cap bk bn kk W0) (hn : (x0 :: ⟨k1, .slice a1 n1 c1, u1⟩ :: E).length = nl) (h7 : a.eval (.tmp 7) = .pointer (some ⟨Y, 0, none⟩)) (hsz : a.tmps.size = 199)
    (hQ : ∀ v W' a', a' = putS a [156, 157, 158, 159, 160, 161, 162] v → SpO B p c X Y w1 D T ⟨yk, yn, .slice (some ⟨l, 0, none⟩) nl yc, x0 :: ⟨k1, .slice a1 n1 c1, u1⟩ :: E⟩ g n cap bk bn kk W' → Below W0.heap.size W0 W' → Q .normal a' (W'.setCells l 0 [.string k1, .slice a1 n1 c1])) : (Code.region 30 ops30.toArray true).wp Tryz.prog Q a W0 := by
  have hnd : ([156, 157, 158, 159, 160, 161, 162] : List Nat).Nodup := by decide
  have hl2 : 2 ≤ nl := by rw [← hn]; simp
  have i4 : (1 : Int) < (nl : Int) := by omega
  have i5 : (0 : Int) < (nl : Int) := by omega
  have i6 : 1 < nl := by omega
  have i7 : 0 < nl := by omega
  refine wp_region_invS0 [156, 157, 158, 159, 160, 161, 162] (fun i x _ => Sp6F Y l (.slice (some ⟨l, 0, none⟩) nl yc) (.agg #[.string k1, .slice a1 n1 c1]) i x) (fun _ W => SpO B p c X Y w1 D T ⟨yk, yn, .slice (some ⟨l, 0, none⟩) nl yc, x0 :: ⟨k1, .slice a1 n1 c1, u1⟩ :: E⟩ g n cap bk bn kk W ∧ Below W0.heap.size W0 W) 7 8 [0, 1, 2, 3, 4, 5, 6, 7] (by kernel_rfl) rfl (by decide) (by kernel_rfl) ?h1 ⟨hJ.below (Below.refl _ _).drew, (Below.refl _ _).drew⟩ ?hall
  case h1 =>
    intro i x W hi
    unfold Sp6F
    split <;> first | omega | trivial
  refine AllInv.consQ (o := op30_0) [] (by kernel_rfl) (by decide) (by kernel_rfl) rfl ?o0 (AllInv.consQ (o := op30_1) [0] (by kernel_rfl) (by decide) (by kernel_rfl) rfl ?o1 (AllInv.consQ (o := op30_2) [] (by kernel_rfl) (by decide) (by kernel_rfl) rfl ?o2 (AllInv.consQ (o := op30_3) [2] (by kernel_rfl) (by decide) (by kernel_rfl) rfl ?o3 (AllInv.consQ (o := op30_4) [3] (by kernel_rfl) (by decide) (by kernel_rfl) rfl ?o4 (AllInv.consQ (o := op30_5) [4] (by kernel_rfl) (by decide) (by kernel_rfl) rfl ?o5 (AllInv.consQ (o := op30_6) [1, 0, 1, 2, 3, 4, 5] (by kernel_rfl) (by decide) (by kernel_rfl) rfl ?o6 (AllInv.lastQ (o := op30_7) [6, 5, 0, 1, 2, 3, 4, 5] (by kernel_rfl) (by kernel_rfl) rfl ?o7)))))))
  case o0 =>
    rintro Q' L _ W h0L hpre ⟨v, rfl, hv, hg, hb⟩ K hK
    have r7 := (eval_out (v := v) (show 7 ∉ ([156, 157, 158, 159, 160, 161, 162] : List Nat) by decide)).trans h7
    have he : execOp (putS a [156, 157, 158, 159, 160, 161, 162] v).eval op30_0 = execOp (Act.eval ⟨#[undef], []⟩) ⟨some 0, .fieldAddr 46 (.const (.pointer (some ⟨Y, 0, none⟩))) 2, 0, "", #[], none⟩ := by simp only [execOp, eval_const, op30_0, r7]
    refine Lid.mk ?_
    unfold Oper.wp
    rw [he]
    clear he
    go_simp
    exact hK.out _ _ (InvG.next (W := W) hv 0 (.pointer (some ⟨Y, 2, none⟩)) (put_in 0 hnd rfl) (fun _ _ h => h) rfl ⟨hg, hb⟩)
  case o1 =>
    rintro Q' L _ W h0L hpre ⟨v, rfl, hv, hg, hb⟩ K hK
    have cy := cellY hg
    have r156 : (putS a [156, 157, 158, 159, 160, 161, 162] v).eval (.tmp 156) = _ := (eval_in 0 hnd rfl (by omega)).trans (hv 0 (hpre 0 (by simp)))
    have he : execOp (putS a [156, 157, 158, 159, 160, 161, 162] v).eval op30_1 = execOp (Act.eval ⟨#[undef], []⟩) ⟨some 0, .load 44 (.const (.pointer (some ⟨Y, 2, none⟩))), 0, "", #[], none⟩ := by simp only [execOp, eval_const, op30_1, r156]
    refine Lid.mk ?_
    unfold Oper.wp
    rw [he]
    clear he
    go_simp
    exact hK.out _ _ (InvG.next (W := W) hv 1 (.slice (some ⟨l, 0, none⟩) nl yc) (put_in 1 hnd rfl) (fun _ _ h => h) rfl ⟨hg, hb⟩)
  case o2 =>
    rintro Q' L _ W h0L hpre ⟨v, rfl, hv, hg, hb⟩ K hK
    have r7 := (eval_out (v := v) (show 7 ∉ ([156, 157, 158, 159, 160, 161, 162] : List Nat) by decide)).trans h7
    have he : execOp (putS a [156, 157, 158, 159, 160, 161, 162] v).eval op30_2 = execOp (Act.eval ⟨#[undef], []⟩) ⟨some 0, .fieldAddr 46 (.const (.pointer (some ⟨Y, 0, none⟩))) 2, 0, "", #[], none⟩ := by simp only [execOp, eval_const, op30_2, r7]
    refine Lid.mk ?_
    unfold Oper.wp
    rw [he]
    clear he
    go_simp
    exact hK.out _ _ (InvG.next (W := W) hv 2 (.pointer (some ⟨Y, 2, none⟩)) (put_in 2 hnd rfl) (fun _ _ h => h) rfl ⟨hg, hb⟩)
  case o3 =>
    rintro Q' L _ W h0L hpre ⟨v, rfl, hv, hg, hb⟩ K hK
    have cy := cellY hg
    have r158 : (putS a [156, 157, 158, 159, 160, 161, 162] v).eval (.tmp 158) = _ := (eval_in 2 hnd rfl (by omega)).trans (hv 2 (hpre 2 (by simp)))
    have he : execOp (putS a [156, 157, 158, 159, 160, 161, 162] v).eval op30_3 = execOp (Act.eval ⟨#[undef], []⟩) ⟨some 0, .load 44 (.const (.pointer (some ⟨Y, 2, none⟩))), 0, "", #[], none⟩ := by simp only [execOp, eval_const, op30_3, r158]
    refine Lid.mk ?_
    unfold Oper.wp
    rw [he]
    clear he
    go_simp
    exact hK.out _ _ (InvG.next (W := W) hv 3 (.slice (some ⟨l, 0, none⟩) nl yc) (put_in 3 hnd rfl) (fun _ _ h => h) rfl ⟨hg, hb⟩)
  case o4 =>
    rintro Q' L _ W h0L hpre ⟨v, rfl, hv, hg, hb⟩ K hK
    have r159 : (putS a [156, 157, 158, 159, 160, 161, 162] v).eval (.tmp 159) = _ := (eval_in 3 hnd rfl (by omega)).trans (hv 3 (hpre 3 (by simp)))
    have he : execOp (putS a [156, 157, 158, 159, 160, 161, 162] v).eval op30_4 = execOp (Act.eval ⟨#[undef], []⟩) ⟨some 0, .indexAddr 44 (.const (.slice (some ⟨l, 0, none⟩) nl yc)) (.const (.int .i64 1)), 0, "", #[], none⟩ := by simp only [execOp, eval_const, op30_4, r159]
    refine Lid.mk ?_
    unfold Oper.wp
    rw [he]
    clear he
    go_simp
    exact hK.out _ _ (InvG.next (W := W) hv 4 (.pointer (some ⟨l, 2, none⟩)) (put_in 4 hnd rfl) (fun _ _ h => h) rfl ⟨hg, hb⟩)
  case o5 =>
    rintro Q' L _ W h0L hpre ⟨v, rfl, hv, hg, hb⟩ K hK
    have lr := hg.2.bm.lines.size hn
    have cx2 := lr.cellAt 2 (by omega)
    have cx3 := lr.cellAt 3 (by omega)
    simp only [LAt.cells, List.flatMap_cons, List.cons_append, List.nil_append, List.getElem?_cons_zero, List.getElem?_cons_succ] at cx2 cx3
    have r160 : (putS a [156, 157, 158, 159, 160, 161, 162] v).eval (.tmp 160) = _ := (eval_in 4 hnd rfl (by omega)).trans (hv 4 (hpre 4 (by simp)))
    have he : execOp (putS a [156, 157, 158, 159, 160, 161, 162] v).eval op30_5 = execOp (Act.eval ⟨#[undef], []⟩) ⟨some 0, .load 115 (.const (.pointer (some ⟨l, 2, none⟩))), 0, "", #[], none⟩ := by simp only [execOp, eval_const, op30_5, r160]
    refine Lid.mk ?_
    unfold Oper.wp
    rw [he]
    clear he
    go_simp
    exact hK.out _ _ (InvG.next (W := W) hv 5 (.agg #[.string k1, .slice a1 n1 c1]) (put_in 5 hnd rfl) (fun _ _ h => h) rfl ⟨hg, hb⟩)
  case o6 =>
    rintro Q' L _ W h0L hpre ⟨v, rfl, hv, hg, hb⟩ K hK
    have r157 : (putS a [156, 157, 158, 159, 160, 161, 162] v).eval (.tmp 157) = _ := (eval_in 1 hnd rfl (by omega)).trans (hv 1 (hpre 1 (by simp)))
    have he : execOp (putS a [156, 157, 158, 159, 160, 161, 162] v).eval op30_6 = execOp (Act.eval ⟨#[undef], []⟩) ⟨some 0, .indexAddr 44 (.const (.slice (some ⟨l, 0, none⟩) nl yc)) (.const (.int .i64 0)), 0, "", #[], none⟩ := by simp only [execOp, eval_const, op30_6, r157]
    refine Lid.mk ?_
    unfold Oper.wp
    rw [he]
    clear he
    go_simp
    exact hK.out _ _ (InvG.next (W := W) hv 6 (.pointer (some ⟨l, 0, none⟩)) (put_in 6 hnd rfl) (fun _ _ h => h) rfl ⟨hg, hb⟩)
  case o7 =>
    rintro Q' L _ W h0L hpre ⟨v, rfl, hv, hg, hb⟩ K hK
    have r162 : (putS a [156, 157, 158, 159, 160, 161, 162] v).eval (.tmp 162) = _ := (eval_in 6 hnd rfl (by omega)).trans (hv 6 (hpre 6 (by simp)))
    have r161 : (putS a [156, 157, 158, 159, 160, 161, 162] v).eval (.tmp 161) = _ := (eval_in 5 hnd rfl (by omega)).trans (hv 5 (hpre 5 (by simp)))
    have lr := hg.2.bm.lines.size hn
    have cx0 := lr.cellAt 0 (by omega)
    have cx1 := lr.cellAt 1 (by omega)
    simp only [LAt.cells, List.flatMap_cons, List.cons_append, List.nil_append, List.getElem?_cons_zero, List.getElem?_cons_succ] at cx0 cx1
    have fl0 := lr.frozenAt 0
    have fl1 := lr.frozenAt 1
    have HQ := hid_in (hQ v W _ rfl hg hb)
    have he : execOp (putS a [156, 157, 158, 159, 160, 161, 162] v).eval op30_7 = execOp (Act.eval ⟨#[undef], []⟩) ⟨some 0, .store 115 (.const (.pointer (some ⟨l, 0, none⟩))) (.const (.agg #[.string k1, .slice a1 n1 c1])), 0, "", #[], none⟩ := by simp only [execOp, eval_const, op30_7, r162, r161]
    refine Lid.mk ?_
    unfold Oper.wp
    rw [he]
    clear he
    go_simp
    exact hK.out _ _ (NoPanic.normal HQ.out)
end Go.Proofs.YtpdahhnjhggocaaGreatDoor
namespace Go.Proofs.YtpdahhnjhggocaaGreatDoor
open Go.RowKit
set_option maxHeartbeats 2000000 in
set_option maxRecDepth 10000 in
theorem region26_any {Q : Exit → Act → World → Prop} {a : Act} {W0 : World} {B p c X Y l nl yc nI : Nat} {w1 : World} {D T : List BAt} {yk yn : ByteArray} {A E : List LAt} {xk : ByteArray} {xa : Option Addr} {nw xc : Nat} {xw : List (List UInt8)} {g n cap kk : Nat} (hJ : SpO B p c X Y w1 D T ⟨yk, yn, .slice (some ⟨l, 0, none⟩) nl yc, A ++ ⟨xk, .slice xa nw xc, xw⟩ :: E⟩ g n cap yk yn kk W0) (hA : A.length = nI) (hn : (A ++ ⟨xk, .slice xa nw xc, xw⟩ :: E).length = nl) (hn7 : nl ≤ 1000) (hc : c ≤ W0.heap.size) (h7 : a.eval (.tmp 7) = .pointer (some ⟨Y, 0, none⟩)) (h8 : a.eval (.tmp 8) = .int .i64 (nI : Int)) (hsz : a.tmps.size = 199)
    (hQ : ∀ v W' a' x, a' = putS a [136, 137, 138, 139, 140, 141, 142, 143, 144, 145] v → (∃ o m cc, x = .slice o m cc) → SpJ B p c X Y w1 D T ⟨yk, yn, .slice (some ⟨l, 0, none⟩) nl yc, A ++ ⟨xk, .slice xa nw xc, xw⟩ :: E⟩ g n cap kk yk yn x (A ++ ⟨xk, .slice xa nw xc, xw⟩ :: E ++ [⟨xk, .slice xa nw xc, xw⟩]) W' → Q .normal a' W') : (Code.region 26 ops26.toArray true).wp Tryz.prog Q a W0 := by
  have hnd : ([136, 137, 138, 139, 140, 141, 142, 143, 144, 145] : List Nat).Nodup := by decide
  have hIn : nI < nl := by rw [← hn, ← hA]; simp
  have i3 : (0 : Int) ≤ (nI : Int) := by omega
  have i4 : (nI : Int) < (nl : Int) := by omega
  have hl7 : l < W0.heap.size := ((hJ.2.lines ⟨yk, yn, .slice (some ⟨l, 0, none⟩) nl yc, A ++ ⟨xk, .slice xa nw xc, xw⟩ :: E⟩ (by simp)).row.lt l rfl).2
  have hlY : l ≠ Y := far_block (hJ.1.mine.1.2.1 Y (by simp)).1 (by simp only; omega)
  have hY7 : Y < W0.heap.size := (Array.getElem?_eq_some_iff.1 hJ.1.yb).1
  obtain ⟨i0, hi, hz0, hz1, hz2⟩ := info_parts infoLine
  refine wp_region_invS0 [136, 137, 138, 139, 140, 141, 142, 143, 144, 145] (Sp5F Y l nI nl yc xk (.slice xa nw xc) (fun v W => SpJ B p c X Y w1 D T ⟨yk, yn, .slice (some ⟨l, 0, none⟩) nl yc, A ++ ⟨xk, .slice xa nw xc, xw⟩ :: E⟩ g n cap kk yk yn v (A ++ ⟨xk, .slice xa nw xc, xw⟩ :: E ++ [⟨xk, .slice xa nw xc, xw⟩]) (W.setCell ⟨Y, 2, none⟩ v))) (Sp5G Y yk yn (.slice (some ⟨l, 0, none⟩) nl yc) (fun W => SpO B p c X Y w1 D T ⟨yk, yn, .slice (some ⟨l, 0, none⟩) nl yc, A ++ ⟨xk, .slice xa nw xc, xw⟩ :: E⟩ g n cap yk yn kk W ∧ W0.heap.size ≤ W.heap.size)) 10 11 [0, 1, 2, 3, 4, 5, 6, 7, 8, 9, 10] (by kernel_rfl) rfl (by decide) (by kernel_rfl) ?h1 ⟨hJ.1.yb, fun _ => ⟨hJ.below (Below.refl _ _).drew, Nat.le_refl _⟩, (fun h => by cases h), (fun h => by cases h)⟩ ?hall
  case h1 =>
    intro i x W hi
    unfold Sp5F
    split <;> first | omega | trivial
  refine AllInv.consQ (o := op26_0) [] (by kernel_rfl) (by decide) (by kernel_rfl) rfl ?o0 (AllInv.consQ (o := op26_1) [0] (by kernel_rfl) (by decide) (by kernel_rfl) rfl ?o1 (AllInv.consQ (o := op26_2) [] (by kernel_rfl) (by decide) (by kernel_rfl) rfl ?o2 (AllInv.consQ (o := op26_3) [2] (by kernel_rfl) (by decide) (by kernel_rfl) rfl ?o3 (AllInv.consQ (o := op26_4) [] (by kernel_rfl) (by decide) (by kernel_rfl) rfl ?o4 (AllInv.consQ (o := op26_5) [3, 4] (by kernel_rfl) (by decide) (by kernel_rfl) rfl ?o5 (AllInv.consQ (o := op26_6) [5] (by kernel_rfl) (by decide) (by kernel_rfl) rfl ?o6 (AllInv.consQ (o := op26_7) [6] (by kernel_rfl) (by decide) (by kernel_rfl) rfl ?o7 (AllInv.consQ (o := op26_8) [1, 7] (by kernel_rfl) (by decide) (by kernel_rfl) rfl ?o8 (AllInv.consQ (o := op26_9) [0, 1, 2, 3, 4, 5, 6, 7, 8] (by kernel_rfl) (by decide) (by kernel_rfl) rfl ?o9 (AllInv.lastQ (o := op26_10) [9, 8, 8, 0, 1, 2, 3, 4, 5, 6, 7, 8] (by kernel_rfl) (by kernel_rfl) rfl ?o10))))))))))
  case o0 =>
    rintro Q' L _ W h0L hpre ⟨v, rfl, hv, hY, hJ8, h87, h76⟩ K hK
    have r7 := (eval_out (v := v) (show 7 ∉ ([136, 137, 138, 139, 140, 141, 142, 143, 144, 145] : List Nat) by decide)).trans h7
    have he : execOp (putS a [136, 137, 138, 139, 140, 141, 142, 143, 144, 145] v).eval op26_0 = execOp (Act.eval ⟨#[undef], []⟩) ⟨some 0, .fieldAddr 46 (.const (.pointer (some ⟨Y, 0, none⟩))) 2, 0, "", #[], none⟩ := by simp only [execOp, eval_const, op26_0, r7]
    refine Lid.mk ?_
    unfold Oper.wp
    rw [he]
    clear he
    go_simp
    exact hK.out _ _ (InvG.nextL (W := W) hv 0 (.pointer (some ⟨Y, 2, none⟩)) (put_in 0 hnd rfl) (fun _ _ _ h => h) rfl ⟨hY, by simpa [upd] using hJ8, by simpa [upd] using h87, by simpa [upd] using h76⟩)
  case o1 =>
    rintro Q' L _ W h0L hpre ⟨v, rfl, hv, hY, hJ8, h87, h76⟩ K hK
    have cy := cell_of_block hY 2
    simp only [List.getElem?_toArray, List.getElem?_cons_zero, List.getElem?_cons_succ] at cy
    have r136 : (putS a [136, 137, 138, 139, 140, 141, 142, 143, 144, 145] v).eval (.tmp 136) = _ := (eval_in 0 hnd rfl (by omega)).trans (hv 0 (hpre 0 (by simp)))
    have he : execOp (putS a [136, 137, 138, 139, 140, 141, 142, 143, 144, 145] v).eval op26_1 = execOp (Act.eval ⟨#[undef], []⟩) ⟨some 0, .load 44 (.const (.pointer (some ⟨Y, 2, none⟩))), 0, "", #[], none⟩ := by simp only [execOp, eval_const, op26_1, r136]
    refine Lid.mk ?_
    unfold Oper.wp
    rw [he]
    clear he
    go_simp
    exact hK.out _ _ (InvG.nextL (W := W) hv 1 (.slice (some ⟨l, 0, none⟩) nl yc) (put_in 1 hnd rfl) (fun _ _ _ h => h) rfl ⟨hY, by simpa [upd] using hJ8, by simpa [upd] using h87, by simpa [upd] using h76⟩)
  case o2 =>
    rintro Q' L _ W h0L hpre ⟨v, rfl, hv, hY, hJ8, h87, h76⟩ K hK
    have r7 := (eval_out (v := v) (show 7 ∉ ([136, 137, 138, 139, 140, 141, 142, 143, 144, 145] : List Nat) by decide)).trans h7
    have he : execOp (putS a [136, 137, 138, 139, 140, 141, 142, 143, 144, 145] v).eval op26_2 = execOp (Act.eval ⟨#[undef], []⟩) ⟨some 0, .fieldAddr 46 (.const (.pointer (some ⟨Y, 0, none⟩))) 2, 0, "", #[], none⟩ := by simp only [execOp, eval_const, op26_2, r7]
    refine Lid.mk ?_
    unfold Oper.wp
    rw [he]
    clear he
    go_simp
    exact hK.out _ _ (InvG.nextL (W := W) hv 2 (.pointer (some ⟨Y, 2, none⟩)) (put_in 2 hnd rfl) (fun _ _ _ h => h) rfl ⟨hY, by simpa [upd] using hJ8, by simpa [upd] using h87, by simpa [upd] using h76⟩)
  case o3 =>
    rintro Q' L _ W h0L hpre ⟨v, rfl, hv, hY, hJ8, h87, h76⟩ K hK
    have cy := cell_of_block hY 2
    simp only [List.getElem?_toArray, List.getElem?_cons_zero, List.getElem?_cons_succ] at cy
    have r138 : (putS a [136, 137, 138, 139, 140, 141, 142, 143, 144, 145] v).eval (.tmp 138) = _ := (eval_in 2 hnd rfl (by omega)).trans (hv 2 (hpre 2 (by simp)))
    have he : execOp (putS a [136, 137, 138, 139, 140, 141, 142, 143, 144, 145] v).eval op26_3 = execOp (Act.eval ⟨#[undef], []⟩) ⟨some 0, .load 44 (.const (.pointer (some ⟨Y, 2, none⟩))), 0, "", #[], none⟩ := by simp only [execOp, eval_const, op26_3, r138]
    refine Lid.mk ?_
    unfold Oper.wp
    rw [he]
    clear he
    go_simp
    exact hK.out _ _ (InvG.nextL (W := W) hv 3 (.slice (some ⟨l, 0, none⟩) nl yc) (put_in 3 hnd rfl) (fun _ _ _ h => h) rfl ⟨hY, by simpa [upd] using hJ8, by simpa [upd] using h87, by simpa [upd] using h76⟩)
  case o4 =>
    rintro Q' L _ W h0L hpre ⟨v, rfl, hv, hY, hJ8, h87, h76⟩ K hK
    have r8 := (eval_out (v := v) (show 8 ∉ ([136, 137, 138, 139, 140, 141, 142, 143, 144, 145] : List Nat) by decide)).trans h8
    have he : execOp (putS a [136, 137, 138, 139, 140, 141, 142, 143, 144, 145] v).eval op26_4 = execOp (Act.eval ⟨#[undef], []⟩) ⟨some 0, .move (.const (.int .i64 (nI : Int))), 0, "", #[], none⟩ := by simp only [execOp, eval_const, op26_4, r8]
    refine Lid.mk ?_
    unfold Oper.wp
    rw [he]
    clear he
    go_simp
    exact hK.out _ _ (InvG.nextL (W := W) hv 4 (.int .i64 (nI : Int)) (put_in 4 hnd rfl) (fun _ _ _ h => h) rfl ⟨hY, by simpa [upd] using hJ8, by simpa [upd] using h87, by simpa [upd] using h76⟩)
  case o5 =>
    rintro Q' L _ W h0L hpre ⟨v, rfl, hv, hY, hJ8, h87, h76⟩ K hK
    have r139 : (putS a [136, 137, 138, 139, 140, 141, 142, 143, 144, 145] v).eval (.tmp 139) = _ := (eval_in 3 hnd rfl (by omega)).trans (hv 3 (hpre 3 (by simp)))
    have r140 : (putS a [136, 137, 138, 139, 140, 141, 142, 143, 144, 145] v).eval (.tmp 140) = _ := (eval_in 4 hnd rfl (by omega)).trans (hv 4 (hpre 4 (by simp)))
    have he : execOp (putS a [136, 137, 138, 139, 140, 141, 142, 143, 144, 145] v).eval op26_5 = execOp (Act.eval ⟨#[undef], []⟩) ⟨some 0, .indexAddr 44 (.const (.slice (some ⟨l, 0, none⟩) nl yc)) (.const (.int .i64 (nI : Int))), 0, "", #[], none⟩ := by simp only [execOp, eval_const, op26_5, r139, r140]
    refine Lid.mk ?_
    unfold Oper.wp
    rw [he]
    clear he
    go_simp
    exact hK.out _ _ (InvG.nextL (W := W) hv 5 (.pointer (some ⟨l, nI * 2, none⟩)) (put_in 5 hnd rfl) (fun _ _ _ h => h) rfl ⟨hY, by simpa [upd] using hJ8, by simpa [upd] using h87, by simpa [upd] using h76⟩)
  case o6 =>
    rintro Q' L _ W h0L hpre ⟨v, rfl, hv, hY, hJ8, h87, h76⟩ K hK
    have n7 : L 7 = false := by
      cases e : L 7
      · rfl
      · have := h76 e; rw [h0L] at this; cases this
    have n8 : L 8 = false := by
      cases e : L 8
      · rfl
      · have := h87 e; rw [n7] at this; cases this
    have hJ' := (hJ8 n8).1
    have cl0 := hJ'.2.bm.lines.cell 0 (by decide)
    have cl1 := hJ'.2.bm.lines.cell 1 (by decide)
    simp only [LAt.cells, List.getElem?_cons_zero, List.getElem?_cons_succ, Nat.add_zero, hA] at cl0 cl1
    have r141 : (putS a [136, 137, 138, 139, 140, 141, 142, 143, 144, 145] v).eval (.tmp 141) = _ := (eval_in 5 hnd rfl (by omega)).trans (hv 5 (hpre 5 (by simp)))
    have he : execOp (putS a [136, 137, 138, 139, 140, 141, 142, 143, 144, 145] v).eval op26_6 = execOp (Act.eval ⟨#[undef], []⟩) ⟨some 0, .load 115 (.const (.pointer (some ⟨l, nI * 2, none⟩))), 0, "", #[], none⟩ := by simp only [execOp, eval_const, op26_6, r141]
    refine Lid.mk ?_
    unfold Oper.wp
    rw [he]
    clear he
    go_simp
    exact hK.out _ _ (InvG.nextL (W := W) hv 6 (.agg #[.string xk, .slice xa nw xc]) (put_in 6 hnd rfl) (fun _ _ _ h => h) rfl ⟨hY, by simpa [upd] using hJ8, by simpa [upd] using h87, by simp [upd]⟩)
  case o7 =>
    rintro Q' L _ W h0L hpre ⟨v, rfl, hv, hY, hJ8, h87, h76⟩ K hK
    have n7 : L 7 = false := h0L
    have n8 : L 8 = false := by
      cases e : L 8
      · rfl
      · have := h87 e; rw [n7] at this; cases this
    have hJ' := hJ8 n8
    have r142 : (putS a [136, 137, 138, 139, 140, 141, 142, 143, 144, 145] v).eval (.tmp 142) = _ := (eval_in 6 hnd rfl (by omega)).trans (hv 6 (hpre 6 (by simp)))
    have he : execOp (putS a [136, 137, 138, 139, 140, 141, 142, 143, 144, 145] v).eval op26_7 = execOp (Act.eval ⟨#[undef], []⟩) ⟨some 0, .buildSlice 44 1 #[(0, .const (.agg #[.string xk, .slice xa nw xc]))], 0, "", #[], none⟩ := by simp only [execOp, eval_const, op26_7, r142, List.map_toArray, List.map_cons, List.map_nil]
    refine Lid.mk ?_
    unfold Oper.wp
    rw [he]
    clear he
    go_simp
    exact hK.out _ _ (InvG.nextL (W := W) hv 7 (.slice (some ⟨W.heap.size, 0, none⟩) 1 1) (put_in 7 hnd rfl) (fun j y hj h => Sp5F.keep (KeepP.alloc _ _ _) j y (fun e => by rw [e, n8] at hj; cases hj) h) ⟨_, rfl, by omega, alloc_here _ _⟩ ⟨by rw [alloc_there _ _ _ (by omega)]; exact hY, fun _ => ⟨hJ'.1.below ((Below.refl _ _).alloc (Nat.le_refl _) _), by rw [World.size_alloc]; omega⟩, (fun h => by simp [upd]), (fun h => by simp [upd, hpre 6 (by simp)])⟩)
  case o8 =>
    rintro Q' L _ W h0L hpre ⟨v, rfl, hv, hY, hJ8, h87, h76⟩ K hK
    obtain ⟨t, e7, ht, hh⟩ := hv 7 (hpre 7 (by simp))
    have r137 : (putS a [136, 137, 138, 139, 140, 141, 142, 143, 144, 145] v).eval (.tmp 137) = _ := (eval_in 1 hnd rfl (by omega)).trans (hv 1 (hpre 1 (by simp)))
    have r143 : (putS a [136, 137, 138, 139, 140, 141, 142, 143, 144, 145] v).eval (.tmp 143) = _ := (eval_in 7 hnd rfl (by omega)).trans e7
    have hJ' := hJ8 h0L
    have hrow := hJ'.1.2.bm.lines.size hn
    have hlit : HasRow W (.slice (some ⟨t, 0, none⟩) 1 1) 1 2 [.string xk, .slice xa nw xc] := ⟨rfl, _, _, rfl, ⟨Nat.le_refl _, by unfold maxLen; omega⟩, .inr ⟨t, 0, rfl, fun j u hj => by rw [Nat.zero_add, cell_of_block hh j]; simpa using hj⟩⟩
    refine Lid.mk ?_
    exact wp_append_has (.tmp 137) (.tmp 143) 44 rfl c 115 i0 _ 2 40 Tryz.underlying44 hi hz0 hz1 hz2 rfl (by decide) _ nl _ r137 hrow _ 1 _ r143 hlit (by intro z hz; simp at hz; rcases hz with rfl | rfl <;> rfl) (by unfold maxLen; omega) (by omega) (by omega) (fun ao cap9 W9 own9 hg9 hv9 => by
      have hgl : W.grownBy W9 (some l) := hg9
      obtain ⟨a9, rfl⟩ : ∃ a9, ao = some ⟨a9, 0, none⟩ := own_at own9 (by omega)
      have happ := hJ'.1.1.app (l := l) (v' := .slice (some ⟨a9, 0, none⟩) (nl + 1) cap9) (ls' := A ++ ⟨xk, .slice xa nw xc, xw⟩ :: E ++ [⟨xk, .slice xa nw xc, xw⟩]) hJ'.1.2 rfl (by simp only; omega) hgl (by
        have e1 : (A ++ (⟨xk, .slice xa nw xc, xw⟩ : LAt) :: E ++ [(⟨xk, .slice xa nw xc, xw⟩ : LAt)]).length = nl + 1 := by rw [List.length_append, hn]; rfl
        have e2 : (A ++ (⟨xk, .slice xa nw xc, xw⟩ : LAt) :: E ++ [(⟨xk, .slice xa nw xc, xw⟩ : LAt)]).flatMap LAt.cells = (A ++ (⟨xk, .slice xa nw xc, xw⟩ : LAt) :: E).flatMap LAt.cells ++ [.string xk, .slice xa nw xc] := by rw [List.flatMap_append]; rfl
        rw [e1, e2]; exact own9) hv9 (fun z hz => by
          rcases List.mem_append.1 hz with h | h
          · exact h
          · rw [List.mem_singleton.1 h]; simp) (by rw [List.length_append, hn]; simp only [List.length_singleton]; omega)
      exact hK.out _ _ (InvG.nextL (W := W) hv 8 (.slice (some ⟨a9, 0, none⟩) (nl + 1) cap9) (put_in 8 hnd rfl) (fun j y hj h => Sp5F.keep (KeepP.grown hgl) j y (fun e => by rw [e, h0L] at hj; cases hj) h) ⟨_, _, rfl, happ⟩ ⟨(hgl.block Y (by omega) (by intro e; cases e; exact hlY rfl)).trans hY, (fun h => by simp [upd] at h), (fun h => by simp [upd, hpre 7 (by simp)]), by simpa [upd] using h76⟩))
  case o9 =>
    rintro Q' L _ W h0L hpre ⟨v, rfl, hv, hY, hJ8, h87, h76⟩ K hK
    have r7 := (eval_out (v := v) (show 7 ∉ ([136, 137, 138, 139, 140, 141, 142, 143, 144, 145] : List Nat) by decide)).trans h7
    have he : execOp (putS a [136, 137, 138, 139, 140, 141, 142, 143, 144, 145] v).eval op26_9 = execOp (Act.eval ⟨#[undef], []⟩) ⟨some 0, .fieldAddr 46 (.const (.pointer (some ⟨Y, 0, none⟩))) 2, 0, "", #[], none⟩ := by simp only [execOp, eval_const, op26_9, r7]
    refine Lid.mk ?_
    unfold Oper.wp
    rw [he]
    clear he
    go_simp
    exact hK.out _ _ (InvG.nextL (W := W) hv 9 (.pointer (some ⟨Y, 2, none⟩)) (put_in 9 hnd rfl) (fun _ _ _ h => h) rfl ⟨hY, by simpa [upd] using hJ8, by simpa [upd] using h87, by simpa [upd] using h76⟩)
  case o10 =>
    rintro Q' L _ W h0L hpre ⟨v, rfl, hv, hY, hJ8, h87, h76⟩ K hK
    obtain ⟨a9, c9, e8, happ⟩ := hv 8 (hpre 8 (by simp))
    rw [e8] at happ
    have r145 : (putS a [136, 137, 138, 139, 140, 141, 142, 143, 144, 145] v).eval (.tmp 145) = _ := (eval_in 9 hnd rfl (by omega)).trans (hv 9 (hpre 9 (by simp)))
    have r144 : (putS a [136, 137, 138, 139, 140, 141, 142, 143, 144, 145] v).eval (.tmp 144) = _ := (eval_in 8 hnd rfl (by omega)).trans e8
    have cy := cell_of_block hY 2
    simp only [List.getElem?_toArray, List.getElem?_cons_zero, List.getElem?_cons_succ] at cy
    have fy := frozen_of_block hY 2
    have HQ := hid_in (hQ v _ _ _ rfl ⟨_, _, _, rfl⟩ happ)
    clear happ
    have he : execOp (putS a [136, 137, 138, 139, 140, 141, 142, 143, 144, 145] v).eval op26_10 = execOp (Act.eval ⟨#[undef], []⟩) ⟨some 0, .store 44 (.const (.pointer (some ⟨Y, 2, none⟩))) (.const (.slice (some ⟨a9, 0, none⟩) (nl + 1) c9)), 0, "", #[], none⟩ := by simp only [execOp, eval_const, op26_10, r145, r144]
    refine Lid.mk ?_
    unfold Oper.wp
    rw [he]
    clear he
    go_simp
    exact hK.out _ _ (NoPanic.normal HQ.out)
end Go.Proofs.YtpdahhnjhggocaaGreatDoor
namespace Go.Proofs.YtpdahhnjhggocaaGreatDoor
open Go.RowKit
set_option maxHeartbeats 2000000 in
set_option maxRecDepth 10000 in
theorem region9_any {Q : Exit → Act → World → Prop} {a : Act} {W : World} {p X g n cap kk : Nat} (J : Nat → World → Prop) (B : Nat) (hrd : ∀ k W, J k W → Rd B W p k) (hx : ∀ k W, J k W → W.cell? ⟨X, 0, none⟩ = some (.slice (some ⟨g, 0, none⟩) n cap)) (hgr : ∀ k k' W W', J k W → W.grownBy W' (some p) → Rd B W' p k' → J k' W') (hdr : ∀ k W, J k W → J k W.drew) (hJ : J kk W) (hk : kk ≤ 900000) (hn61 : n ≤ 1000) (h0 : a.eval (.tmp 0) = .pointer (some ⟨p, 0, none⟩)) (h5 : a.eval (.tmp 5) = .pointer (some ⟨X, 0, none⟩)) (hsz : a.tmps.size = 199)
    (hQ : ∀ v b k' W' a', a' = putS a [39, 40, 41, 42, 43, 44, 45] v → v 6 = .bool b → (b = true → n ≤ 60) → k' ≤ kk + 1 → J k' W' → Q .normal a' W') : (Code.region 9 ops9.toArray true).wp Tryz.prog Q a W := by
  have hnd : ([39, 40, 41, 42, 43, 44, 45] : List Nat).Nodup := by decide
  refine wp_region_invE0 [39, 40, 41, 42, 43, 44, 45] (fun i x _ => Sp9F p X g n cap i x) (SpG J 4 kk 1) 7 [0, 1, 2, 3, 4, 5, 6] (by kernel_rfl) rfl (by decide) (by kernel_rfl) ?h1 ⟨_, Nat.le_refl _, hdr _ _ hJ⟩ ?hall ?hend
  case h1 =>
    intro i x W hi
    unfold Sp9F
    split <;> first | omega | trivial
  case hend =>
    intro v W' L hL hv hg
    obtain ⟨k', hk', hJ'⟩ := hg.get
    obtain ⟨b, e6, hb⟩ := hv 6
    exact NoPanic.normal (hQ v b k' W' _ rfl e6 hb hk' hJ')
  refine AllInv.consQ (o := op9_0) [] (by kernel_rfl) (by decide) (by kernel_rfl) rfl ?o0 (AllInv.consQ (o := op9_1) [0] (by kernel_rfl) (by decide) (by kernel_rfl) rfl ?o1 (AllInv.consQ (o := op9_2) [1] (by kernel_rfl) (by decide) (by kernel_rfl) rfl ?o2 (AllInv.consQ (o := op9_3) [] (by kernel_rfl) (by decide) (by kernel_rfl) rfl ?o3 (AllInv.consQ (o := op9_4) [3] (by kernel_rfl) (by decide) (by kernel_rfl) rfl ?o4 (AllInv.consQ (o := op9_5) [4] (by kernel_rfl) (by decide) (by kernel_rfl) rfl ?o5 (AllInv.consQ (o := op9_6) [2, 5] (by kernel_rfl) (by decide) (by kernel_rfl) rfl ?o6 AllInv.nil))))))
  case o0 =>
    rintro Q' L _ W h0L hpre ⟨v, rfl, hv, hg⟩ K hK
    have r5 := (eval_out (v := v) (show 5 ∉ ([39, 40, 41, 42, 43, 44, 45] : List Nat) by decide)).trans h5
    have he : execOp (putS a [39, 40, 41, 42, 43, 44, 45] v).eval op9_0 = execOp (Act.eval ⟨#[undef], []⟩) ⟨some 0, .fieldAddr 25 (.const (.pointer (some ⟨X, 0, none⟩))) 0, 0, "", #[], none⟩ := by simp only [execOp, eval_const, op9_0, r5]
    refine Lid.mk ?_
    unfold Oper.wp
    rw [he]
    clear he
    go_simp
    exact hK.out _ _ (InvG.next (W := W) hv 0 (.pointer (some ⟨X, 0, none⟩)) (put_in 0 hnd rfl) (fun _ _ h => h) rfl (hg.keep (by decide) fun _ h => h))
  case o1 =>
    rintro Q' L _ W h0L hpre ⟨v, rfl, hv, hg⟩ K hK
    obtain ⟨k', hk', hJ'⟩ := hg.get
    have cy := hx _ _ hJ'
    have r39 : (putS a [39, 40, 41, 42, 43, 44, 45] v).eval (.tmp 39) = _ := (eval_in 0 hnd rfl (by omega)).trans (hv 0 (hpre 0 (by simp)))
    have he : execOp (putS a [39, 40, 41, 42, 43, 44, 45] v).eval op9_1 = execOp (Act.eval ⟨#[undef], []⟩) ⟨some 0, .load 23 (.const (.pointer (some ⟨X, 0, none⟩))), 0, "", #[], none⟩ := by simp only [execOp, eval_const, op9_1, r39]
    refine Lid.mk ?_
    unfold Oper.wp
    rw [he]
    clear he
    go_simp
    exact hK.out _ _ (InvG.next (W := W) hv 1 (.slice (some ⟨g, 0, none⟩) n cap) (put_in 1 hnd rfl) (fun _ _ h => h) rfl (hg.keep (by decide) fun _ h => h))
  case o2 =>
    rintro Q' L _ W h0L hpre ⟨v, rfl, hv, hg⟩ K hK
    have r40 : (putS a [39, 40, 41, 42, 43, 44, 45] v).eval (.tmp 40) = _ := (eval_in 1 hnd rfl (by omega)).trans (hv 1 (hpre 1 (by simp)))
    refine Lid.mk ?_
    unfold Oper.wp
    simp only [execOp, op9_2, resolve, List.map_toArray, List.map_cons, List.map_nil, r40]
    go_simp
    exact hK.out _ _ (InvG.next (W := W) hv 2 (.int .i64 (n : Int)) (put_in 2 hnd rfl) (fun _ _ h => h) rfl (hg.keep (by decide) fun _ h => h))
  case o3 =>
    rintro Q' L _ W h0L hpre ⟨v, rfl, hv, hg⟩ K hK
    have r0 := (eval_out (v := v) (show 0 ∉ ([39, 40, 41, 42, 43, 44, 45] : List Nat) by decide)).trans h0
    have he : execOp (putS a [39, 40, 41, 42, 43, 44, 45] v).eval op9_3 = execOp (Act.eval ⟨#[undef], []⟩) ⟨some 0, .move (.const (.pointer (some ⟨p, 0, none⟩))), 0, "", #[], none⟩ := by simp only [execOp, eval_const, op9_3, r0]
    refine Lid.mk ?_
    unfold Oper.wp
    rw [he]
    clear he
    go_simp
    exact hK.out _ _ (InvG.next (W := W) hv 3 (.pointer (some ⟨p, 0, none⟩)) (put_in 3 hnd rfl) (fun _ _ h => h) rfl (hg.keep (by decide) fun _ h => h))
  case o4 =>
    rintro Q' L _ W h0L hpre ⟨v, rfl, hv, hg⟩ K hK
    have r42 : (putS a [39, 40, 41, 42, 43, 44, 45] v).eval (.tmp 42) = _ := (eval_in 3 hnd rfl (by omega)).trans (hv 3 (hpre 3 (by simp)))
    obtain ⟨k', hk', hJ'⟩ := hg.get0 h0L
    have HP := pick_any B p k' 2 W (hrd _ _ hJ') (by omega) (by omega) (by omega)
    have he : execOp (putS a [39, 40, 41, 42, 43, 44, 45] v).eval op9_4 = execOp (Act.eval ⟨#[undef], []⟩) ⟨some 0, .call { callee := .value (.func 44), args := #[.const (.pointer (some ⟨p, 0, none⟩)), .const (.int .i64 2)], argTypes := #[65, 3] }, 0, "", #[], none⟩ := by simp only [execOp, eval_const, eval_func, op9_4, resolve, List.map_toArray, List.map_cons, List.map_nil, r42]
    refine Lid.mk ?_
    unfold Oper.wp
    rw [he]
    clear he
    go_simp
    refine HP.mono ?_
    rintro e W' ⟨y, hy, rfl, hr', hg'⟩
    exact hK.out _ _ (InvG.next (W := W) hv 4 (.int .i64 (y : Int)) (put_in 4 hnd rfl) (fun _ _ h => h) ⟨y, hy, rfl⟩ (SpG.put hk' (Nat.le_refl _) (hgr _ _ _ _ hJ' hg' hr')))
  case o5 =>
    rintro Q' L _ W h0L hpre ⟨v, rfl, hv, hg⟩ K hK
    obtain ⟨y, hy, e4⟩ := hv 4 (hpre 4 (by simp))
    have r43 : (putS a [39, 40, 41, 42, 43, 44, 45] v).eval (.tmp 43) = _ := (eval_in 4 hnd rfl (by omega)).trans e4
    refine Lid.mk ?_
    unfold Oper.wp
    simp only [execOp, eval_const, op9_5, r43]
    go_simp
    rw [show IntKind.i64.wrap (60 + (y : Int)) = 60 + (y : Int) by rw [IntKind.wrap_i64]; omega]
    exact hK.out _ _ (InvG.next (W := W) hv 5 (.int .i64 (60 + (y : Int))) (put_in 5 hnd rfl) (fun _ _ h => h) ⟨y, hy, rfl⟩ (hg.keep (by decide) fun _ h => h))
  case o6 =>
    rintro Q' L _ W h0L hpre ⟨v, rfl, hv, hg⟩ K hK
    have e2 : v 2 = _ := hv 2 (hpre 2 (by simp))
    obtain ⟨y, hy, e5⟩ := hv 5 (hpre 5 (by simp))
    have r41 : (putS a [39, 40, 41, 42, 43, 44, 45] v).eval (.tmp 41) = _ := (eval_in 2 hnd rfl (by omega)).trans e2
    have r44 : (putS a [39, 40, 41, 42, 43, 44, 45] v).eval (.tmp 44) = _ := (eval_in 5 hnd rfl (by omega)).trans e5
    refine Lid.mk ?_
    unfold Oper.wp
    simp only [execOp, op9_6, r41, r44]
    go_simp
    exact hK.out _ _ (InvG.next (W := W) hv 6 (.bool (decide ((n : Int) < 60 + (y : Int)))) (put_in 6 hnd rfl) (fun _ _ h => h) ⟨_, rfl, fun h => by have := of_decide_eq_true h; omega⟩ (hg.keep (by decide) fun _ h => h))
end Go.Proofs.YtpdahhnjhggocaaGreatDoor
namespace Go.Proofs.YtpdahhnjhggocaaGreatDoor
open Go.RowKit
structure NrS (B p : Nat) (w1 : World) (S : Nat) (kk : Nat) (v : Value) (bs : List BAt) (W : World) : Prop where
  rd : Rd B W p kk
  gr : w1.grownBy W (some p)
  box : W.heap[S]? = some (.cells #[v] 25 (0, 0))
  Sge : w1.heap.size ≤ S
  plt : p < w1.heap.size
  bin : BlocksIn W v bs
  abv : ∀ q, q < w1.heap.size → BlocksFar q v bs
  farS : BlocksFar S v bs
  small : ∀ b ∈ bs, SmallX b.name b.ls
theorem NrS.Slt {B p S kk : Nat} {w1 W : World} {v : Value} {bs : List BAt} (h : NrS B p w1 S kk v bs W) : S < W.heap.size := (Array.getElem?_eq_some_iff.1 h.box).1
theorem NrS.grown {B p S kk kk' : Nat} {w1 W W' : World} {v : Value} {bs : List BAt} (h : NrS B p w1 S kk v bs W) (g : W.grownBy W' (some p)) (r : Rd B W' p kk') : NrS B p w1 S kk' v bs W' :=
  ⟨r, grown_trans h.gr g, KeepP.grown g S _ (Nat.lt_of_lt_of_le h.plt h.Sge) h.box, h.Sge, h.plt, h.bin.far (h.abv p h.plt) g, h.abv, h.farS, h.small⟩
theorem NrS.below {B p S kk : Nat} {w1 W W' : World} {v : Value} {bs : List BAt} (h : NrS B p w1 S kk v bs W) (hb : Below W.heap.size W W') : NrS B p w1 S kk v bs W' :=
  ⟨h.rd.below hb, grown_trans h.gr (grown_of_below hb _), by rw [hb.block S h.Slt]; exact h.box, h.Sge, h.plt, h.bin.below hb, h.abv, h.farS, h.small⟩
theorem NrS.turn {B p S R kk : Nat} {w1 W W' : World} {v : Value} {bs : List BAt} (h : NrS B p w1 S kk v bs W) (hg : W.grownBy W' (some R)) (hR : w1.heap.size ≤ R) (hRS : R ≠ S) (hf : BlocksFar R v bs) : NrS B p w1 S kk v bs W' := by
  have hpR := Nat.lt_of_lt_of_le h.plt hR
  refine ⟨Kept.rd h.rd (Kept.of_grown (S := [R]) hg (fun g hg => by cases hg; simp)) (fun i hi => by rw [List.mem_singleton.1 hi]; exact hpR), ⟨hg.os.trans h.gr.os, hg.tape.trans h.gr.tape, hg.output.trans h.gr.output, Nat.le_trans h.gr.size hg.size, fun i hi hne => ?_⟩, (hg.block S h.Slt (by intro e; exact hRS (Option.some.inj e).symm)).trans h.box, h.Sge, h.plt, h.bin.far hf hg, h.abv, h.farS, h.small⟩
  have := h.gr.size
  rw [hg.block i (by omega) (by intro e; have := Option.some.inj e; omega)]; exact h.gr.block i hi hne
theorem NrS.put {B p S kk : Nat} {w1 W : World} {v : Value} {bs : List BAt} (h : NrS B p w1 S kk v bs W) {v' : Value} {bs' : List BAt} (hl : BlocksIn W v' bs') (fp : ∀ q, q < w1.heap.size → BlocksFar q v' bs') (fS : BlocksFar S v' bs') (hs : ∀ x ∈ bs', SmallX x.name x.ls) : NrS B p w1 S kk v' bs' (W.setRow S #[v']) := by
  have gs := grown_setRow W S #[v']
  have hpS := Nat.lt_of_lt_of_le h.plt h.Sge
  refine ⟨Kept.rd h.rd (Kept.of_grown (S := [S]) gs (fun g hg => by cases hg; simp)) (fun i hi => by rw [List.mem_singleton.1 hi]; exact hpS), ⟨h.gr.os, h.gr.tape, h.gr.output, by rw [setRow_size]; exact h.gr.size, fun i hi hne => ?_⟩, setRow_heap _ _ _ _ _ _ h.box, h.Sge, h.plt, hl.far fS gs, fp, fS, hs⟩
  have := h.Sge
  rw [setRow_other _ _ _ _ (by omega)]; exact h.gr.block i hi hne
theorem NrS.out {d B p S kk k n c : Nat} {w w1 W W' : World} {a : Option Addr} {v : Value} {bs bs5 : List BAt} (h : NrS B p w1 S kk v bs W) (hs1 : w1.heap.size = w.heap.size + 2) (hw : w.grownBy w1 (some p)) (hp : p < w.heap.size) (hk : kk ≤ k + d) (hl : bs.length ≤ 62) (he : bs5.map BAt.plain = bs.map BAt.plain) (ho : BlocksOwn W.heap.size W' (.slice a n c) bs5) (hb : Below W.heap.size W W') (cs : Array Value) : Spoilt d B p k w (.returned (.agg #[.slice a n c])) (W'.setRow (w.heap.size + 1) cs) := by
  have gs := grown_setRow W' (w.heap.size + 1) cs
  have h5 := h.below hb
  have hz := h.gr.size
  have hO := (ho.setRow (w.heap.size + 1) (by omega) cs).mono (show w.heap.size ≤ W.heap.size by omega)
  have hlen : bs5.length = bs.length := by have := congrArg List.length he; simpa using this
  refine ⟨a, n, c, bs5, kk, rfl, hk, Kept.rd h5.rd (Kept.of_grown (S := [w.heap.size + 1]) gs (fun g hg => by cases hg; simp)) (fun i hi => by rw [List.mem_singleton.1 hi]; omega), ⟨h5.gr.os.trans hw.os, h5.gr.tape.trans hw.tape, h5.gr.output.trans hw.output, ?_, fun i hi hne => ?_⟩, hO.bin, ⟨BlocksSmall.same ⟨by omega, h.small⟩ he, by omega⟩, fun q hq => hO.far hq⟩
  · rw [setRow_size]; have := h5.gr.size; omega
  · rw [setRow_other _ _ _ _ (by omega), h5.gr.block i (by omega) hne]; exact hw.block i hi hne
structure NrY (c S Y : Nat) (bk bn : ByteArray) (bv : Value) (ls : List LAt) (W : World) : Prop where
  box : W.heap[Y]? = some (.cells #[.string bk, .string bn, bv] 46 (0, 0))
  cY : c ≤ Y
  YS : Y ≠ S
  free : LFree c [S, Y] W bv ls
  small : SmallX bn ls
theorem NrY.lt {c S Y : Nat} {bk bn : ByteArray} {bv : Value} {ls : List LAt} {W : World} (h : NrY c S Y bk bn bv ls W) : Y < W.heap.size := (Array.getElem?_eq_some_iff.1 h.box).1
theorem NrY.below {c S Y : Nat} {bk bn : ByteArray} {bv : Value} {ls : List LAt} {W W' : World} (h : NrY c S Y bk bn bv ls W) (hb : Below W.heap.size W W') : NrY c S Y bk bn bv ls W' :=
  ⟨(hb.block Y h.lt).trans h.box, h.cY, h.YS, h.free.below hb, h.small⟩
theorem NrY.grown {c S Y p : Nat} {bk bn : ByteArray} {bv : Value} {ls : List LAt} {W W' : World} (h : NrY c S Y bk bn bv ls W) (hg : W.grownBy W' (some p)) (hp : p < c) : NrY c S Y bk bn bv ls W' := by
  have := h.cY
  exact ⟨(hg.block Y h.lt (by intro e; have := Option.some.inj e; omega)).trans h.box, h.cY, h.YS, h.free.grown hg (.inl hp), h.small⟩
theorem NrY.put {c S Y : Nat} {bk bn bk' bn' : ByteArray} {bv bv' : Value} {ls ls' : List LAt} {W W' : World} (h : NrY c S Y bk bn bv ls W) (hg : W.grownBy W' (some Y)) (hy : W'.heap[Y]? = some (.cells #[.string bk', .string bn', bv'] 46 (0, 0))) (hf : LFree c [S, Y] W bv' ls') (hs : SmallX bn' ls') : NrY c S Y bk' bn' bv' ls' W' :=
  ⟨hy, h.cY, h.YS, hf.grown hg (.inr (by simp)), hs⟩
end Go.Proofs.YtpdahhnjhggocaaGreatDoor
