import Derived.Test.YtpdahhnjhggocaaGreatDoorBun41
namespace Go.Proofs.YtpdahhnjhggocaaGreatDoor
open Go.RowKit
set_option maxHeartbeats 2000000 in
set_option maxRecDepth 10000 in
theorem region23_any {Q : Exit → Act → World → Prop} {a : Act} {W : World} {B p c X Y l nl yc nI : Nat} {w1 : World} {D T : List BAt} {yk yn : ByteArray} {A E : List LAt} {r nw wc : Nat} {xk : ByteArray} {s : List UInt8} {ss : List (List UInt8)} {g n cap kk : Nat} {bk bn : ByteArray} (hJ : SpO B p c X Y w1 D T ⟨yk, yn, .slice (some ⟨l, 0, none⟩) nl yc, A ++ ⟨xk, .slice (some ⟨r, 0, none⟩) nw wc, s :: ss⟩ :: E⟩ g n cap bk bn kk W) (hk : kk ≤ 800000) (hA : A.length = nI) (hn : (A ++ ⟨xk, .slice (some ⟨r, 0, none⟩) nw wc, s :: ss⟩ :: E).length = nl) (hnw : (s :: ss).length = nw) (h0 : a.eval (.tmp 0) = .pointer (some ⟨p, 0, none⟩)) (h7 : a.eval (.tmp 7) = .pointer (some ⟨Y, 0, none⟩)) (h8 : a.eval (.tmp 8) = .int .i64 (nI : Int)) (hsz : a.tmps.size = 199)
    (hQ : ∀ v (t : ByteArray) k' W' a', a' = putS a [121, 122, 123, 124, 125, 126, 127, 128, 129] v → k' ≤ kk + 2 → SpJ B p c X Y w1 D T ⟨yk, yn, .slice (some ⟨l, 0, none⟩) nl yc, A ++ ⟨xk, .slice (some ⟨r, 0, none⟩) nw wc, s :: ss⟩ :: E⟩ g n cap k' bk bn (.slice (some ⟨l, 0, none⟩) nl yc) (A ++ ⟨xk, .slice (some ⟨r, 0, none⟩) nw wc, t.data.toList :: ss⟩ :: E) W' → Q .normal a' W') : (Code.region 23 ops23.toArray true).wp Tryz.prog Q a W := by
  have hnd : ([121, 122, 123, 124, 125, 126, 127, 128, 129] : List Nat).Nodup := by decide
  have hIn : nI < nl := by rw [← hn, ← hA]; simp
  have i3 : (0 : Int) ≤ (nI : Int) := by omega
  have i4 : (nI : Int) < (nl : Int) := by omega
  have i5 : (0 : Int) < (nw : Int) := by rw [← hnw]; simp
  have i6 : 0 < nw := by omega
  refine wp_region_invS0 [121, 122, 123, 124, 125, 126, 127, 128, 129] (fun i x _ => Sp4F p Y l nI r nw wc (.slice (some ⟨l, 0, none⟩) nl yc) i x) (SpG (SpO B p c X Y w1 D T ⟨yk, yn, .slice (some ⟨l, 0, none⟩) nl yc, A ++ ⟨xk, .slice (some ⟨r, 0, none⟩) nw wc, s :: ss⟩ :: E⟩ g n cap bk bn) 7 kk 2) 9 10 [0, 1, 2, 3, 4, 5, 6, 7, 8, 9] (by kernel_rfl) rfl (by decide) (by kernel_rfl) ?h1 ⟨_, Nat.le_refl _, hJ.below (Below.refl _ _).drew⟩ ?hall
  case h1 =>
    intro i x W hi
    unfold Sp4F
    split <;> first | omega | trivial
  refine AllInv.consQ (o := op23_0) [] (by kernel_rfl) (by decide) (by kernel_rfl) rfl ?o0 (AllInv.consQ (o := op23_1) [0] (by kernel_rfl) (by decide) (by kernel_rfl) rfl ?o1 (AllInv.consQ (o := op23_2) [] (by kernel_rfl) (by decide) (by kernel_rfl) rfl ?o2 (AllInv.consQ (o := op23_3) [1, 2] (by kernel_rfl) (by decide) (by kernel_rfl) rfl ?o3 (AllInv.consQ (o := op23_4) [3] (by kernel_rfl) (by decide) (by kernel_rfl) rfl ?o4 (AllInv.consQ (o := op23_5) [4] (by kernel_rfl) (by decide) (by kernel_rfl) rfl ?o5 (AllInv.consQ (o := op23_6) [] (by kernel_rfl) (by decide) (by kernel_rfl) rfl ?o6 (AllInv.consQ (o := op23_7) [6] (by kernel_rfl) (by decide) (by kernel_rfl) rfl ?o7 (AllInv.consQ (o := op23_8) [5, 0, 1, 2, 3, 4, 5, 6, 7] (by kernel_rfl) (by decide) (by kernel_rfl) rfl ?o8 (AllInv.lastQ (o := op23_9) [8, 7, 7, 0, 1, 2, 3, 4, 5, 6, 7] (by kernel_rfl) (by kernel_rfl) rfl ?o9)))))))))
  case o0 =>
    rintro Q' L _ W h0L hpre ⟨v, rfl, hv, hg⟩ K hK
    have r7 := (eval_out (v := v) (show 7 ∉ ([121, 122, 123, 124, 125, 126, 127, 128, 129] : List Nat) by decide)).trans h7
    have he : execOp (putS a [121, 122, 123, 124, 125, 126, 127, 128, 129] v).eval op23_0 = execOp (Act.eval ⟨#[undef], []⟩) ⟨some 0, .fieldAddr 46 (.const (.pointer (some ⟨Y, 0, none⟩))) 2, 0, "", #[], none⟩ := by simp only [execOp, eval_const, op23_0, r7]
    refine Lid.mk ?_
    unfold Oper.wp
    rw [he]
    clear he
    go_simp
    exact hK.out _ _ (InvG.next (W := W) hv 0 (.pointer (some ⟨Y, 2, none⟩)) (put_in 0 hnd rfl) (fun _ _ h => h) rfl (hg.keep (by decide) fun _ h => h))
  case o1 =>
    rintro Q' L _ W h0L hpre ⟨v, rfl, hv, hg⟩ K hK
    obtain ⟨k', hk', hJ'⟩ := hg.get
    have cy := cellY hJ'
    have r121 : (putS a [121, 122, 123, 124, 125, 126, 127, 128, 129] v).eval (.tmp 121) = _ := (eval_in 0 hnd rfl (by omega)).trans (hv 0 (hpre 0 (by simp)))
    have he : execOp (putS a [121, 122, 123, 124, 125, 126, 127, 128, 129] v).eval op23_1 = execOp (Act.eval ⟨#[undef], []⟩) ⟨some 0, .load 44 (.const (.pointer (some ⟨Y, 2, none⟩))), 0, "", #[], none⟩ := by simp only [execOp, eval_const, op23_1, r121]
    refine Lid.mk ?_
    unfold Oper.wp
    rw [he]
    clear he
    go_simp
    exact hK.out _ _ (InvG.next (W := W) hv 1 (.slice (some ⟨l, 0, none⟩) nl yc) (put_in 1 hnd rfl) (fun _ _ h => h) rfl (hg.keep (by decide) fun _ h => h))
  case o2 =>
    rintro Q' L _ W h0L hpre ⟨v, rfl, hv, hg⟩ K hK
    have r8 := (eval_out (v := v) (show 8 ∉ ([121, 122, 123, 124, 125, 126, 127, 128, 129] : List Nat) by decide)).trans h8
    have he : execOp (putS a [121, 122, 123, 124, 125, 126, 127, 128, 129] v).eval op23_2 = execOp (Act.eval ⟨#[undef], []⟩) ⟨some 0, .move (.const (.int .i64 (nI : Int))), 0, "", #[], none⟩ := by simp only [execOp, eval_const, op23_2, r8]
    refine Lid.mk ?_
    unfold Oper.wp
    rw [he]
    clear he
    go_simp
    exact hK.out _ _ (InvG.next (W := W) hv 2 (.int .i64 (nI : Int)) (put_in 2 hnd rfl) (fun _ _ h => h) rfl (hg.keep (by decide) fun _ h => h))
  case o3 =>
    rintro Q' L _ W h0L hpre ⟨v, rfl, hv, hg⟩ K hK
    have r122 : (putS a [121, 122, 123, 124, 125, 126, 127, 128, 129] v).eval (.tmp 122) = _ := (eval_in 1 hnd rfl (by omega)).trans (hv 1 (hpre 1 (by simp)))
    have r123 : (putS a [121, 122, 123, 124, 125, 126, 127, 128, 129] v).eval (.tmp 123) = _ := (eval_in 2 hnd rfl (by omega)).trans (hv 2 (hpre 2 (by simp)))
    have he : execOp (putS a [121, 122, 123, 124, 125, 126, 127, 128, 129] v).eval op23_3 = execOp (Act.eval ⟨#[undef], []⟩) ⟨some 0, .indexAddr 44 (.const (.slice (some ⟨l, 0, none⟩) nl yc)) (.const (.int .i64 (nI : Int))), 0, "", #[], none⟩ := by simp only [execOp, eval_const, op23_3, r122, r123]
    refine Lid.mk ?_
    unfold Oper.wp
    rw [he]
    clear he
    go_simp
    exact hK.out _ _ (InvG.next (W := W) hv 3 (.pointer (some ⟨l, nI * 2, none⟩)) (put_in 3 hnd rfl) (fun _ _ h => h) rfl (hg.keep (by decide) fun _ h => h))
  case o4 =>
    rintro Q' L _ W h0L hpre ⟨v, rfl, hv, hg⟩ K hK
    have r124 : (putS a [121, 122, 123, 124, 125, 126, 127, 128, 129] v).eval (.tmp 124) = _ := (eval_in 3 hnd rfl (by omega)).trans (hv 3 (hpre 3 (by simp)))
    have he : execOp (putS a [121, 122, 123, 124, 125, 126, 127, 128, 129] v).eval op23_4 = execOp (Act.eval ⟨#[undef], []⟩) ⟨some 0, .fieldAddr 115 (.const (.pointer (some ⟨l, nI * 2, none⟩))) 1, 0, "", #[], none⟩ := by simp only [execOp, eval_const, op23_4, r124]
    refine Lid.mk ?_
    unfold Oper.wp
    rw [he]
    clear he
    go_simp
    exact hK.out _ _ (InvG.next (W := W) hv 4 (.pointer (some ⟨l, nI * 2 + 1, none⟩)) (put_in 4 hnd rfl) (fun _ _ h => h) rfl (hg.keep (by decide) fun _ h => h))
  case o5 =>
    rintro Q' L _ W h0L hpre ⟨v, rfl, hv, hg⟩ K hK
    obtain ⟨k', hk', hJ'⟩ := hg.get
    have cl := hJ'.2.bm.lines.cell 1 (by decide)
    simp only [LAt.cells, List.getElem?_cons_zero, List.getElem?_cons_succ, hA] at cl
    have r125 : (putS a [121, 122, 123, 124, 125, 126, 127, 128, 129] v).eval (.tmp 125) = _ := (eval_in 4 hnd rfl (by omega)).trans (hv 4 (hpre 4 (by simp)))
    have he : execOp (putS a [121, 122, 123, 124, 125, 126, 127, 128, 129] v).eval op23_5 = execOp (Act.eval ⟨#[undef], []⟩) ⟨some 0, .load 52 (.const (.pointer (some ⟨l, nI * 2 + 1, none⟩))), 0, "", #[], none⟩ := by simp only [execOp, eval_const, op23_5, r125]
    refine Lid.mk ?_
    unfold Oper.wp
    rw [he]
    clear he
    go_simp
    exact hK.out _ _ (InvG.next (W := W) hv 5 (.slice (some ⟨r, 0, none⟩) nw wc) (put_in 5 hnd rfl) (fun _ _ h => h) rfl (hg.keep (by decide) fun _ h => h))
  case o6 =>
    rintro Q' L _ W h0L hpre ⟨v, rfl, hv, hg⟩ K hK
    have r0 := (eval_out (v := v) (show 0 ∉ ([121, 122, 123, 124, 125, 126, 127, 128, 129] : List Nat) by decide)).trans h0
    have he : execOp (putS a [121, 122, 123, 124, 125, 126, 127, 128, 129] v).eval op23_6 = execOp (Act.eval ⟨#[undef], []⟩) ⟨some 0, .move (.const (.pointer (some ⟨p, 0, none⟩))), 0, "", #[], none⟩ := by simp only [execOp, eval_const, op23_6, r0]
    refine Lid.mk ?_
    unfold Oper.wp
    rw [he]
    clear he
    go_simp
    exact hK.out _ _ (InvG.next (W := W) hv 6 (.pointer (some ⟨p, 0, none⟩)) (put_in 6 hnd rfl) (fun _ _ h => h) rfl (hg.keep (by decide) fun _ h => h))
  case o7 =>
    rintro Q' L _ W h0L hpre ⟨v, rfl, hv, hg⟩ K hK
    have r127 : (putS a [121, 122, 123, 124, 125, 126, 127, 128, 129] v).eval (.tmp 127) = _ := (eval_in 6 hnd rfl (by omega)).trans (hv 6 (hpre 6 (by simp)))
    obtain ⟨k', hk', hJ'⟩ := hg.get0 h0L
    have HP := l2Odd_any B p k' W hJ'.1.rd (by omega)
    have he : execOp (putS a [121, 122, 123, 124, 125, 126, 127, 128, 129] v).eval op23_7 = execOp (Act.eval ⟨#[undef], []⟩) ⟨some 0, .call { callee := .value (.func 164), args := #[.const (.pointer (some ⟨p, 0, none⟩))], argTypes := #[65] }, 0, "", #[], none⟩ := by simp only [execOp, eval_const, eval_func, op23_7, resolve, List.map_toArray, List.map_cons, List.map_nil, r127]
    refine Lid.mk ?_
    unfold Oper.wp
    rw [he]
    clear he
    go_simp
    refine HP.mono ?_
    rintro e W' ⟨t, k2, ht, hk2, rfl, hr', hg'⟩
    exact hK.out _ _ (InvG.next (W := W) hv 7 (.string t) (put_in 7 hnd rfl) (fun _ _ h => h) ⟨t, ht, rfl⟩ (SpG.put hk' hk2 (hJ'.grown hg' hr')))
  case o8 =>
    rintro Q' L _ W h0L hpre ⟨v, rfl, hv, hg⟩ K hK
    have r126 : (putS a [121, 122, 123, 124, 125, 126, 127, 128, 129] v).eval (.tmp 126) = _ := (eval_in 5 hnd rfl (by omega)).trans (hv 5 (hpre 5 (by simp)))
    have he : execOp (putS a [121, 122, 123, 124, 125, 126, 127, 128, 129] v).eval op23_8 = execOp (Act.eval ⟨#[undef], []⟩) ⟨some 0, .indexAddr 52 (.const (.slice (some ⟨r, 0, none⟩) nw wc)) (.const (.int .i64 0)), 0, "", #[], none⟩ := by simp only [execOp, eval_const, op23_8, r126]
    refine Lid.mk ?_
    unfold Oper.wp
    rw [he]
    clear he
    go_simp
    exact hK.out _ _ (InvG.next (W := W) hv 8 (.pointer (some ⟨r, 0, none⟩)) (put_in 8 hnd rfl) (fun _ _ h => h) rfl (hg.keep (by decide) fun _ h => h))
  case o9 =>
    rintro Q' L _ W h0L hpre ⟨v, rfl, hv, hg⟩ K hK
    obtain ⟨t, ht, e7⟩ := hv 7 (hpre 7 (by simp))
    have r129 : (putS a [121, 122, 123, 124, 125, 126, 127, 128, 129] v).eval (.tmp 129) = _ := (eval_in 8 hnd rfl (by omega)).trans (hv 8 (hpre 8 (by simp)))
    have r128 : (putS a [121, 122, 123, 124, 125, 126, 127, 128, 129] v).eval (.tmp 128) = _ := (eval_in 7 hnd rfl (by omega)).trans e7
    obtain ⟨k', hk', hJ'⟩ := hg.get
    have hwr := hJ'.2.bm.lines.words
    simp only [hnw] at hwr
    have cl := hwr.cellAt 0 (by have := i5; omega)
    simp only [strs, List.map_cons, List.getElem?_cons_zero] at cl
    have fl := hwr.frozenAt 0
    have HS := hid_in (SpJ.word hJ'.1 hJ'.2 t ht)
    have he : execOp (putS a [121, 122, 123, 124, 125, 126, 127, 128, 129] v).eval op23_9 = execOp (Act.eval ⟨#[undef], []⟩) ⟨some 0, .store 9 (.const (.pointer (some ⟨r, 0, none⟩))) (.const (.string t)), 0, "", #[], none⟩ := by simp only [execOp, eval_const, op23_9, r129, r128]
    refine Lid.mk ?_
    unfold Oper.wp
    rw [he]
    clear he
    go_simp
    exact hK.out _ _ (NoPanic.normal (hQ v t k' _ _ rfl hk' HS.out))
end Go.Proofs.YtpdahhnjhggocaaGreatDoor
