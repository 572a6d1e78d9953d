import Derived.Test.YtpdahhnjhggocabGreatDoorBun28
import Derived.Test.YtpdahhnjhggocabGreatDoorBun22
import Derived.RangeFuncBox
namespace Go.Proofs.YtpdahhnjhggocabGreatDoor
open Go.RowKit
/-- A sheet of the call's own, seen as what it says. -/
def InPost (T : List PBlock) (v : Value) (W : World) : Prop := ∃ bs, bs.map BAt.plain = T ∧ BlocksOwn 0 W v bs
theorem InPost.below {T : List PBlock} {v : Value} {W W' : World} (h : InPost T v W) (hb : Below W.heap.size W W') : InPost T v W' := by
  obtain ⟨bs, h1, h2⟩ := h
  exact ⟨bs, h1, h2.below hb⟩
theorem brows_types {v : Value} {bs : List BAt} {r : MRow} (h : r ∈ brows v bs) : r.e = 64 ∨ r.e = 82 ∨ r.e = 9 := by
  rcases List.mem_cons.1 h with rfl | h
  · exact .inl rfl
  · obtain ⟨b, _, h⟩ := List.mem_flatMap.1 h
    rcases List.mem_cons.1 h with rfl | h
    · exact .inr (.inl rfl)
    · obtain ⟨x, _, rfl⟩ := List.mem_map.1 h
      exact .inr (.inr rfl)
/-- A store into a box of a sheet turns no row that a sheet leads to. -/
theorem InPost.box {T : List PBlock} {v : Value} {W : World} {g : Nat} {u : Value} (h : InPost T v W) (hg : Boxed W g 24 u) (u' : Value) : InPost T v (W.setCell ⟨g, 0, none⟩ u') := by
  obtain ⟨bs, h1, h2⟩ := h
  refine ⟨bs, h1, fun r hr => World.ownsRow.kept (h2.1 r hr) (grownBy_setCell' W g u') (.inr fun e => ?_), h2.2⟩
  refine hg.not_row (e := r.e) ?_ (h2.1 r hr) e.symm
  rcases brows_types hr with e | e | e <;> rw [e] <;> decide
def opp8_0 : Oper := { dst := some 24, op := Op.load 35 (Operand.tmp 2), type := 35, pos := "exact.go:1001", after := #[], guard := none }
def opp8_1 : Oper := { dst := some 25, op := Op.call { callee := Callee.value (Operand.func 20), args := #[Operand.tmp 24], argTypes := #[35] }, type := 24, pos := "exact.go:1001", after := #[{ on := 0, ground := Ground.data }], guard := none }
def opp8_2 : Oper := { dst := some 26, op := Op.load 35 (Operand.tmp 3), type := 35, pos := "exact.go:1001", after := #[], guard := none }
def opp8_3 : Oper := { dst := some 27, op := Op.call { callee := Callee.value (Operand.func 20), args := #[Operand.tmp 26], argTypes := #[35] }, type := 24, pos := "exact.go:1001", after := #[{ on := 2, ground := Ground.data }, { on := 1, ground := Ground.chain }], guard := none }
def opp8_4 : Oper := { dst := some 28, op := Op.call { callee := Callee.value (Operand.func 31), args := #[Operand.tmp 25, Operand.tmp 27], argTypes := #[24, 24] }, type := 24, pos := "exact.go:1001", after := #[{ on := 1, ground := Ground.data }, { on := 3, ground := Ground.data }, { on := 3, ground := Ground.chain }], guard := none }
def opp8_5 : Oper := { dst := some 6, op := Op.alloc 24, type := 0, pos := "exact.go:1001", after := #[], guard := none }
def opp8_6 : Oper := { dst := none, op := Op.store 24 (Operand.tmp 6) (Operand.tmp 28), type := 0, pos := "exact.go:1001", after := #[{ on := 5, ground := Ground.data }, { on := 4, ground := Ground.data }, { on := 4, ground := Ground.chain }, { on := 0, ground := Ground.phase }, { on := 1, ground := Ground.phase }, { on := 2, ground := Ground.phase }, { on := 3, ground := Ground.phase }, { on := 4, ground := Ground.phase }, { on := 5, ground := Ground.phase }], guard := none }
def opsp8 : List Oper := [opp8_0, opp8_1, opp8_2, opp8_3, opp8_4, opp8_5, opp8_6]
def Op8F (uv ov : Value) (U O T : List PBlock) (B : Nat) (j : Nat) (x : Value) (W : World) : Prop := match j with
  | 0 => x = .agg #[uv]
  | 1 => ∃ a n c, x = .agg #[.slice a n c] ∧ InPost U (.slice a n c) W
  | 2 => x = .agg #[ov]
  | 3 => ∃ a n c, x = .agg #[.slice a n c] ∧ InPost O (.slice a n c) W
  | 4 => ∃ a n c, x = .agg #[.slice a n c] ∧ InPost T (.slice a n c) W
  | 5 => ∃ g, x = .pointer (some ⟨g, 0, none⟩) ∧ B ≤ g ∧ Boxed W g 24 (.slice none 0 0)
  | _ => True
theorem Op8F.keep {uv ov : Value} {U O T : List PBlock} {B : Nat} {W W' : World} (hb : Below W.heap.size W W') (j : Nat) (x : Value) (h : Op8F uv ov U O T B j x W) : Op8F uv ov U O T B j x W' := by
  unfold Op8F at *
  split at h
  · exact h
  · obtain ⟨a, n, c, e, h⟩ := h; exact ⟨a, n, c, e, h.below hb⟩
  · exact h
  · obtain ⟨a, n, c, e, h⟩ := h; exact ⟨a, n, c, e, h.below hb⟩
  · obtain ⟨a, n, c, e, h⟩ := h; exact ⟨a, n, c, e, h.below hb⟩
  · obtain ⟨g, e, h1, h2⟩ := h; exact ⟨g, e, h1, (hb.block g h2.lt).trans h2⟩
  · trivial
set_option maxHeartbeats 2000000 in
set_option maxRecDepth 10000 in
theorem regionp8 {Q : Exit → Act → World → Prop} {a : Act} {W0 : World} {g1 g2 un uc on oc : Nat} {ua oa : Option Addr} {U O T : List PBlock} (c1 : W0.cell? ⟨g1, 0, none⟩ = some (.slice ua un uc)) (c2 : W0.cell? ⟨g2, 0, none⟩ = some (.slice oa on oc))
    (HT1 : ∀ W, Below W0.heap.size W0 W → Calls Tryz.prog 20 #[.agg #[(.slice ua un uc)]] W fun e w' => ∃ a n c, e = .returned (.agg #[.slice a n c]) ∧ InPost U (.slice a n c) w' ∧ Below W.heap.size W w')
    (HT2 : ∀ W, Below W0.heap.size W0 W → Calls Tryz.prog 20 #[.agg #[(.slice oa on oc)]] W fun e w' => ∃ a n c, e = .returned (.agg #[.slice a n c]) ∧ InPost O (.slice a n c) w' ∧ Below W.heap.size W w')
    (HV : ∀ W v1 v2, Below W0.heap.size W0 W → InPost U v1 W → InPost O v2 W → Calls Tryz.prog 31 #[.agg #[v1], .agg #[v2]] W fun e w' => ∃ a n c, e = .returned (.agg #[.slice a n c]) ∧ InPost T (.slice a n c) w' ∧ Below W.heap.size W w')
    (hs2 : a.eval (.tmp 2) = .pointer (some ⟨g1, 0, none⟩)) (hs3 : a.eval (.tmp 3) = .pointer (some ⟨g2, 0, none⟩)) (hsz : a.tmps.size = 92)
    (hQ : ∀ v a' g va vn vc W2, a' = putS a [24, 25, 26, 27, 28, 6] v → v 5 = .pointer (some ⟨g, 0, none⟩) → W0.heap.size ≤ g → W2.cell? ⟨g, 0, none⟩ = some (.slice va vn vc) → InPost T (.slice va vn vc) W2 → Below W0.heap.size W0 W2 → Q .normal a' W2) : (Code.region 8 opsp8.toArray true).wp Tryz.prog Q a W0 := by
  have hnd : ([24, 25, 26, 27, 28, 6] : List Nat).Nodup := by decide
  refine wp_region_invS0 [24, 25, 26, 27, 28, 6] (Op8F (.slice ua un uc) (.slice oa on oc) U O T W0.heap.size) (fun _ W => Below W0.heap.size W0 W) 6 7 [0, 1, 2, 3, 4, 5, 6] (by kernel_rfl) rfl (by decide) (by kernel_rfl) ?h1 (Below.refl _ _).drew ?hall
  case h1 =>
    intro i x W hi
    unfold Op8F
    split <;> first | omega | trivial
  refine AllInv.consQ (o := opp8_0) [] (by kernel_rfl) (by decide) (by kernel_rfl) rfl ?o0 (AllInv.consQ (o := opp8_1) [0] (by kernel_rfl) (by decide) (by kernel_rfl) rfl ?o1 (AllInv.consQ (o := opp8_2) [] (by kernel_rfl) (by decide) (by kernel_rfl) rfl ?o2 (AllInv.consQ (o := opp8_3) [2, 1] (by kernel_rfl) (by decide) (by kernel_rfl) rfl ?o3 (AllInv.consQ (o := opp8_4) [1, 3, 3] (by kernel_rfl) (by decide) (by kernel_rfl) rfl ?o4 (AllInv.consQ (o := opp8_5) [] (by kernel_rfl) (by decide) (by kernel_rfl) rfl ?o5 (AllInv.lastQ (o := opp8_6) [5, 4, 4, 0, 1, 2, 3, 4, 5] (by kernel_rfl) (by kernel_rfl) rfl ?o6))))))
  case o0 =>
    rintro Q' L _ W h0L hpre ⟨v, rfl, hv, hb⟩ K hK
    have k1 := (hb.cell (World.block_lt_of_cell? _ _ c1)).trans c1
    have r2 := (eval_out (v := v) (show 2 ∉ ([24, 25, 26, 27, 28, 6] : List Nat) by decide)).trans hs2
    have he : execOp (putS a [24, 25, 26, 27, 28, 6] v).eval opp8_0 = execOp (Act.eval ⟨#[undef], []⟩) ⟨some 0, .load 35 (.const (.pointer (some ⟨g1, 0, none⟩))), 0, "", #[], none⟩ := by simp only [execOp, eval_const, opp8_0, r2]
    refine Lid.mk ?_
    unfold Oper.wp
    rw [he]
    clear he
    go_simp
    exact hK.out _ _ (InvG.nextL (W := W) hv 0 (.agg #[(.slice ua un uc)]) (put_in 0 hnd rfl) (fun _ _ _ h => h) rfl hb)
  case o2 =>
    rintro Q' L _ W h0L hpre ⟨v, rfl, hv, hb⟩ K hK
    have k2 := (hb.cell (World.block_lt_of_cell? _ _ c2)).trans c2
    have r3 := (eval_out (v := v) (show 3 ∉ ([24, 25, 26, 27, 28, 6] : List Nat) by decide)).trans hs3
    have he : execOp (putS a [24, 25, 26, 27, 28, 6] v).eval opp8_2 = execOp (Act.eval ⟨#[undef], []⟩) ⟨some 0, .load 35 (.const (.pointer (some ⟨g2, 0, none⟩))), 0, "", #[], none⟩ := by simp only [execOp, eval_const, opp8_2, r3]
    refine Lid.mk ?_
    unfold Oper.wp
    rw [he]
    clear he
    go_simp
    exact hK.out _ _ (InvG.nextL (W := W) hv 2 (.agg #[(.slice oa on oc)]) (put_in 2 hnd rfl) (fun _ _ _ h => h) rfl hb)
  case o1 =>
    rintro Q' L _ W h0L hpre ⟨v, rfl, hv, hb⟩ K hK
    have r24 : (putS a [24, 25, 26, 27, 28, 6] v).eval (.tmp 24) = _ := (eval_in 0 hnd rfl (by omega)).trans (hv 0 (hpre 0 (by simp)))
    have HPW := HT1 W hb
    have he : execOp (putS a [24, 25, 26, 27, 28, 6] v).eval opp8_1 = execOp (Act.eval ⟨#[undef], []⟩) ⟨some 0, .call { callee := .value (.func 20), args := #[.const (.agg #[(.slice ua un uc)])], argTypes := #[35] }, 0, "", #[], none⟩ := by simp only [execOp, eval_const, opp8_1, resolve, eval_func, List.map_toArray, List.map_cons, List.map_nil, r24]
    refine Lid.mk ?_
    unfold Oper.wp
    rw [he]
    clear he
    go_simp
    refine HPW.mono ?_
    rintro e W' ⟨q, m, cc, rfl, hP, b'⟩
    exact hK.out _ _ (InvG.nextL (W := W) hv 1 (.agg #[.slice q m cc]) (put_in 1 hnd rfl) (fun j y _ h => Op8F.keep b' j y h) ⟨q, m, cc, rfl, hP⟩ (hb.trans (b'.mono hb.size)))
  case o3 =>
    rintro Q' L _ W h0L hpre ⟨v, rfl, hv, hb⟩ K hK
    have r26 : (putS a [24, 25, 26, 27, 28, 6] v).eval (.tmp 26) = _ := (eval_in 2 hnd rfl (by omega)).trans (hv 2 (hpre 2 (by simp)))
    have HPW := HT2 W hb
    have he : execOp (putS a [24, 25, 26, 27, 28, 6] v).eval opp8_3 = execOp (Act.eval ⟨#[undef], []⟩) ⟨some 0, .call { callee := .value (.func 20), args := #[.const (.agg #[(.slice oa on oc)])], argTypes := #[35] }, 0, "", #[], none⟩ := by simp only [execOp, eval_const, opp8_3, resolve, eval_func, List.map_toArray, List.map_cons, List.map_nil, r26]
    refine Lid.mk ?_
    unfold Oper.wp
    rw [he]
    clear he
    go_simp
    refine HPW.mono ?_
    rintro e W' ⟨q, m, cc, rfl, hP, b'⟩
    exact hK.out _ _ (InvG.nextL (W := W) hv 3 (.agg #[.slice q m cc]) (put_in 3 hnd rfl) (fun j y _ h => Op8F.keep b' j y h) ⟨q, m, cc, rfl, hP⟩ (hb.trans (b'.mono hb.size)))
  case o4 =>
    rintro Q' L _ W h0L hpre ⟨v, rfl, hv, hb⟩ K hK
    obtain ⟨q1, m1, cc1, e1, h1⟩ := hv 1 (hpre 1 (by simp))
    obtain ⟨q2, m2, cc2, e3, h3⟩ := hv 3 (hpre 3 (by simp))
    have r25 : (putS a [24, 25, 26, 27, 28, 6] v).eval (.tmp 25) = _ := (eval_in 1 hnd rfl (by omega)).trans e1
    have r27 : (putS a [24, 25, 26, 27, 28, 6] v).eval (.tmp 27) = _ := (eval_in 3 hnd rfl (by omega)).trans e3
    have HPW := HV W _ _ hb h1 h3
    have he : execOp (putS a [24, 25, 26, 27, 28, 6] v).eval opp8_4 = execOp (Act.eval ⟨#[undef], []⟩) ⟨some 0, .call { callee := .value (.func 31), args := #[.const (.agg #[.slice q1 m1 cc1]), .const (.agg #[.slice q2 m2 cc2])], argTypes := #[24, 24] }, 0, "", #[], none⟩ := by simp only [execOp, eval_const, opp8_4, resolve, eval_func, List.map_toArray, List.map_cons, List.map_nil, r25, r27]
    refine Lid.mk ?_
    unfold Oper.wp
    rw [he]
    clear he
    go_simp
    refine HPW.mono ?_
    rintro e W' ⟨q, m, cc, rfl, hP, b'⟩
    exact hK.out _ _ (InvG.nextL (W := W) hv 4 (.agg #[.slice q m cc]) (put_in 4 hnd rfl) (fun j y _ h => Op8F.keep b' j y h) ⟨q, m, cc, rfl, hP⟩ (hb.trans (b'.mono hb.size)))
  case o5 =>
    rintro Q' L _ W h0L hpre ⟨v, rfl, hv, hb⟩ K hK
    have x5 := (Below.refl W.heap.size W).alloc (Nat.le_refl _) (.cells #[.slice none 0 0] 24)
    have he : execOp (putS a [24, 25, 26, 27, 28, 6] v).eval opp8_5 = execOp (Act.eval ⟨#[undef], []⟩) ⟨some 0, .alloc 24, 0, "", #[], none⟩ := by kernel_rfl
    refine Lid.mk ?_
    unfold Oper.wp
    rw [he]
    clear he
    go_simp
    exact hK.out _ _ (InvG.nextL (W := W) hv 5 (.pointer (some ⟨W.heap.size, 0, none⟩)) (put_in 5 hnd rfl) (fun j y _ h => Op8F.keep x5 j y h) ⟨_, rfl, hb.size, Boxed.new _ _ _⟩ (hb.trans (x5.mono hb.size)))
  case o6 =>
    rintro Q' L _ W h0L hpre ⟨v, rfl, hv, hb⟩ K hK
    obtain ⟨q, m, cc, e4, h4⟩ := hv 4 (hpre 4 (by simp))
    obtain ⟨g, e5, hg, hbx⟩ := hv 5 (hpre 5 (by simp))
    have r28 : (putS a [24, 25, 26, 27, 28, 6] v).eval (.tmp 28) = _ := (eval_in 4 hnd rfl (by omega)).trans e4
    have r6 : (putS a [24, 25, 26, 27, 28, 6] v).eval (.tmp 6) = _ := (eval_in 5 hnd rfl (by omega)).trans e5
    have k5 := hbx.cell
    have f5 := hbx.frozen
    have HQ := hid_in (hQ v _ g q m cc (W.setCell ⟨g, 0, none⟩ (.slice q m cc)) rfl e5 hg (hbx.set _).cell (h4.box hbx _) (hb.setCell (p := ⟨g, 0, none⟩) hg _))
    have he : execOp (putS a [24, 25, 26, 27, 28, 6] v).eval opp8_6 = execOp (Act.eval ⟨#[undef], []⟩) ⟨some 0, .store 24 (.const (.pointer (some ⟨g, 0, none⟩))) (.const (.agg #[.slice q m cc])), 0, "", #[], none⟩ := by simp only [execOp, eval_const, opp8_6, r28, r6]
    refine Lid.mk ?_
    unfold Oper.wp
    rw [he]
    clear he
    go_simp
    exact hK.out _ _ (NoPanic.normal HQ.out)
def opp31_0 : Oper := { dst := some 75, op := Op.load 35 (Operand.tmp 2), type := 35, pos := "exact.go:1030", after := #[], guard := none }
def opp31_1 : Oper := { dst := some 76, op := Op.call { callee := Callee.value (Operand.func 20), args := #[Operand.tmp 75], argTypes := #[35] }, type := 24, pos := "exact.go:1030", after := #[{ on := 0, ground := Ground.data }], guard := none }
def opp31_2 : Oper := { dst := some 77, op := Op.load 35 (Operand.tmp 3), type := 35, pos := "exact.go:1030", after := #[], guard := none }
def opp31_3 : Oper := { dst := some 78, op := Op.call { callee := Callee.value (Operand.func 20), args := #[Operand.tmp 77], argTypes := #[35] }, type := 24, pos := "exact.go:1030", after := #[{ on := 2, ground := Ground.data }, { on := 1, ground := Ground.chain }], guard := none }
def opp31_4 : Oper := { dst := some 79, op := Op.call { callee := Callee.value (Operand.func 32), args := #[Operand.tmp 76, Operand.tmp 78], argTypes := #[24, 24] }, type := 24, pos := "exact.go:1030", after := #[{ on := 1, ground := Ground.data }, { on := 3, ground := Ground.data }, { on := 3, ground := Ground.chain }], guard := none }
def opp31_5 : Oper := { dst := some 13, op := Op.alloc 24, type := 0, pos := "exact.go:1030", after := #[], guard := none }
def opp31_6 : Oper := { dst := none, op := Op.store 24 (Operand.tmp 13) (Operand.tmp 79), type := 0, pos := "exact.go:1030", after := #[{ on := 5, ground := Ground.data }, { on := 4, ground := Ground.data }, { on := 4, ground := Ground.chain }, { on := 0, ground := Ground.phase }, { on := 1, ground := Ground.phase }, { on := 2, ground := Ground.phase }, { on := 3, ground := Ground.phase }, { on := 4, ground := Ground.phase }, { on := 5, ground := Ground.phase }], guard := none }
def opsp31 : List Oper := [opp31_0, opp31_1, opp31_2, opp31_3, opp31_4, opp31_5, opp31_6]
def Op31F (uv ov : Value) (U O T : List PBlock) (B : Nat) (j : Nat) (x : Value) (W : World) : Prop := match j with
  | 0 => x = .agg #[uv]
  | 1 => ∃ a n c, x = .agg #[.slice a n c] ∧ InPost U (.slice a n c) W
  | 2 => x = .agg #[ov]
  | 3 => ∃ a n c, x = .agg #[.slice a n c] ∧ InPost O (.slice a n c) W
  | 4 => ∃ a n c, x = .agg #[.slice a n c] ∧ InPost T (.slice a n c) W
  | 5 => ∃ g, x = .pointer (some ⟨g, 0, none⟩) ∧ B ≤ g ∧ Boxed W g 24 (.slice none 0 0)
  | _ => True
theorem Op31F.keep {uv ov : Value} {U O T : List PBlock} {B : Nat} {W W' : World} (hb : Below W.heap.size W W') (j : Nat) (x : Value) (h : Op31F uv ov U O T B j x W) : Op31F uv ov U O T B j x W' := by
  unfold Op31F at *
  split at h
  · exact h
  · obtain ⟨a, n, c, e, h⟩ := h; exact ⟨a, n, c, e, h.below hb⟩
  · exact h
  · obtain ⟨a, n, c, e, h⟩ := h; exact ⟨a, n, c, e, h.below hb⟩
  · obtain ⟨a, n, c, e, h⟩ := h; exact ⟨a, n, c, e, h.below hb⟩
  · obtain ⟨g, e, h1, h2⟩ := h; exact ⟨g, e, h1, (hb.block g h2.lt).trans h2⟩
  · trivial
set_option maxHeartbeats 2000000 in
set_option maxRecDepth 10000 in
theorem regionp31 {Q : Exit → Act → World → Prop} {a : Act} {W0 : World} {g1 g2 un uc on oc : Nat} {ua oa : Option Addr} {U O T : List PBlock} (c1 : W0.cell? ⟨g1, 0, none⟩ = some (.slice ua un uc)) (c2 : W0.cell? ⟨g2, 0, none⟩ = some (.slice oa on oc))
    (HT1 : ∀ W, Below W0.heap.size W0 W → Calls Tryz.prog 20 #[.agg #[(.slice ua un uc)]] W fun e w' => ∃ a n c, e = .returned (.agg #[.slice a n c]) ∧ InPost U (.slice a n c) w' ∧ Below W.heap.size W w')
    (HT2 : ∀ W, Below W0.heap.size W0 W → Calls Tryz.prog 20 #[.agg #[(.slice oa on oc)]] W fun e w' => ∃ a n c, e = .returned (.agg #[.slice a n c]) ∧ InPost O (.slice a n c) w' ∧ Below W.heap.size W w')
    (HV : ∀ W v1 v2, Below W0.heap.size W0 W → InPost U v1 W → InPost O v2 W → Calls Tryz.prog 32 #[.agg #[v1], .agg #[v2]] W fun e w' => ∃ a n c, e = .returned (.agg #[.slice a n c]) ∧ InPost T (.slice a n c) w' ∧ Below W.heap.size W w')
    (hs2 : a.eval (.tmp 2) = .pointer (some ⟨g1, 0, none⟩)) (hs3 : a.eval (.tmp 3) = .pointer (some ⟨g2, 0, none⟩)) (hsz : a.tmps.size = 92)
    (hQ : ∀ v a' g va vn vc W2, a' = putS a [75, 76, 77, 78, 79, 13] v → v 5 = .pointer (some ⟨g, 0, none⟩) → W0.heap.size ≤ g → W2.cell? ⟨g, 0, none⟩ = some (.slice va vn vc) → InPost T (.slice va vn vc) W2 → Below W0.heap.size W0 W2 → Q .normal a' W2) : (Code.region 31 opsp31.toArray true).wp Tryz.prog Q a W0 := by
  have hnd : ([75, 76, 77, 78, 79, 13] : List Nat).Nodup := by decide
  refine wp_region_invS0 [75, 76, 77, 78, 79, 13] (Op31F (.slice ua un uc) (.slice oa on oc) U O T W0.heap.size) (fun _ W => Below W0.heap.size W0 W) 6 7 [0, 1, 2, 3, 4, 5, 6] (by kernel_rfl) rfl (by decide) (by kernel_rfl) ?h1 (Below.refl _ _).drew ?hall
  case h1 =>
    intro i x W hi
    unfold Op31F
    split <;> first | omega | trivial
  refine AllInv.consQ (o := opp31_0) [] (by kernel_rfl) (by decide) (by kernel_rfl) rfl ?o0 (AllInv.consQ (o := opp31_1) [0] (by kernel_rfl) (by decide) (by kernel_rfl) rfl ?o1 (AllInv.consQ (o := opp31_2) [] (by kernel_rfl) (by decide) (by kernel_rfl) rfl ?o2 (AllInv.consQ (o := opp31_3) [2, 1] (by kernel_rfl) (by decide) (by kernel_rfl) rfl ?o3 (AllInv.consQ (o := opp31_4) [1, 3, 3] (by kernel_rfl) (by decide) (by kernel_rfl) rfl ?o4 (AllInv.consQ (o := opp31_5) [] (by kernel_rfl) (by decide) (by kernel_rfl) rfl ?o5 (AllInv.lastQ (o := opp31_6) [5, 4, 4, 0, 1, 2, 3, 4, 5] (by kernel_rfl) (by kernel_rfl) rfl ?o6))))))
  case o0 =>
    rintro Q' L _ W h0L hpre ⟨v, rfl, hv, hb⟩ K hK
    have k1 := (hb.cell (World.block_lt_of_cell? _ _ c1)).trans c1
    have r2 := (eval_out (v := v) (show 2 ∉ ([75, 76, 77, 78, 79, 13] : List Nat) by decide)).trans hs2
    have he : execOp (putS a [75, 76, 77, 78, 79, 13] v).eval opp31_0 = execOp (Act.eval ⟨#[undef], []⟩) ⟨some 0, .load 35 (.const (.pointer (some ⟨g1, 0, none⟩))), 0, "", #[], none⟩ := by simp only [execOp, eval_const, opp31_0, r2]
    refine Lid.mk ?_
    unfold Oper.wp
    rw [he]
    clear he
    go_simp
    exact hK.out _ _ (InvG.nextL (W := W) hv 0 (.agg #[(.slice ua un uc)]) (put_in 0 hnd rfl) (fun _ _ _ h => h) rfl hb)
  case o2 =>
    rintro Q' L _ W h0L hpre ⟨v, rfl, hv, hb⟩ K hK
    have k2 := (hb.cell (World.block_lt_of_cell? _ _ c2)).trans c2
    have r3 := (eval_out (v := v) (show 3 ∉ ([75, 76, 77, 78, 79, 13] : List Nat) by decide)).trans hs3
    have he : execOp (putS a [75, 76, 77, 78, 79, 13] v).eval opp31_2 = execOp (Act.eval ⟨#[undef], []⟩) ⟨some 0, .load 35 (.const (.pointer (some ⟨g2, 0, none⟩))), 0, "", #[], none⟩ := by simp only [execOp, eval_const, opp31_2, r3]
    refine Lid.mk ?_
    unfold Oper.wp
    rw [he]
    clear he
    go_simp
    exact hK.out _ _ (InvG.nextL (W := W) hv 2 (.agg #[(.slice oa on oc)]) (put_in 2 hnd rfl) (fun _ _ _ h => h) rfl hb)
  case o1 =>
    rintro Q' L _ W h0L hpre ⟨v, rfl, hv, hb⟩ K hK
    have r75 : (putS a [75, 76, 77, 78, 79, 13] v).eval (.tmp 75) = _ := (eval_in 0 hnd rfl (by omega)).trans (hv 0 (hpre 0 (by simp)))
    have HPW := HT1 W hb
    have he : execOp (putS a [75, 76, 77, 78, 79, 13] v).eval opp31_1 = execOp (Act.eval ⟨#[undef], []⟩) ⟨some 0, .call { callee := .value (.func 20), args := #[.const (.agg #[(.slice ua un uc)])], argTypes := #[35] }, 0, "", #[], none⟩ := by simp only [execOp, eval_const, opp31_1, resolve, eval_func, List.map_toArray, List.map_cons, List.map_nil, r75]
    refine Lid.mk ?_
    unfold Oper.wp
    rw [he]
    clear he
    go_simp
    refine HPW.mono ?_
    rintro e W' ⟨q, m, cc, rfl, hP, b'⟩
    exact hK.out _ _ (InvG.nextL (W := W) hv 1 (.agg #[.slice q m cc]) (put_in 1 hnd rfl) (fun j y _ h => Op31F.keep b' j y h) ⟨q, m, cc, rfl, hP⟩ (hb.trans (b'.mono hb.size)))
  case o3 =>
    rintro Q' L _ W h0L hpre ⟨v, rfl, hv, hb⟩ K hK
    have r77 : (putS a [75, 76, 77, 78, 79, 13] v).eval (.tmp 77) = _ := (eval_in 2 hnd rfl (by omega)).trans (hv 2 (hpre 2 (by simp)))
    have HPW := HT2 W hb
    have he : execOp (putS a [75, 76, 77, 78, 79, 13] v).eval opp31_3 = execOp (Act.eval ⟨#[undef], []⟩) ⟨some 0, .call { callee := .value (.func 20), args := #[.const (.agg #[(.slice oa on oc)])], argTypes := #[35] }, 0, "", #[], none⟩ := by simp only [execOp, eval_const, opp31_3, resolve, eval_func, List.map_toArray, List.map_cons, List.map_nil, r77]
    refine Lid.mk ?_
    unfold Oper.wp
    rw [he]
    clear he
    go_simp
    refine HPW.mono ?_
    rintro e W' ⟨q, m, cc, rfl, hP, b'⟩
    exact hK.out _ _ (InvG.nextL (W := W) hv 3 (.agg #[.slice q m cc]) (put_in 3 hnd rfl) (fun j y _ h => Op31F.keep b' j y h) ⟨q, m, cc, rfl, hP⟩ (hb.trans (b'.mono hb.size)))
  case o4 =>
    rintro Q' L _ W h0L hpre ⟨v, rfl, hv, hb⟩ K hK
    obtain ⟨q1, m1, cc1, e1, h1⟩ := hv 1 (hpre 1 (by simp))
    obtain ⟨q2, m2, cc2, e3, h3⟩ := hv 3 (hpre 3 (by simp))
    have r76 : (putS a [75, 76, 77, 78, 79, 13] v).eval (.tmp 76) = _ := (eval_in 1 hnd rfl (by omega)).trans e1
    have r78 : (putS a [75, 76, 77, 78, 79, 13] v).eval (.tmp 78) = _ := (eval_in 3 hnd rfl (by omega)).trans e3
    have HPW := HV W _ _ hb h1 h3
    have he : execOp (putS a [75, 76, 77, 78, 79, 13] v).eval opp31_4 = execOp (Act.eval ⟨#[undef], []⟩) ⟨some 0, .call { callee := .value (.func 32), args := #[.const (.agg #[.slice q1 m1 cc1]), .const (.agg #[.slice q2 m2 cc2])], argTypes := #[24, 24] }, 0, "", #[], none⟩ := by simp only [execOp, eval_const, opp31_4, resolve, eval_func, List.map_toArray, List.map_cons, List.map_nil, r76, r78]
    refine Lid.mk ?_
    unfold Oper.wp
    rw [he]
    clear he
    go_simp
    refine HPW.mono ?_
    rintro e W' ⟨q, m, cc, rfl, hP, b'⟩
    exact hK.out _ _ (InvG.nextL (W := W) hv 4 (.agg #[.slice q m cc]) (put_in 4 hnd rfl) (fun j y _ h => Op31F.keep b' j y h) ⟨q, m, cc, rfl, hP⟩ (hb.trans (b'.mono hb.size)))
  case o5 =>
    rintro Q' L _ W h0L hpre ⟨v, rfl, hv, hb⟩ K hK
    have x5 := (Below.refl W.heap.size W).alloc (Nat.le_refl _) (.cells #[.slice none 0 0] 24)
    have he : execOp (putS a [75, 76, 77, 78, 79, 13] v).eval opp31_5 = execOp (Act.eval ⟨#[undef], []⟩) ⟨some 0, .alloc 24, 0, "", #[], none⟩ := by kernel_rfl
    refine Lid.mk ?_
    unfold Oper.wp
    rw [he]
    clear he
    go_simp
    exact hK.out _ _ (InvG.nextL (W := W) hv 5 (.pointer (some ⟨W.heap.size, 0, none⟩)) (put_in 5 hnd rfl) (fun j y _ h => Op31F.keep x5 j y h) ⟨_, rfl, hb.size, Boxed.new _ _ _⟩ (hb.trans (x5.mono hb.size)))
  case o6 =>
    rintro Q' L _ W h0L hpre ⟨v, rfl, hv, hb⟩ K hK
    obtain ⟨q, m, cc, e4, h4⟩ := hv 4 (hpre 4 (by simp))
    obtain ⟨g, e5, hg, hbx⟩ := hv 5 (hpre 5 (by simp))
    have r79 : (putS a [75, 76, 77, 78, 79, 13] v).eval (.tmp 79) = _ := (eval_in 4 hnd rfl (by omega)).trans e4
    have r13 : (putS a [75, 76, 77, 78, 79, 13] v).eval (.tmp 13) = _ := (eval_in 5 hnd rfl (by omega)).trans e5
    have k5 := hbx.cell
    have f5 := hbx.frozen
    have HQ := hid_in (hQ v _ g q m cc (W.setCell ⟨g, 0, none⟩ (.slice q m cc)) rfl e5 hg (hbx.set _).cell (h4.box hbx _) (hb.setCell (p := ⟨g, 0, none⟩) hg _))
    have he : execOp (putS a [75, 76, 77, 78, 79, 13] v).eval opp31_6 = execOp (Act.eval ⟨#[undef], []⟩) ⟨some 0, .store 24 (.const (.pointer (some ⟨g, 0, none⟩))) (.const (.agg #[.slice q m cc])), 0, "", #[], none⟩ := by simp only [execOp, eval_const, opp31_6, r79, r13]
    refine Lid.mk ?_
    unfold Oper.wp
    rw [he]
    clear he
    go_simp
    exact hK.out _ _ (NoPanic.normal HQ.out)
end Go.Proofs.YtpdahhnjhggocabGreatDoor
