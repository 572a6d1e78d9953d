import Derived.Test.YtpdahhnjhggocabGreatDoorBun43
import Derived.Test.YtpdahhnjhggocabGreatDoorBun36
import Derived.Test.YtpdahhnjhggocabGreatDoorBun29
namespace Go.Proofs.YtpdahhnjhggocabGreatDoor
open Go.RowKit
def ops8_0 : Oper := { dst := some 26, op := Op.fieldAddr 64 (Operand.tmp 8) 2, type := 0, pos := "l3_parse.go:71", after := #[], guard := none }
def ops8_1 : Oper := { dst := some 27, op := Op.load 41 (Operand.tmp 26), type := 41, pos := "l3_parse.go:71", after := #[{ on := 0, ground := Ground.data }], guard := none }
def ops8_2 : Oper := { dst := some 28, op := Op.fieldAddr 64 (Operand.tmp 8) 0, type := 0, pos := "l3_parse.go:71", after := #[], guard := none }
def ops8_3 : Oper := { dst := some 29, op := Op.load 9 (Operand.tmp 28), type := 9, pos := "l3_parse.go:71", after := #[{ on := 2, ground := Ground.data }], guard := none }
def ops8_4 : Oper := { dst := some 30, op := Op.call { callee := Callee.value (Operand.func 54), args := #[Operand.tmp 29], argTypes := #[9] }, type := 85, pos := "l3_parse.go:71", after := #[{ on := 3, ground := Ground.data }], guard := none }
def ops8_5 : Oper := { dst := some 31, op := Op.call { callee := Callee.value (Operand.func 53), args := #[Operand.tmp 30], argTypes := #[85] }, type := 83, pos := "l3_parse.go:71", after := #[{ on := 4, ground := Ground.data }, { on := 4, ground := Ground.chain }], guard := none }
def ops8_6 : Oper := { dst := some 32, op := Op.call { callee := Callee.value (Operand.func 52), args := #[Operand.tmp 27, Operand.tmp 31], argTypes := #[41, 83] }, type := 0, pos := "l3_parse.go:71", after := #[{ on := 1, ground := Ground.data }, { on := 5, ground := Ground.data }, { on := 5, ground := Ground.chain }], guard := none }
def opss8 : List Oper := [ops8_0, ops8_1, ops8_2, ops8_3, ops8_4, ops8_5, ops8_6]
def S8F (W0 : World) (PS : World → World → Prop) (Y : Nat) (lv : Value) (kind : ByteArray) (i : Nat) (x : Value) (W : World) : Prop := match i with
 | 0 => x = .pointer (some ⟨Y, 2, none⟩)
 | 1 => x = lv
 | 2 => x = .pointer (some ⟨Y, 0, none⟩)
 | 3 => x = .string kind
 | 4 => ∃ ra nl rc L, x = .slice ra nl rc ∧ L.map RAt.plain = rulesOf kind ∧ RulesAt W0.heap.size W (.slice ra nl rc) L
 | 5 => ∃ Z vr L, x = .func (.func 117) #[] #[.pointer (some ⟨Z, 0, none⟩)] ∧ W.cell? ⟨Z, 0, none⟩ = some vr ∧ L.map RAt.plain = rulesOf kind ∧ RulesAt W0.heap.size W vr L ∧ W0.heap.size ≤ Z
 | 6 => x = .tuple #[] ∧ ∃ W1, Below W0.heap.size W0 W1 ∧ PS W1 W
 | _ => True
def S8C (L : Nat → Bool) : Prop := (L 1 = true → L 0 = true) ∧ (L 3 = true → L 2 = true) ∧ (L 4 = true → L 3 = true) ∧ (L 5 = true → L 4 = true) ∧ (L 6 = true → L 1 = true ∧ L 5 = true)
theorem S8C.none {L : Nat → Bool} (h : S8C L) {i : Nat} (hi : i < 6) (h0 : L i = false) : L 6 = false := by
 obtain ⟨h1, h2, h3, h4, h5⟩ := h
 cases h6 : L 6 with
 | false => rfl
 | true =>
  obtain ⟨a1, a5⟩ := h5 h6
  have a0 := h1 a1
  have a4 := h4 a5
  have a3 := h3 a4
  have a2 := h2 a3
  match i, hi, h0 with
  | 0, _, h0 => rw [a0] at h0; cases h0
  | 1, _, h0 => rw [a1] at h0; cases h0
  | 2, _, h0 => rw [a2] at h0; cases h0
  | 3, _, h0 => rw [a3] at h0; cases h0
  | 4, _, h0 => rw [a4] at h0; cases h0
  | 5, _, h0 => rw [a5] at h0; cases h0
def S8G (W0 : World) (L : Nat → Bool) (W : World) : Prop := S8C L ∧ (L 6 = false → Below W0.heap.size W0 W)
theorem S8C.put {L : Nat → Bool} (h : S8C L) (i : Nat) (h1 : i = 1 → L 0 = true) (h3 : i = 3 → L 2 = true) (h4 : i = 4 → L 3 = true) (h5 : i = 5 → L 4 = true) (h6 : i = 6 → L 1 = true ∧ L 5 = true) : S8C (upd L i) := by
 have m : ∀ j, L j = true → upd L i j = true := fun j hj => by unfold upd; split <;> first | rfl | exact hj
 have u : ∀ j, upd L i j = true → i = j ∨ L j = true := fun j hj => by
  unfold upd at hj
  split at hj
  ·rename_i e; exact .inl e.symm
  ·exact .inr hj
 refine ⟨fun h => ?_, fun h => ?_, fun h => ?_, fun h => ?_, fun h => ?_⟩
 all_goals (have hc := ‹S8C L›; obtain ⟨c1, c2, c3, c4, c5⟩ := hc)
 ·rcases u _ h with e | e; exact m _ (h1 e); exact m _ (c1 e)
 ·rcases u _ h with e | e; exact m _ (h3 e); exact m _ (c2 e)
 ·rcases u _ h with e | e; exact m _ (h4 e); exact m _ (c3 e)
 ·rcases u _ h with e | e; exact m _ (h5 e); exact m _ (c4 e)
 ·rcases u _ h with e | e
  ·exact ⟨m _ (h6 e).1, m _ (h6 e).2⟩
  ·exact ⟨m _ (c5 e).1, m _ (c5 e).2⟩
theorem S8F.keep {W0 : World} {PS : World → World → Prop} {Y : Nat} {lv : Value} {kind : ByteArray} {W W' : World} (hb : Below W.heap.size W W') : ∀ (i : Nat) (x : Value), i ≠ 6 → S8F W0 PS Y lv kind i x W → S8F W0 PS Y lv kind i x W' := by
 intro i x h6 h
 unfold S8F at *
 split <;> simp only at h
 all_goals first | exact absurd rfl h6 | exact h | trivial | (obtain ⟨ra, nl, rc, L, e, h1, h2⟩ := h; exact ⟨ra, nl, rc, L, e, h1, Mem.below h2 hb⟩) | (obtain ⟨Z, vr, L, e, h1, h2, h3, h4⟩ := h; exact ⟨Z, vr, L, e, (hb.cell (World.block_lt_of_cell? _ _ h1)).trans h1, h2, Mem.below h3 hb, h4⟩)
theorem S8F.turn {W0 : World} {PS : World → World → Prop} {Y q : Nat} {lv : Value} {kind : ByteArray} {W W' : World} (hg : W.grownBy W' (some q)) (hq : q < W0.heap.size) : ∀ (i : Nat) (x : Value), i ≠ 6 → S8F W0 PS Y lv kind i x W → S8F W0 PS Y lv kind i x W' := by
 intro i x h6 h
 unfold S8F at *
 split <;> simp only at h
 all_goals first | exact absurd rfl h6 | exact h | trivial | (obtain ⟨ra, nl, rc, L, e, h1, h2⟩ := h; exact ⟨ra, nl, rc, L, e, h1, Mem.other h2 hg hq⟩) | (obtain ⟨Z, vr, L, e, h1, h2, h3, h4⟩ := h; exact ⟨Z, vr, L, e, (hg.cell_far ⟨Z, 0, none⟩ (World.block_lt_of_cell? W _ h1) (by intro e; have := Option.some.inj e; simp only at this; omega)).trans h1, h2, Mem.other h3 hg hq, h4⟩)
set_option maxHeartbeats 2000000 in
set_option maxRecDepth 10000 in
theorem regionS8 {Q : Exit → Act → World → Prop} {a : Act} {W0 : World} {Y ln lc : Nat} {la : Option Addr} {kind : ByteArray} (PS : World → World → Prop) (h0 : W0.cell? ⟨Y, 0, none⟩ = some (.string kind)) (h2 : W0.cell? ⟨Y, 2, none⟩ = some (.slice la ln lc))
  (HS : ∀ W Z vr L, Below W0.heap.size W0 W → W.cell? ⟨Z, 0, none⟩ = some vr → L.map RAt.plain = rulesOf kind → RulesAt W0.heap.size W vr L → W0.heap.size ≤ Z → Calls Tryz.prog 52 #[(.slice la ln lc), .func (.func 117) #[] #[.pointer (some ⟨Z, 0, none⟩)]] W fun e w' => e = .returned (.tuple #[]) ∧ PS W w')
  (hPS : ∀ W W', PS W W' → ∃ q, W.grownBy W' (some q) ∧ q < W0.heap.size) (hs : a.eval (.tmp 8) = (.pointer (some ⟨Y, 0, none⟩))) (hsz : a.tmps.size = 39)
  (hQ : ∀ v a' W1 W2, a' = putS a [26, 27, 28, 29, 30, 31, 32] v → Below W0.heap.size W0 W1 → PS W1 W2 → Q .normal a' W2) : (Code.region 8 opss8.toArray true).wp Tryz.prog Q a W0 := by
 have hnd : ([26, 27, 28, 29, 30, 31, 32] : List Nat).Nodup := by decide
 have l0 := World.block_lt_of_cell? _ _ h0
 have l2 := World.block_lt_of_cell? _ _ h2
 refine wp_region_invE0 [26, 27, 28, 29, 30, 31, 32] (S8F W0 PS Y (.slice la ln lc) kind) (S8G W0) 7 [0, 1, 2, 3, 4, 5, 6] (by kernel_rfl) rfl (by decide) (by kernel_rfl) ?h1 ⟨⟨fun h => (by cases h), fun h => (by cases h), fun h => (by cases h), fun h => (by cases h), fun h => (by cases h)⟩, fun _ => (Below.refl _ _).drew⟩ ?hall (fun v w' L hL hF hG => by
  obtain ⟨_, W1, hb1, hP⟩ := hF 6
  exact NoPanic.normal (hQ v _ W1 w' rfl hb1 hP))
 case h1 =>
  intro i x W hi
  unfold S8F
  split <;> first | omega | trivial
 refine AllInv.consQ (o := ops8_0) [] (by kernel_rfl) (by decide) (by kernel_rfl) rfl ?o0 (AllInv.consQ (o := ops8_1) [0] (by kernel_rfl) (by decide) (by kernel_rfl) rfl ?o1 (AllInv.consQ (o := ops8_2) [] (by kernel_rfl) (by decide) (by kernel_rfl) rfl ?o2 (AllInv.consQ (o := ops8_3) [2] (by kernel_rfl) (by decide) (by kernel_rfl) rfl ?o3 (AllInv.consQ (o := ops8_4) [3] (by kernel_rfl) (by decide) (by kernel_rfl) rfl ?o4 (AllInv.consQ (o := ops8_5) [4, 4] (by kernel_rfl) (by decide) (by kernel_rfl) rfl ?o5 (AllInv.consQ (o := ops8_6) [1, 5, 5] (by kernel_rfl) (by decide) (by kernel_rfl) rfl ?o6 AllInv.nil))))))
 case o0 =>
  rintro Q' L _ W h0L hpre ⟨v, rfl, hv, hg⟩ K hK
  have hb := hg.2 (hg.1.none (i := 0) (by decide) h0L)
  have r8 := (eval_out (v := v) (show 8 ∉ ([26, 27, 28, 29, 30, 31, 32] : List Nat) by decide)).trans hs
  have he : execOp (putS a [26, 27, 28, 29, 30, 31, 32] v).eval ops8_0 = execOp (Act.eval ⟨#[undef], []⟩) ⟨some 0, .fieldAddr 64 (.const (.pointer (some ⟨Y, 0, none⟩))) 2, 0, "", #[], none⟩ := by simp only [execOp, eval_const, ops8_0, r8]
  refine Lid.mk ?_
  unfold Oper.wp
  rw [he]
  clear he
  go_simp
  exact hK.out _ _ (InvG.next (W := W) hv 0 (.pointer (some ⟨Y, 2, none⟩)) (put_in 0 hnd rfl) (fun _ _ h => h) rfl ⟨(hg.1.put 0 (fun e => by omega) (fun e => by omega) (fun e => by omega) (fun e => by omega) (fun e => by omega)), fun _ => hb⟩)
 case o1 =>
  rintro Q' L _ W h0L hpre ⟨v, rfl, hv, hg⟩ K hK
  have hb := hg.2 (hg.1.none (i := 1) (by decide) h0L)
  have r26 : (putS a [26, 27, 28, 29, 30, 31, 32] v).eval (.tmp 26) = _ := (eval_in 0 hnd rfl (by omega)).trans (hv 0 (hpre 0 (by simp)))
  have k2 := (hb.cell l2).trans h2
  have he : execOp (putS a [26, 27, 28, 29, 30, 31, 32] v).eval ops8_1 = execOp (Act.eval ⟨#[undef], []⟩) ⟨some 0, .load 41 (.const (.pointer (some ⟨Y, 2, none⟩))), 0, "", #[], none⟩ := by simp only [execOp, eval_const, ops8_1, r26]
  refine Lid.mk ?_
  unfold Oper.wp
  rw [he]
  clear he
  go_simp
  exact hK.out _ _ (InvG.next (W := W) hv 1 (.slice la ln lc) (put_in 1 hnd rfl) (fun _ _ h => h) rfl ⟨(hg.1.put 1 (fun _ => hpre 0 (by simp)) (fun e => by omega) (fun e => by omega) (fun e => by omega) (fun e => by omega)), fun _ => hb⟩)
 case o2 =>
  rintro Q' L _ W h0L hpre ⟨v, rfl, hv, hg⟩ K hK
  have hb := hg.2 (hg.1.none (i := 2) (by decide) h0L)
  have r8 := (eval_out (v := v) (show 8 ∉ ([26, 27, 28, 29, 30, 31, 32] : List Nat) by decide)).trans hs
  have he : execOp (putS a [26, 27, 28, 29, 30, 31, 32] v).eval ops8_2 = execOp (Act.eval ⟨#[undef], []⟩) ⟨some 0, .fieldAddr 64 (.const (.pointer (some ⟨Y, 0, none⟩))) 0, 0, "", #[], none⟩ := by simp only [execOp, eval_const, ops8_2, r8]
  refine Lid.mk ?_
  unfold Oper.wp
  rw [he]
  clear he
  go_simp
  exact hK.out _ _ (InvG.next (W := W) hv 2 (.pointer (some ⟨Y, 0, none⟩)) (put_in 2 hnd rfl) (fun _ _ h => h) rfl ⟨(hg.1.put 2 (fun e => by omega) (fun e => by omega) (fun e => by omega) (fun e => by omega) (fun e => by omega)), fun _ => hb⟩)
 case o3 =>
  rintro Q' L _ W h0L hpre ⟨v, rfl, hv, hg⟩ K hK
  have hb := hg.2 (hg.1.none (i := 3) (by decide) h0L)
  have r28 : (putS a [26, 27, 28, 29, 30, 31, 32] v).eval (.tmp 28) = _ := (eval_in 2 hnd rfl (by omega)).trans (hv 2 (hpre 2 (by simp)))
  have k0 := (hb.cell l0).trans h0
  have he : execOp (putS a [26, 27, 28, 29, 30, 31, 32] v).eval ops8_3 = execOp (Act.eval ⟨#[undef], []⟩) ⟨some 0, .load 9 (.const (.pointer (some ⟨Y, 0, none⟩))), 0, "", #[], none⟩ := by simp only [execOp, eval_const, ops8_3, r28]
  refine Lid.mk ?_
  unfold Oper.wp
  rw [he]
  clear he
  go_simp
  exact hK.out _ _ (InvG.next (W := W) hv 3 (.string kind) (put_in 3 hnd rfl) (fun _ _ h => h) rfl ⟨(hg.1.put 3 (fun e => by omega) (fun _ => hpre 2 (by simp)) (fun e => by omega) (fun e => by omega) (fun e => by omega)), fun _ => hb⟩)
 case o4 =>
  rintro Q' L _ W h0L hpre ⟨v, rfl, hv, hg⟩ K hK
  have hb := hg.2 (hg.1.none (i := 4) (by decide) h0L)
  have r29 : (putS a [26, 27, 28, 29, 30, 31, 32] v).eval (.tmp 29) = _ := (eval_in 3 hnd rfl (by omega)).trans (hv 3 (hpre 3 (by simp)))
  have HR := implRules_any kind W
  have he : execOp (putS a [26, 27, 28, 29, 30, 31, 32] v).eval ops8_4 = execOp (Act.eval ⟨#[undef], []⟩) ⟨some 0, .call { callee := .value (.func 54), args := #[.const (.string kind)], argTypes := #[9] }, 0, "", #[], none⟩ := by simp only [execOp, eval_const, ops8_4, resolve, eval_func, List.map_toArray, List.map_cons, List.map_nil, r29]
  refine Lid.mk ?_
  unfold Oper.wp
  rw [he]
  clear he
  go_simp
  refine HR.mono ?_
  rintro e W' ⟨vr, L', rfl, hLR, hRA, b'⟩
  obtain ⟨ra, rc, e, _⟩ := own_form (Mem.head hRA)
  have e1 : vr = .slice ra L'.length rc := e
  subst e1
  exact hK.out _ _ (InvG.nextL (W := W) hv 4 (.slice ra L'.length rc) (put_in 4 hnd rfl) (fun j y hj h => S8F.keep b' j y (fun e => by rw [e, hg.1.none (i := 4) (by decide) h0L] at hj; cases hj) h) ⟨ra, L'.length, rc, L', rfl, hLR, Mem.mono hRA hb.size⟩ ⟨(hg.1.put 4 (fun e => by omega) (fun e => by omega) (fun _ => hpre 3 (by simp)) (fun e => by omega) (fun e => by omega)), fun _ => hb.trans (b'.mono hb.size)⟩)
 case o5 =>
  rintro Q' L _ W h0L hpre ⟨v, rfl, hv, hg⟩ K hK
  have hb := hg.2 (hg.1.none (i := 5) (by decide) h0L)
  obtain ⟨ra, nl, rc, L', e4, hLR, hRA⟩ := hv 4 (hpre 4 (by simp))
  have r30 : (putS a [26, 27, 28, 29, 30, 31, 32] v).eval (.tmp 30) = _ := (eval_in 4 hnd rfl (by omega)).trans e4
  have HO := lineOrderOf_any (v := .slice ra nl rc) ⟨_, _, _, rfl⟩ W
  have bx := (Below.refl W.heap.size W).alloc (Nat.le_refl _) (.cells #[.slice ra nl rc] 85)
  have q0 := one_box (w := W) (cs := #[.slice ra nl rc]) (T := 85) 0
  simp only [List.getElem?_toArray, List.getElem?_cons_zero] at q0
  have he : execOp (putS a [26, 27, 28, 29, 30, 31, 32] v).eval ops8_5 = execOp (Act.eval ⟨#[undef], []⟩) ⟨some 0, .call { callee := .value (.func 53), args := #[.const (.slice ra nl rc)], argTypes := #[85] }, 0, "", #[], none⟩ := by simp only [execOp, eval_const, ops8_5, resolve, eval_func, List.map_toArray, List.map_cons, List.map_nil, r30]
  refine Lid.mk ?_
  unfold Oper.wp
  rw [he]
  clear he
  go_simp
  refine HO.mono ?_
  rintro e W' ⟨rfl, rfl⟩
  exact hK.out _ _ (InvG.nextL (W := W) hv 5 (.func (.func 117) #[] #[.pointer (some ⟨W.heap.size, 0, none⟩)]) (put_in 5 hnd rfl) (fun j y hj h => S8F.keep bx j y (fun e => by rw [e, hg.1.none (i := 5) (by decide) h0L] at hj; cases hj) h) ⟨W.heap.size, .slice ra nl rc, L', rfl, q0, hLR, Mem.below hRA bx, hb.size⟩ ⟨(hg.1.put 5 (fun e => by omega) (fun e => by omega) (fun e => by omega) (fun _ => hpre 4 (by simp)) (fun e => by omega)), fun _ => hb.trans (bx.mono hb.size)⟩)
 case o6 =>
  rintro Q' L _ W h0L hpre ⟨v, rfl, hv, hg⟩ K hK
  have hb := hg.2 h0L
  obtain ⟨Z, vr, L', e5, hz, hLR, hRA, hZ⟩ := hv 5 (hpre 5 (by simp))
  have r27 : (putS a [26, 27, 28, 29, 30, 31, 32] v).eval (.tmp 27) = _ := (eval_in 1 hnd rfl (by omega)).trans (hv 1 (hpre 1 (by simp)))
  have r31 : (putS a [26, 27, 28, 29, 30, 31, 32] v).eval (.tmp 31) = _ := (eval_in 5 hnd rfl (by omega)).trans e5
  have HC := HS W Z vr L' hb hz hLR hRA hZ
  have he : execOp (putS a [26, 27, 28, 29, 30, 31, 32] v).eval ops8_6 = execOp (Act.eval ⟨#[undef], []⟩) ⟨some 0, .call { callee := .value (.func 52), args := #[.const (.slice la ln lc), .const (.func (.func 117) #[] #[.pointer (some ⟨Z, 0, none⟩)])], argTypes := #[41, 83] }, 0, "", #[], none⟩ := by simp only [execOp, eval_const, ops8_6, resolve, eval_func, List.map_toArray, List.map_cons, List.map_nil, r27, r31]
  refine Lid.mk ?_
  unfold Oper.wp
  rw [he]
  clear he
  go_simp
  refine HC.mono ?_
  rintro e W' ⟨rfl, hP⟩
  refine hK.out _ _ (InvG.nextL (W := W) hv 6 (.tuple #[]) (put_in 6 hnd rfl) (fun j y hj h => ?_) ⟨rfl, W, hb, hP⟩ ⟨(hg.1.put 6 (fun e => by omega) (fun e => by omega) (fun e => by omega) (fun e => by omega) (fun _ => ⟨hpre 1 (by simp), hpre 5 (by simp)⟩)), fun e => by simp [upd] at e⟩)
  have h6 : j ≠ 6 := fun e => by rw [e, h0L] at hj; cases hj
  obtain ⟨q, hgq, hq⟩ := hPS _ _ hP
  exact S8F.turn hgq hq j y h6 h
end Go.Proofs.YtpdahhnjhggocabGreatDoor
namespace Go.Proofs.YtpdahhnjhggocabGreatDoor
open Go.RowKit
theorem perm_unmap {α β : Type} {f : α → β} {l k : List β} (h : l.Perm k) : ∀ {m : List α}, m.map f = k → ∃ m' : List α, m'.Perm m ∧ m'.map f = l := by
 induction h with
 | nil =>
  intro m hm
  have : m = [] := by simpa using hm
  exact ⟨[], by rw [this], rfl⟩
 | cons x _ ih =>
  intro m hm
  match m, hm with
  | a :: m1, hm =>
   simp only [List.map_cons, List.cons.injEq] at hm
   obtain ⟨m', h1, h2⟩ := ih hm.2
   exact ⟨a :: m', h1.cons a, by rw [List.map_cons, hm.1, h2]⟩
 | swap x y t =>
  intro m hm
  match m, hm with
  | a :: b :: m1, hm =>
   simp only [List.map_cons, List.cons.injEq] at hm
   exact ⟨b :: a :: m1, List.Perm.swap _ _ _, by rw [List.map_cons, List.map_cons, hm.1, hm.2.1, hm.2.2]⟩
 | trans _ _ ih1 ih2 =>
  intro m hm
  obtain ⟨m2, a1, a2⟩ := ih2 hm
  obtain ⟨m1, b1, b2⟩ := ih1 a2
  exact ⟨m1, b1.trans a1, b2⟩
def SortP (B : Nat) (b : GAt) (W W' : World) : Prop := ∃ ls' : List LAt, ls'.Perm (b.ys.map WAt.l) ∧ W'.ownsRow B 82 2 b.v b.ys.length (ls'.flatMap LAt.cells) ∧ (∀ i j : Nat, i < j → ∀ a c, ls'[i]? = some a → ls'[j]? = some c → lineLt (rulesOf b.kind) c.plain a.plain = false) ∧ W.grownBy W' b.v.ownBlock
theorem wat_far {B q : Nat} {W : World} {v : Value} {ys : List WAt} (h : Mem B W (wrows v ys)) (hq : v.ownBlock = some q) {y : WAt} (hy : y ∈ ys) : FarV q y.l.v y.l.ws.length := by
 right
 intro b off m c e
 have hp := (List.pairwise_cons.1 h.2).1 y.r (List.mem_map_of_mem hy)
 have hyb : y.r.v.ownBlock = some y.g := rfl
 have hb : b = y.g := by
  have e' : y.ta = some ⟨b, off, none⟩ := by have := e; unfold WAt.l at this; simp only at this; injection this
  unfold WAt.ta at e'
  split at e' <;> · injection e' with e'; injection e' with e1; exact e1.symm
 rcases hp with hp | hp
 ·rw [show (⟨v, 82, 2, ys.length, (ys.map WAt.l).flatMap LAt.cells⟩ : MRow).v.ownBlock = v.ownBlock from rfl, hq] at hp; cases hp
 ·rw [show (⟨v, 82, 2, ys.length, (ys.map WAt.l).flatMap LAt.cells⟩ : MRow).v.ownBlock = v.ownBlock from rfl, hq, hyb] at hp
  intro e2
  exact hp (by rw [← hb, e2])
theorem sort_lines {B : Nat} {b : GAt} {W0 W : World} {Z : Nat} {vr : Value} {L : List RAt} (h : Mem B W0 (wrows b.v b.ys)) (hsm : b.sm) (hb : Below W0.heap.size W0 W) (hz : W.cell? ⟨Z, 0, none⟩ = some vr) (hLR : L.map RAt.plain = rulesOf b.kind) (hRA : RulesAt W0.heap.size W vr L) (hZ : W0.heap.size ≤ Z) :
  Calls Tryz.prog 52 #[b.v, .func (.func 117) #[] #[.pointer (some ⟨Z, 0, none⟩)]] W fun e w' => e = .returned (.tuple #[]) ∧ SortP B b W w' := by
 have hW := Mem.below h hb
 have hl12 : L.length ≤ 12 := by
  have := (rulesOf_like b.kind).1
  rw [← hLR, List.length_map] at this
  exact this
 have h1 : W.ownsRow B 82 2 b.v (b.ys.map WAt.l).length ((b.ys.map WAt.l).flatMap LAt.cells) := by rw [List.length_map]; exact Mem.head hW
 have h0 : W0.ownsRow B 82 2 b.v b.ys.length ((b.ys.map WAt.l).flatMap LAt.cells) := Mem.head h
 refine (sortLines_any (g := Z) (L := L) h1 hl12 hRA.rin hz (fun x hx => ?_) (fun q hq => ⟨?_, ?_, fun x hx => ?_⟩) (by rw [List.length_map]; have := hsm.2.1; omega)).mono ?_
 ·obtain ⟨y, hy, rfl⟩ := List.mem_map.1 hx
  exact ⟨wat_in (hW.1 y.r (List.mem_cons_of_mem _ (List.mem_map_of_mem hy))), Nat.le_trans (hsm.2.2 y hy).1 (by decide)⟩
 ·exact FarV.above (Mem.head hRA) (h0.lt q hq).2
 ·have := (h0.lt q hq).2; omega
 ·obtain ⟨y, hy, rfl⟩ := List.mem_map.1 hx
  exact wat_far hW hq hy
 ·rintro e w' ⟨rfl, ls', p1, p2, p3, p4⟩
  rw [List.length_map] at p2
  rw [hLR] at p3
  exact ⟨rfl, ls', p1, p2, p3, p4⟩
theorem grows_sorted {B : Nat} {v : Value} {D T : List GAt} {b : GAt} {W W' : World} (h : Mem B W (grows v (D ++ b :: T))) (hS : SortP B b W W') (hg : GoodLs (rulesOf b.kind) (plainL b.ys)) (hsm : b.sm) : ∃ b' : GAt, b'.b.plain = normB b.b.plain ∧ b'.sm ∧ Mem B W' (grows v (D ++ b' :: T)) := by
 obtain ⟨ls', p1, p2, p3, p4⟩ := hS
 obtain ⟨ys', q1, q2⟩ := perm_unmap p1 rfl
 have hp : plainL ys' = normLs (rulesOf b.kind) (plainL b.ys) := by
  refine normLs_unique hg ?_ (fun i j hij a c ha hc => ?_)
  ·unfold plainL
   exact (q1.map WAt.l).map LAt.plain
  ·unfold plainL at ha hc
   rw [q2, List.getElem?_map] at ha hc
   obtain ⟨a', ha', rfl⟩ := Option.map_eq_some_iff.1 ha
   obtain ⟨c', hc', rfl⟩ := Option.map_eq_some_iff.1 hc
   exact p3 i j hij a' c' ha' hc'
 refine ⟨⟨b.kind, b.name, b.v, ys'⟩, ?_, ⟨hsm.1, by rw [q1.length_eq]; exact hsm.2.1, fun y hy => hsm.2.2 y (q1.mem_iff.1 hy)⟩, ?_⟩
 ·show (⟨b.kind, b.name, plainL ys'⟩ : PBlock) = ⟨b.kind, b.name, normLs (rulesOf b.kind) (plainL b.ys)⟩
  rw [hp]
 ·unfold grows at h ⊢
  rw [List.flatMap_append, List.flatMap_cons] at h
  have e1 : (⟨v, 64, 3, (D ++ b :: T).length, ((D ++ b :: T).map GAt.b).flatMap BAt.cells⟩ :: (D.flatMap (fun b => wrows b.v b.ys) ++ (wrows b.v b.ys ++ T.flatMap (fun b => wrows b.v b.ys))) : List MRow) = ((⟨v, 64, 3, (D ++ b :: T).length, ((D ++ b :: T).map GAt.b).flatMap BAt.cells⟩ : MRow) :: D.flatMap (fun b => wrows b.v b.ys)) ++ ⟨b.v, 82, 2, b.ys.length, (b.ys.map WAt.l).flatMap LAt.cells⟩ :: (b.ys.map WAt.r ++ T.flatMap (fun b => wrows b.v b.ys)) := by
   simp [wrows]
  rw [e1] at h
  have h2 := Mem.midTurn (r' := ⟨b.v, 82, 2, b.ys.length, ls'.flatMap LAt.cells⟩) h rfl p2 p4
  refine Mem.perm h2 ?_
  rw [List.flatMap_append, List.flatMap_cons]
  have e3 : (D ++ (⟨b.kind, b.name, b.v, ys'⟩ : GAt) :: T).length = (D ++ b :: T).length := by simp
  have e4 : ((D ++ (⟨b.kind, b.name, b.v, ys'⟩ : GAt) :: T).map GAt.b).flatMap BAt.cells = ((D ++ b :: T).map GAt.b).flatMap BAt.cells := by simp [GAt.b, BAt.cells]
  rw [e3, e4, List.cons_append]
  refine List.Perm.cons _ (List.Perm.append_left _ ?_)
  unfold wrows
  rw [q2, List.cons_append, q1.length_eq]
  exact List.Perm.cons _ ((q1.symm.map WAt.r).append_right _)
theorem grows_order {B : Nat} {v : Value} {gs : List GAt} {bs' : List BAt} {W W' : World} (h : Mem B W (grows v gs)) (p1 : bs'.Perm (gs.map GAt.b)) (p2 : W'.ownsRow B 64 3 v gs.length (bs'.flatMap BAt.cells)) (p4 : W.grownBy W' v.ownBlock) : ∃ gs' : List GAt, gs'.Perm gs ∧ gs'.map GAt.b = bs' ∧ Mem B W' (grows v gs') := by
 obtain ⟨gs', q1, q2⟩ := perm_unmap p1 rfl
 refine ⟨gs', q1, q2, ?_⟩
 unfold grows at h ⊢
 have h2 := Mem.turn (r' := ⟨v, 64, 3, gs.length, bs'.flatMap BAt.cells⟩) h rfl p2 p4
 rw [q2, q1.length_eq]
 exact Mem.perm h2 (List.Perm.cons _ (q1.symm.flatMap_right _))
set_option maxHeartbeats 1000000 in
theorem errAs_nil (t : Value) (w : World) : Calls Tryz.prog 51 #[.nilIface, t] w fun e w' => e = .returned (.bool false) ∧ w' = w := by
 go_enter Tryz.func51, Tryz.ntmps51
 go_wp2
 go_ret
 exact ⟨rfl, rfl⟩
end Go.Proofs.YtpdahhnjhggocabGreatDoor
namespace Go.Proofs.YtpdahhnjhggocabGreatDoor
open Go.RowKit
def GoodPost (bs : List PBlock) (w : World) (e : Ending) (w' : World) : Prop := ∃ a n c gs, e = .returned (.tuple #[.agg #[.slice a n c], .agg #[.int .i64 0, .int .i64 0]]) ∧ plainG gs = normBs bs ∧ Mem w.heap.size w' (grows (.slice a n c) gs) ∧ (∀ b ∈ gs, b.sm) ∧ gs.length ≤ 1000000 ∧ Below w.heap.size w w'
theorem sortP_grown {B : Nat} {b : GAt} {W0 W W' : World} (h : W0.ownsRow B 82 2 b.v b.ys.length ((b.ys.map WAt.l).flatMap LAt.cells)) (h0 : 0 < W0.heap.size) (hS : SortP B b W W') : ∃ q, W.grownBy W' (some q) ∧ q < W0.heap.size := by
 obtain ⟨_, _, _, _, p4⟩ := hS
 cases hq : b.v.ownBlock with
 | none => rw [hq] at p4; exact ⟨0, ⟨p4.os, p4.tape, p4.output, p4.size, fun i hi _ => p4.block i hi (by simp)⟩, h0⟩
 | some q => rw [hq] at p4; exact ⟨q, p4, (h.lt q hq).2⟩
theorem below_own {B : Nat} {w W W' : World} {o : Option Nat} (h : Below B w W) (hB : B ≤ W.heap.size) (hg : W.grownBy W' o) (ho : ∀ q, o = some q → B ≤ q) : Below B w W' := h.grown hg hB (fun k hk => ho k hk)
def LoopS8 (B : Nat) (v : Value) (gs : List GAt) (w1 : World) (i : Value) (W : World) : Prop := ∃ D' D T, i = .int .i64 (D'.length : Int) ∧ gs = D ++ T ∧ D'.length = D.length ∧ plainG D' = (plainG D).map normB ∧ (∀ b ∈ D', b.sm) ∧ Mem B W (grows v (D' ++ T)) ∧ Below w1.heap.size w1 W ∧ True
set_option maxHeartbeats 4000000 in
set_option maxRecDepth 100000 in
theorem implParse_good (s : ByteArray) {w : World} {bs : List PBlock} (hs : s.size ≤ 4000000) (hst : StdAt w) (hP : parseT s.data.toList = .good bs) : Calls Tryz.prog 13 #[.string s] w fun e w' => GoodPost bs w e w' := by
 have hG := parseT_good hP
 have b0 : Below w.heap.size w ((w.alloc (.cells #[.slice none 0 0] 24)).alloc (.cells #[.int .i64 0, .int .i64 0] 26)) := ((Below.refl w.heap.size w).alloc (Nat.le_refl _) _).alloc (by simp) _
 have s1 : ((w.alloc (.cells #[.slice none 0 0] 24)).alloc (.cells #[.int .i64 0, .int .i64 0] 26)).heap.size = w.heap.size + 2 := by simp
 have z0 : ((w.alloc (.cells #[.slice none 0 0] 24)).alloc (.cells #[.int .i64 0, .int .i64 0] 26)).heap[w.heap.size]? = some (.cells #[.slice none 0 0] 24 (0, 0)) := by
  have b1 := (Below.refl (w.alloc (.cells #[.slice none 0 0] 24)).heap.size (w.alloc (.cells #[.slice none 0 0] 24))).alloc (Nat.le_refl _) (.cells #[.int .i64 0, .int .i64 0] 26)
  rw [b1.block w.heap.size (by simp)]; exact alloc_here w _
 have z1 : ((w.alloc (.cells #[.slice none 0 0] 24)).alloc (.cells #[.int .i64 0, .int .i64 0] 26)).heap[w.heap.size + 1]? = some (.cells #[.int .i64 0, .int .i64 0] 26 (0, 0)) := by
  have := alloc_here (w.alloc (.cells #[.slice none 0 0] 24)) (.cells #[.int .i64 0, .int .i64 0] 26)
  rw [World.size_alloc] at this; exact this
 have HR := readText_any s hs (hst.below b0)
 rw [hP] at HR
 clear hst hP
 generalize hw1 : (w.alloc (.cells #[.slice none 0 0] 24)).alloc (.cells #[.int .i64 0, .int .i64 0] 26) = w1 at *
 go_enter Tryz.func13, Tryz.ntmps13
 go_wp2_with (go_at_call 50; (try rw [hw1]); refine HR.mono ?_)
 rintro e w2 ⟨b2, a, n, c, gs, rfl, hpl, hm, hsm, hln⟩
 have HN := fun t W => errAs_nil t W
 have bx := (Below.refl w2.heap.size w2).alloc (Nat.le_refl _) (.cells #[.int .i64 0, .int .i64 0] 77)
 have b3 := b2.trans (bx.mono b2.size)
 have hm3 := Mem.below hm bx
 obtain ⟨a', c', e1⟩ := grows_form hm
 cases e1
 have HM := hid_in (show LoopS8 w1.heap.size (.slice a gs.length c) gs w1 (.int .i64 0) (w2.alloc (.cells #[.int .i64 0, .int .i64 0] 77)) from ⟨[], [], gs, rfl, rfl, rfl, rfl, by simp, hm3, b3, trivial⟩)
 have HSM := hid_in hsm
 have HG := hid_in hG
 have HPL := hid_in hpl
 have HB0 := hid_in b0
 clear HR hm hm3 hsm hG hpl b0 b2 bx b3 hw1
 generalize hng : gs.length = ng at *
 have ENG := hid_in hng
 clear hng
 go_wp2_with (go_at_call 51; refine (HN _ _).mono ?_; rintro e w3 ⟨rfl, rfl⟩)
 go_loopw [22] (fun i wr => LoopS8 w1.heap.size (.slice a ng c) gs w1 i wr) (fun i _ => ng - (intOf i).toNat)
 case atStart => exact HM.out
 case round =>
  clear HM
  obtain ⟨D', D, T, rfl, hgs, hDl, hpD, hsD, hM, hBw, _⟩ := hrel
  have hlen : D'.length + T.length = ng := by rw [hDl, ← List.length_append, ← hgs]; exact ENG.out
  by_cases hlt : D'.length < ng
  ·have hlt' : ((D'.length : Int) < (ng : Int)) := by omega
   match T, hlen, hgs, hM with
   | [], hlen, _, _ => simp at hlen; omega
   | b :: T, hlen, hgs, hM =>
    have hbm : b ∈ gs := by rw [hgs]; simp
    have hbs := HSM.out b hbm
    have hbG : GoodLs (rulesOf b.kind) (plainL b.ys) := HG.out.2 b.b.plain (by rw [← HPL.out]; unfold plainG; exact List.mem_map_of_mem (List.mem_map_of_mem hbm))
    have hrow := (grows_in hM).1
    obtain ⟨la, lc, elv⟩ := wrows_form (grows_lines hM (b := b) (by simp))
    have hl2 : (D' ++ b :: T).length = ng := by rw [List.length_append]; simpa using hlen
    rw [List.length_map, hl2, List.map_append, List.map_cons] at hrow
    obtain ⟨g, off, eg, d0, d1, d2⟩ := hrow.block
    cases eg
    rw [List.length_map] at d0 d1 d2
    rw [show b.b.v = .slice la b.ys.length lc from elv] at d2
    have hB0 : (0 : Int) ≤ (D'.length : Int) := by omega
    have bx := (Below.refl wr.heap.size wr).alloc (Nat.le_refl _) (.cells #[.string b.b.kind, .string b.b.name, .slice la b.ys.length lc] 64)
    have xb := alloc_here wr (.cells #[.string b.b.kind, .string b.b.name, .slice la b.ys.length lc] 64)
    have x0 := cell_of_block xb 0
    have x2 := cell_of_block xb 2
    simp only [List.getElem?_toArray, List.getElem?_cons_zero, List.getElem?_cons_succ] at x0 x2
    have hMb := Mem.below hM bx
    have hzz := hBw.size
    have hz1 : 0 < (wr.alloc (.cells #[.string b.b.kind, .string b.b.name, .slice la b.ys.length lc] 64)).heap.size := by simp
    have hrowL : (wr.alloc (.cells #[.string b.b.kind, .string b.b.name, .slice la b.ys.length lc] 64)).ownsRow w1.heap.size 82 2 b.v b.ys.length ((b.ys.map WAt.l).flatMap LAt.cells) := Mem.head (grows_lines hMb (b := b) (by simp))
    have hln' := grows_lines hMb (b := b) (by simp)
    have hb3 := hBw.trans (bx.mono hzz)
    have HMB := hid_in hMb
    have HRW := hid_in hrowL
    have HLN := hid_in hln'
    have HBG := hid_in hbG
    have HBS := hid_in hbs
    have HB3 := hid_in hb3
    have HGS := hid_in hgs
    have HPD := hid_in hpD
    have HSD := hid_in hsD
    have ELV := hid_in elv
    have HDL := hid_in hDl
    clear hDl
    clear hMb hrowL hln' hbG hbs hb3 hM hBw bx hgs hpD hsD hrow hbm
    generalize hnd : D'.length = nd at *
    generalize hW0 : wr.alloc (.cells #[.string b.b.kind, .string b.b.name, .slice la b.ys.length lc] 64) = W0 at *
    go_upto_region 8 with fail
    (try rw [hW0])
    refine regionS8 (SortP w1.heap.size b) x0 x2 (fun W Z vr L hb hz hLR hRA hZ => by
     have := sort_lines (b := b) HLN.out HBS.out hb hz hLR hRA hZ
     rw [ELV.out] at this
     exact this) (fun W W' hS => sortP_grown HRW.out hz1 hS) (by kernel_rfl) (by kernel_rfl) ?_
    intro v a' W1 W2 ha' hb1 hS
    simp only [putS, setS, List.setIfInBounds_toArray, List.set_cons_zero, List.set_cons_succ] at ha'
    subst ha'
    obtain ⟨b', hb'1, hb'2, hM2⟩ := grows_sorted (HMB.out.below hb1) hS HBG.out HBS.out
    have hB2 : Below w1.heap.size w1 W2 := by
     obtain ⟨_, _, _, _, p4⟩ := hS
     have h5 := HB3.out.trans (hb1.mono HB3.out.size)
     exact below_own h5 h5.size p4 (fun q hq => (HRW.out.lt q hq).1)
    have HI := hid_in (show LoopS8 w1.heap.size (.slice (some ⟨g, off, none⟩) ng c) gs w1 (.int .i64 ((D' ++ [b']).length : Int)) W2 from ⟨D' ++ [b'], D ++ [b], T, rfl, by rw [HGS.out]; simp, by rw [List.length_append, List.length_append, hnd, HDL.out]; rfl, by
     rw [plainG_snoc, plainG_snoc, List.map_append, HPD.out, List.map_cons, List.map_nil]
     exact congrArg (fun z => (plainG D).map normB ++ [z]) hb'1, fun x hx => by
     rcases List.mem_append.1 hx with hx | hx
     ·exact HSD.out x hx
     ·rw [List.mem_singleton.1 hx]; exact hb'2, by rw [List.append_assoc]; exact hM2, hB2, trivial⟩)
    have hl9 : (D' ++ [b']).length = nd + 1 := by rw [List.length_append, hnd]; rfl
    rw [hl9] at HI
    clear HMB HRW HLN HBG HBS HB3 HGS HPD HSD hS hM2 hB2 hb1 x0 x2 d0 d1 d2 xb hl9
    go_wp2
    go_roundw
    case rel => exact HI.out
    case measure => simp [intOf]; omega
  ·obtain rfl : T = [] := List.length_eq_zero_iff.1 (by omega)
   have hlt' : ¬ ((D'.length : Int) < (ng : Int)) := by omega
   rw [List.append_nil] at hM hgs
   subst hgs
   have hDn : D'.length = ng := by simpa using hlen
   have hrow : wr.ownsRow w1.heap.size 64 3 (.slice a ng c) (D'.map GAt.b).length ((D'.map GAt.b).flatMap BAt.cells) := by rw [List.length_map]; exact Mem.head hM
   have HS := sortBlocks_any hrow (fun x hx => by
    obtain ⟨b, hb, rfl⟩ := List.mem_map.1 hx
    obtain ⟨la, lc, e⟩ := wrows_form (grows_lines hM hb)
    exact ⟨la, _, lc, e⟩) (by rw [List.length_map]; omega)
   have HMH := hid_in hM
   have HPD := hid_in hpD
   have HSD := hid_in hsD
   have HBW := hid_in hBw
   have HDN := hid_in hDn
   have hzz := hBw.size
   clear hM hpD hsD hBw hrow hDl hlen
   generalize hnd : D'.length = nd at *
   have END := hid_in hnd
   clear hnd hDn
   go_wp2_with (go_at_call 55; refine HS.mono ?_)
   first | rintro e w5 rfl bs5 p1 p2 p3 p4 | rintro e w5 ⟨rfl, bs5, p1, p2, p3, p4⟩
   rw [← s1] at p2
   obtain ⟨gs', q1, q2, q3⟩ := grows_order HMH.out p1 p2 p4
   have hB5 : Below w1.heap.size w1 w5 := below_own HBW.out hzz p4 (fun q hq => (World.ownsRow.lt (Mem.head HMH.out) q hq).1)
   have hpl' : plainG gs' = normBs bs := by
    refine normBs_unique HG.out ?_ (fun i j hij x y hx hy => ?_)
    ·have h1 : (plainG gs').Perm (plainG D') := (q1.map GAt.b).map BAt.plain
     rw [HPD.out, HPL.out] at h1
     exact h1
    ·unfold plainG at hx hy
     rw [q2, List.getElem?_map] at hx hy
     obtain ⟨x', hx', rfl⟩ := Option.map_eq_some_iff.1 hx
     obtain ⟨y', hy', rfl⟩ := Option.map_eq_some_iff.1 hy
     exact p3 i j hij x' y' hx' hy'
   have y0 := (hB5.block w.heap.size (by omega)).trans z0
   have y1 := (hB5.block (w.heap.size + 1) (by omega)).trans z1
   have r0 := cell_of_block y0 0
   have r1 := cell_of_block y1 0
   have r2 := cell_of_block y1 1
   have f0 := frozen_of_block y0 0
   have f1 := frozen_of_block y1 0
   have f2 := frozen_of_block y1 1
   simp only [List.getElem?_toArray, List.getElem?_cons_zero, List.getElem?_cons_succ] at r0 r1 r2
   have hb9 := HB0.out.trans (hB5.mono (by omega))
   have HO := hid_in (show GoodPost bs w (.returned (.tuple #[.agg #[.slice a ng c], .agg #[.int .i64 0, .int .i64 0]])) (((w5.setCell ⟨w.heap.size, 0, none⟩ (.slice a ng c)).setCell ⟨w.heap.size + 1, 0, none⟩ (.int .i64 0)).setCell ⟨w.heap.size + 1, 1, none⟩ (.int .i64 0)) from ⟨a, ng, c, gs', rfl, hpl', ((((q3.setCell ⟨w.heap.size, 0, none⟩ (by simp only; omega) _).setCell ⟨w.heap.size + 1, 0, none⟩ (by simp only; omega) _).setCell ⟨w.heap.size + 1, 1, none⟩ (by simp only; omega) _)).mono (by omega), fun b hb => HSD.out b (q1.mem_iff.1 hb), by rw [q1.length_eq, END.out]; have := HDN.out; omega, below_setCell (below_setCell (below_setCell hb9 ⟨w.heap.size, 0, none⟩ (Nat.le_refl _) _) ⟨w.heap.size + 1, 0, none⟩ (by simp only; omega) _) ⟨w.heap.size + 1, 1, none⟩ (by simp only; omega) _⟩)
   clear HS p1 p2 p3 p4 q1 q2 q3 hpl' hb9 hB5 y0 y1 HMH
   go_wp2
   exact bodyPost_ret (v := .tuple #[.agg #[.slice a ng c], .agg #[.int .i64 0, .int .i64 0]]) (by simp [results, Tryz.results13, go_sem, r0, r1, r2]) rfl HO.out
end Go.Proofs.YtpdahhnjhggocabGreatDoor
