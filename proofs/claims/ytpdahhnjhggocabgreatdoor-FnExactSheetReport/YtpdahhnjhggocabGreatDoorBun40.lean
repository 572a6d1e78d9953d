import Derived.Test.YtpdahhnjhggocabGreatDoorBun39
import Derived.Test.YtpdahhnjhggocabGreatDoorBun35
import Derived.Test.YtpdahhnjhggocabGreatDoorBun31
import Derived.Test.YtpdahhnjhggocabGreatDoorBun24
import Derived.Test.YtpdahhnjhggocabGreatDoorBun20
import Derived.Test.YtpdahhnjhggocabGreatDoorBun17
import Derived.Test.YtpdahhnjhggocabGreatDoorBun4
namespace Go.Proofs.YtpdahhnjhggocabGreatDoor
open Go.RowKit
theorem own_rowTurned {w : World} {base : Nat} {e : TypeId} {size : Nat} {v : Value} {n : Nat} {xs : List Value} (h : w.ownsRow base e size v n xs) (g : Nat) (hg : v.ownBlock ≠ some g) (cs : Array Value) : (w.setRow g cs).ownsRow base e size v n xs := by
 refine ⟨h.1, ?_⟩
 rcases h.2 with h2 | ⟨g', cap, cur, hv, hb, hh, hrest⟩
 ·exact Or.inl h2
 ·refine Or.inr ⟨g', cap, cur, hv, hb, ?_, hrest⟩
  rw [setRow_other _ _ _ _ (fun e => hg (by rw [hv, e]; rfl))]
  exact hh
def opi2_0 : Oper := { dst := some 16, op := Op.move (Operand.tmp 1), type := 61, pos := "l3_parse.go:149", after := #[], guard := none }
def opi2_1 : Oper := { dst := some 17, op := Op.indexAddr 61 (Operand.tmp 16) (Operand.const (Value.int IntKind.i64 0)), type := 0, pos := "l3_parse.go:149", after := #[{ on := 0, ground := Ground.data }], guard := none }
def opi2_2 : Oper := { dst := some 18, op := Op.load 9 (Operand.tmp 17), type := 9, pos := "l3_parse.go:149", after := #[{ on := 1, ground := Ground.data }], guard := none }
def opi2_3 : Oper := { dst := some 19, op := Op.buildSlice 61 0 #[], type := 61, pos := "l3_parse.go:149", after := #[], guard := none }
def opi2_4 : Oper := { dst := some 20, op := Op.move (Operand.tmp 1), type := 61, pos := "l3_parse.go:149", after := #[], guard := none }
def opi2_5 : Oper := { dst := some 21, op := Op.slice 61 (Operand.tmp 20) (some (Operand.const (Value.int IntKind.i64 1))) none none, type := 61, pos := "l3_parse.go:149", after := #[{ on := 4, ground := Ground.data }], guard := none }
def opi2_6 : Oper := { dst := some 22, op := Op.call { callee := Callee.builtin Builtin.append, args := #[Operand.tmp 19, Operand.tmp 21], argTypes := #[61, 61] }, type := 61, pos := "l3_parse.go:149", after := #[{ on := 3, ground := Ground.data }, { on := 5, ground := Ground.data }], guard := none }
def opi2_7 : Oper := { dst := some 23, op := Op.build 82 #[(0, Operand.tmp 18), (1, Operand.tmp 22)], type := 82, pos := "l3_parse.go:149", after := #[{ on := 2, ground := Ground.data }, { on := 6, ground := Ground.data }], guard := none }
def opi2_8 : Oper := { dst := some 7, op := Op.alloc 82, type := 0, pos := "l3_parse.go:149", after := #[], guard := none }
def opi2_9 : Oper := { dst := none, op := Op.store 82 (Operand.tmp 7) (Operand.tmp 23), type := 0, pos := "l3_parse.go:149", after := #[{ on := 8, ground := Ground.data }, { on := 7, ground := Ground.data }, { on := 6, ground := Ground.chain }, { on := 0, ground := Ground.phase }, { on := 1, ground := Ground.phase }, { on := 2, ground := Ground.phase }, { on := 3, ground := Ground.phase }, { on := 4, ground := Ground.phase }, { on := 5, ground := Ground.phase }, { on := 6, ground := Ground.phase }, { on := 7, ground := Ground.phase }, { on := 8, ground := Ground.phase }], guard := none }
def opsi2 : List Oper := [opi2_0, opi2_1, opi2_2, opi2_3, opi2_4, opi2_5, opi2_6, opi2_7, opi2_8, opi2_9]
def I2F (W0 : World) (g n wc : Nat) (ta : Option Addr) (key : ByteArray) (ws : List Value) (i : Nat) (x : Value) (W : World) : Prop := match i with
 | 0 => x = (.slice (some ⟨g, 0, none⟩) (n + 1) wc)
 | 1 => x = (.pointer (some ⟨g, 0, none⟩))
 | 2 => x = .string key
 | 3 => ∃ h, x = .slice (some ⟨h, 0, none⟩) 0 0
 | 4 => x = (.slice (some ⟨g, 0, none⟩) (n + 1) wc)
 | 5 => x = (.slice ta n (wc - 1))
 | 6 => ∃ ao c, x = .slice ao n c ∧ W.ownsRow W0.heap.size 9 1 (.slice ao n c) n ws
 | 7 => ∃ ao c, x = .agg #[.string key, .slice ao n c] ∧ W.ownsRow W0.heap.size 9 1 (.slice ao n c) n ws
 | 8 => ∃ R, x = .pointer (some ⟨R, 0, none⟩) ∧ W.heap[R]? = some (.cells #[.string ⟨#[]⟩, .slice none 0 0] 82 (0, 0)) ∧ W0.heap.size ≤ R
 | _ => True
theorem I2F.keep {W0 : World} {g n wc : Nat} {ta : Option Addr} {key : ByteArray} {ws : List Value} {W W' : World} (hb : Below W.heap.size W W') (j : Nat) (y : Value) (h : I2F W0 g n wc ta key ws j y W) : I2F W0 g n wc ta key ws j y W' := by
 unfold I2F at *
 split <;> simp only at h ⊢
 all_goals first
  | exact h
  | (obtain ⟨ao, c, e, ho⟩ := h; exact ⟨ao, c, e, own_below ho hb⟩)
  | (obtain ⟨R, e, hh, hR⟩ := h; exact ⟨R, e, (hb.block R (Array.getElem?_eq_some_iff.1 hh).1).trans hh, hR⟩)
def I2J (a0 : Act) (W0 : World) (g n wc : Nat) (ta : Option Addr) (key : ByteArray) (ws : List Value) (L : Nat → Bool) (a : Act) (W : World) : Prop := ∃ v : Nat → Value, a = putS a0 [16, 17, 18, 19, 20, 21, 22, 23, 7] v ∧ (∀ i, L i = true → I2F W0 g n wc ta key ws i (v i) W) ∧ Below W0.heap.size W0 W ∧ (L 3 = true → L 6 = false → W.ownsRow W0.heap.size 9 1 (v 3) 0 []) ∧ (L 6 = true → L 3 = true) ∧ (L 7 = true → L 6 = true)
theorem I2J.next {a0 : Act} {W0 : World} {g n wc : Nat} {ta : Option Addr} {key : ByteArray} {ws : List Value} {L : Nat → Bool} {v : Nat → Value} {W W' : World} {a' : Act} (h : ∀ i, L i = true → I2F W0 g n wc ta key ws i (v i) W) (i : Nat) (x : Value) (ha : a' = putS a0 [16, 17, 18, 19, 20, 21, 22, 23, 7] (fun j => if j = i then x else v j)) (hkeep : ∀ j y, L j = true → I2F W0 g n wc ta key ws j y W → I2F W0 g n wc ta key ws j y W') (hi : I2F W0 g n wc ta key ws i x W') (hb : Below W0.heap.size W0 W')
  (ho : upd L i 3 = true → upd L i 6 = false → W'.ownsRow W0.heap.size 9 1 (if 3 = i then x else v 3) 0 []) (h63 : upd L i 6 = true → upd L i 3 = true) (h76 : upd L i 7 = true → upd L i 6 = true) : I2J a0 W0 g n wc ta key ws (upd L i) a' W' := by
 refine ⟨_, ha, fun j hj => ?_, hb, ho, h63, h76⟩
 by_cases e : j = i
 ·subst e; simpa using hi
 ·simp only [e, if_false]
  have hl : L j = true := by simpa [upd, e] using hj
  exact hkeep j _ hl (h j hl)
set_option maxHeartbeats 2000000 in
set_option maxRecDepth 10000 in
theorem regionI2 {Q : Exit → Act → World → Prop} {a : Act} {W0 : World} {g n wc : Nat} {ta : Option Addr} {key : ByteArray} {ws : List Value} (hta : (if wc = 1 then some ⟨g, 0, none⟩ else some ⟨g, 1, none⟩ : Option Addr) = ta) (hk : W0.cell? ⟨g, 0, none⟩ = some (.string key)) (hwc : n + 1 ≤ wc) (hrow : HasRow W0 (.slice ta n (wc - 1)) n 1 ws) (hone : ∀ y ∈ ws, y.oneCell' = true) (hn7 : n ≤ 1000) (hs : a.eval (.tmp 1) = (.slice (some ⟨g, 0, none⟩) (n + 1) wc)) (hsz : a.tmps.size = 65)
  (hQ : ∀ v a' R W' ao c, a' = putS a [16, 17, 18, 19, 20, 21, 22, 23, 7] v → v 8 = .pointer (some ⟨R, 0, none⟩) → W0.heap.size ≤ R → Below W0.heap.size W0 W' → W'.heap[R]? = some (.cells #[.string key, .slice ao n c] 82 (0, 0)) → W'.ownsRow W0.heap.size 9 1 (.slice ao n c) n ws → Q .normal a' W') : (Code.region 2 opsi2.toArray true).wp Tryz.prog Q a W0 := by
 obtain ⟨j0, hj9, hy0, hy1, hy2⟩ := info_parts info9
 have hnd : ([16, 17, 18, 19, 20, 21, 22, 23, 7] : List Nat).Nodup := by decide
 have i0 : (0 : Int) < (n : Int) + 1 := by omega
 have i1 : (1 : Int) ≤ (n : Int) + 1 := by omega
 have i2 : (n : Int) + 1 ≤ (wc : Int) := by omega
 refine wp_region_inv (I2J a W0 g n wc ta key ws) 9 10 [0, 1, 2, 3, 4, 5, 6, 7, 8, 9] (by kernel_rfl) rfl (by decide) (by kernel_rfl) ?h1 ?hall
 case h1 =>
  refine ⟨_, putS_self a [16, 17, 18, 19, 20, 21, 22, 23, 7], fun i hi => ?_, (Below.refl _ _).drew, fun h => by simp at h, fun h => by simp at h, fun h => by simp at h⟩
  have hi' : 10 ≤ i := by simpa using hi
  unfold I2F
  split <;> first | omega | trivial
 refine AllInv.consQ (o := opi2_0) [] (by kernel_rfl) (by decide) (by kernel_rfl) rfl ?o0 (AllInv.consQ (o := opi2_1) [0] (by kernel_rfl) (by decide) (by kernel_rfl) rfl ?o1 (AllInv.consQ (o := opi2_2) [1] (by kernel_rfl) (by decide) (by kernel_rfl) rfl ?o2 (AllInv.consQ (o := opi2_3) [] (by kernel_rfl) (by decide) (by kernel_rfl) rfl ?o3 (AllInv.consQ (o := opi2_4) [] (by kernel_rfl) (by decide) (by kernel_rfl) rfl ?o4 (AllInv.consQ (o := opi2_5) [4] (by kernel_rfl) (by decide) (by kernel_rfl) rfl ?o5 (AllInv.consQ (o := opi2_6) [3, 5] (by kernel_rfl) (by decide) (by kernel_rfl) rfl ?o6 (AllInv.consQ (o := opi2_7) [2, 6] (by kernel_rfl) (by decide) (by kernel_rfl) rfl ?o7 (AllInv.consQ (o := opi2_8) [] (by kernel_rfl) (by decide) (by kernel_rfl) rfl ?o8 (AllInv.lastQ (o := opi2_9) [8, 7, 6, 0, 1, 2, 3, 4, 5, 6, 7, 8] (by kernel_rfl) (by kernel_rfl) rfl ?o9)))))))))
 case o0 =>
  rintro Q' L _ W h0L hpre ⟨v, rfl, hv, hb, ho, h63, h76⟩ K hK
  have r1 := (eval_out (v := v) (show 1 ∉ ([16, 17, 18, 19, 20, 21, 22, 23, 7] : List Nat) by decide)).trans hs
  have he : execOp (putS a [16, 17, 18, 19, 20, 21, 22, 23, 7] v).eval opi2_0 = execOp (Act.eval ⟨#[undef], []⟩) ⟨some 0, .move (.const (.slice (some ⟨g, 0, none⟩) (n + 1) wc)), 0, "", #[], none⟩ := by simp only [execOp, eval_const, opi2_0, r1]
  refine Lid.mk ?_
  unfold Oper.wp
  rw [he]
  clear he
  go_simp
  exact hK.out _ _ (I2J.next (W := W) hv 0 (.slice (some ⟨g, 0, none⟩) (n + 1) wc) (put_in 0 hnd rfl) (fun _ _ _ h => h) rfl hb (by simpa [upd] using ho) (by simpa [upd] using h63) (by simpa [upd] using h76))
 case o1 =>
  rintro Q' L _ W h0L hpre ⟨v, rfl, hv, hb, ho, h63, h76⟩ K hK
  have r16 : (putS a [16, 17, 18, 19, 20, 21, 22, 23, 7] v).eval (.tmp 16) = _ := (eval_in 0 hnd rfl (by omega)).trans (hv 0 (hpre 0 (by simp)))
  have he : execOp (putS a [16, 17, 18, 19, 20, 21, 22, 23, 7] v).eval opi2_1 = execOp (Act.eval ⟨#[undef], []⟩) ⟨some 0, .indexAddr 61 (.const (.slice (some ⟨g, 0, none⟩) (n + 1) wc)) (.const (.int .i64 0)), 0, "", #[], none⟩ := by simp only [execOp, eval_const, opi2_1, r16]
  refine Lid.mk ?_
  unfold Oper.wp
  rw [he]
  clear he
  go_simp
  exact hK.out _ _ (I2J.next (W := W) hv 1 (.pointer (some ⟨g, 0, none⟩)) (put_in 1 hnd rfl) (fun _ _ _ h => h) rfl hb (by simpa [upd] using ho) (by simpa [upd] using h63) (by simpa [upd] using h76))
 case o2 =>
  rintro Q' L _ W h0L hpre ⟨v, rfl, hv, hb, ho, h63, h76⟩ K hK
  have r17 : (putS a [16, 17, 18, 19, 20, 21, 22, 23, 7] v).eval (.tmp 17) = _ := (eval_in 1 hnd rfl (by omega)).trans (hv 1 (hpre 1 (by simp)))
  have k1 := (hb.cell (World.block_lt_of_cell? _ _ hk)).trans hk
  have he : execOp (putS a [16, 17, 18, 19, 20, 21, 22, 23, 7] v).eval opi2_2 = execOp (Act.eval ⟨#[undef], []⟩) ⟨some 0, .load 9 (.const (.pointer (some ⟨g, 0, none⟩))), 0, "", #[], none⟩ := by simp only [execOp, eval_const, opi2_2, r17]
  refine Lid.mk ?_
  unfold Oper.wp
  rw [he]
  clear he
  go_simp
  exact hK.out _ _ (I2J.next (W := W) hv 2 (.string key) (put_in 2 hnd rfl) (fun _ _ _ h => h) rfl hb (by simpa [upd] using ho) (by simpa [upd] using h63) (by simpa [upd] using h76))
 case o3 =>
  rintro Q' L _ W h0L hpre ⟨v, rfl, hv, hb, ho, h63, h76⟩ K hK
  have bx := (Below.refl W.heap.size W).alloc (Nat.le_refl _) (.cells #[] 9)
  have n6 : L 6 = false := by
   cases e : L 6
   ·rfl
   ·have := h63 e; rw [h0L] at this; cases this
  have n7 : L 7 = false := by
   cases e : L 7
   ·rfl
   ·have := h76 e; rw [n6] at this; cases this
  have hl := World.ownsRow_lit (base := W0.heap.size) (e := 9) (size := 1) W #[] 0 hb.size (by decide) rfl
  have he : execOp (putS a [16, 17, 18, 19, 20, 21, 22, 23, 7] v).eval opi2_3 = execOp (Act.eval ⟨#[undef], []⟩) ⟨some 0, .buildSlice 61 0 #[], 0, "", #[], none⟩ := by kernel_rfl
  refine Lid.mk ?_
  unfold Oper.wp
  rw [he]
  clear he
  go_simp
  exact hK.out _ _ (I2J.next (W := W) hv 3 (.slice (some ⟨W.heap.size, 0, none⟩) 0 0) (put_in 3 hnd rfl) (fun j y _ h => I2F.keep bx j y h) ⟨_, rfl⟩ (hb.trans (bx.mono hb.size)) (fun _ _ => hl) (fun h => by simp [upd, n6] at h) (fun h => by simp [upd, n7] at h))
 case o4 =>
  rintro Q' L _ W h0L hpre ⟨v, rfl, hv, hb, ho, h63, h76⟩ K hK
  have r1 := (eval_out (v := v) (show 1 ∉ ([16, 17, 18, 19, 20, 21, 22, 23, 7] : List Nat) by decide)).trans hs
  have he : execOp (putS a [16, 17, 18, 19, 20, 21, 22, 23, 7] v).eval opi2_4 = execOp (Act.eval ⟨#[undef], []⟩) ⟨some 0, .move (.const (.slice (some ⟨g, 0, none⟩) (n + 1) wc)), 0, "", #[], none⟩ := by simp only [execOp, eval_const, opi2_4, r1]
  refine Lid.mk ?_
  unfold Oper.wp
  rw [he]
  clear he
  go_simp
  exact hK.out _ _ (I2J.next (W := W) hv 4 (.slice (some ⟨g, 0, none⟩) (n + 1) wc) (put_in 4 hnd rfl) (fun _ _ _ h => h) rfl hb (by simpa [upd] using ho) (by simpa [upd] using h63) (by simpa [upd] using h76))
 case o5 =>
  rintro Q' L _ W h0L hpre ⟨v, rfl, hv, hb, ho, h63, h76⟩ K hK
  have r20 : (putS a [16, 17, 18, 19, 20, 21, 22, 23, 7] v).eval (.tmp 20) = _ := (eval_in 4 hnd rfl (by omega)).trans (hv 4 (hpre 4 (by simp)))
  have he : execOp (putS a [16, 17, 18, 19, 20, 21, 22, 23, 7] v).eval opi2_5 = execOp (Act.eval ⟨#[undef], []⟩) ⟨some 0, .slice 61 (.const (.slice (some ⟨g, 0, none⟩) (n + 1) wc)) (some (.const (.int .i64 1))) none none, 0, "", #[], none⟩ := by simp only [execOp, eval_const, opi2_5, r20, Option.map_some, Option.map_none]
  refine Lid.mk ?_
  unfold Oper.wp
  rw [he]
  clear he
  go_simp
  exact hK.out _ _ (I2J.next (W := W) hv 5 (.slice ta n (wc - 1)) (put_in 5 hnd rfl) (fun _ _ _ h => h) rfl hb (by simpa [upd] using ho) (by simpa [upd] using h63) (by simpa [upd] using h76))
 case o6 =>
  rintro Q' L _ W h0L hpre ⟨v, rfl, hv, hb, ho, h63, h76⟩ K hK
  obtain ⟨h, e3⟩ := hv 3 (hpre 3 (by simp))
  have how := ho (hpre 3 (by simp)) h0L
  rw [e3] at how
  have n7 : L 7 = false := by
   cases e : L 7
   ·rfl
   ·have := h76 e; rw [h0L] at this; cases this
  have r19 : (putS a [16, 17, 18, 19, 20, 21, 22, 23, 7] v).eval (.tmp 19) = _ := (eval_in 3 hnd rfl (by omega)).trans e3
  have r21 : (putS a [16, 17, 18, 19, 20, 21, 22, 23, 7] v).eval (.tmp 21) = _ := (eval_in 5 hnd rfl (by omega)).trans (hv 5 (hpre 5 (by simp)))
  refine Lid.mk ?_
  exact wp_append_has (.tmp 19) (.tmp 21) 61 rfl W0.heap.size 9 j0 (.string ⟨#[]⟩) 1 16 Tryz.underlying61 hj9 hy0 hy1 hy2 rfl (by decide) _ 0 [] r19 how _ n ws r21 (hrow.below hb) hone (by unfold maxLen; omega) (by omega) hb.size (fun ao c W9 own9 hg9 hv9 => by
   rw [Nat.zero_add, List.nil_append] at own9
   rw [Nat.zero_add]
   have hbl : W0.heap.size ≤ h := (how.lt h rfl).1
   have hb9 : Below W0.heap.size W0 W9 := hb.grown hg9 hb.size (fun q hq => (how.lt q hq).1)
   have hh : ∃ cur, W.heap[h]? = some (.cells cur 9 (0, 0)) := by
    rcases how.2 with ⟨e, _⟩ | ⟨g', cap, cur, e, _, hc, _⟩
    ·cases e
    ·cases e; exact ⟨cur, hc⟩
   obtain ⟨cur, hh⟩ := hh
   refine hK.out _ _ (I2J.next (W := W) hv 6 (.slice ao n c) (put_in 6 hnd rfl) (fun j y hj hF => ?_) ⟨ao, c, rfl, own9⟩ hb9 (fun _ h => by simp [upd] at h) (fun _ => by simp [upd, hpre 3 (by simp)]) (fun h => by simp [upd]))
   have n6' : j ≠ 6 := fun e => by rw [e, h0L] at hj; cases hj
   have n7' : j ≠ 7 := fun e => by rw [e, n7] at hj; cases hj
   unfold I2F at *
   split <;> simp only at hF ⊢
   all_goals first
    | exact hF
    | exact absurd rfl n6'
    | exact absurd rfl n7'
    | (obtain ⟨R, e, hR, hl⟩ := hF; exact ⟨R, e, (hg9.block R (Array.getElem?_eq_some_iff.1 hR).1 (fun e' => by cases e'; rw [hh] at hR; simp at hR)).trans hR, hl⟩))
 case o7 =>
  rintro Q' L _ W h0L hpre ⟨v, rfl, hv, hb, ho, h63, h76⟩ K hK
  obtain ⟨ao, c, e6, ow⟩ := hv 6 (hpre 6 (by simp))
  have r18 : (putS a [16, 17, 18, 19, 20, 21, 22, 23, 7] v).eval (.tmp 18) = _ := (eval_in 2 hnd rfl (by omega)).trans (hv 2 (hpre 2 (by simp)))
  have r22 : (putS a [16, 17, 18, 19, 20, 21, 22, 23, 7] v).eval (.tmp 22) = _ := (eval_in 6 hnd rfl (by omega)).trans e6
  have l6 := hpre 6 (by simp)
  have he : execOp (putS a [16, 17, 18, 19, 20, 21, 22, 23, 7] v).eval opi2_7 = execOp (Act.eval ⟨#[undef], []⟩) ⟨some 0, .build 82 #[(0, .const (.string key)), (1, .const (.slice ao n c))], 0, "", #[], none⟩ := by simp only [execOp, eval_const, opi2_7, r18, r22, List.map_toArray, List.map_cons, List.map_nil]
  refine Lid.mk ?_
  unfold Oper.wp
  rw [he]
  clear he
  go_simp
  exact hK.out _ _ (I2J.next (W := W) hv 7 (.agg #[.string key, .slice ao n c]) (put_in 7 hnd rfl) (fun _ _ _ h => h) ⟨ao, c, rfl, ow⟩ hb (by simpa [upd] using ho) (by simpa [upd] using h63) (fun _ => by simp [upd, l6]))
 case o8 =>
  rintro Q' L _ W h0L hpre ⟨v, rfl, hv, hb, ho, h63, h76⟩ K hK
  have bx := (Below.refl W.heap.size W).alloc (Nat.le_refl _) (.cells #[.string ⟨#[]⟩, .slice none 0 0] 82)
  have he : execOp (putS a [16, 17, 18, 19, 20, 21, 22, 23, 7] v).eval opi2_8 = execOp (Act.eval ⟨#[undef], []⟩) ⟨some 0, .alloc 82, 0, "", #[], none⟩ := by kernel_rfl
  refine Lid.mk ?_
  unfold Oper.wp
  rw [he]
  clear he
  go_simp
  exact hK.out _ _ (I2J.next (W := W) hv 8 (.pointer (some ⟨W.heap.size, 0, none⟩)) (put_in 8 hnd rfl) (fun j y _ h => I2F.keep bx j y h) ⟨W.heap.size, rfl, alloc_here _ _, hb.size⟩ (hb.trans (bx.mono hb.size)) (fun h3 h6 => own_below (ho (by simpa [upd] using h3) (by simpa [upd] using h6)) bx) (by simpa [upd] using h63) (by simpa [upd] using h76))
 case o9 =>
  rintro Q' L _ W h0L hpre ⟨v, rfl, hv, hb, ho, h63, h76⟩ K hK
  obtain ⟨R, e8, hz, hR⟩ := hv 8 (hpre 8 (by simp))
  obtain ⟨ao, c, e7, ow⟩ := hv 7 (hpre 7 (by simp))
  have r7 : (putS a [16, 17, 18, 19, 20, 21, 22, 23, 7] v).eval (.tmp 7) = _ := (eval_in 8 hnd rfl (by omega)).trans e8
  have r23 : (putS a [16, 17, 18, 19, 20, 21, 22, 23, 7] v).eval (.tmp 23) = _ := (eval_in 7 hnd rfl (by omega)).trans e7
  have g0 := cell_of_block hz 0
  have g1 := cell_of_block hz 1
  simp only [List.getElem?_toArray, List.getElem?_cons_zero, List.getElem?_cons_succ] at g0 g1
  have f0 := frozen_of_block hz 0
  have f1 := frozen_of_block hz 1
  have z1 : (W.setCell ⟨R, 0, none⟩ (.string key)).heap[R]? = some (.cells #[.string key, .slice none 0 0] 82 (0, 0)) := by rw [heap_setCell_same W R 0 _ _ _ hz]; rfl
  have HZ := hid_in (show ((W.setCell ⟨R, 0, none⟩ (.string key)).setCell ⟨R, 1, none⟩ (.slice ao n c)).heap[R]? = some (.cells #[.string key, .slice ao n c] 82 (0, 0)) from by
   rw [heap_setCell_same _ R 1 _ _ _ z1]; rfl)
  have hne : (Value.slice ao n c).ownBlock ≠ some R := fun e => by
   rcases ow.2 with ⟨e', _⟩ | ⟨g', cap, cur, e', _, hc, _⟩
   ·cases e'; cases e
   ·cases e'; cases e; rw [hc] at hz; simp at hz
  have HW := hid_in (show ((W.setCell ⟨R, 0, none⟩ (.string key)).setCell ⟨R, 1, none⟩ (.slice ao n c)).ownsRow W0.heap.size 9 1 (.slice ao n c) n ws from by
   rw [setCell_eq_setRow W R 0 _ _ _ _ hz] at z1 ⊢
   rw [setCell_eq_setRow _ R 1 _ _ _ _ z1]
   exact own_rowTurned (own_rowTurned ow R hne _) R hne _)
  have HB := hid_in (below_setCell (below_setCell hb ⟨R, 0, none⟩ hR (.string key)) ⟨R, 1, none⟩ hR (.slice ao n c))
  have he : execOp (putS a [16, 17, 18, 19, 20, 21, 22, 23, 7] v).eval opi2_9 = execOp (Act.eval ⟨#[undef], []⟩) ⟨some 0, .store 82 (.const (.pointer (some ⟨R, 0, none⟩))) (.const (.agg #[.string key, .slice ao n c])), 0, "", #[], none⟩ := by simp only [execOp, eval_const, opi2_9, r7, r23]
  refine Lid.mk ?_
  unfold Oper.wp
  rw [he]
  clear he
  go_simp
  exact hK.out _ _ (NoPanic.normal (hQ v _ R _ ao c rfl e8 hR HB.out HZ.out HW.out))
end Go.Proofs.YtpdahhnjhggocabGreatDoor
namespace Go.Proofs.YtpdahhnjhggocabGreatDoor
open Go.RowKit
theorem any_fault {R : List Plain} {es : List PLine} {a : PLine} : es.any (fun o => o.key.toList == a.key.toList && (!manyR R a.key || decide (o.ws = a.ws))) = true ↔ 0 < sameN es a ∨ (0 < keyN es a.key ∧ manyR R a.key = false) := by
 unfold sameN keyN
 rw [List.any_eq_true, List.countP_pos_iff, List.countP_pos_iff]
 constructor
 ·rintro ⟨o, ho, h⟩
  rw [Bool.and_eq_true, Bool.or_eq_true] at h
  obtain ⟨h1, h2 | h2⟩ := h
  ·exact .inr ⟨⟨o, ho, h1⟩, by simpa using h2⟩
  ·exact .inl ⟨o, ho, by rw [h1, h2]; rfl⟩
 ·rintro (⟨o, ho, h⟩ | ⟨⟨o, ho, h⟩, h2⟩)
  ·rw [Bool.and_eq_true] at h
   exact ⟨o, ho, by rw [h.1, h.2]; simp⟩
  ·exact ⟨o, ho, by rw [h, h2]; rfl⟩
theorem grownSetCell (W : World) (b o : Nat) (v : Value) : W.grownBy (W.setCell ⟨b, o, none⟩ v) (some b) := by
 refine ⟨rfl, rfl, rfl, by simp, fun k _ hk => ?_⟩
 have : b ≠ k := fun e => hk (by rw [e])
 simp [World.setCell, Array.getElem?_modify, this]
structure InJ (w : World) (R nl : Nat) (va : Option Addr) (vc : Nat) (bk bn : ByteArray) (bl : List LAt) (key : ByteArray) (ao : Option Addr) (nx c : Nat) (xs : List (List UInt8)) (W : World) : Prop where
 bw : Below w.heap.size w W
 sz : w.heap.size + 2 ≤ W.heap.size
 res : W.heap[w.heap.size + 1]? = some (.cells #[.string ⟨#[]⟩, .string ⟨#[]⟩, .slice none 0 0] 64 (0, 0))
 box : W.heap[w.heap.size]? = some (.cells #[.string bk, .string bn, .slice va nl vc] 64 (0, 0))
 line : W.heap[R]? = some (.cells #[.string key, .slice ao nx c] 82 (0, 0))
 hb : BlockIn W ⟨bk, bn, .slice va nl vc, bl⟩
 hx : HasRow W (.slice ao nx c) nx 1 (strs xs)
theorem InJ.below {w : World} {R nl : Nat} {va : Option Addr} {vc : Nat} {bk bn : ByteArray} {bl : List LAt} {key : ByteArray} {ao : Option Addr} {nx c : Nat} {xs : List (List UInt8)} {W W' : World} (h : InJ w R nl va vc bk bn bl key ao nx c xs W) (hb : Below W.heap.size W W') : InJ w R nl va vc bk bn bl key ao nx c xs W' :=
 ⟨h.bw.trans (hb.mono h.bw.size), Nat.le_trans h.sz hb.size, (hb.block _ (Array.getElem?_eq_some_iff.1 h.res).1).trans h.res, (hb.block _ (Array.getElem?_eq_some_iff.1 h.box).1).trans h.box, (hb.block _ (Array.getElem?_eq_some_iff.1 h.line).1).trans h.line, h.hb.below hb, h.hx.below hb⟩
def InPost (b : BAt) (x : List UInt8) (xs : List (List UInt8)) (w : World) (e : Ending) (w' : World) : Prop := Below w.heap.size w w' ∧ ((lineFault (rulesOf b.kind) (b.ls.map LAt.plain) ⟨keyOf x, xs⟩ ≠ 0 ∧ e = .returned (.tuple #[.agg #[.string b.kind, .string b.name, b.v], .int .i64 (lineFault (rulesOf b.kind) (b.ls.map LAt.plain) ⟨keyOf x, xs⟩)])) ∨ (lineFault (rulesOf b.kind) (b.ls.map LAt.plain) ⟨keyOf x, xs⟩ = 0 ∧ ∃ a n c ls', e = .returned (.tuple #[.agg #[.string b.kind, .string b.name, .slice a n c], .int .i64 0]) ∧ ls'.map LAt.plain = putIn (lineLt (rulesOf b.kind)) ⟨keyOf x, xs⟩ (b.ls.map LAt.plain) ∧ ls'.length = b.ls.length + 1 ∧ LinesIn w' (.slice a n c) ls' ∧ ∀ q, q < w.heap.size → LinesFar q b.v b.ls → LinesFar q (.slice a n c) ls'))
set_option maxHeartbeats 4000000 in
set_option maxRecDepth 100000 in
theorem l3Inside_any {b : BAt} {g wc : Nat} {x : List UInt8} {xs : List (List UInt8)} {w : World} (hb : BlockIn w b) (hs : LinesSmall b.ls) (hw : HasRow w (.slice (some ⟨g, 0, none⟩) (xs.length + 1) wc) (xs.length + 1) 1 (strs (x :: xs))) (h200 : ∀ y ∈ x :: xs, y.length ≤ 200) (hx7 : xs.length ≤ 7) : Calls Tryz.prog 47 #[.agg #[.string b.kind, .string b.name, b.v], .slice (some ⟨g, 0, none⟩) (xs.length + 1) wc] w fun e w' => InPost b x xs w e w' := by
 obtain ⟨va, vc, ev⟩ := hb.1.form
 obtain ⟨bk, bn, bv, bl⟩ := b
 simp only at ev hs
 subst ev
 obtain ⟨ta, hta⟩ : ∃ ta, (if wc = 1 then some ⟨g, 0, none⟩ else some ⟨g, 1, none⟩ : Option Addr) = ta := ⟨_, rfl⟩
 have htl := tail_has hta hw
 have hwc := hw.cap
 obtain ⟨g', off', e', k0⟩ := hw.word 0 (by simp)
 cases e'
 simp only [List.getElem_cons_zero, Nat.add_zero] at k0
 have b0 := ((Below.refl w.heap.size w).alloc (Nat.le_refl _) (.cells #[.string bk, .string bn, .slice va bl.length vc] 64)).alloc (by simp) (.cells #[.string ⟨#[]⟩, .string ⟨#[]⟩, .slice none 0 0] 64)
 have y0 : ((w.alloc (.cells #[.string bk, .string bn, .slice va bl.length vc] 64)).alloc (.cells #[.string ⟨#[]⟩, .string ⟨#[]⟩, .slice none 0 0] 64)).heap[w.heap.size]? = some (.cells #[.string bk, .string bn, .slice va bl.length vc] 64 (0, 0)) := by
  rw [((Below.refl (w.alloc (.cells #[.string bk, .string bn, .slice va bl.length vc] 64)).heap.size (w.alloc (.cells #[.string bk, .string bn, .slice va bl.length vc] 64))).alloc (Nat.le_refl _) _).block w.heap.size (by simp)]; exact alloc_here w _
 have z0 : ((w.alloc (.cells #[.string bk, .string bn, .slice va bl.length vc] 64)).alloc (.cells #[.string ⟨#[]⟩, .string ⟨#[]⟩, .slice none 0 0] 64)).heap[w.heap.size + 1]? = some (.cells #[.string ⟨#[]⟩, .string ⟨#[]⟩, .slice none 0 0] 64 (0, 0)) := by
  have := alloc_here (w.alloc (.cells #[.string bk, .string bn, .slice va bl.length vc] 64)) (.cells #[.string ⟨#[]⟩, .string ⟨#[]⟩, .slice none 0 0] 64)
  rw [World.size_alloc] at this; exact this
 have hz1 : ((w.alloc (.cells #[.string bk, .string bn, .slice va bl.length vc] 64)).alloc (.cells #[.string ⟨#[]⟩, .string ⟨#[]⟩, .slice none 0 0] 64)).heap.size = w.heap.size + 2 := by simp
 have hb0 := hb.below b0
 have ht0 := htl.below b0
 have i0 := (b0.cell (World.block_lt_of_cell? _ _ k0)).trans k0
 have y00 := cell_of_block y0 0
 simp only [List.getElem?_toArray, List.getElem?_cons_zero] at y00
 have hx0 : (keyOf x).size ≤ 1048576 := by
  have := h200 x (by simp)
  show x.toArray.size ≤ 1048576
  rw [List.size_toArray]; omega
 have HBF := hid_in (show ∀ q, w.heap.size ≤ q → LinesFar q (.slice va bl.length vc) bl from fun q hq => LinesIn.fresh hb hq)
 have HX2 := hid_in (show ∀ y ∈ xs, y.length ≤ 1048576 from fun y hy => by have := h200 y (List.mem_cons_of_mem _ hy); omega)
 have HF0 := hid_in (show ∀ (code : Int) W, Below w.heap.size w W → code ≠ 0 → lineFault (rulesOf bk) (bl.map LAt.plain) ⟨keyOf x, xs⟩ = code → InPost ⟨bk, bn, .slice va bl.length vc, bl⟩ x xs w (.returned (.tuple #[.agg #[.string bk, .string bn, .slice va bl.length vc], .int .i64 code])) W from fun code W hB hc he => ⟨hB, .inl (by simp only; rw [he]; exact ⟨hc, rfl⟩)⟩)
 generalize hw1 : (w.alloc (.cells #[.string bk, .string bn, .slice va bl.length vc] 64)).alloc (.cells #[.string ⟨#[]⟩, .string ⟨#[]⟩, .slice none 0 0] 64) = w1 at *
 have HB0 := hid_in b0
 have HBI := hid_in hb0
 have HT0 := hid_in ht0
 have Y0 := hid_in y0
 have Z0 := hid_in z0
 have HSM := hid_in hs
 have ew1 := hid_in hw1
 have HP : ∀ p : Gr w1, Calls Tryz.prog 73 #[.string bk, .string ⟨x.toArray⟩] p.u fun e w' => e = .returned (.int .i64 (placeI (rulesOf bk) (keyOf x))) ∧ Below p.u.heap.size p.u w' := fun p => l2Place_any bk (keyOf x) p.u
 have u0 := fun p : Gr w1 => gr_cell i0 p
 have u1 := fun p : Gr w1 => gr_cell y00 p
 obtain ⟨pl, hpl⟩ : ∃ pl, placeI (rulesOf bk) (keyOf x) = pl := ⟨_, rfl⟩
 rw [hpl] at HP
 have HPL := hid_in hpl
 have hlb : bl.length ≤ 1048576 := hs.1
 clear hb hw h200 k0 y0 z0 b0 hb0 ht0 hs htl hw1 hpl
 generalize hnl : bl.length = nl at *
 generalize hnx : xs.length = nx at *
 have ENL := hid_in hnl
 have ENX := hid_in hnx
 clear hnl hnx
 go_enter Tryz.func47, Tryz.ntmps47
 go_upto_region 1 with fail
 (try rw [ew1.out])
 refine wp_region_gr (by kernel_rfl) (by kernel_rfl) ?_
 iterate 5 quiet_step (fail)
 quiet_step ((go_at_call 73; refine gr_of (HP _)))
 quiet_step (fail)
 refine wpQuiet_nil ?_
 rintro _ ⟨⟨wq, bq⟩, rfl⟩
 have B1 := HB0.out.trans (bq.mono HB0.out.size)
 have hq1 := (bq.block (w.heap.size + 1) (by omega)).trans Z0.out
 have hq0 := (bq.block w.heap.size (by omega)).trans Y0.out
 have j0 := (bq.cell (World.block_lt_of_cell? _ _ i0)).trans i0
 have HBJ := hid_in (HBI.out.below bq)
 have HTJ := HT0.out.below bq
 have hqz := bq.size
 clear HP u0 u1 i0 y00 HBI HT0 Y0 Z0 HB0 bq ew1
 go_upto_region 2 with fail
 refine regionI2 hta j0 hwc.1 HTJ (strs_one xs) (by omega) (by kernel_rfl) (by kernel_rfl) ?_
 intro v a' R w2 ao c ha' e8 hR b2 hh ow
 simp only [putS, setS, List.setIfInBounds_toArray, List.set_cons_zero, List.set_cons_succ, e8] at ha'
 subst ha'
 have J2 := hid_in (show InJ w R nl va vc bk bn bl ⟨x.toArray⟩ ao nx c xs w2 from ⟨B1.trans (b2.mono B1.size), by have := b2.size; omega, (b2.block _ (Array.getElem?_eq_some_iff.1 hq1).1).trans hq1, (b2.block _ (Array.getElem?_eq_some_iff.1 hq0).1).trans hq0, hh, HBJ.out.below b2, own_has ow⟩)
 have HXF := hid_in (show ∀ q, q < w.heap.size + 2 → FarV q (.slice ao nx c) nx from fun q hq => FarV.above ow (by omega))
 clear ow hh hq0 hq1 b2 B1 HTJ HBJ hta j0
 have cr0a := cell_of_block (J2.out).res 0
 have cr1a := cell_of_block (J2.out).res 1
 have cr2a := cell_of_block (J2.out).res 2
 have fr0a := frozen_of_block (J2.out).res 0
 have fr1a := frozen_of_block (J2.out).res 1
 have fr2a := frozen_of_block (J2.out).res 2
 have cb0a := cell_of_block (J2.out).box 0
 have cb1a := cell_of_block (J2.out).box 1
 have cb2a := cell_of_block (J2.out).box 2
 have cl0a := cell_of_block (J2.out).line 0
 have cl1a := cell_of_block (J2.out).line 1
 simp only [List.getElem?_toArray, List.getElem?_cons_zero, List.getElem?_cons_succ] at cr0a cr1a cr2a cb0a cb1a cb2a cl0a cl1a
 cases hpk : pickR (rulesOf bk) (keyOf x) with
 | none =>
  have hp1 : pl = -1 := by rw [← HPL.out]; exact place_none hpk
  have HPK := hid_in hpk
  subst hp1
  clear hpk
  go_wp2
  exact bodyPost_ret (v := .tuple #[.agg #[.string bk, .string bn, .slice va nl vc], .int .i64 5]) (by simp [results, Tryz.results47, go_sem, cr0a, cr1a, cr2a]) rfl (HF0.out 5 _ (below_setCell (below_setCell (below_setCell (J2.out).bw ⟨w.heap.size + 1, 0, none⟩ (by simp only; omega) _) ⟨w.heap.size + 1, 1, none⟩ (by simp only; omega) _) ⟨w.heap.size + 1, 2, none⟩ (by simp only; omega) _) (by decide) (by unfold lineFault; rw [if_pos HPK.out]))
 | some p =>
  obtain ⟨P, hP1, HSR⟩ := ruleGot hpk
  have hp1 : pl = (P : Int) := by rw [← HPL.out]; exact hP1
  have HPK := hid_in (show ¬ pickR (rulesOf bk) (keyOf x) = none by rw [hpk]; simp)
  have HMY := hid_in (show manyR (rulesOf bk) (keyOf x) = p.2.2.1 by unfold manyR; rw [hpk])
  subst hp1
  have HFT := specFits_any bk (keyOf x) J2.out.hx (by omega) HX2.out
  clear hpk hP1 HPL
  generalize hft : fitsIn (rulesOf bk) (keyOf x) xs = ft at HFT
  have EFT := hid_in hft
  clear hft
  cases ft with
  | false =>
   go_wp2_with (go_at_call 106; refine HFT.mono ?_)
   rintro e w3 ⟨rfl, b3⟩
   have J3 := hid_in (J2.out.below b3)
   clear cr0a cr1a cr2a fr0a fr1a fr2a cb0a cb1a cb2a cl0a cl1a HFT
   have cr0b := cell_of_block (J3.out).res 0
   have cr1b := cell_of_block (J3.out).res 1
   have cr2b := cell_of_block (J3.out).res 2
   have fr0b := frozen_of_block (J3.out).res 0
   have fr1b := frozen_of_block (J3.out).res 1
   have fr2b := frozen_of_block (J3.out).res 2
   have cb0b := cell_of_block (J3.out).box 0
   have cb1b := cell_of_block (J3.out).box 1
   have cb2b := cell_of_block (J3.out).box 2
   have cl0b := cell_of_block (J3.out).line 0
   have cl1b := cell_of_block (J3.out).line 1
   simp only [List.getElem?_toArray, List.getElem?_cons_zero, List.getElem?_cons_succ] at cr0b cr1b cr2b cb0b cb1b cb2b cl0b cl1b
   go_wp2
   exact bodyPost_ret (v := .tuple #[.agg #[.string bk, .string bn, .slice va nl vc], .int .i64 7]) (by simp [results, Tryz.results47, go_sem, cr0b, cr1b, cr2b]) rfl (HF0.out 7 _ (below_setCell (below_setCell (below_setCell (J3.out).bw ⟨w.heap.size + 1, 0, none⟩ (by simp only; omega) _) ⟨w.heap.size + 1, 1, none⟩ (by simp only; omega) _) ⟨w.heap.size + 1, 2, none⟩ (by simp only; omega) _) (by decide) (by unfold lineFault; rw [if_neg HPK.out, if_pos EFT.out]))
  | true =>
   go_wp2_with (go_at_call 106; refine HFT.mono ?_)
   rintro e w3 ⟨rfl, b3⟩
   have J3 := hid_in (J2.out.below b3)
   have HK := l3Key_any (b := ⟨bk, bn, .slice va nl vc, bl⟩) (x := ⟨keyOf x, .slice ao nx c, xs⟩) J3.out.hb HSM.out (show HasRow _ _ _ _ _ by simp only; rw [ENX.out]; exact J3.out.hx) (by simp only; rw [ENX.out]; omega)
   clear cr0a cr1a cr2a fr0a fr1a fr2a cb0a cb1a cb2a cl0a cl1a HFT
   have cr0b := cell_of_block (J3.out).res 0
   have cr1b := cell_of_block (J3.out).res 1
   have cr2b := cell_of_block (J3.out).res 2
   have fr0b := frozen_of_block (J3.out).res 0
   have fr1b := frozen_of_block (J3.out).res 1
   have fr2b := frozen_of_block (J3.out).res 2
   have cb0b := cell_of_block (J3.out).box 0
   have cb1b := cell_of_block (J3.out).box 1
   have cb2b := cell_of_block (J3.out).box 2
   have cl0b := cell_of_block (J3.out).line 0
   have cl1b := cell_of_block (J3.out).line 1
   simp only [List.getElem?_toArray, List.getElem?_cons_zero, List.getElem?_cons_succ] at cr0b cr1b cr2b cb0b cb1b cb2b cl0b cl1b
   generalize hkn : keyN (bl.map LAt.plain) (keyOf x) = kn at HK
   generalize hsn : sameN (bl.map LAt.plain) (LAt.plain ⟨keyOf x, .slice ao nx c, xs⟩) = sn at HK
   have EKN := hid_in hkn
   have ESN := hid_in (show sameN (bl.map LAt.plain) ⟨keyOf x, xs⟩ = sn from hsn)
   clear hkn hsn
   go_wp2_with (go_at_call 107; refine HK.mono ?_)
   rintro e w4 ⟨rfl, b4⟩
   have J4 := hid_in (J3.out.below b4)
   clear HK cr0b cr1b cr2b fr0b fr1b fr2b cb0b cb1b cb2b cl0b cl1b
   have cr0c := cell_of_block (J4.out).res 0
   have cr1c := cell_of_block (J4.out).res 1
   have cr2c := cell_of_block (J4.out).res 2
   have fr0c := frozen_of_block (J4.out).res 0
   have fr1c := frozen_of_block (J4.out).res 1
   have fr2c := frozen_of_block (J4.out).res 2
   have cb0c := cell_of_block (J4.out).box 0
   have cb1c := cell_of_block (J4.out).box 1
   have cb2c := cell_of_block (J4.out).box 2
   have cl0c := cell_of_block (J4.out).line 0
   have cl1c := cell_of_block (J4.out).line 1
   simp only [List.getElem?_toArray, List.getElem?_cons_zero, List.getElem?_cons_succ] at cr0c cr1c cr2c cb0c cb1c cb2c cl0c cl1c
   by_cases hs0 : 0 < sn
   ·have hs0' : (0 : Int) < (sn : Int) := by omega
    go_wp2
    exact bodyPost_ret (v := .tuple #[.agg #[.string bk, .string bn, .slice va nl vc], .int .i64 6]) (by simp [results, Tryz.results47, go_sem, cr0c, cr1c, cr2c]) rfl (HF0.out 6 _ (below_setCell (below_setCell (below_setCell (J4.out).bw ⟨w.heap.size + 1, 0, none⟩ (by simp only; omega) _) ⟨w.heap.size + 1, 1, none⟩ (by simp only; omega) _) ⟨w.heap.size + 1, 2, none⟩ (by simp only; omega) _) (by decide) (by unfold lineFault; rw [if_neg HPK.out, if_neg (by rw [EFT.out]; simp), if_pos (any_fault.2 (.inl (by rw [ESN.out]; exact hs0)))]))
   ·have hs0' : ¬ (0 : Int) < (sn : Int) := by omega
    by_cases hk0 : 0 < kn
    ·have hk0' : (0 : Int) < (kn : Int) := by omega
     cases hmy : p.2.2.1 with
     | false =>
      have HMZ := hid_in (show manyR (rulesOf bk) (keyOf x) = false by rw [HMY.out, hmy])
      go_wp2_with (go_at_call 68; refine (HSR _).mono ?_)
      rintro e w5 ⟨g5, m5, c5, key5, av, nv, cv, ad, cd, rfl, ⟨hm51, hm52⟩, ⟨d0, d1, d2, d3⟩, hr5, b5⟩
      rw [hmy] at d2
      have J5 := hid_in (J4.out.below b5)
      clear hr5 cr0c cr1c cr2c fr0c fr1c fr2c cb0c cb1c cb2c cl0c cl1c
      have cr0d := cell_of_block (J5.out).res 0
      have cr1d := cell_of_block (J5.out).res 1
      have cr2d := cell_of_block (J5.out).res 2
      have fr0d := frozen_of_block (J5.out).res 0
      have fr1d := frozen_of_block (J5.out).res 1
      have fr2d := frozen_of_block (J5.out).res 2
      have cb0d := cell_of_block (J5.out).box 0
      have cb1d := cell_of_block (J5.out).box 1
      have cb2d := cell_of_block (J5.out).box 2
      have cl0d := cell_of_block (J5.out).line 0
      have cl1d := cell_of_block (J5.out).line 1
      simp only [List.getElem?_toArray, List.getElem?_cons_zero, List.getElem?_cons_succ] at cr0d cr1d cr2d cb0d cb1d cb2d cl0d cl1d
      go_wp2
      exact bodyPost_ret (v := .tuple #[.agg #[.string bk, .string bn, .slice va nl vc], .int .i64 6]) (by simp [results, Tryz.results47, go_sem, cr0d, cr1d, cr2d]) rfl (HF0.out 6 _ (below_setCell (below_setCell (below_setCell (J5.out).bw ⟨w.heap.size + 1, 0, none⟩ (by simp only; omega) _) ⟨w.heap.size + 1, 1, none⟩ (by simp only; omega) _) ⟨w.heap.size + 1, 2, none⟩ (by simp only; omega) _) (by decide) (by unfold lineFault; rw [if_neg HPK.out, if_neg (by rw [EFT.out]; simp), if_pos (any_fault.2 (.inr ⟨by rw [EKN.out]; exact hk0, HMZ.out⟩))]))
     | true =>
      have HMZ := hid_in (show manyR (rulesOf bk) (keyOf x) = true by rw [HMY.out, hmy])
      go_wp2_with (go_at_call 68; refine (HSR _).mono ?_)
      rintro e w5 ⟨g5, m5, c5, key5, av, nv, cv, ad, cd, rfl, ⟨hm51, hm52⟩, ⟨d0, d1, d2, d3⟩, hr5, b5⟩
      rw [hmy] at d2
      have J5 := hid_in (J4.out.below b5)
      clear hr5 cr0c cr1c cr2c fr0c fr1c fr2c cb0c cb1c cb2c cl0c cl1c
      have cr0d := cell_of_block (J5.out).res 0
      have cr1d := cell_of_block (J5.out).res 1
      have cr2d := cell_of_block (J5.out).res 2
      have fr0d := frozen_of_block (J5.out).res 0
      have fr1d := frozen_of_block (J5.out).res 1
      have fr2d := frozen_of_block (J5.out).res 2
      have cb0d := cell_of_block (J5.out).box 0
      have cb1d := cell_of_block (J5.out).box 1
      have cb2d := cell_of_block (J5.out).box 2
      have cl0d := cell_of_block (J5.out).line 0
      have cl1d := cell_of_block (J5.out).line 1
      simp only [List.getElem?_toArray, List.getElem?_cons_zero, List.getElem?_cons_succ] at cr0d cr1d cr2d cb0d cb1d cb2d cl0d cl1d
      have HNO := hid_in (show ¬ (0 < sameN (bl.map LAt.plain) ⟨keyOf x, xs⟩ ∨ (0 < keyN (bl.map LAt.plain) (keyOf x) ∧ manyR (rulesOf bk) (keyOf x) = false)) from fun h => by
       rcases h with h | h
       ·rw [ESN.out] at h; exact hs0 h
       ·rw [HMZ.out] at h; exact absurd h.2 (by decide))
      by_cases h10 : 10 ≤ kn
      ·have h10' : (10 : Int) ≤ (kn : Int) := by omega
       go_wp2
       exact bodyPost_ret (v := .tuple #[.agg #[.string bk, .string bn, .slice va nl vc], .int .i64 10]) (by simp [results, Tryz.results47, go_sem, cr0d, cr1d, cr2d]) rfl (HF0.out 10 _ (below_setCell (below_setCell (below_setCell (J5.out).bw ⟨w.heap.size + 1, 0, none⟩ (by simp only; omega) _) ⟨w.heap.size + 1, 1, none⟩ (by simp only; omega) _) ⟨w.heap.size + 1, 2, none⟩ (by simp only; omega) _) (by decide) (by unfold lineFault; rw [if_neg HPK.out, if_neg (by rw [EFT.out]; simp), if_neg (fun h => HNO.out (any_fault.1 h)), if_pos (by rw [EKN.out]; exact h10)]))
      ·have h10' : ¬ (10 : Int) ≤ (kn : Int) := by omega
       have HPT := l3PutLine_all (b := ⟨bk, bn, .slice va nl vc, bl⟩) (x := ⟨keyOf x, .slice ao nx c, xs⟩) (J5.out).hb HSM.out (show HasRow _ _ _ _ _ by simp only; rw [ENX.out]; exact (J5.out).hx) (by simp only; rw [ENX.out]; omega)
       have hzW := (J5.out).sz
       go_wp2_with (go_at_call 70; refine HPT.mono ?_)
       rintro e w6 ⟨a6, n6, c6, ls6, rfl, ⟨hp6, hl6, _, hi6, hf6⟩, b6⟩
       have J6 := hid_in ((J5.out).below b6)
       clear HPT cr0d cr1d cr2d fr0d fr1d fr2d cb0d cb1d cb2d cl0d cl1d
       have cr0z := cell_of_block (J6.out).res 0
       have cr1z := cell_of_block (J6.out).res 1
       have cr2z := cell_of_block (J6.out).res 2
       have fr0z := frozen_of_block (J6.out).res 0
       have fr1z := frozen_of_block (J6.out).res 1
       have fr2z := frozen_of_block (J6.out).res 2
       have cb0z := cell_of_block (J6.out).box 0
       have cb1z := cell_of_block (J6.out).box 1
       have cb2z := cell_of_block (J6.out).box 2
       have cl0z := cell_of_block (J6.out).line 0
       have cl1z := cell_of_block (J6.out).line 1
       simp only [List.getElem?_toArray, List.getElem?_cons_zero, List.getElem?_cons_succ] at cr0z cr1z cr2z cb0z cb1z cb2z cl0z cl1z
       have hfar := hf6 (w.heap.size + 1) (by omega) (HBF.out _ (by omega)) (by simp only; rw [ENX.out]; exact HXF.out _ (by omega))
       have hL := ((hi6.far hfar (grownSetCell w6 (w.heap.size + 1) 0 (.string bk))).far hfar (grownSetCell _ (w.heap.size + 1) 1 (.string bn))).far hfar (grownSetCell _ (w.heap.size + 1) 2 (.slice a6 n6 c6))
       have HO := hid_in (show InPost ⟨bk, bn, .slice va nl vc, bl⟩ x xs w (.returned (.tuple #[.agg #[.string bk, .string bn, .slice a6 n6 c6], .int .i64 0])) (((w6.setCell ⟨w.heap.size + 1, 0, none⟩ (.string bk)).setCell ⟨w.heap.size + 1, 1, none⟩ (.string bn)).setCell ⟨w.heap.size + 1, 2, none⟩ (.slice a6 n6 c6)) from ⟨below_setCell (below_setCell (below_setCell J6.out.bw ⟨w.heap.size + 1, 0, none⟩ (by simp only; omega) _) ⟨w.heap.size + 1, 1, none⟩ (by simp only; omega) _) ⟨w.heap.size + 1, 2, none⟩ (by simp only; omega) _, .inr ⟨by unfold lineFault; rw [if_neg HPK.out, if_neg (by rw [EFT.out]; simp), if_neg (fun h => HNO.out (any_fault.1 h)), if_neg (by rw [EKN.out]; exact h10)], a6, n6, c6, ls6, rfl, hp6, hl6, hL, fun q hq hfq => hf6 q (by omega) hfq (by simp only; rw [ENX.out]; exact HXF.out q (by omega))⟩⟩)
       clear hp6 hl6 hi6 hf6 hfar hL
       go_wp2
       exact bodyPost_ret (v := .tuple #[.agg #[.string bk, .string bn, .slice a6 n6 c6], .int .i64 0]) (by simp [results, Tryz.results47, go_sem, cr0z, cr1z, cr2z]) rfl HO.out
    ·have hk0' : ¬ (0 : Int) < (kn : Int) := by omega
     have HNO := hid_in (show ¬ (0 < sameN (bl.map LAt.plain) ⟨keyOf x, xs⟩ ∨ (0 < keyN (bl.map LAt.plain) (keyOf x) ∧ manyR (rulesOf bk) (keyOf x) = false)) from fun h => by
      rcases h with h | h
      ·rw [ESN.out] at h; exact hs0 h
      ·rw [EKN.out] at h; exact hk0 h.1)
     by_cases h10 : 10 ≤ kn
     ·exact absurd h10 (by omega)
     ·have h10' : ¬ (10 : Int) ≤ (kn : Int) := by omega
      have HPT := l3PutLine_all (b := ⟨bk, bn, .slice va nl vc, bl⟩) (x := ⟨keyOf x, .slice ao nx c, xs⟩) (J4.out).hb HSM.out (show HasRow _ _ _ _ _ by simp only; rw [ENX.out]; exact (J4.out).hx) (by simp only; rw [ENX.out]; omega)
      have hzW := (J4.out).sz
      go_wp2_with (go_at_call 70; refine HPT.mono ?_)
      rintro e w6 ⟨a6, n6, c6, ls6, rfl, ⟨hp6, hl6, _, hi6, hf6⟩, b6⟩
      have J6 := hid_in ((J4.out).below b6)
      clear HPT cr0c cr1c cr2c fr0c fr1c fr2c cb0c cb1c cb2c cl0c cl1c
      have cr0z := cell_of_block (J6.out).res 0
      have cr1z := cell_of_block (J6.out).res 1
      have cr2z := cell_of_block (J6.out).res 2
      have fr0z := frozen_of_block (J6.out).res 0
      have fr1z := frozen_of_block (J6.out).res 1
      have fr2z := frozen_of_block (J6.out).res 2
      have cb0z := cell_of_block (J6.out).box 0
      have cb1z := cell_of_block (J6.out).box 1
      have cb2z := cell_of_block (J6.out).box 2
      have cl0z := cell_of_block (J6.out).line 0
      have cl1z := cell_of_block (J6.out).line 1
      simp only [List.getElem?_toArray, List.getElem?_cons_zero, List.getElem?_cons_succ] at cr0z cr1z cr2z cb0z cb1z cb2z cl0z cl1z
      have hfar := hf6 (w.heap.size + 1) (by omega) (HBF.out _ (by omega)) (by simp only; rw [ENX.out]; exact HXF.out _ (by omega))
      have hL := ((hi6.far hfar (grownSetCell w6 (w.heap.size + 1) 0 (.string bk))).far hfar (grownSetCell _ (w.heap.size + 1) 1 (.string bn))).far hfar (grownSetCell _ (w.heap.size + 1) 2 (.slice a6 n6 c6))
      have HO := hid_in (show InPost ⟨bk, bn, .slice va nl vc, bl⟩ x xs w (.returned (.tuple #[.agg #[.string bk, .string bn, .slice a6 n6 c6], .int .i64 0])) (((w6.setCell ⟨w.heap.size + 1, 0, none⟩ (.string bk)).setCell ⟨w.heap.size + 1, 1, none⟩ (.string bn)).setCell ⟨w.heap.size + 1, 2, none⟩ (.slice a6 n6 c6)) from ⟨below_setCell (below_setCell (below_setCell J6.out.bw ⟨w.heap.size + 1, 0, none⟩ (by simp only; omega) _) ⟨w.heap.size + 1, 1, none⟩ (by simp only; omega) _) ⟨w.heap.size + 1, 2, none⟩ (by simp only; omega) _, .inr ⟨by unfold lineFault; rw [if_neg HPK.out, if_neg (by rw [EFT.out]; simp), if_neg (fun h => HNO.out (any_fault.1 h)), if_neg (by rw [EKN.out]; exact h10)], a6, n6, c6, ls6, rfl, hp6, hl6, hL, fun q hq hfq => hf6 q (by omega) hfq (by simp only; rw [ENX.out]; exact HXF.out q (by omega))⟩⟩)
      clear hp6 hl6 hi6 hf6 hfar hL
      go_wp2
      exact bodyPost_ret (v := .tuple #[.agg #[.string bk, .string bn, .slice a6 n6 c6], .int .i64 0]) (by simp [results, Tryz.results47, go_sem, cr0z, cr1z, cr2z]) rfl HO.out
end Go.Proofs.YtpdahhnjhggocabGreatDoor
namespace Go.Proofs.YtpdahhnjhggocabGreatDoor
open Go.RowKit
def PjS (S X : Nat) (done : List PBlock) (W : World) : Prop := ∃ sa sc bs, W.heap[S]? = some (.cells #[.slice sa bs.length sc] 24 (0, 0)) ∧ BlocksIn W (.slice sa bs.length sc) bs ∧ bs.map BAt.plain = normBs done ∧ BlocksFar S (.slice sa bs.length sc) bs ∧ BlocksFar X (.slice sa bs.length sc) bs ∧ ∀ b ∈ bs, b.name.size ≤ 1048576 ∧ LinesSmall b.ls
def PjO (S X k : Nat) (o : PBlock) (b : BAt) (W : World) : Prop := b.kind = o.kind ∧ b.name = o.name ∧ b.ls.map LAt.plain = normLs (rulesOf o.kind) o.lines ∧ BlockIn W b ∧ LinesFar S b.v b.ls ∧ LinesFar X b.v b.ls ∧ LinesSmall b.ls ∧ b.ls.length ≤ k ∧ b.name.size ≤ 1048576
def PjB (S X k : Nat) (op : Option PBlock) (W : World) : Prop := ∃ (b : BAt) (a : Option Addr) (n c : Nat), b.v = .slice a n c ∧ W.heap[X]? = some (.cells #[.string b.kind, .string b.name, .slice a n c] 64 (0, 0)) ∧ ∀ o, op = some o → PjO S X k o b W
structure PJ (w : World) (S X : Nat) (lv : Value) (ls : List (List UInt8)) (k : Nat) (done : List PBlock) (op : Option PBlock) (W : World) : Prop where
 bw : Below w.heap.size w W
 r0 : W.heap[w.heap.size]? = some (.cells #[.slice none 0 0] 24 (0, 0))
 r1 : W.heap[w.heap.size + 1]? = some (.cells #[.int .i64 0, .int .i64 0] 26 (0, 0))
 row : HasRow W lv ls.length 1 (strs ls)
 fs : FarV S lv ls.length
 fx : FarV X lv ls.length
 sx : w.heap.size + 2 ≤ S ∧ S < X
 sb : PjS S X done W
 bb : PjB S X k op W
theorem PjS.below {S X : Nat} {done : List PBlock} {W W' : World} (h : PjS S X done W) (hb : Below W.heap.size W W') : PjS S X done W' := by
 obtain ⟨sa, sc, bs, h1, h2, h3, h4, h5, h6⟩ := h
 exact ⟨sa, sc, bs, (hb.block _ (Array.getElem?_eq_some_iff.1 h1).1).trans h1, h2.below hb, h3, h4, h5, h6⟩
theorem PjB.below {S X k : Nat} {op : Option PBlock} {W W' : World} (h : PjB S X k op W) (hb : Below W.heap.size W W') : PjB S X k op W' := by
 obtain ⟨b, a, n, c, e, h1, h2⟩ := h
 refine ⟨b, a, n, c, e, (hb.block _ (Array.getElem?_eq_some_iff.1 h1).1).trans h1, fun o ho => ?_⟩
 obtain ⟨q1, q2, q3, q4, q5⟩ := h2 o ho
 exact ⟨q1, q2, q3, LinesIn.below q4 hb, q5⟩
theorem PJ.below {w : World} {S X : Nat} {lv : Value} {ls : List (List UInt8)} {k : Nat} {done : List PBlock} {op : Option PBlock} {W W' : World} (h : PJ w S X lv ls k done op W) (hb : Below W.heap.size W W') : PJ w S X lv ls k done op W' :=
 ⟨h.bw.trans (hb.mono h.bw.size), (hb.block _ (Array.getElem?_eq_some_iff.1 h.r0).1).trans h.r0, (hb.block _ (Array.getElem?_eq_some_iff.1 h.r1).1).trans h.r1, h.row.below hb, h.fs, h.fx, h.sx, h.sb.below hb, h.bb.below hb⟩
theorem PJ.skip {w : World} {S X : Nat} {lv : Value} {ls : List (List UInt8)} {k : Nat} {done : List PBlock} {op : Option PBlock} {W : World} (h : PJ w S X lv ls k done op W) : PJ w S X lv ls (k + 1) done op W := by
 obtain ⟨b, a, n, c, e, h1, h2⟩ := h.bb
 exact ⟨h.bw, h.r0, h.r1, h.row, h.fs, h.fx, h.sx, h.sb, b, a, n, c, e, h1, fun o ho => by
  obtain ⟨q1, q2, q3, q4, q5, q6, q7, q8, q9⟩ := h2 o ho
  exact ⟨q1, q2, q3, q4, q5, q6, q7, by omega, q9⟩⟩
theorem PJ.put {w : World} {S X : Nat} {lv : Value} {ls : List (List UInt8)} {k : Nat} {done : List PBlock} {o : PBlock} {W : World} (h : PJ w S X lv ls k done (some o) W) {a : Option Addr} {c : Nat} {bs' : List BAt} (hp : bs'.map BAt.plain = normBs (done ++ [o])) (hin : BlocksIn W (.slice a bs'.length c) bs') (fS : BlocksFar S (.slice a bs'.length c) bs') (fX : BlocksFar X (.slice a bs'.length c) bs') (hsm : ∀ b ∈ bs', b.name.size ≤ 1048576 ∧ LinesSmall b.ls) : PJ w S X lv ls (k + 1) (done ++ [o]) none (W.setCell ⟨S, 0, none⟩ (.slice a bs'.length c)) := by
 have hg := grownSetCell W S 0 (.slice a bs'.length c)
 obtain ⟨sa, sc, bs, h1, _⟩ := h.sb
 obtain ⟨b, ba, n, bc, e, hX, _⟩ := h.bb
 have hsx := h.sx
 have bz := h.bw.size
 have hk : ∀ q u, W.heap[q]? = some u → q ≠ S → (W.setCell ⟨S, 0, none⟩ (.slice a bs'.length c)).heap[q]? = some u := fun q u hq hn => (hg.block q (Array.getElem?_eq_some_iff.1 hq).1 (fun e => hn (by cases e; rfl))).trans hq
 refine ⟨below_setCell h.bw ⟨S, 0, none⟩ (by simp only; omega) _, hk _ _ h.r0 (by omega), hk _ _ h.r1 (by omega), h.row.far h.fs hg, h.fs, h.fx, h.sx, ⟨a, c, bs', ?_, hin.far fS hg, hp, fS, fX, hsm⟩, ⟨b, ba, n, bc, e, hk _ _ hX (by omega), fun o ho => by cases ho⟩⟩
 rw [heap_setCell_same W S 0 _ _ _ h1]; rfl
theorem PJ.turn {w : World} {S X : Nat} {lv : Value} {ls : List (List UInt8)} {k : Nat} {done : List PBlock} {op : Option PBlock} {W : World} (h : PJ w S X lv ls k done op W) {o : PBlock} {b : BAt} {a : Option Addr} {n c : Nat} (e : b.v = .slice a n c) (hO : PjO S X (k + 1) o b W) : PJ w S X lv ls (k + 1) done (some o) (((W.setCell ⟨X, 0, none⟩ (.string b.kind)).setCell ⟨X, 1, none⟩ (.string b.name)).setCell ⟨X, 2, none⟩ (.slice a n c)) := by
 have g1 := grownSetCell W X 0 (.string b.kind)
 have g2 := grownSetCell (W.setCell ⟨X, 0, none⟩ (.string b.kind)) X 1 (.string b.name)
 have g3 := grownSetCell ((W.setCell ⟨X, 0, none⟩ (.string b.kind)).setCell ⟨X, 1, none⟩ (.string b.name)) X 2 (.slice a n c)
 obtain ⟨sa, sc, bs, h1, h2, h3, h4, h5, h6⟩ := h.sb
 obtain ⟨b0, a0, n0, c0, _, hX, _⟩ := h.bb
 have hsx := h.sx
 have hk : ∀ q u, W.heap[q]? = some u → q ≠ X → (((W.setCell ⟨X, 0, none⟩ (.string b.kind)).setCell ⟨X, 1, none⟩ (.string b.name)).setCell ⟨X, 2, none⟩ (.slice a n c)).heap[q]? = some u := fun q u hq hn => by
  have hl := (Array.getElem?_eq_some_iff.1 hq).1
  have hne : some q ≠ some X := fun e => hn (by cases e; rfl)
  rw [g3.block q (Nat.lt_of_lt_of_le hl (Nat.le_trans g1.size g2.size)) hne, g2.block q (Nat.lt_of_lt_of_le hl g1.size) hne, g1.block q hl hne]; exact hq
 obtain ⟨q1, q2, q3, q4, q5, q6, q7, q8, q9⟩ := hO
 refine ⟨below_setCell (below_setCell (below_setCell h.bw ⟨X, 0, none⟩ (by simp only; omega) _) ⟨X, 1, none⟩ (by simp only; omega) _) ⟨X, 2, none⟩ (by simp only; omega) _, hk _ _ h.r0 (by omega), hk _ _ h.r1 (by omega), ((h.row.far h.fx g1).far h.fx g2).far h.fx g3, h.fs, h.fx, h.sx, ⟨sa, sc, bs, hk _ _ h1 (by omega), ((h2.far h5 g1).far h5 g2).far h5 g3, h3, h4, h5, h6⟩, ⟨b, a, n, c, e, ?_, fun o' ho => ?_⟩⟩
 ·have z1 := heap_setCell_same W X 0 _ _ (.string b.kind) hX
  have z2 := heap_setCell_same _ X 1 _ _ (.string b.name) z1
  rw [heap_setCell_same _ X 2 _ _ _ z2]; rfl
 ·cases ho
  exact ⟨q1, q2, q3, LinesIn.far (LinesIn.far (LinesIn.far q4 q6 g1) q6 g2) q6 g3, q5, q6, q7, q8, q9⟩
end Go.Proofs.YtpdahhnjhggocabGreatDoor
namespace Go.Proofs.YtpdahhnjhggocabGreatDoor
open Go.RowKit
def SpecPost (RES : PRes) (w : World) (e : Ending) (w' : World) : Prop := Below w.heap.size w w' ∧ match RES with
 | .bad m c => e = .returned (.tuple #[.agg #[.slice none 0 0], .agg #[.int .i64 (m : Int), .int .i64 c]])
 | .good bs => ∃ v' bs', e = .returned (.tuple #[.agg #[v'], .agg #[.int .i64 0, .int .i64 0]]) ∧ bs'.map BAt.plain = normBs bs ∧ BlocksOwn w.heap.size w' v' bs'
def BegQ (cde : Int) (x : List UInt8) (xs : List (List UInt8)) (w : World) (e : Ending) (w' : World) : Prop := Below w.heap.size w w' ∧ ((cde ≠ 0 ∧ e = .returned (.tuple #[.agg #[.string ⟨#[]⟩, .string ⟨#[]⟩, .slice none 0 0], .int .i64 cde])) ∨ (cde = 0 ∧ ∃ nm, xs = [nm] ∧ e = .returned (.tuple #[.agg #[.string (keyOf x), .string (keyOf nm), .slice none 0 0], .int .i64 0])))
theorem lines_len : ∀ (t acc : List UInt8), ∀ l ∈ linesFrom acc t, l.length ≤ acc.length + t.length
 | [], acc, l, h => by
  unfold linesFrom at h
  split at h
  ·cases h
  ·rw [List.mem_singleton.1 h]; exact Nat.le_add_right _ _
 | c :: t, acc, l, h => by
  unfold linesFrom at h
  split at h
  ·rcases List.mem_cons.1 h with rfl | h
   ·exact Nat.le_add_right _ _
   ·have := lines_len t [] l h
    simp only [List.length_cons, List.length_nil] at this ⊢; omega
  ·have := lines_len t (acc ++ [c]) l h
   simp only [List.length_append, List.length_cons, List.length_nil] at this ⊢; omega
theorem PJ.start {w w5 : World} {lv : Value} {ls : List (List UInt8)} (hb : Below (w.heap.size + 4) ((((w.alloc (.cells #[.slice none 0 0] 24)).alloc (.cells #[.int .i64 0, .int .i64 0] 26)).alloc (.cells #[.slice none 0 0] 24)).alloc (.cells #[] 9)) w5) (ho : w5.ownsRow (w.heap.size + 4) 9 1 lv ls.length (strs ls)) : PJ w (w.heap.size + 2) w5.heap.size lv ls 0 [] none (w5.alloc (.cells #[.string ⟨#[]⟩, .string ⟨#[]⟩, .slice none 0 0] 64)) := by
 have hz := hb.size
 simp only [World.size_alloc] at hz
 have b0 : ∀ W0 : World, ∀ o : Obj, ∀ q u, W0.heap[q]? = some u → (W0.alloc o).heap[q]? = some u := fun W0 o q u hq => (((Below.refl W0.heap.size W0).alloc (Nat.le_refl _) o).block q (Array.getElem?_eq_some_iff.1 hq).1).trans hq
 have a0 := alloc_here w (.cells #[.slice none 0 0] 24)
 have a1 := alloc_here (w.alloc (.cells #[.slice none 0 0] 24)) (.cells #[.int .i64 0, .int .i64 0] 26)
 have a2 := alloc_here ((w.alloc (.cells #[.slice none 0 0] 24)).alloc (.cells #[.int .i64 0, .int .i64 0] 26)) (.cells #[.slice none 0 0] 24)
 simp only [World.size_alloc] at a1 a2
 have hbw : Below w.heap.size w w5 := ((((((Below.refl w.heap.size w).alloc (Nat.le_refl _) _).alloc (by simp) _).alloc (by simp; omega) _).alloc (by simp; omega) _)).trans (hb.mono (by omega))
 have up : ∀ q u, q < w.heap.size + 4 → ((((w.alloc (.cells #[.slice none 0 0] 24)).alloc (.cells #[.int .i64 0, .int .i64 0] 26)).alloc (.cells #[.slice none 0 0] 24)).alloc (.cells #[] 9)).heap[q]? = some u → (w5.alloc (.cells #[.string ⟨#[]⟩, .string ⟨#[]⟩, .slice none 0 0] 64)).heap[q]? = some u := fun q u hq h => b0 _ _ _ _ ((hb.block q hq).trans h)
 refine ⟨hbw.alloc (by omega) _, up _ _ (by omega) (b0 _ _ _ _ (b0 _ _ _ _ (b0 _ _ _ _ a0))), up _ _ (by omega) (b0 _ _ _ _ (b0 _ _ _ _ a1)), (own_has ho).below ((Below.refl _ _).alloc (Nat.le_refl _) _), FarV.above ho (by omega), FarV.of_lt (own_has ho) (by decide) (Nat.le_refl _), ⟨Nat.le_refl _, by omega⟩, ⟨none, 0, [], up _ _ (by omega) (b0 _ _ _ _ a2), ?_, rfl, ⟨.inl rfl, fun x hx => by cases hx⟩, ⟨.inl rfl, fun x hx => by cases hx⟩, fun b hb => by cases hb⟩, ⟨⟨⟨#[]⟩, ⟨#[]⟩, .slice none 0 0, []⟩, none, 0, 0, rfl, alloc_here _ _, fun o ho => by cases ho⟩⟩
 exact ⟨own_has (World.ownsRow_nil _ 0 64 3), fun b hb => by cases hb⟩
def InQ (cde : Int) (R : List Plain) (kind name : ByteArray) (v : Value) (bl : List LAt) (x : PLine) (w : World) (e : Ending) (w' : World) : Prop := Below w.heap.size w w' ∧ ((cde ≠ 0 ∧ e = .returned (.tuple #[.agg #[.string kind, .string name, v], .int .i64 cde])) ∨ (cde = 0 ∧ ∃ a n c ls', e = .returned (.tuple #[.agg #[.string kind, .string name, .slice a n c], .int .i64 0]) ∧ ls'.map LAt.plain = putIn (lineLt R) x (bl.map LAt.plain) ∧ ls'.length = bl.length + 1 ∧ LinesIn w' (.slice a n c) ls' ∧ ∀ q, q < w.heap.size → LinesFar q v bl → LinesFar q (.slice a n c) ls'))
theorem PjO.grow {S X k : Nat} {o : PBlock} {b : BAt} {W W4 : World} {a4 : Option Addr} {n4 c4 : Nat} {ls4 : List LAt} {x : List UInt8} {xs : List (List UInt8)} {v : Value} (h : PjO S X k o b W) (ev : b.v = v) (hk : k ≤ 400) (hS : S < W.heap.size) (hX : X < W.heap.size) (h7 : xs.length ≤ 7) (h2 : ∀ y ∈ x :: xs, y.length ≤ 200) (hp : ls4.map LAt.plain = putIn (lineLt (rulesOf b.kind)) ⟨keyOf x, xs⟩ (b.ls.map LAt.plain)) (hl : ls4.length = b.ls.length + 1) (hi : LinesIn W4 (.slice a4 n4 c4) ls4) (hf : ∀ q, q < W.heap.size → LinesFar q v b.ls → LinesFar q (.slice a4 n4 c4) ls4) : PjO S X (k + 1) ⟨o.kind, o.name, o.lines ++ [⟨keyOf x, xs⟩]⟩ ⟨b.kind, b.name, .slice a4 n4 c4, ls4⟩ W4 := by
 obtain ⟨q1, q2, q3, q4, q5, q6, q7, q8, q9⟩ := h
 rw [ev] at q5 q6
 refine ⟨q1, q2, ?_, hi, hf S hS q5, hf X hX q6, ⟨?_, fun y hy => ?_⟩, ?_, q9⟩
 ·rw [normLs_snoc, ← q3, ← q1]; exact hp
 ·show ls4.length ≤ 1048576; omega
 ·have hm : y.plain ∈ ls4.map LAt.plain := List.mem_map_of_mem hy
  rw [hp] at hm
  rcases List.mem_cons.1 ((putIn_perm _ _ _).mem_iff.1 hm) with hm | hm
  ·have e1 : y.ws = xs := congrArg PLine.ws hm
   rw [e1]
   exact ⟨by omega, fun z hz => by have := h2 z (List.mem_cons_of_mem _ hz); omega⟩
  ·obtain ⟨z, hz, ez⟩ := List.mem_map.1 hm
   have e1 : z.ws = y.ws := congrArg PLine.ws ez
   rw [← e1]; exact q7.2 z hz
 ·show ls4.length ≤ k + 1; omega
set_option maxHeartbeats 4000000 in
set_option maxRecDepth 100000 in
theorem specParse_any (s : ByteArray) (w : World) (hs : s.size ≤ 4000000) : Calls Tryz.prog 12 #[.string s] w fun e w' => SpecPost (parseT s.data.toList) w e w' := by
 have HRES := hid_in (show parseT s.data.toList = if 20000 < s.size ∨ 400 < (textLines s.data.toList).length then .bad 0 11 else parseGo 0 [] none (textLines s.data.toList) from rfl)
 generalize hRR : parseT s.data.toList = RR at *
 clear hRR
 by_cases h2 : s.size ≤ 20000
 ·have h2' : (s.size : Int) ≤ 20000 := by omega
  have h2'' : ¬ (20000 : Int) < (s.size : Int) := by omega
  go_enter Tryz.func12, Tryz.ntmps12
  go_wp2_with (go_at_call 44; refine (l3Cut_any s _ (by omega)).mono ?_)
  rintro e w5 ⟨lo, lc, rfl, ho, b5⟩
  simp only [World.size_alloc] at ho b5
  have HPJ := hid_in (PJ.start b5 ho)
  have hz5 := b5.size
  simp only [World.size_alloc] at hz5
  have z0 : w5.heap[w.heap.size]? = _ := (Lib.alloc_old w5 _ _ (by omega)).symm.trans HPJ.out.r0
  have z1 : w5.heap[w.heap.size + 1]? = _ := (Lib.alloc_old w5 _ _ (by omega)).symm.trans HPJ.out.r1
  have hbw : Below w.heap.size w w5 := ((((((Below.refl w.heap.size w).alloc (Nat.le_refl _) _).alloc (by simp) _).alloc (by simp; omega) _).alloc (by simp; omega) _)).trans (b5.mono (by omega))
  have HLL := hid_in (show ∀ l ∈ textLines s.data.toList, l.length ≤ 1048576 from fun l hl => by
   have h9 := lines_len s.data.toList [] l hl
   have h8 : s.data.toList.length = s.size := rfl
   rw [h8] at h9
   simp only [List.length_nil] at h9
   omega)
  generalize hls : textLines s.data.toList = ls at *
  generalize hn : ls.length = n at *
  have ENL := hid_in hn
  clear hls hn ho b5
  by_cases h4 : 400 < n
  ·have h4' : (400 : Int) < (n : Int) := by omega
   have HP := hid_in (show RR = .bad 0 11 by have := HRES.out; rw [if_pos (.inr h4)] at this; exact this)
   clear HPJ HRES
   have r0a := cell_of_block z0 0
   have r1a := cell_of_block z1 0
   have r2a := cell_of_block z1 1
   have f0a := frozen_of_block z0 0
   have f1a := frozen_of_block z1 0
   have f2a := frozen_of_block z1 1
   simp only [List.getElem?_toArray, List.getElem?_cons_zero, List.getElem?_cons_succ] at r0a r1a r2a
   go_wp2
   exact bodyPost_ret (v := .tuple #[.agg #[.slice none 0 0], .agg #[.int .i64 0, .int .i64 11]]) (by simp [results, Tryz.results12, go_sem, r0a, r1a, r2a]) rfl (by rw [HP.out]; exact ⟨below_setCell (below_setCell (below_setCell hbw ⟨w.heap.size, 0, none⟩ (Nat.le_refl _) _) ⟨w.heap.size + 1, 0, none⟩ (by simp only; omega) _) ⟨w.heap.size + 1, 1, none⟩ (by simp only; omega) _, rfl⟩)
  ·have h4' : ¬ (400 : Int) < (n : Int) := by omega
   have HP : Hid (RR = parseGo 0 [] none (ls.drop 0)) := hid_in (by have := HRES.out; rw [if_neg (by omega)] at this; exact this)
   clear HRES z0 z1 hbw
   generalize hX : w5.heap.size = X at *
   go_wp2
   go_loopw [6, 8] (fun o i wr => ∃ (k : Nat) (done : List PBlock) (op : Option PBlock), k ≤ n ∧ o = .bool op.isSome ∧ i = .int .i64 (k : Int) ∧ done.length ≤ k ∧ Hid (RR = parseGo k done op (ls.drop k)) ∧ Hid (GoodSt done op) ∧ Hid (PJ w (w.heap.size + 2) X (.slice lo n lc) ls k done op wr)) (fun _ i _ => n - (intOf i).toNat)
   case atStart => exact ⟨0, [], none, by omega, rfl, rfl, by simp, HP, hid_in GoodBs.nil, HPJ⟩
   case round =>
    clear HP HPJ
    obtain ⟨k, done, op, hk, rfl, rfl, hdl, hR, hG, hJ⟩ := hrel
    have hzW := hJ.out.bw.size
    have hsx := hJ.out.sx
    have hXW : X < wr.heap.size := by obtain ⟨b, a, n, c, _, h, _⟩ := hJ.out.bb; exact (Array.getElem?_eq_some_iff.1 h).1
    by_cases hlt : k < n
    ·have hkl : k < ls.length := by rw [ENL.out]; exact hlt
     obtain ⟨lg, loff, elo, c0⟩ := hJ.out.row.word k hkl
     cases elo
     have hD := drop_at hkl
     have hl8 := HLL.out ls[k] (List.getElem_mem hkl)
     generalize ls[k] = l at *
     have HR := hid_in (show RR = parseGo k done op (l :: ls.drop (k + 1)) by rw [← hD]; exact hR.out)
     have HW := specWords_any ⟨l.toArray⟩ wr (show l.toArray.size ≤ 1048576 by rw [List.size_toArray]; exact hl8)
     have hi0 : (0 : Int) ≤ (k : Int) := by omega
     have hi1 : (k : Int) < (n : Int) := by omega
     have h28 := hid_in (cutL_200 l)
     have h88 := hid_in (cutW_8 l.length [] l (by simp))
     clear hR hD hkl hl8
     rw [show (⟨l.toArray⟩ : ByteArray).data.toList = l from rfl] at HW
     cases hc : cutL l with
     | none =>
      rw [hc] at HW
      have HP := hid_in (show RR = .bad (k + 1) 1 by rw [HR.out]; exact go_bad hc)
      clear hc h28 h88 HR
      go_wp2_with (go_at_call 45; refine HW.mono ?_)
      rintro e w2 ⟨v, rfl, ho, b2⟩
      obtain ⟨va, vc, rfl, _⟩ := own_form ho
      have b3 := (Below.refl w2.heap.size w2).alloc (Nat.le_refl _) (.cells #[.slice va 0 vc, .bool true] 66)
      have J3 := hid_in ((hJ.out.below b2).below b3)
      have z0 := J3.out.r0
      have z1 := J3.out.r1
      have xb := alloc_here w2 (.cells #[.slice va 0 vc, .bool true] 66)
      have x1 := cell_of_block xb 1
      simp only [List.getElem?_toArray, List.getElem?_cons_zero, List.getElem?_cons_succ] at x1
      have r0c := cell_of_block z0 0
      have r1c := cell_of_block z1 0
      have r2c := cell_of_block z1 1
      have f0c := frozen_of_block z0 0
      have f1c := frozen_of_block z1 0
      have f2c := frozen_of_block z1 1
      simp only [List.getElem?_toArray, List.getElem?_cons_zero, List.getElem?_cons_succ] at r0c r1c r2c
      clear HW ho z0 z1 xb
      go_wp2
      exact bodyPost_ret (v := .tuple #[.agg #[.slice none 0 0], .agg #[.int .i64 ((k : Int) + 1), .int .i64 1]]) (by simp [results, Tryz.results12, go_sem, r0c, r1c, r2c]) rfl (by rw [HP.out]; exact ⟨below_setCell (below_setCell (below_setCell J3.out.bw ⟨w.heap.size, 0, none⟩ (Nat.le_refl _) _) ⟨w.heap.size + 1, 0, none⟩ (by simp only; omega) _) ⟨w.heap.size + 1, 1, none⟩ (by simp only; omega) _, rfl⟩)
     | some ws =>
      rw [hc] at HW h28
      have HBL := hid_in (show cutL l = some [] → RR = parseGo (k + 1) done op (ls.drop (k + 1)) from fun e => by rw [HR.out]; exact go_blank e)
      have HFT := hid_in (show ∀ x xs, cutL l = some (x :: xs) → (stepW done op x xs).1 ≠ 0 → RR = .bad (k + 1) (stepW done op x xs).1 from fun x xs e h => by rw [HR.out]; exact go_fault e h)
      have HST := hid_in (show ∀ x xs, cutL l = some (x :: xs) → (stepW done op x xs).1 = 0 → RR = parseGo (k + 1) (stepW done op x xs).2.1 (stepW done op x xs).2.2 (ls.drop (k + 1)) from fun x xs e h => by rw [HR.out]; exact go_step e h)
      have hc8 : ws.length ≤ 8 := by
       have := h88.out
       rw [show cutW l.length [] l = cutL l from rfl, hc] at this
       simpa using this
      have HC := hid_in hc
      clear hc h88 HR
      go_wp2_with (go_at_call 45; refine HW.mono ?_)
      rintro e w2 ⟨v, rfl, ho, b2⟩
      simp only [Option.getD_some] at ho h28
      obtain ⟨va, vc, rfl, hva⟩ := own_form ho
      have b3 := (Below.refl w2.heap.size w2).alloc (Nat.le_refl _) (.cells #[.slice va ws.length vc, .bool false] 66)
      have J3 := hid_in ((hJ.out.below b2).below b3)
      have xb := alloc_here w2 (.cells #[.slice va ws.length vc, .bool false] 66)
      have x0 := cell_of_block xb 0
      have x1 := cell_of_block xb 1
      simp only [List.getElem?_toArray, List.getElem?_cons_zero, List.getElem?_cons_succ] at x0 x1
      have HHW := hid_in ((own_has ho).below b3)
      have hz2 := b2.size
      clear HW ho xb b2 b3 hJ c0
      simp only [Option.isNone_some]
      match ws, HC, h28, hc8, hva, x0, J3, HHW with
      | [], HC, h28, hc8, hva, x0, J3, HHW =>
       have HP := hid_in (HBL.out HC.out)
       have J4 := hid_in J3.out.skip
       clear HBL HFT HST J3 HHW h28 HC
       simp only [List.length_nil] at x0
       go_wp2
       go_roundw
       case rel => exact ⟨k + 1, done, op, by omega, rfl, by go_num, by omega, HP, hG, J4⟩
       case measure => simp [intOf]; omega
      | x :: xs, HC, h28, hc8, hva, x0, J3, HHW =>
       have hx7 : xs.length ≤ 7 := by simp only [List.length_cons] at hc8; omega
       have HFT' := hid_in (HFT.out x xs HC.out)
       have HST' := hid_in (HST.out x xs HC.out)
       have HGS := hid_in (show (stepW done op x xs).1 = 0 → GoodSt (stepW done op x xs).2.1 (stepW done op x xs).2.2 from fun h => hG.out.step h)
       clear HBL HFT HST HC hG
       simp only [List.length_cons] at x0 x1 HHW hva J3
       obtain ⟨gw, rfl⟩ : ∃ gw, va = some ⟨gw, 0, none⟩ := by
        rcases hva with h | h
        ·omega
        ·exact h
       have x00 := HHW.out.word 0 (by simp)
       clear hva hc8
       cases op with
       | none =>
        obtain ⟨sa, sc, bs, hS, hin, hpl, _, _, _⟩ := J3.out.sb
        have hbl : bs.length = done.length := by have := congrArg List.length hpl; rw [List.length_map, normBs_length] at this; exact this
        have c0 := cell_of_block hS 0
        simp only [List.getElem?_toArray, List.getElem?_cons_zero] at c0
        have hst : (stepW (bs.map BAt.plain) none x xs).1 = (stepW done none x xs).1 := by
         by_cases h1 : xs.length = 1
         ·match xs, h1 with
          | [nm], _ => rw [stepW_head, stepW_head, hpl, headFault_norm]
         ·rw [stepW_out h1, stepW_out h1]
        have HB : Calls Tryz.prog 48 #[.agg #[.slice sa bs.length sc], .slice (some ⟨gw, 0, none⟩) (xs.length + 1) vc] _ fun e w' => BegQ (stepW done none x xs).1 x xs _ e w' := (l3Begin_any hin (by omega) HHW.out h28.out hx7).mono (fun e w' h => by
         unfold BegPost at h
         rw [hst] at h
         exact h)
        have H28 := h28
        generalize hbn : bs.length = nb at *
        clear hS hin hpl hst x00 hbn hbl
        by_cases hcd : (stepW done none x xs).1 = 0
        ·have HP := hid_in (HST'.out hcd)
         have HG := hid_in (HGS.out hcd)
         have HCD := hid_in hcd
         clear hcd
         go_wp2_with (go_at_call 48; refine HB.mono ?_)
         rintro e w4 ⟨b4, h4e⟩
         obtain ⟨_, nm, exs, rfl⟩ := h4e.resolve_left (fun h => h.1 HCD.out)
         subst exs
         have J4 := hid_in (J3.out.below b4)
         obtain ⟨b0, ba0, bn0, bc0, _, hX0, _⟩ := J4.out.bb
         have t0d := cell_of_block hX0 0
         have t1d := cell_of_block hX0 1
         have t2d := cell_of_block hX0 2
         have g0d := frozen_of_block hX0 0
         have g1d := frozen_of_block hX0 1
         have g2d := frozen_of_block hX0 2
         simp only [List.getElem?_toArray, List.getElem?_cons_zero, List.getElem?_cons_succ] at t0d t1d t2d
         have hnm : (keyOf nm).size ≤ 1048576 := by
          have := H28.out nm (by simp)
          show nm.toArray.size ≤ 1048576
          rw [List.size_toArray]; omega
         have J5 := hid_in (PJ.turn J4.out (o := ⟨keyOf x, keyOf nm, []⟩) (b := ⟨keyOf x, keyOf nm, .slice none 0 0, []⟩) (a := none) (n := 0) (c := 0) rfl ⟨rfl, rfl, rfl, ⟨own_has (World.ownsRow_nil _ 0 82 2), fun y hy => by cases hy⟩, ⟨.inl rfl, fun y hy => by cases hy⟩, ⟨.inl rfl, fun y hy => by cases hy⟩, ⟨by simp, fun y hy => by cases hy⟩, by simp, hnm⟩)
         clear HB hX0 J3 HHW HFT' HST' HGS
         go_wp2
         go_roundw
         case rel => exact ⟨k + 1, done, some ⟨keyOf x, keyOf nm, []⟩, by omega, rfl, by go_num, by omega, HP, HG, J5⟩
         case measure => simp [intOf]; omega
        ·have HP := hid_in (HFT'.out hcd)
         have HCD := hid_in hcd
         generalize hcode : (stepW done none x xs).1 = cde at *
         clear hcode
         have hcn : (cde == 0) = false := by rw [beq_eq_false_iff_ne]; exact hcd
         have hcn2 : (cde != 0) = true := by rw [bne_iff_ne]; exact hcd
         go_wp2_with (go_at_call 48; refine HB.mono ?_)
         rintro e w4 ⟨b4, h4e⟩
         have h4f := h4e.resolve_right (fun h => HCD.out h.1)
         obtain ⟨_, rfl⟩ := h4f
         have J4 := hid_in (J3.out.below b4)
         obtain ⟨b0, ba0, bn0, bc0, _, hX0, _⟩ := J4.out.bb
         have z0 := J4.out.r0
         have z1 := J4.out.r1
         have t0d := cell_of_block hX0 0
         have t1d := cell_of_block hX0 1
         have t2d := cell_of_block hX0 2
         have g0d := frozen_of_block hX0 0
         have g1d := frozen_of_block hX0 1
         have g2d := frozen_of_block hX0 2
         simp only [List.getElem?_toArray, List.getElem?_cons_zero, List.getElem?_cons_succ] at t0d t1d t2d
         have r0d := cell_of_block z0 0
         have r1d := cell_of_block z1 0
         have r2d := cell_of_block z1 1
         have f0d := frozen_of_block z0 0
         have f1d := frozen_of_block z1 0
         have f2d := frozen_of_block z1 1
         simp only [List.getElem?_toArray, List.getElem?_cons_zero, List.getElem?_cons_succ] at r0d r1d r2d
         clear HB hX0 J3 HHW HFT' HST' HGS z0 z1
         go_wp2
         exact bodyPost_ret (v := .tuple #[.agg #[.slice none 0 0], .agg #[.int .i64 ((k : Int) + 1), .int .i64 cde]]) (by simp [results, Tryz.results12, go_sem, r0d, r1d, r2d]) rfl (by rw [HP.out]; exact ⟨below_setCell (below_setCell (below_setCell (below_setCell (below_setCell (below_setCell (J4.out.bw) ⟨X, 0, none⟩ (by simp only; omega) _) ⟨X, 1, none⟩ (by simp only; omega) _) ⟨X, 2, none⟩ (by simp only; omega) _) ⟨w.heap.size, 0, none⟩ (Nat.le_refl _) _) ⟨w.heap.size + 1, 0, none⟩ (by simp only; omega) _) ⟨w.heap.size + 1, 1, none⟩ (by simp only; omega) _, rfl⟩)
       | some o =>
        obtain ⟨sa, sc, bs, hS, hin, hpl, hSS, hSX, hsm⟩ := J3.out.sb
        obtain ⟨b, ba, bn, bc, eb, hX0, hO⟩ := J3.out.bb
        obtain ⟨q1, q2, q3, q4, q5, q6, q7, q8, q9⟩ := hO o rfl
        have hbl : bs.length = done.length := by have := congrArg List.length hpl; rw [List.length_map, normBs_length] at this; exact this
        have c0 := cell_of_block hS 0
        have t0 := cell_of_block hX0 0
        have t1 := cell_of_block hX0 1
        have t2 := cell_of_block hX0 2
        simp only [List.getElem?_toArray, List.getElem?_cons_zero, List.getElem?_cons_succ] at c0 t0 t1 t2
        obtain ⟨g', off', e', k0⟩ := x00
        cases e'
        simp only [List.getElem_cons_zero, Nat.add_zero] at k0
        by_cases hend : x = [101, 110, 100] ∧ xs = []
        ·obtain ⟨rfl, rfl⟩ := hend
         have HP := hid_in (HST'.out rfl)
         have HG := hid_in (HGS.out rfl)
         simp only [List.length_nil, Nat.zero_add] at hin q4 c0 t0 t1 t2 k0 x0 x1 J3
         have HB := l3PutBlock_all hin (by omega) q4
         rw [eb] at HB
         have hpb : b.plain = normB o := by
          show (⟨b.kind, b.name, b.ls.map LAt.plain⟩ : PBlock) = ⟨o.kind, o.name, normLs (rulesOf o.kind) o.lines⟩
          rw [q1, q2, q3]
         have HPB := hid_in hpb
         have HPL := hid_in hpl
         have HSM := hid_in hsm
         have HQ := hid_in (And.intro q5 (And.intro q6 (And.intro q7 q9)))
         have HSF := hid_in (And.intro hSS hSX)
         have hd1 : done.length + 1 ≤ k + 1 := by omega
         generalize bs.length = nb at *
         clear hS hin hpl hSS hSX hsm hX0 hO q1 q2 q3 q4 q5 q6 q7 q8 q9 hbl hpb HFT' HST' HGS
         go_wp2_with (go_at_call 46; refine HB.mono ?_)
         rintro e w4 ⟨a4, n4, c4, bs4, rfl, ⟨hp4, hl4, hm4, hi4, hf4⟩, b4⟩
         obtain ⟨_, _, e4⟩ := hi4.1.form
         cases e4
         have J4 := hid_in (J3.out.below b4)
         obtain ⟨_, _, _, hS4, _⟩ := J4.out.sb
         have u0 := cell_of_block hS4 0
         have v0 := frozen_of_block hS4 0
         simp only [List.getElem?_toArray, List.getElem?_cons_zero] at u0
         have hzz := b4.size
         have J5 := hid_in (PJ.put J4.out (by rw [hp4, HPB.out, HPL.out, normBs_snoc]) hi4 (hf4 _ (by simp; omega) HSF.out.1 HQ.out.1) (hf4 _ (by simp; omega) HSF.out.2 HQ.out.2.1) (fun y hy => by
          rcases hm4 y hy with rfl | hy
          ·exact ⟨HQ.out.2.2.2, HQ.out.2.2.1⟩
          ·exact HSM.out y hy))
         clear HB hp4 hl4 hm4 hi4 hf4 hS4
         generalize bs4.length = nb4 at *
         go_wp2
         go_roundw
         case rel => exact ⟨k + 1, done ++ [o], none, by omega, rfl, by go_num, by simp; omega, HP, HG, J5⟩
         case measure => simp [intOf]; omega
        ·have hst := stepW_in (done := done) (b := o) hend
         have hcode : lineFault (rulesOf b.kind) (b.ls.map LAt.plain) ⟨keyOf x, xs⟩ = (stepW done (some o) x xs).1 := by rw [hst, q1, q3, lineFault_norm]
         have HB : Calls Tryz.prog 47 #[.agg #[.string b.kind, .string b.name, .slice ba bn bc], .slice (some ⟨gw, 0, none⟩) (xs.length + 1) vc] (w2.alloc (.cells #[.slice (some ⟨gw, 0, none⟩) (xs.length + 1) vc, .bool false] 66)) fun e w' => InQ (stepW done (some o) x xs).1 (rulesOf b.kind) b.kind b.name (.slice ba bn bc) b.ls ⟨keyOf x, xs⟩ (w2.alloc (.cells #[.slice (some ⟨gw, 0, none⟩) (xs.length + 1) vc, .bool false] 66)) e w' := by
          have h := l3Inside_any (x := x) (xs := xs) q4 q7 HHW.out h28.out hx7
          rw [eb] at h
          refine h.mono (fun e w' h => ?_)
          unfold InPost at h
          rw [hcode, eb] at h
          exact h
         have HO := hid_in (hO o rfl)
         have EB := hid_in eb
         have HST0 := hid_in hst
         clear hS hin hpl hSS hSX hsm hX0 hO q1 q2 q3 q4 q5 q6 q7 q8 q9 hbl hst hcode eb
         by_cases hxl : xs.length = 0
         ·have hxe : (x == [101, 110, 100]) = false := by
           rw [beq_eq_false_iff_ne]
           exact fun e => hend ⟨e, List.length_eq_zero_iff.1 hxl⟩
          obtain rfl := List.length_eq_zero_iff.1 hxl
          clear hxl hend
          simp only [List.length_nil, Nat.zero_add] at c0 t0 t1 t2 k0 x0 x1 J3 HB HO HHW
          by_cases hcd : (stepW done (some o) x []).1 = 0
          ·have HP := hid_in (show RR = parseGo (k + 1) done (some ⟨o.kind, o.name, o.lines ++ [⟨keyOf x, []⟩]⟩) (ls.drop (k + 1)) by have := HST'.out hcd; rw [HST0.out] at this; exact this)
           have HG := hid_in (show GoodSt done (some ⟨o.kind, o.name, o.lines ++ [⟨keyOf x, []⟩]⟩) by have := HGS.out hcd; rw [HST0.out] at this; exact this)
           have HCD := hid_in hcd
           clear hcd HFT' HST' HGS
           go_wp2_with (go_at_call 47; refine HB.mono ?_)
           rintro e w4 ⟨b4, h4e⟩
           obtain ⟨_, a4, n4, c4, ls4, rfl, hp4, hl4, hi4, hf4⟩ := h4e.resolve_left (fun h => h.1 HCD.out)
           have J4 := hid_in (J3.out.below b4)
           obtain ⟨b0, ba0, bn0, bc0, _, hX1, _⟩ := J4.out.bb
           have t0d := cell_of_block hX1 0
           have t1d := cell_of_block hX1 1
           have t2d := cell_of_block hX1 2
           have g0d := frozen_of_block hX1 0
           have g1d := frozen_of_block hX1 1
           have g2d := frozen_of_block hX1 2
           simp only [List.getElem?_toArray, List.getElem?_cons_zero, List.getElem?_cons_succ] at t0d t1d t2d
           have J5 := hid_in (PJ.turn J4.out (o := ⟨o.kind, o.name, o.lines ++ [⟨keyOf x, []⟩]⟩) (b := ⟨b.kind, b.name, .slice a4 n4 c4, ls4⟩) (a := a4) (n := n4) (c := c4) rfl (HO.out.grow EB.out (by omega) (by rw [World.size_alloc]; omega) (by rw [World.size_alloc]; omega) hx7 h28.out hp4 hl4 hi4 hf4))
           clear HB hX1 J3 HHW hp4 hl4 hi4 hf4 HO EB HST0 h4e
           go_wp2
           go_roundw
           case rel => exact ⟨k + 1, done, some ⟨o.kind, o.name, o.lines ++ [⟨keyOf x, []⟩]⟩, by omega, rfl, by go_num, by omega, HP, HG, J5⟩
           case measure => simp [intOf]; omega
          ·have HP := hid_in (HFT'.out hcd)
           have HCD := hid_in hcd
           clear HFT' HST' HGS HST0
           generalize hcode : (stepW done (some o) x []).1 = cde at *
           clear hcode
           have hcn : (cde == 0) = false := by rw [beq_eq_false_iff_ne]; exact hcd
           have hcn2 : (cde != 0) = true := by rw [bne_iff_ne]; exact hcd
           go_wp2_with (go_at_call 47; refine HB.mono ?_)
           rintro e w4 ⟨b4, h4e⟩
           have h4f := h4e.resolve_right (fun h => HCD.out h.1)
           obtain ⟨_, rfl⟩ := h4f
           have J4 := hid_in (J3.out.below b4)
           obtain ⟨b0, ba0, bn0, bc0, _, hX1, _⟩ := J4.out.bb
           have z0 := J4.out.r0
           have z1 := J4.out.r1
           have t0d := cell_of_block hX1 0
           have t1d := cell_of_block hX1 1
           have t2d := cell_of_block hX1 2
           have g0d := frozen_of_block hX1 0
           have g1d := frozen_of_block hX1 1
           have g2d := frozen_of_block hX1 2
           simp only [List.getElem?_toArray, List.getElem?_cons_zero, List.getElem?_cons_succ] at t0d t1d t2d
           have r0d := cell_of_block z0 0
           have r1d := cell_of_block z1 0
           have r2d := cell_of_block z1 1
           have f0d := frozen_of_block z0 0
           have f1d := frozen_of_block z1 0
           have f2d := frozen_of_block z1 1
           simp only [List.getElem?_toArray, List.getElem?_cons_zero, List.getElem?_cons_succ] at r0d r1d r2d
           clear HB hX1 J3 HHW z0 z1 HO EB
           go_wp2
           exact bodyPost_ret (v := .tuple #[.agg #[.slice none 0 0], .agg #[.int .i64 ((k : Int) + 1), .int .i64 cde]]) (by simp [results, Tryz.results12, go_sem, r0d, r1d, r2d]) rfl (by rw [HP.out]; exact ⟨below_setCell (below_setCell (below_setCell (below_setCell (below_setCell (below_setCell (J4.out.bw) ⟨X, 0, none⟩ (by simp only; omega) _) ⟨X, 1, none⟩ (by simp only; omega) _) ⟨X, 2, none⟩ (by simp only; omega) _) ⟨w.heap.size, 0, none⟩ (Nat.le_refl _) _) ⟨w.heap.size + 1, 0, none⟩ (by simp only; omega) _) ⟨w.heap.size + 1, 1, none⟩ (by simp only; omega) _, rfl⟩)
         ·have hl1 : (((xs.length : Int) + 1) == 1) = false := by rw [beq_eq_false_iff_ne]; omega
          clear hxl hend
          by_cases hcd : (stepW done (some o) x xs).1 = 0
          ·have HP := hid_in (show RR = parseGo (k + 1) done (some ⟨o.kind, o.name, o.lines ++ [⟨keyOf x, xs⟩]⟩) (ls.drop (k + 1)) by have := HST'.out hcd; rw [HST0.out] at this; exact this)
           have HG := hid_in (show GoodSt done (some ⟨o.kind, o.name, o.lines ++ [⟨keyOf x, xs⟩]⟩) by have := HGS.out hcd; rw [HST0.out] at this; exact this)
           have HCD := hid_in hcd
           clear hcd HFT' HST' HGS
           go_wp2_with (go_at_call 47; refine HB.mono ?_)
           rintro e w4 ⟨b4, h4e⟩
           obtain ⟨_, a4, n4, c4, ls4, rfl, hp4, hl4, hi4, hf4⟩ := h4e.resolve_left (fun h => h.1 HCD.out)
           have J4 := hid_in (J3.out.below b4)
           obtain ⟨b0, ba0, bn0, bc0, _, hX1, _⟩ := J4.out.bb
           have t0d := cell_of_block hX1 0
           have t1d := cell_of_block hX1 1
           have t2d := cell_of_block hX1 2
           have g0d := frozen_of_block hX1 0
           have g1d := frozen_of_block hX1 1
           have g2d := frozen_of_block hX1 2
           simp only [List.getElem?_toArray, List.getElem?_cons_zero, List.getElem?_cons_succ] at t0d t1d t2d
           have J5 := hid_in (PJ.turn J4.out (o := ⟨o.kind, o.name, o.lines ++ [⟨keyOf x, xs⟩]⟩) (b := ⟨b.kind, b.name, .slice a4 n4 c4, ls4⟩) (a := a4) (n := n4) (c := c4) rfl (HO.out.grow EB.out (by omega) (by rw [World.size_alloc]; omega) (by rw [World.size_alloc]; omega) hx7 h28.out hp4 hl4 hi4 hf4))
           clear HB hX1 J3 HHW hp4 hl4 hi4 hf4 HO EB HST0 h4e
           go_wp2
           go_roundw
           case rel => exact ⟨k + 1, done, some ⟨o.kind, o.name, o.lines ++ [⟨keyOf x, xs⟩]⟩, by omega, rfl, by go_num, by omega, HP, HG, J5⟩
           case measure => simp [intOf]; omega
          ·have HP := hid_in (HFT'.out hcd)
           have HCD := hid_in hcd
           clear HFT' HST' HGS HST0
           generalize hcode : (stepW done (some o) x xs).1 = cde at *
           clear hcode
           have hcn : (cde == 0) = false := by rw [beq_eq_false_iff_ne]; exact hcd
           have hcn2 : (cde != 0) = true := by rw [bne_iff_ne]; exact hcd
           go_wp2_with (go_at_call 47; refine HB.mono ?_)
           rintro e w4 ⟨b4, h4e⟩
           have h4f := h4e.resolve_right (fun h => HCD.out h.1)
           obtain ⟨_, rfl⟩ := h4f
           have J4 := hid_in (J3.out.below b4)
           obtain ⟨b0, ba0, bn0, bc0, _, hX1, _⟩ := J4.out.bb
           have z0 := J4.out.r0
           have z1 := J4.out.r1
           have t0d := cell_of_block hX1 0
           have t1d := cell_of_block hX1 1
           have t2d := cell_of_block hX1 2
           have g0d := frozen_of_block hX1 0
           have g1d := frozen_of_block hX1 1
           have g2d := frozen_of_block hX1 2
           simp only [List.getElem?_toArray, List.getElem?_cons_zero, List.getElem?_cons_succ] at t0d t1d t2d
           have r0d := cell_of_block z0 0
           have r1d := cell_of_block z1 0
           have r2d := cell_of_block z1 1
           have f0d := frozen_of_block z0 0
           have f1d := frozen_of_block z1 0
           have f2d := frozen_of_block z1 1
           simp only [List.getElem?_toArray, List.getElem?_cons_zero, List.getElem?_cons_succ] at r0d r1d r2d
           clear HB hX1 J3 HHW z0 z1 HO EB
           go_wp2
           exact bodyPost_ret (v := .tuple #[.agg #[.slice none 0 0], .agg #[.int .i64 ((k : Int) + 1), .int .i64 cde]]) (by simp [results, Tryz.results12, go_sem, r0d, r1d, r2d]) rfl (by rw [HP.out]; exact ⟨below_setCell (below_setCell (below_setCell (below_setCell (below_setCell (below_setCell (J4.out.bw) ⟨X, 0, none⟩ (by simp only; omega) _) ⟨X, 1, none⟩ (by simp only; omega) _) ⟨X, 2, none⟩ (by simp only; omega) _) ⟨w.heap.size, 0, none⟩ (Nat.le_refl _) _) ⟨w.heap.size + 1, 0, none⟩ (by simp only; omega) _) ⟨w.heap.size + 1, 1, none⟩ (by simp only; omega) _, rfl⟩)
    ·obtain rfl : k = n := by omega
     have hD : ls.drop k = [] := List.drop_of_length_le (by rw [ENL.out]; exact Nat.le_refl _)
     have hR2 := hR.out
     rw [hD] at hR2
     cases op with
     | none =>
      have HP := hid_in (show RR = .good done from hR2)
      obtain ⟨sa, sc, bs, hS, hin, hpl, _, _, hsm⟩ := hJ.out.sb
      have hbl : bs.length ≤ 1048576 := by have := congrArg List.length hpl; rw [List.length_map, normBs_length] at this; omega
      have c0 := cell_of_block hS 0
      simp only [List.getElem?_toArray, List.getElem?_cons_zero] at c0
      have HC := l3Copy_any hin ⟨hbl, hsm⟩
      have HPL := hid_in hpl
      generalize bs.length = nb at *
      clear hR hR2 hG hS hin hsm hbl hpl hD
      go_wp2_with (go_at_call 49; refine HC.mono ?_)
      rintro e w6 ⟨v', bs', rfl, hp6, ho6, b6⟩
      obtain ⟨a6, c6, e6, _⟩ := own_form ho6.row
      subst e6
      have J6 := hid_in (hJ.out.below b6)
      have z0 := J6.out.r0
      have z1 := J6.out.r1
      have r0b := cell_of_block z0 0
      have r1b := cell_of_block z1 0
      have r2b := cell_of_block z1 1
      have f0b := frozen_of_block z0 0
      have f1b := frozen_of_block z1 0
      have f2b := frozen_of_block z1 1
      simp only [List.getElem?_toArray, List.getElem?_cons_zero, List.getElem?_cons_succ] at r0b r1b r2b
      have hO := ((((ho6.setCell ⟨w.heap.size, 0, none⟩ (by simp only; omega) (.slice a6 bs'.length c6)).setCell ⟨w.heap.size + 1, 0, none⟩ (by simp only; omega) (.int .i64 0)).setCell ⟨w.heap.size + 1, 1, none⟩ (by simp only; omega) (.int .i64 0))).mono (show w.heap.size ≤ wr.heap.size by omega)
      have HO := hid_in (show SpecPost RR w (.returned (.tuple #[.agg #[.slice a6 bs'.length c6], .agg #[.int .i64 0, .int .i64 0]])) (((w6.setCell ⟨w.heap.size, 0, none⟩ (.slice a6 bs'.length c6)).setCell ⟨w.heap.size + 1, 0, none⟩ (.int .i64 0)).setCell ⟨w.heap.size + 1, 1, none⟩ (.int .i64 0)) from by
       rw [HP.out]
       exact ⟨below_setCell (below_setCell (below_setCell J6.out.bw ⟨w.heap.size, 0, none⟩ (Nat.le_refl _) _) ⟨w.heap.size + 1, 0, none⟩ (by simp only; omega) _) ⟨w.heap.size + 1, 1, none⟩ (by simp only; omega) _, _, bs', rfl, hp6.trans HPL.out, hO⟩)
      clear HC hp6 ho6 hO z0 z1
      generalize bs'.length = nb6 at *
      go_wp2
      exact bodyPost_ret (v := .tuple #[.agg #[.slice a6 nb6 c6], .agg #[.int .i64 0, .int .i64 0]]) (by simp [results, Tryz.results12, go_sem, r0b, r1b, r2b]) rfl HO.out
     | some o =>
      have HP := hid_in (show RR = .bad (k + 1) 8 from hR2)
      have z0 := hJ.out.r0
      have z1 := hJ.out.r1
      have r0b := cell_of_block z0 0
      have r1b := cell_of_block z1 0
      have r2b := cell_of_block z1 1
      have f0b := frozen_of_block z0 0
      have f1b := frozen_of_block z1 0
      have f2b := frozen_of_block z1 1
      simp only [List.getElem?_toArray, List.getElem?_cons_zero, List.getElem?_cons_succ] at r0b r1b r2b
      clear hR hR2 hG hD z0 z1
      go_wp2
      exact bodyPost_ret (v := .tuple #[.agg #[.slice none 0 0], .agg #[.int .i64 ((k : Int) + 1), .int .i64 8]]) (by simp [results, Tryz.results12, go_sem, r0b, r1b, r2b]) rfl (by rw [HP.out]; exact ⟨below_setCell (below_setCell (below_setCell hJ.out.bw ⟨w.heap.size, 0, none⟩ (Nat.le_refl _) _) ⟨w.heap.size + 1, 0, none⟩ (by simp only; omega) _) ⟨w.heap.size + 1, 1, none⟩ (by simp only; omega) _, rfl⟩)
 ·have h2' : ¬ (s.size : Int) ≤ 20000 := by omega
  have h2'' : (20000 : Int) < (s.size : Int) := by omega
  have HP := hid_in (show RR = .bad 0 11 by have := HRES.out; rw [if_pos (.inl (by omega))] at this; exact this)
  clear HRES
  go_enter Tryz.func12, Tryz.ntmps12
  go_wp2
  exact bodyPost_ret (v := .tuple #[.agg #[.slice none 0 0], .agg #[.int .i64 0, .int .i64 11]]) (by simp [results, Tryz.results12, go_sem]) rfl (by rw [HP.out]; exact ⟨((((Below.refl w.heap.size w).alloc (Nat.le_refl _) _).alloc (by simp) _).alloc (by simp; omega) _).alloc (by simp; omega) _, rfl⟩)
end Go.Proofs.YtpdahhnjhggocabGreatDoor
namespace Go.Proofs.YtpdahhnjhggocabGreatDoor
open Go.RowKit
structure WAt where
 g : Nat
 wc : Nat
 x : List UInt8
 xs : List (List UInt8)
def WAt.ta (y : WAt) : Option Addr := if y.wc = 1 then some ⟨y.g, 0, none⟩ else some ⟨y.g, 1, none⟩
def WAt.l (y : WAt) : LAt := ⟨keyOf y.x, .slice y.ta y.xs.length (y.wc - 1), y.xs⟩
def WAt.r (y : WAt) : MRow := ⟨.slice (some ⟨y.g, 0, none⟩) (y.xs.length + 1) y.wc, 9, 1, y.xs.length + 1, strs (y.x :: y.xs)⟩
def WAt.sm (y : WAt) : Prop := y.xs.length ≤ 7 ∧ ∀ z ∈ y.x :: y.xs, z.length ≤ 200
structure GAt where
 kind : ByteArray
 name : ByteArray
 v : Value
 ys : List WAt
def GAt.b (b : GAt) : BAt := ⟨b.kind, b.name, b.v, b.ys.map WAt.l⟩
def plainL (ys : List WAt) : List PLine := (ys.map WAt.l).map LAt.plain
def plainG (gs : List GAt) : List PBlock := (gs.map GAt.b).map BAt.plain
def wrows (v : Value) (ys : List WAt) : List MRow := ⟨v, 82, 2, ys.length, (ys.map WAt.l).flatMap LAt.cells⟩ :: ys.map WAt.r
def grows (v : Value) (gs : List GAt) : List MRow := ⟨v, 64, 3, gs.length, (gs.map GAt.b).flatMap BAt.cells⟩ :: gs.flatMap (fun b => wrows b.v b.ys)
def boxR (Y : Nat) (k n : ByteArray) (v : Value) : MRow := ⟨.slice (some ⟨Y, 0, none⟩) 1 1, 64, 3, 1, [.string k, .string n, v]⟩
def rrows (v : Value) (L : List RAt) : List MRow := ⟨v, 105, 4, L.length, L.flatMap RAt.cells⟩ :: L.flatMap RAt.rows
theorem wat_in {B : Nat} {W : World} {y : WAt} (h : y.r.isAt B W) : LineIn W y.l := tail_has (x := y.x) (g := y.g) rfl (own_has h)
theorem wrows_in {B : Nat} {W : World} {v : Value} {ys : List WAt} (h : Mem B W (wrows v ys)) : LinesIn W v (ys.map WAt.l) := by
 refine ⟨?_, fun x hx => ?_⟩
 ·have := own_has (Mem.head h)
  rw [List.length_map]; exact this
 ·obtain ⟨y, hy, rfl⟩ := List.mem_map.1 hx
  exact wat_in (h.1 y.r (List.mem_cons_of_mem _ (List.mem_map_of_mem hy)))
theorem grows_lines {B : Nat} {W : World} {v : Value} {gs : List GAt} (h : Mem B W (grows v gs)) {b : GAt} (hb : b ∈ gs) : Mem B W (wrows b.v b.ys) := by
 obtain ⟨A, C, e⟩ := flat_split (fun b : GAt => wrows b.v b.ys) hb
 have h2 := Mem.tail h
 rw [e] at h2
 exact Mem.left (Mem.right h2)
theorem grows_in {B : Nat} {W : World} {v : Value} {gs : List GAt} (h : Mem B W (grows v gs)) : BlocksIn W v (gs.map GAt.b) := by
 refine ⟨?_, fun x hx => ?_⟩
 ·have := own_has (Mem.head h)
  rw [List.length_map]; exact this
 ·obtain ⟨b, hb, rfl⟩ := List.mem_map.1 hx
  exact wrows_in (grows_lines h hb)
def GAt.sm (b : GAt) : Prop := b.name.size ≤ 200 ∧ b.ys.length ≤ 1000000 ∧ ∀ y ∈ b.ys, y.sm
def rdLines (R : Nat) (W : World) : Nat := match W.cell? ⟨R, 0, none⟩ with
 | some (.string s) => (textLines s.data.toList).length
 | _ => 0
theorem RdBox.lines {R m : Nat} {rest : ByteArray} {W : World} (h : RdBox R rest m W) : rdLines R W = (textLines rest.data.toList).length := by
 have c0 := cell_of_block h 0
 simp only [List.getElem?_toArray, List.getElem?_cons_zero] at c0
 unfold rdLines; rw [c0]
structure RdS (R : Nat) (w : World) (N : Nat) (L : List MRow) (rest : ByteArray) (m : Nat) (W : World) : Prop where
 mem : Mem w.heap.size W L
 box : RdBox R rest m W
 gr : w.grownBy W (some R)
 lt : R < w.heap.size
 sz : rest.size ≤ 1048576
 n : m + (textLines rest.data.toList).length = N
 big : N ≤ 1000000
theorem RdS.below {R : Nat} {w : World} {N : Nat} {L : List MRow} {rest : ByteArray} {m : Nat} {W W' : World} (h : RdS R w N L rest m W) (hb : Below W.heap.size W W') : RdS R w N L rest m W' :=
 ⟨h.mem.below hb, h.box.below hb, grown_trans h.gr (grown_of_below hb _), h.lt, h.sz, h.n, h.big⟩
theorem RdS.read {R : Nat} {w : World} {N : Nat} {L : List MRow} {rest r : ByteArray} {m m' wc g : Nat} {x : List UInt8} {xs rs : List (List UInt8)} {W W' : World} (h : RdS R w N L rest m W) (hn : nextW m (textLines rest.data.toList) = .words m' x xs rs) (hg : W.grownBy W' (some R)) (hr : textLines r.data.toList = rs) (hz : r.size ≤ 1048576) (hb : RdBox R r m' W') (ho : W'.ownsRow W.heap.size 9 1 (.slice (some ⟨g, 0, none⟩) (xs.length + 1) wc) (xs.length + 1) (strs (x :: xs))) : RdS R w N ((⟨g, wc, x, xs⟩ : WAt).r :: L) r m' W' := by
 have hl := nextW_len _ _ _ _ _ _ hn
 have h0 := h.gr.size
 refine ⟨?_, hb, grown_trans h.gr hg, h.lt, hz, by rw [hr, hl.2]; exact h.n, h.big⟩
 have h1 := Mem.other h.mem hg h.lt
 refine ⟨fun r' hr' => ?_, List.pairwise_cons.2 ⟨fun s hs => ?_, h1.2⟩⟩
 ·rcases List.mem_cons.1 hr' with rfl | hr'
  ·exact own_mono ho h0
  ·exact h1.1 r' hr'
 ·right
  intro e
  have h2 := (World.ownsRow.lt ho g rfl).1
  have h3 := (Mem.lt h.mem hs (g := g) (by rw [← e]; rfl)).2
  omega
end Go.Proofs.YtpdahhnjhggocabGreatDoor
