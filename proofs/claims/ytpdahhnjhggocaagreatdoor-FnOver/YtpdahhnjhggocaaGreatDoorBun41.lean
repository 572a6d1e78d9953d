import Derived.Test.YtpdahhnjhggocaaGreatDoorBun40
import Derived.Test.YtpdahhnjhggocaaGreatDoorBun32
import Derived.Test.YtpdahhnjhggocaaGreatDoorBun25
import Derived.Laws.StructEq
namespace Go.Proofs.YtpdahhnjhggocaaGreatDoor
open Go.RowKit
theorem check_head (e : Bool) (k n : ByteArray) (w : World) : (Instr.checkKey e 10000 73 (.agg #[.string k, .string n])).run Tryz.prog w = .ok () w := by kernel_rfl
theorem bytes_inj {a b : ByteArray} : a.toList = b.toList ↔ a = b := by
  rw [ByteArray.toList_eq, ByteArray.toList_eq, Array.toList_inj]
  exact ⟨fun h => ByteArray.ext h, fun h => by rw [h]⟩
theorem equal_head (k n k' n' : ByteArray) (w : World) : (Op.equal 73 (.agg #[.string k, .string n]) (.agg #[.string k', .string n'])).run Tryz.prog w = .ok (decide (k = k' ∧ n = n')) w := by
  have hS : Tryz.prog.underlying 73 = some (.struct (Tryz.prog.fieldsOf 73)) := by kernel_rfl
  unfold Op.equal
  rw [show Op.maxDepth = 9999 + 1 from rfl, run_equalIn_agg w 9999 73 _ _ hS (by kernel_rfl)]
  have u9 := Tryz.underlying9
  have a9 := Tryz.isAgg9
  have z9 := Tryz.sizeOf9
  simp only [Program.fieldsOf, Tryz.underlying73]
  go_simp
  by_cases h1 : k = k' <;> by_cases h2 : n = n' <;> simp [h1, h2, bytes_inj]
def mEnt (i : Nat) (b : BAt) : MapEntry := ⟨.agg #[.string b.kind, .string b.name], .agg #[.string b.kind, .string b.name, b.v], i⟩
def mObj (bs : List BAt) : Obj := .map (bs.mapIdx mEnt).toArray bs.length
def headIx (k n : ByteArray) : List BAt → Nat → Option (Nat × BAt)
  | [], _ => none
  | b :: bs, i => if k = b.kind ∧ n = b.name then some (i, b) else headIx k n bs (i + 1)
theorem mapIdx_from (bs : List BAt) : bs.mapIdx mEnt = (bs.zipIdx).map (fun p => mEnt p.2 p.1) := by
  rw [List.mapIdx_eq_zipIdx_map]
theorem run_ask (k n : ByteArray) (w : World) : ∀ (bs : List BAt) (i j : Nat), (Instr.findAsking 73 (.agg #[.string k, .string n]) ((bs.zipIdx j).map (fun p => mEnt p.2 p.1)) i).run Tryz.prog w = .ok ((headIx k n bs i).map (fun p => (p.1, Value.agg #[.string p.2.kind, .string p.2.name, p.2.v]))) w
  | [], i, j => rfl
  | b :: bs, i, j => by
    simp only [List.zipIdx_cons, List.map_cons, Instr.findAsking, mEnt, Sem.run_bind, equal_head, Result.andThen_ok, headIx]
    by_cases h : k = b.kind ∧ n = b.name
    · simp [h]
    · simp only [h, decide_false, if_false, Bool.false_eq_true]
      exact run_ask k n w bs (i + 1) (j + 1)
theorem run_findH (k n : ByteArray) (w : World) (bs : List BAt) : (Instr.findKey 73 (.agg #[.string k, .string n]) (bs.mapIdx mEnt)).run Tryz.prog w = .ok ((headIx k n bs 0).map (fun p => (p.1, Value.agg #[.string p.2.kind, .string p.2.name, p.2.v]))) w := by
  unfold Instr.findKey
  rw [mapIdx_from]
  cases bs with
  | nil => simp [run_underlying Tryz.underlying73, Instr.findNow, headIx]
  | cons b bs =>
    simp only [Sem.run_bind, run_underlying Tryz.underlying73, Result.andThen_ok, List.zipIdx_cons, List.map_cons, Instr.findNow, mEnt, Instr.sameNow]
    have := run_ask k n w (b :: bs) 0 0
    simpa [List.zipIdx_cons, mEnt] using this
theorem run_getM {w : World} {r c : Nat} {es : Array MapEntry} (h : w.heap[r]? = some (.map es c)) : (getObj r).run Tryz.prog w = .ok (.map es c) w := by simp [getObj, Sem.run, h]
theorem run_setM {w : World} {r c : Nat} {es : Array MapEntry} (o : Obj) (h : w.heap[r]? = some (.map es c)) : (setObj r o).run Tryz.prog w = .ok () { w with heap := w.heap.setIfInBounds r o } := by simp [setObj, Sem.run, h]
def zeroBV : Value := .agg #[.string ⟨#[]⟩, .string ⟨#[]⟩, .slice none 0 0]
def aggB (b : BAt) : Value := .agg #[.string b.kind, .string b.name, b.v]
theorem run_lookupH {w : World} {r : Nat} {bs : List BAt} (k n : ByteArray) (h0 : w.heap[r]? = some (mObj bs)) : (Instr.lookup 70 (.map (some r)) (.agg #[.string k, .string n]) false).run Tryz.prog w = .ok (match headIx k n bs 0 with | some p => aggB p.2 | none => zeroBV) w := by
  unfold mObj at h0
  have h := h0
  unfold Instr.lookup
  have hz := Tryz.zeroValue46
  simp only [Sem.run_bind, run_underlying Tryz.underlying70, Result.andThen_ok, run_getM h, check_head]
  have hf := run_findH k n w bs
  simp only [Sem.run_pure, Result.andThen_ok]
  rw [hf]
  cases headIx k n bs 0 with
  | none => simp [hz, zeroBV]
  | some p => simp [aggB]
theorem headIx_spec {k n : ByteArray} : ∀ {bs : List BAt} {i : Nat} {p : Nat × BAt}, headIx k n bs i = some p → ∃ D T, bs = D ++ p.2 :: T ∧ p.1 = i + D.length ∧ (p.2.kind = k ∧ p.2.name = n) ∧ ∀ x ∈ D, ¬ (k = x.kind ∧ n = x.name)
  | [], _, _, h => by cases h
  | b :: bs, i, p, h => by
    unfold headIx at h
    by_cases hb : k = b.kind ∧ n = b.name
    · rw [if_pos hb] at h
      cases h
      exact ⟨[], bs, rfl, rfl, ⟨hb.1.symm, hb.2.symm⟩, by simp⟩
    · rw [if_neg hb] at h
      obtain ⟨D, T, e, e1, e2, e3⟩ := headIx_spec h
      refine ⟨b :: D, T, by rw [e]; rfl, by rw [e1]; simp; omega, e2, fun x hx => ?_⟩
      rcases List.mem_cons.1 hx with rfl | hx
      · exact hb
      · exact e3 x hx
theorem headIx_none {k n : ByteArray} : ∀ {bs : List BAt} {i : Nat}, headIx k n bs i = none → ∀ x ∈ bs, ¬ (k = x.kind ∧ n = x.name)
  | [], _, _ => by simp
  | b :: bs, i, h => by
    unfold headIx at h
    by_cases hb : k = b.kind ∧ n = b.name
    · rw [if_pos hb] at h; cases h
    · rw [if_neg hb] at h
      intro x hx
      rcases List.mem_cons.1 hx with rfl | hx
      · exact hb
      · exact headIx_none h x hx
theorem run_updateH {w : World} {r : Nat} {bs : List BAt} (k n : ByteArray) (v : Value) (ls : List LAt) (h0 : w.heap[r]? = some (mObj bs)) : (Instr.mapUpdate 70 (.map (some r)) (.agg #[.string k, .string n]) (.agg #[.string k, .string n, v])).run Tryz.prog w = .ok () { w with heap := w.heap.setIfInBounds r (mObj (match headIx k n bs 0 with | some p => bs.set p.1 ⟨k, n, v, ls⟩ | none => bs ++ [⟨k, n, v, ls⟩])) } := by
  unfold mObj at h0
  have h := h0
  unfold Instr.mapUpdate
  simp only [Sem.run_bind, run_underlying Tryz.underlying70, Result.andThen_ok, run_getM h, check_head]
  have hf := run_findH k n w bs
  simp only [hf, Result.andThen_ok]
  cases hx : headIx k n bs 0 with
  | none =>
    simp only [Option.map_none, run_setM _ h]
    refine congrArg (fun o => Result.ok () { w with heap := w.heap.setIfInBounds r o }) ?_
    unfold mObj
    simp [mEnt]
  | some p =>
    obtain ⟨D, T, rfl, e1, ⟨rfl, rfl⟩, _⟩ := headIx_spec hx
    rw [Nat.zero_add] at e1
    have hget : (List.mapIdx mEnt (D ++ p.2 :: T)).toArray[p.1]? = some (mEnt p.1 p.2) := by rw [e1]; simp
    have hkey : (Instr.keyThatStays (.agg #[.string p.2.kind, .string p.2.name]) (.agg #[.string p.2.kind, .string p.2.name])).run Tryz.prog w = .ok (.agg #[.string p.2.kind, .string p.2.name]) w := by
      unfold Instr.keyThatStays
      rw [if_pos (by simp [Instr.sameBits, beq_toListBytes])]
      rfl
    simp only [Option.map_some, hget, Option.getD_some, mEnt, Sem.run_bind, hkey, Result.andThen_ok, run_setM _ h]
    refine congrArg (fun o => Result.ok () { w with heap := w.heap.setIfInBounds r o }) ?_
    unfold mObj
    show Obj.map _ _ = Obj.map (List.mapIdx mEnt ((D ++ p.2 :: T).set p.1 ⟨p.2.kind, p.2.name, v, ls⟩)).toArray ((D ++ p.2 :: T).set p.1 ⟨p.2.kind, p.2.name, v, ls⟩).length
    rw [List.length_set]
    refine congrArg (fun z => Obj.map z _) ?_
    refine Array.ext (by simp) fun i h1 h2 => ?_
    simp only [Array.getElem_modify, List.getElem_toArray, List.getElem_mapIdx, List.getElem_set]
    by_cases hi : p.1 = i
    · simp [hi, mEnt]
    · simp [hi]
end Go.Proofs.YtpdahhnjhggocaaGreatDoor
namespace Go.Proofs.YtpdahhnjhggocaaGreatDoor
open Go.RowKit
def setH (b : BAt) (bs : List BAt) : List BAt := match headIx b.kind b.name bs 0 with
  | some p => bs.set p.1 b
  | none => bs ++ [b]
def lookH (k n : ByteArray) (bs : List BAt) : Value := match headIx k n bs 0 with
  | some p => aggB p.2
  | none => zeroBV
def opm8_0 : Oper := { dst := some 32, op := Op.move (Operand.tmp 5), type := 70, pos := "l6_over.go:16", after := #[], guard := none }
def opm8_1 : Oper := { dst := some 33, op := Op.load 73 (Operand.tmp 8), type := 73, pos := "l6_over.go:16", after := #[], guard := none }
def opm8_2 : Oper := { dst := some 34, op := Op.move (Operand.tmp 5), type := 70, pos := "l6_over.go:16", after := #[], guard := none }
def opm8_3 : Oper := { dst := some 35, op := Op.load 73 (Operand.tmp 8), type := 73, pos := "l6_over.go:16", after := #[], guard := none }
def opm8_4 : Oper := { dst := some 36, op := Op.lookup 70 (Operand.tmp 34) (Operand.tmp 35) false, type := 46, pos := "l6_over.go:16", after := #[{ on := 2, ground := Ground.data }, { on := 3, ground := Ground.data }], guard := none }
def opm8_5 : Oper := { dst := some 37, op := Op.load 46 (Operand.tmp 7), type := 46, pos := "l6_over.go:16", after := #[], guard := none }
def opm8_6 : Oper := { dst := some 38, op := Op.call { callee := Callee.value (Operand.func 48), args := #[Operand.tmp 36, Operand.tmp 37], argTypes := #[46, 46] }, type := 46, pos := "l6_over.go:16", after := #[{ on := 4, ground := Ground.data }, { on := 5, ground := Ground.data }], guard := none }
def opm8_7 : Oper := { dst := none, op := Op.mapUpdate 70 (Operand.tmp 32) (Operand.tmp 33) (Operand.tmp 38), type := 0, pos := "l6_over.go:16", after := #[{ on := 0, ground := Ground.data }, { on := 1, ground := Ground.data }, { on := 6, ground := Ground.data }, { on := 6, ground := Ground.chain }, { on := 0, ground := Ground.phase }, { on := 1, ground := Ground.phase }, { on := 2, ground := Ground.phase }, { on := 3, ground := Ground.phase }, { on := 4, ground := Ground.phase }, { on := 5, ground := Ground.phase }, { on := 6, ground := Ground.phase }], guard := none }
def opsm8 : List Oper := [opm8_0, opm8_1, opm8_2, opm8_3, opm8_4, opm8_5, opm8_6, opm8_7]
def OmF (r : Nat) (k n : ByteArray) (lv bv : Value) (J : Value → List LAt → World → Prop) (j : Nat) (x : Value) (W : World) : Prop := match j with
  | 0 => x = .map (some r)
  | 1 => x = .agg #[.string k, .string n]
  | 2 => x = .map (some r)
  | 3 => x = .agg #[.string k, .string n]
  | 4 => x = lv
  | 5 => x = .agg #[.string k, .string n, bv]
  | 6 => ∃ a m cc ls, x = .agg #[.string k, .string n, .slice a m cc] ∧ J (.slice a m cc) ls W
  | _ => True
set_option maxHeartbeats 2000000 in
set_option maxRecDepth 10000 in
theorem regionM8 {Q : Exit → Act → World → Prop} {a : Act} {W0 : World} {r H R bn bc : Nat} {k n : ByteArray} {ba : Option Addr} {bs : List BAt} (P : World → Value → List LAt → World → Prop) (hM0 : W0.heap[r]? = some (mObj bs)) (hH0 : W0.heap[H]? = some (.cells #[.string k, .string n] 73 (0, 0))) (hR0 : W0.heap[R]? = some (.cells #[.string k, .string n, (.slice ba bn bc)] 46 (0, 0))) (HP : ∀ W, Below W0.heap.size W0 W → Calls Tryz.prog 48 #[lookH k n bs, (.agg #[.string k, .string n, (.slice ba bn bc)])] W fun e w' => ∃ q m cc ls, e = .returned (.agg #[.string k, .string n, .slice q m cc]) ∧ P W (.slice q m cc) ls w' ∧ Below W.heap.size W w')
    (hs5 : a.eval (.tmp 5) = .map (some r)) (hs7 : a.eval (.tmp 7) = .pointer (some ⟨R, 0, none⟩)) (hs8 : a.eval (.tmp 8) = .pointer (some ⟨H, 0, none⟩)) (hsz : a.tmps.size = 48)
    (hQ : ∀ v a' q m cc ls W1 W2, a' = putS a [32, 33, 34, 35, 36, 37, 38] v → Below W0.heap.size W0 W1 → P W1 (.slice q m cc) ls W2 → Below W1.heap.size W1 W2 → Q .normal a' { W2 with heap := W2.heap.setIfInBounds r (mObj (setH ⟨k, n, .slice q m cc, ls⟩ bs)) }) : (Code.region 8 opsm8.toArray true).wp Tryz.prog Q a W0 := by
  have hnd : ([32, 33, 34, 35, 36, 37, 38] : List Nat).Nodup := by decide
  refine wp_region_invS0 [32, 33, 34, 35, 36, 37, 38] (OmF r k n (lookH k n bs) (.slice ba bn bc) (fun v ls W => ∃ W1, Below W0.heap.size W0 W1 ∧ P W1 v ls W ∧ Below W1.heap.size W1 W)) (fun _ W => W.heap[r]? = some (mObj bs) ∧ W.heap[H]? = some (.cells #[.string k, .string n] 73 (0, 0)) ∧ W.heap[R]? = some (.cells #[.string k, .string n, (.slice ba bn bc)] 46 (0, 0)) ∧ Below W0.heap.size W0 W) 7 8 [0, 1, 2, 3, 4, 5, 6, 7] (by kernel_rfl) rfl (by decide) (by kernel_rfl) ?h1 ⟨hM0, hH0, hR0, (Below.refl _ _).drew⟩ ?hall
  case h1 =>
    intro i x W hi
    unfold OmF
    split <;> first | omega | trivial
  refine AllInv.consQ (o := opm8_0) [] (by kernel_rfl) (by decide) (by kernel_rfl) rfl ?o0 (AllInv.consQ (o := opm8_1) [] (by kernel_rfl) (by decide) (by kernel_rfl) rfl ?o1 (AllInv.consQ (o := opm8_2) [] (by kernel_rfl) (by decide) (by kernel_rfl) rfl ?o2 (AllInv.consQ (o := opm8_3) [] (by kernel_rfl) (by decide) (by kernel_rfl) rfl ?o3 (AllInv.consQ (o := opm8_4) [2, 3] (by kernel_rfl) (by decide) (by kernel_rfl) rfl ?o4 (AllInv.consQ (o := opm8_5) [] (by kernel_rfl) (by decide) (by kernel_rfl) rfl ?o5 (AllInv.consQ (o := opm8_6) [4, 5] (by kernel_rfl) (by decide) (by kernel_rfl) rfl ?o6 (AllInv.lastQ (o := opm8_7) [0, 1, 6, 6, 0, 1, 2, 3, 4, 5, 6] (by kernel_rfl) (by kernel_rfl) rfl ?o7)))))))
  case o0 =>
    rintro Q' L _ W h0L hpre ⟨v, rfl, hv, hM, hH, hR, hb⟩ K hK
    have r5 := (eval_out (v := v) (show 5 ∉ ([32, 33, 34, 35, 36, 37, 38] : List Nat) by decide)).trans hs5
    have he : execOp (putS a [32, 33, 34, 35, 36, 37, 38] v).eval opm8_0 = execOp (Act.eval ⟨#[undef], []⟩) ⟨some 0, .move (.const (.map (some r))), 0, "", #[], none⟩ := by simp only [execOp, eval_const, opm8_0, r5]
    refine Lid.mk ?_
    unfold Oper.wp
    rw [he]
    clear he
    go_simp
    exact hK.out _ _ (InvG.nextL (W := W) hv 0 (.map (some r)) (put_in 0 hnd rfl) (fun _ _ _ h => h) rfl ⟨hM, hH, hR, hb⟩)
  case o2 =>
    rintro Q' L _ W h0L hpre ⟨v, rfl, hv, hM, hH, hR, hb⟩ K hK
    have r5 := (eval_out (v := v) (show 5 ∉ ([32, 33, 34, 35, 36, 37, 38] : List Nat) by decide)).trans hs5
    have he : execOp (putS a [32, 33, 34, 35, 36, 37, 38] v).eval opm8_2 = execOp (Act.eval ⟨#[undef], []⟩) ⟨some 0, .move (.const (.map (some r))), 0, "", #[], none⟩ := by simp only [execOp, eval_const, opm8_2, r5]
    refine Lid.mk ?_
    unfold Oper.wp
    rw [he]
    clear he
    go_simp
    exact hK.out _ _ (InvG.nextL (W := W) hv 2 (.map (some r)) (put_in 2 hnd rfl) (fun _ _ _ h => h) rfl ⟨hM, hH, hR, hb⟩)
  case o1 =>
    rintro Q' L _ W h0L hpre ⟨v, rfl, hv, hM, hH, hR, hb⟩ K hK
    have c0 := cell_of_block hH 0
    have c1 := cell_of_block hH 1
    simp only [List.getElem?_toArray, List.getElem?_cons_zero, List.getElem?_cons_succ] at c0 c1
    have r8 := (eval_out (v := v) (show 8 ∉ ([32, 33, 34, 35, 36, 37, 38] : List Nat) by decide)).trans hs8
    have he : execOp (putS a [32, 33, 34, 35, 36, 37, 38] v).eval opm8_1 = execOp (Act.eval ⟨#[undef], []⟩) ⟨some 0, .load 73 (.const (.pointer (some ⟨H, 0, none⟩))), 0, "", #[], none⟩ := by simp only [execOp, eval_const, opm8_1, r8]
    refine Lid.mk ?_
    unfold Oper.wp
    rw [he]
    clear he
    go_simp
    exact hK.out _ _ (InvG.nextL (W := W) hv 1 (.agg #[.string k, .string n]) (put_in 1 hnd rfl) (fun _ _ _ h => h) rfl ⟨hM, hH, hR, hb⟩)
  case o3 =>
    rintro Q' L _ W h0L hpre ⟨v, rfl, hv, hM, hH, hR, hb⟩ K hK
    have c0 := cell_of_block hH 0
    have c1 := cell_of_block hH 1
    simp only [List.getElem?_toArray, List.getElem?_cons_zero, List.getElem?_cons_succ] at c0 c1
    have r8 := (eval_out (v := v) (show 8 ∉ ([32, 33, 34, 35, 36, 37, 38] : List Nat) by decide)).trans hs8
    have he : execOp (putS a [32, 33, 34, 35, 36, 37, 38] v).eval opm8_3 = execOp (Act.eval ⟨#[undef], []⟩) ⟨some 0, .load 73 (.const (.pointer (some ⟨H, 0, none⟩))), 0, "", #[], none⟩ := by simp only [execOp, eval_const, opm8_3, r8]
    refine Lid.mk ?_
    unfold Oper.wp
    rw [he]
    clear he
    go_simp
    exact hK.out _ _ (InvG.nextL (W := W) hv 3 (.agg #[.string k, .string n]) (put_in 3 hnd rfl) (fun _ _ _ h => h) rfl ⟨hM, hH, hR, hb⟩)
  case o4 =>
    rintro Q' L _ W h0L hpre ⟨v, rfl, hv, hM, hH, hR, hb⟩ K hK
    have r34 : (putS a [32, 33, 34, 35, 36, 37, 38] v).eval (.tmp 34) = _ := (eval_in 2 hnd rfl (by omega)).trans (hv 2 (hpre 2 (by simp)))
    have r35 : (putS a [32, 33, 34, 35, 36, 37, 38] v).eval (.tmp 35) = _ := (eval_in 3 hnd rfl (by omega)).trans (hv 3 (hpre 3 (by simp)))
    have hl := run_lookupH k n hM
    have he : execOp (putS a [32, 33, 34, 35, 36, 37, 38] v).eval opm8_4 = execOp (Act.eval ⟨#[undef], []⟩) ⟨some 0, .lookup 70 (.const (.map (some r))) (.const (.agg #[.string k, .string n])) false, 0, "", #[], none⟩ := by simp only [execOp, eval_const, opm8_4, r34, r35]
    refine Lid.mk ?_
    unfold Oper.wp
    rw [he]
    clear he
    go_simp
    exact hK.out _ _ (InvG.nextL (W := W) hv 4 (lookH k n bs) (put_in 4 hnd rfl) (fun _ _ _ h => h) rfl ⟨hM, hH, hR, hb⟩)
  case o5 =>
    rintro Q' L _ W h0L hpre ⟨v, rfl, hv, hM, hH, hR, hb⟩ K hK
    have g0 := cell_of_block hR 0
    have g1 := cell_of_block hR 1
    have g2 := cell_of_block hR 2
    simp only [List.getElem?_toArray, List.getElem?_cons_zero, List.getElem?_cons_succ] at g0 g1 g2
    have r7 := (eval_out (v := v) (show 7 ∉ ([32, 33, 34, 35, 36, 37, 38] : List Nat) by decide)).trans hs7
    have he : execOp (putS a [32, 33, 34, 35, 36, 37, 38] v).eval opm8_5 = execOp (Act.eval ⟨#[undef], []⟩) ⟨some 0, .load 46 (.const (.pointer (some ⟨R, 0, none⟩))), 0, "", #[], none⟩ := by simp only [execOp, eval_const, opm8_5, r7]
    refine Lid.mk ?_
    unfold Oper.wp
    rw [he]
    clear he
    go_simp
    exact hK.out _ _ (InvG.nextL (W := W) hv 5 (.agg #[.string k, .string n, (.slice ba bn bc)]) (put_in 5 hnd rfl) (fun _ _ _ h => h) rfl ⟨hM, hH, hR, hb⟩)
  case o6 =>
    rintro Q' L _ W h0L hpre ⟨v, rfl, hv, hM, hH, hR, hb⟩ K hK
    have r36 : (putS a [32, 33, 34, 35, 36, 37, 38] v).eval (.tmp 36) = _ := (eval_in 4 hnd rfl (by omega)).trans (hv 4 (hpre 4 (by simp)))
    have r37 : (putS a [32, 33, 34, 35, 36, 37, 38] v).eval (.tmp 37) = _ := (eval_in 5 hnd rfl (by omega)).trans (hv 5 (hpre 5 (by simp)))
    have HPW := HP W hb
    have he : execOp (putS a [32, 33, 34, 35, 36, 37, 38] v).eval opm8_6 = execOp (Act.eval ⟨#[undef], []⟩) ⟨some 0, .call { callee := .value (.func 48), args := #[.const (lookH k n bs), .const (.agg #[.string k, .string n, (.slice ba bn bc)])], argTypes := #[46, 46] }, 0, "", #[], none⟩ := by simp only [execOp, eval_const, opm8_6, resolve, eval_func, List.map_toArray, List.map_cons, List.map_nil, r36, r37]
    refine Lid.mk ?_
    unfold Oper.wp
    rw [he]
    clear he
    go_simp
    refine HPW.mono ?_
    rintro e W' ⟨q, m, cc, ls, rfl, hP, b'⟩
    refine hK.out _ _ (InvG.nextL (W := W) hv 6 (.agg #[.string k, .string n, .slice q m cc]) (put_in 6 hnd rfl) (fun j y hj h => ?_) ⟨q, m, cc, ls, rfl, W, hb, hP, b'⟩ ⟨(b'.block r (Array.getElem?_eq_some_iff.1 hM).1).trans hM, (b'.block H (Array.getElem?_eq_some_iff.1 hH).1).trans hH, (b'.block R (Array.getElem?_eq_some_iff.1 hR).1).trans hR, hb.trans (b'.mono hb.size)⟩)
    have h6 : j ≠ 6 := fun e => by rw [e, h0L] at hj; cases hj
    unfold OmF at *
    split <;> simp only at h
    all_goals first | exact h | exact absurd rfl h6 | trivial
  case o7 =>
    rintro Q' L _ W h0L hpre ⟨v, rfl, hv, hM, hH, hR, hb⟩ K hK
    obtain ⟨q, m, cc, ls, e6, W1, hb1, hP, hb2⟩ := hv 6 (hpre 6 (by simp))
    have r32 : (putS a [32, 33, 34, 35, 36, 37, 38] v).eval (.tmp 32) = _ := (eval_in 0 hnd rfl (by omega)).trans (hv 0 (hpre 0 (by simp)))
    have r33 : (putS a [32, 33, 34, 35, 36, 37, 38] v).eval (.tmp 33) = _ := (eval_in 1 hnd rfl (by omega)).trans (hv 1 (hpre 1 (by simp)))
    have r38 : (putS a [32, 33, 34, 35, 36, 37, 38] v).eval (.tmp 38) = _ := (eval_in 6 hnd rfl (by omega)).trans e6
    have hu := run_updateH k n (.slice q m cc) ls hM
    have HQ := hid_in (hQ v _ q m cc ls W1 W rfl hb1 hP hb2)
    have he : execOp (putS a [32, 33, 34, 35, 36, 37, 38] v).eval opm8_7 = execOp (Act.eval ⟨#[undef], []⟩) ⟨some 0, .mapUpdate 70 (.const (.map (some r))) (.const (.agg #[.string k, .string n])) (.const (.agg #[.string k, .string n, .slice q m cc])), 0, "", #[], none⟩ := by simp only [execOp, eval_const, opm8_7, r32, r33, r38]
    refine Lid.mk ?_
    unfold Oper.wp
    rw [he]
    clear he
    go_simp
    exact hK.out _ _ (NoPanic.normal HQ.out)
end Go.Proofs.YtpdahhnjhggocaaGreatDoor
namespace Go.Proofs.YtpdahhnjhggocaaGreatDoor
open Go.RowKit
theorem heads_perm {l m : List PBlock} (hl : Heads l) (hm : Heads m) (h : ∀ k n, look l k n = look m k n) : l.Perm m := by
  have nd : ∀ {x : List PBlock}, Heads x → x.Nodup := fun {x} hx => hx.imp fun {a b} hab e => hab (by rw [e]; exact ⟨rfl, rfl⟩)
  refine (List.perm_ext_iff_of_nodup (nd hl) (nd hm)).2 fun a => ?_
  constructor
  · intro ha
    have := (look_iff hl (kind := a.kind) (name := a.name) (b := a)).2 ⟨ha, rfl, rfl⟩
    rw [h] at this
    exact ((look_iff hm).1 this).1
  · intro ha
    have := (look_iff hm (kind := a.kind) (name := a.name) (b := a)).2 ⟨ha, rfl, rfl⟩
    rw [← h] at this
    exact ((look_iff hl).1 this).1
theorem headIx_look {k n : ByteArray} : ∀ (bs : List BAt) (i : Nat), (headIx k n bs i).map (fun p => p.2.plain) = look (bs.map BAt.plain) k n
  | [], _ => rfl
  | b :: bs, i => by
    unfold headIx look
    rw [List.map_cons, List.find?_cons]
    by_cases h : k = b.kind ∧ n = b.name
    · rw [if_pos h, show isHead k n b.plain = true from isHead_iff.2 ⟨h.1.symm, h.2.symm⟩]
      rfl
    · rw [if_neg h, show isHead k n b.plain = false from by
        rw [Bool.eq_false_iff]
        exact fun e => h ⟨(isHead_iff.1 e).1.symm, (isHead_iff.1 e).2.symm⟩]
      exact headIx_look bs (i + 1)
theorem setH_cases (b : BAt) (bs : List BAt) : (∃ D x T, bs = D ++ x :: T ∧ (x.kind = b.kind ∧ x.name = b.name) ∧ setH b bs = D ++ b :: T ∧ headIx b.kind b.name bs 0 = some (D.length, x)) ∨ (headIx b.kind b.name bs 0 = none ∧ setH b bs = bs ++ [b]) := by
  unfold setH
  cases h : headIx b.kind b.name bs 0 with
  | none => exact .inr ⟨rfl, rfl⟩
  | some p =>
    obtain ⟨D, T, e, e1, e2, _⟩ := headIx_spec h
    obtain ⟨i, x⟩ := p
    simp only at e e1 e2
    rw [Nat.zero_add] at e1
    subst e1
    refine .inl ⟨D, x, T, e, e2, ?_, rfl⟩
    rw [e]
    simp
theorem setH_look {b : BAt} {bs : List BAt} (hh : Heads (bs.map BAt.plain)) : Heads ((setH b bs).map BAt.plain) ∧ ∀ k n, look ((setH b bs).map BAt.plain) k n = if k = b.kind ∧ n = b.name then some b.plain else look (bs.map BAt.plain) k n := by
  rcases setH_cases b bs with ⟨D, x, T, rfl, hx, e, _⟩ | ⟨hn, e⟩
  · have hH : Heads ((D ++ b :: T).map BAt.plain) := by
      unfold Heads at *
      rw [List.map_append, List.map_cons] at hh ⊢
      rw [List.pairwise_append, List.pairwise_cons] at hh ⊢
      obtain ⟨h1, ⟨h2, h3⟩, h4⟩ := hh
      refine ⟨h1, ⟨fun y hy e => h2 y hy ⟨hx.1.trans e.1, hx.2.trans e.2⟩, h3⟩, fun y hy z hz => ?_⟩
      rcases List.mem_cons.1 hz with rfl | hz
      · intro e
        exact h4 y hy x.plain (by simp) ⟨e.1.trans hx.1.symm, e.2.trans hx.2.symm⟩
      · exact h4 y hy z (by simp [hz])
    rw [e]
    refine ⟨hH, fun k n => ?_⟩
    by_cases hk : k = b.kind ∧ n = b.name
    · rw [if_pos hk, hk.1, hk.2]
      exact look_of hH (b := b.plain) (by simp)
    · rw [if_neg hk]
      unfold look
      rw [List.map_append, List.map_cons, List.map_append, List.map_cons, List.find?_append, List.find?_append, List.find?_cons, List.find?_cons]
      rw [show isHead k n b.plain = false from by rw [Bool.eq_false_iff]; exact fun e => hk ⟨(isHead_iff.1 e).1.symm, (isHead_iff.1 e).2.symm⟩]
      rw [show isHead k n x.plain = false from by rw [Bool.eq_false_iff]; exact fun e => hk ⟨(isHead_iff.1 e).1.symm.trans hx.1, (isHead_iff.1 e).2.symm.trans hx.2⟩]
  · rw [e, List.map_append, List.map_singleton]
    have hnone := headIx_none hn
    have hH : Heads (bs.map BAt.plain ++ [b.plain]) := by
      unfold Heads at *
      rw [List.pairwise_append]
      refine ⟨hh, List.pairwise_singleton _ _, fun y hy z hz => ?_⟩
      rw [List.mem_singleton.1 hz]
      obtain ⟨y', hy', rfl⟩ := List.mem_map.1 hy
      exact fun e => hnone y' hy' ⟨e.1.symm, e.2.symm⟩
    refine ⟨hH, fun k n => ?_⟩
    unfold look
    rw [List.find?_append]
    by_cases hk : k = b.kind ∧ n = b.name
    · rw [if_pos hk, show List.find? (isHead k n) (bs.map BAt.plain) = none from by
        rw [List.find?_eq_none]
        intro y hy
        obtain ⟨y', hy', rfl⟩ := List.mem_map.1 hy
        exact fun e => hnone y' hy' ⟨hk.1.symm.trans (isHead_iff.1 e).1.symm, hk.2.symm.trans (isHead_iff.1 e).2.symm⟩]
      simp [show isHead k n b.plain = true from isHead_iff.2 ⟨hk.1.symm, hk.2.symm⟩]
    · rw [if_neg hk]
      simp [show isHead k n b.plain = false from by rw [Bool.eq_false_iff]; exact fun e => hk ⟨(isHead_iff.1 e).1.symm, (isHead_iff.1 e).2.symm⟩]
end Go.Proofs.YtpdahhnjhggocaaGreatDoor
namespace Go.Proofs.YtpdahhnjhggocaaGreatDoor
open Go.RowKit
theorem look_snoc {l : List PBlock} {b : PBlock} (h : look l b.kind b.name = none) (k n : ByteArray) : look (l ++ [b]) k n = if k = b.kind ∧ n = b.name then some b else look l k n := by
  unfold look at *
  rw [List.find?_append]
  by_cases hk : k = b.kind ∧ n = b.name
  · rw [if_pos hk, hk.1, hk.2, h]
    simp [show isHead b.kind b.name b = true from isHead_iff.2 ⟨rfl, rfl⟩]
  · rw [if_neg hk]
    simp [show isHead k n b = false from by rw [Bool.eq_false_iff]; exact fun e => hk ⟨(isHead_iff.1 e).1.symm, (isHead_iff.1 e).2.symm⟩]
theorem look_take_none {l D T : List PBlock} {b : PBlock} (hh : Heads l) (e : l = D ++ b :: T) : look (l.take D.length) b.kind b.name = none := by
  subst e
  rw [List.take_append_of_le_length (Nat.le_refl _), List.take_length, look_none]
  intro y hy e
  exact (List.pairwise_append.1 hh).2.2 y hy b (by simp) e
theorem take_succ_of {l D T : List PBlock} {b : PBlock} (e : l = D ++ b :: T) : l.take (D.length + 1) = l.take D.length ++ [b] := by
  subst e
  rw [List.take_append_of_le_length (Nat.le_refl _), List.take_length, List.take_append, List.take_of_length_le (by omega)]
  simp
def LaidTo (us os : List PBlock) (i j : Nat) (L : List PBlock) : Prop := Heads L ∧ ∀ k n, look L k n = overO (look (us.take i) k n) (look (os.take j) k n)
theorem laid_start (us os : List PBlock) : LaidTo us os 0 0 [] := ⟨List.Pairwise.nil, fun k n => by simp [look, overO]⟩
def setB (W : World) (r : Nat) (o : Obj) : World := { W with heap := W.heap.setIfInBounds r o }
theorem setB_grown (W : World) (r : Nat) (o : Obj) : W.grownBy (setB W r o) (some r) := ⟨rfl, rfl, rfl, by simp [setB], fun i hi hne => by
  have : r ≠ i := fun e => hne (by rw [e])
  simp [setB, this]⟩
theorem setB_at (W : World) (r : Nat) (o : Obj) (h : r < W.heap.size) : (setB W r o).heap[r]? = some o := by simp [setB, h]
structure OvI (w : World) (r : Nat) (bs : List BAt) (W : World) : Prop where
  bw : Below w.heap.size w W
  mp : W.heap[r]? = some (mObj bs)
  mem : Mem (r + 1) W (bs.flatMap BAt.rows)
  ok : ∀ b ∈ bs, LinesOk (rulesOf b.kind) (b.ls.map LAt.plain)
  sm : ∀ b ∈ bs, b.name.size ≤ 1048576 ∧ LinesSmall b.ls
  wr : w.heap.size ≤ r
theorem OvI.below {w : World} {r : Nat} {bs : List BAt} {W W' : World} (h : OvI w r bs W) (hb : Below W.heap.size W W') : OvI w r bs W' :=
  ⟨h.bw.trans (hb.mono h.bw.size), (hb.block r (Array.getElem?_eq_some_iff.1 h.mp).1).trans h.mp, Mem.below h.mem hb, h.ok, h.sm, h.wr⟩
theorem setH_mem {b : BAt} {bs : List BAt} {y : BAt} (h : y ∈ setH b bs) : y = b ∨ y ∈ bs := by
  rcases setH_cases b bs with ⟨D, x, T, rfl, _, e, _⟩ | ⟨_, e⟩
  · rw [e] at h
    simp only [List.mem_append, List.mem_cons] at h ⊢
    rcases h with h | h | h
    · exact .inr (.inl h)
    · exact .inl h
    · exact .inr (.inr (.inr h))
  · rw [e] at h
    rcases List.mem_append.1 h with h | h
    · exact .inr h
    · exact .inl (List.mem_singleton.1 h)
theorem OvI.set {w : World} {r : Nat} {bs : List BAt} {W W1 W2 : World} {b : BAt} (h : OvI w r bs W) (hb1 : Below W.heap.size W W1) (hb2 : Below W1.heap.size W1 W2) (ho : LinesOwn W1.heap.size W2 b.v b.ls) (hok : LinesOk (rulesOf b.kind) (b.ls.map LAt.plain)) (hsm : b.name.size ≤ 1048576 ∧ LinesSmall b.ls) : OvI w r (setH b bs) (setB W2 r (mObj (setH b bs))) := by
  have h1 := h.below hb1
  have h2 := h1.below hb2
  have hr1 : r < W1.heap.size := (Array.getElem?_eq_some_iff.1 h1.mp).1
  have hr2 : r < W2.heap.size := (Array.getElem?_eq_some_iff.1 h2.mp).1
  have gs := setB_grown W2 r (mObj (setH b bs))
  have hm : Mem (r + 1) W2 (BAt.rows b ++ bs.flatMap BAt.rows) := Mem.join h1.mem ho hb2 (by omega)
  refine ⟨belowGrown h2.bw h2.bw.size h.wr gs, setB_at _ _ _ hr2, Mem.other ?_ gs (by omega), fun y hy => ?_, fun y hy => ?_, h.wr⟩
  · rcases setH_cases b bs with ⟨D, x, T, rfl, _, e, _⟩ | ⟨_, e⟩
    · rw [e]
      have hp : (BAt.rows b ++ (D ++ x :: T).flatMap BAt.rows).Perm ((D ++ b :: T).flatMap BAt.rows ++ BAt.rows x) := by
        simp only [List.flatMap_append, List.flatMap_cons]
        refine (List.perm_append_comm_assoc _ _ _).trans ?_
        rw [List.append_assoc, List.append_assoc]
        refine List.Perm.append_left _ (List.Perm.append_left _ ?_)
        exact List.perm_append_comm
      exact Mem.left (Mem.perm hm hp)
    · rw [e, List.flatMap_append, List.flatMap_singleton]
      exact Mem.perm hm List.perm_append_comm
  · rcases setH_mem hy with rfl | hy
    · exact hok
    · exact h.ok y hy
  · rcases setH_mem hy with rfl | hy
    · exact hsm
    · exact h.sm y hy
end Go.Proofs.YtpdahhnjhggocaaGreatDoor
namespace Go.Proofs.YtpdahhnjhggocaaGreatDoor
open Go.RowKit
theorem laid_under {us os L L' : List PBlock} {D T : List PBlock} {u b : PBlock} (hh : Heads us) (e : us = D ++ u :: T) (h : LaidTo us os D.length 0 L) (hL : Heads L') (hb : b = u) (hl : ∀ k n, look L' k n = if k = b.kind ∧ n = b.name then some b else look L k n) : LaidTo us os (D.length + 1) 0 L' := by
  subst hb
  refine ⟨hL, fun k n => ?_⟩
  rw [hl, h.2, take_succ_of e, look_snoc (look_take_none hh e)]
  have h0 : look (os.take 0) k n = none := by simp [look]
  rw [h0]
  by_cases hk : k = b.kind ∧ n = b.name
  · rw [if_pos hk, if_pos hk]; rfl
  · rw [if_neg hk, if_neg hk]
theorem laid_over {us os L L' : List PBlock} {D T : List PBlock} {o b : PBlock} (hh : Heads os) (e : os = D ++ o :: T) (h : LaidTo us os us.length D.length L) (hL : Heads L') (hb : some b = overO (look us o.kind o.name) (some o)) (hbk : b.kind = o.kind ∧ b.name = o.name) (hl : ∀ k n, look L' k n = if k = b.kind ∧ n = b.name then some b else look L k n) : LaidTo us os us.length (D.length + 1) L' := by
  refine ⟨hL, fun k n => ?_⟩
  rw [hl, h.2, take_succ_of e, look_snoc (look_take_none hh e), List.take_length]
  by_cases hk : k = o.kind ∧ n = o.name
  · rw [if_pos (by rw [hbk.1, hbk.2]; exact hk), if_pos hk, hk.1, hk.2]
    exact hb
  · rw [if_neg (by rw [hbk.1, hbk.2]; exact hk), if_neg hk]
theorem laid_find {us os L : List PBlock} {D T : List PBlock} {o : PBlock} (hh : Heads os) (e : os = D ++ o :: T) (h : LaidTo us os us.length D.length L) : look L o.kind o.name = look us o.kind o.name := by
  rw [h.2, look_take_none hh e, List.take_length]
  cases look us o.kind o.name <;> rfl
theorem laid_new {us os L : List PBlock} {D T : List PBlock} {u : PBlock} (hh : Heads us) (e : us = D ++ u :: T) (h : LaidTo us os D.length 0 L) : look L u.kind u.name = none := by
  rw [h.2, look_take_none hh e]
  simp [look, overO]
theorem laid_raw {us os L : List PBlock} (hu : SheetOk us) (ho : SheetOk os) (h : LaidTo us os us.length os.length L) (hraw : ∀ k n, look (overRaw us os) k n = overO (look us k n) (look os k n)) : L.Perm (overRaw us os) := heads_perm h.1 (overRaw_heads hu ho) fun k n => by rw [h.2, List.take_length, List.take_length, hraw]
theorem raw_look {us os : List PBlock} (hu : SheetOk us) (ho : SheetOk os) (k n : ByteArray) : look (overRaw us os) k n = overO (look us k n) (look os k n) := by
  have hH := overRaw_heads hu ho
  cases ho1 : look os k n with
  | some o =>
    have hm := look_some ho1
    have hin : layB us o ∈ overRaw us os := overRaw_mem.2 (.inl ⟨o, hm.1, rfl⟩)
    have := (look_iff hH (kind := k) (name := n) (b := layB us o)).2 ⟨hin, (layB_head us o).1.trans hm.2.1, (layB_head us o).2.trans hm.2.2⟩
    rw [this]
    unfold layB
    rw [hm.2.1, hm.2.2]
    cases look us k n <;> rfl
  | none =>
    cases hu1 : look us k n with
    | some u =>
      have hm := look_some hu1
      have hin : u ∈ overRaw us os := overRaw_mem.2 (.inr ⟨hm.1, by rw [hm.2.1, hm.2.2]; exact ho1⟩)
      exact (look_iff hH).2 ⟨hin, hm.2.1, hm.2.2⟩
    | none =>
      refine look_none.2 fun b hb e => ?_
      rcases overRaw_mem.1 hb with ⟨o, hom, rfl⟩ | ⟨hbu, _⟩
      · exact look_none.1 ho1 o hom ⟨(layB_head us o).1.symm.trans e.1, (layB_head us o).2.symm.trans e.2⟩
      · exact look_none.1 hu1 b hbu e
end Go.Proofs.YtpdahhnjhggocaaGreatDoor
namespace Go.Proofs.YtpdahhnjhggocaaGreatDoor
open Go.RowKit
theorem headOf_any (k n : ByteArray) (a : Option Addr) (m c : Nat) (w : World) : Calls Tryz.prog 47 #[.agg #[.string k, .string n, .slice a m c]] w fun e w' => e = .returned (.agg #[.string k, .string n]) ∧ Below w.heap.size w w' := by
  go_enter Tryz.func47, Tryz.ntmps47
  go_wp2
  have g1 := alloc_here (w.alloc (.cells #[.string k, .string n, .slice a m c] 46)) (.cells #[.string k, .string n] 73)
  rw [World.size_alloc] at g1
  have y0 := cell_of_block g1 0
  have y1 := cell_of_block g1 1
  simp only [List.getElem?_toArray, List.getElem?_cons_zero, List.getElem?_cons_succ] at y0 y1
  exact bodyPost_ret (v := .agg #[.string k, .string n]) (by simp [results, Tryz.results47, go_sem, y0, y1]) rfl ⟨rfl, ((Below.refl w.heap.size w).alloc (Nat.le_refl _) _).alloc (by simp) _⟩
theorem values_any (r : Nat) (w : World) : Calls Tryz.prog 50 #[.map (some r)] w fun e w' => e = .returned (.func (.func 114) #[] #[.pointer (some ⟨w.heap.size, 0, none⟩)]) ∧ w' = w.alloc (.cells #[.map (some r)] 70) := by
  go_enter Tryz.func50, Tryz.ntmps50
  go_wp2
  go_ret
  exact ⟨rfl, rfl⟩
end Go.Proofs.YtpdahhnjhggocaaGreatDoor
namespace Go.Proofs.YtpdahhnjhggocaaGreatDoor
open Go.RowKit
def LaidJ (us os : List PBlock) (j : Nat) (L : List PBlock) : Prop := (j ≤ us.length ∧ LaidTo us os j 0 L) ∨ (us.length ≤ j ∧ j ≤ us.length + os.length ∧ LaidTo us os us.length (j - us.length) L)
theorem split_at {α : Type} {l : List α} {j : Nat} {b : α} (h : l[j]? = some b) : ∃ D T, l = D ++ b :: T ∧ D.length = j := by
  obtain ⟨hj, rfl⟩ := List.getElem?_eq_some_iff.1 h
  exact ⟨l.take j, l.drop (j + 1), by rw [List.getElem_cons_drop, List.take_append_drop], by simp; omega⟩
def found (k n : ByteArray) (bs : List BAt) : BAt := match headIx k n bs 0 with
  | some p => p.2
  | none => ⟨⟨#[]⟩, ⟨#[]⟩, .slice none 0 0, []⟩
theorem found_look (k n : ByteArray) (bs : List BAt) : lookH k n bs = aggB (found k n bs) := by
  unfold lookH found
  cases headIx k n bs 0 <;> rfl
theorem found_cases (k n : ByteArray) (bs : List BAt) : (look (bs.map BAt.plain) k n = none ∧ found k n bs = ⟨⟨#[]⟩, ⟨#[]⟩, .slice none 0 0, []⟩) ∨ (found k n bs ∈ bs ∧ look (bs.map BAt.plain) k n = some (found k n bs).plain) := by
  have h := headIx_look (k := k) (n := n) bs 0
  unfold found
  cases hx : headIx k n bs 0 with
  | none => rw [hx] at h; exact .inl ⟨h.symm, rfl⟩
  | some p =>
    rw [hx] at h
    obtain ⟨D, T, e, _⟩ := headIx_spec hx
    exact .inr ⟨by rw [e]; simp, h.symm⟩
def OvL (w2 : World) (us os : List BAt) (cv : Value) (j : Nat) (bs : List BAt) (W : World) : Prop := OvI w2 w2.heap.size bs W ∧ W.ownsRow (w2.heap.size + 1) 46 3 cv (us.length + os.length) ((us ++ os).flatMap BAt.cells) ∧ LaidJ (us.map BAt.plain) (os.map BAt.plain) j (bs.map BAt.plain)
theorem OvL.below {w2 : World} {us os : List BAt} {cv : Value} {j : Nat} {bs : List BAt} {W W' : World} (h : OvL w2 us os cv j bs W) (hb : Below W.heap.size W W') : OvL w2 us os cv j bs W' := ⟨h.1.below hb, own_below h.2.1 hb, h.2.2⟩
def LayIs (b u : BAt) (W1 : World) (v : Value) (ls : List LAt) (W2 : World) : Prop := ls.map LAt.plain = overL (rulesOf b.kind) (u.ls.map LAt.plain) (b.ls.map LAt.plain) ∧ LinesOwn W1.heap.size W2 v ls ∧ LinesSmall ls
theorem OvI.blockIn {w : World} {r : Nat} {bs : List BAt} {W : World} (h : OvI w r bs W) {b : BAt} (hb : b ∈ bs) : LinesOwn (r + 1) W b.v b.ls := by
  obtain ⟨A, C, e⟩ := flat_split BAt.rows hb
  have := h.mem
  rw [e] at this
  exact Mem.left (Mem.right this)
theorem LaidJ.found {us os L : List PBlock} {j : Nat} {b : PBlock} (hu : SheetOk us) (ho : SheetOk os) (h : LaidJ us os j L) (hb : (us ++ os)[j]? = some b) : Heads L ∧ LinesOk (rulesOf b.kind) b.lines ∧ (∀ u, look L b.kind b.name = some u → LinesOk (rulesOf b.kind) u.lines) ∧
    ∀ (L' : List PBlock) (b' : PBlock), b' = ⟨b.kind, b.name, overL (rulesOf b.kind) (((look L b.kind b.name).map PBlock.lines).getD []) b.lines⟩ → Heads L' → (∀ k n, look L' k n = if k = b'.kind ∧ n = b'.name then some b' else look L k n) → LaidJ us os (j + 1) L' := by
  by_cases hj : j < us.length
  · rw [List.getElem?_append_left hj] at hb
    obtain ⟨D, T, e, rfl⟩ := split_at hb
    have hl : LaidTo us os D.length 0 L := by
      rcases h with ⟨_, h⟩ | ⟨h1, _⟩
      · exact h
      · omega
    have hbm : b ∈ us := List.mem_of_getElem? hb
    have hok := (hu.2.1 b hbm).2.2
    have hn := laid_new hu.heads e hl
    refine ⟨hl.1, hok, fun u hu' => (by rw [hn] at hu'; cases hu'), fun L' b' hb' hH hL => .inl ⟨by omega, ?_⟩⟩
    rw [hn] at hb'
    have hbb : b' = b := by
      rw [hb']
      show PBlock.mk b.kind b.name (overL (rulesOf b.kind) [] b.lines) = b
      rw [over_under hok]
    exact laid_under hu.heads e hl hH hbb hL
  · rw [List.getElem?_append_right (by omega)] at hb
    have hjo : j - us.length < os.length := (List.getElem?_eq_some_iff.1 hb).1
    obtain ⟨D, T, e, hD⟩ := split_at hb
    have hl : LaidTo us os us.length D.length L := by
      rw [hD]
      rcases h with ⟨h1, h⟩ | ⟨_, _, h⟩
      · have : j = us.length := by omega
        subst this
        rw [Nat.sub_self]
        exact h
      · exact h
    have hbm : b ∈ os := List.mem_of_getElem? hb
    have hok := (ho.2.1 b hbm).2.2
    have hn := laid_find ho.heads e hl
    have hlk : ∀ u, look L b.kind b.name = some u → LinesOk (rulesOf b.kind) u.lines := fun u hu' => by
      rw [hn] at hu'
      obtain ⟨m, e1, _⟩ := look_some hu'
      have := (hu.2.1 u m).2.2
      rwa [e1] at this
    refine ⟨hl.1, hok, hlk, fun L' b' hb' hH hL => .inr ⟨by omega, by omega, ?_⟩⟩
    have hgo : j + 1 - us.length = D.length + 1 := by omega
    rw [hgo]
    refine laid_over ho.heads e hl hH ?_ (by rw [hb']; exact ⟨rfl, rfl⟩) hL
    rw [hb', hn]
    cases look us b.kind b.name with
    | none =>
      show some (PBlock.mk b.kind b.name (overL (rulesOf b.kind) [] b.lines)) = some b
      rw [over_under hok]
    | some u => rfl
set_option maxHeartbeats 1000000 in
theorem OvL.step {w2 : World} {us os : List BAt} {uv ov cv : Value} {j : Nat} {bs : List BAt} {W : World} {b : BAt} (hu : BlocksIn w2 uv us) (ho : BlocksIn w2 ov os) (hsu : BlocksSmall us) (hso : BlocksSmall os) (oku : SheetOk (us.map BAt.plain)) (oko : SheetOk (os.map BAt.plain)) (h : OvL w2 us os cv j bs W) (hb : (us ++ os)[j]? = some b) :
    (∀ W1, Below W.heap.size W W1 → Calls Tryz.prog 48 #[lookH b.kind b.name bs, .agg #[.string b.kind, .string b.name, b.v]] W1 fun e w' => ∃ q m cc ls, e = .returned (.agg #[.string b.kind, .string b.name, .slice q m cc]) ∧ LayIs b (found b.kind b.name bs) W1 (.slice q m cc) ls w' ∧ Below W1.heap.size W1 w') ∧
    (∀ v ls W1 W2, Below W.heap.size W W1 → LayIs b (found b.kind b.name bs) W1 v ls W2 → Below W1.heap.size W1 W2 → OvL w2 us os cv (j + 1) (setH ⟨b.kind, b.name, v, ls⟩ bs) (setB W2 w2.heap.size (mObj (setH ⟨b.kind, b.name, v, ls⟩ bs)))) := by
  obtain ⟨hI, hrow, hJ⟩ := h
  have hbp : (us.map BAt.plain ++ os.map BAt.plain)[j]? = some b.plain := by rw [← List.map_append, List.getElem?_map, hb]; rfl
  obtain ⟨hH, hok, hfo, hnext⟩ := hJ.found oku oko hbp
  have hbm : b ∈ us ∨ b ∈ os := List.mem_append.1 (List.mem_of_getElem? hb)
  have hbin : ∀ W1, Below W.heap.size W W1 → BlockIn W1 b := fun W1 h1 => by
    have hw : Below w2.heap.size w2 W1 := hI.bw.trans (h1.mono hI.bw.size)
    rcases hbm with hm | hm
    · exact (hu.below hw).2 b hm
    · exact (ho.below hw).2 b hm
  have hbs : b.name.size ≤ 1048576 ∧ LinesSmall b.ls := by
    rcases hbm with hm | hm
    · exact hsu.2 b hm
    · exact hso.2 b hm
  have hfin : (∀ W1, Below W.heap.size W W1 → BlockIn W1 (found b.kind b.name bs)) ∧ LinesSmall (found b.kind b.name bs).ls ∧ LinesOk (rulesOf b.kind) ((found b.kind b.name bs).ls.map LAt.plain) ∧ (found b.kind b.name bs).ls.map LAt.plain = ((look (bs.map BAt.plain) b.kind b.name).map PBlock.lines).getD [] := by
    rcases found_cases b.kind b.name bs with ⟨h1, h2⟩ | ⟨h1, h2⟩
    · rw [h2, h1]
      refine ⟨fun W1 _ => ⟨⟨rfl, none, 0, rfl, ⟨Nat.le_refl _, Nat.zero_le _⟩, .inl rfl⟩, by simp⟩, ⟨by simp, by simp⟩, ok_nil _, rfl⟩
    · refine ⟨fun W1 hb1 => ((hI.blockIn h1).below hb1).lin, (hI.sm _ h1).2, hfo _ h2, ?_⟩
      rw [h2]
      rfl
  obtain ⟨f1, f2, f3, f4⟩ := hfin
  have l1 := hok.few
  have l2 := f3.few
  have l3 := (rulesOf_like b.kind).1
  have e1 : (b.plain.lines).length = b.ls.length := List.length_map ..
  rw [List.length_map] at l2
  rw [e1] at l1
  rw [show b.plain.kind = b.kind from rfl] at l1
  refine ⟨fun W1 hb1 => ?_, fun v ls W1 W2 hb1 hl hb2 => ?_⟩
  · rw [found_look]
    refine (layBlock_any (u := found b.kind b.name bs) (o := b) (f1 W1 hb1) (hbin W1 hb1) f2 hbs.2 (by omega) (over_good f3 hok)).mono ?_
    rintro e w' ⟨q, m, cc, ls, he, h1, h2⟩
    exact ⟨q, m, cc, ls, he, h1, h2⟩
  · obtain ⟨p1, p2, p3⟩ := hl
    have hset := setH_look (b := ⟨b.kind, b.name, v, ls⟩) hH
    have hr1 : (w2.heap.size : Nat) < w2.heap.size + 1 := by omega
    refine ⟨hI.set (b := ⟨b.kind, b.name, v, ls⟩) hb1 hb2 p2 ?_ ⟨hbs.1, p3⟩, own_other (own_below (own_below hrow hb1) hb2) (setB_grown _ _ _) hr1, hnext _ (BAt.plain ⟨b.kind, b.name, v, ls⟩) ?_ hset.1 hset.2⟩
    · show LinesOk (rulesOf b.kind) (ls.map LAt.plain)
      rw [p1]
      exact over_ok f3 hok
    · show PBlock.mk b.kind b.name (ls.map LAt.plain) = _
      rw [p1, f4]
      rfl
theorem LaidJ.done {us os L : List PBlock} (h : LaidJ us os (us.length + os.length) L) : LaidTo us os us.length os.length L := by
  rcases h with ⟨h1, h⟩ | ⟨_, _, h⟩
  · have e : os.length = 0 := by omega
    rw [e] at h ⊢
    exact h
  · rwa [Nat.add_sub_cancel_left] at h
theorem OvL.perm {w2 : World} {us os : List BAt} {cv : Value} {bs : List BAt} {W : World} (oku : SheetOk (us.map BAt.plain)) (oko : SheetOk (os.map BAt.plain)) (h : OvL w2 us os cv (us.length + os.length) bs W) : (bs.map BAt.plain).Perm (overRaw (us.map BAt.plain) (os.map BAt.plain)) := by
  have := h.2.2
  have e1 : us.length = (us.map BAt.plain).length := (List.length_map ..).symm
  have e2 : os.length = (os.map BAt.plain).length := (List.length_map ..).symm
  rw [e1, e2] at this
  exact laid_raw oku oko this.done (raw_look oku oko)
theorem over_many {us os : List PBlock} (h : 60 < (overRaw us os).length) : overS us os = [] := by
  unfold overS
  rw [if_neg (fun e => absurd e.2.2 (by omega))]
theorem over_sorted {us os : List PBlock} {xs : List BAt} (oku : SheetOk us) (oko : SheetOk os) (hl : (overRaw us os).length ≤ 60) (hp : (xs.map BAt.plain).Perm (overRaw us os)) (hs : ∀ i j : Nat, i < j → ∀ a b, xs[i]? = some a → xs[j]? = some b → blockLt b.plain a.plain = false) : xs.map BAt.plain = overS us os := by
  rw [overS_of oku oko hl]
  refine normBs_unique (good_of hl (overRaw_heads oku oko) (overRaw_each oku oko)) (by rw [norm_same (fun b hb => (overRaw_each oku oko b hb).2.2)]; exact hp) fun i j hij a b ha hb => ?_
  rw [List.getElem?_map] at ha hb
  obtain ⟨a', ha', rfl⟩ := Option.map_eq_some_iff.1 ha
  obtain ⟨b', hb', rfl⟩ := Option.map_eq_some_iff.1 hb
  exact hs i j hij a' b' ha' hb'
theorem OvI.own {w : World} {r : Nat} {bs xs : List BAt} {W W' : World} {v : Value} (h : OvI w r bs W) (hb : Below W.heap.size W W') (hp : xs.Perm bs) (hr : W'.ownsRow W.heap.size 46 3 v xs.length (xs.flatMap BAt.cells)) : BlocksOwn (r + 1) W' v xs := by
  refine Mem.cons (r := ⟨v, 46, 3, xs.length, xs.flatMap BAt.cells⟩) (Mem.perm h.mem (List.Perm.flatMap_right _ hp.symm)) hr hb ?_
  have := (Array.getElem?_eq_some_iff.1 h.mp).1
  omega
end Go.Proofs.YtpdahhnjhggocaaGreatDoor
