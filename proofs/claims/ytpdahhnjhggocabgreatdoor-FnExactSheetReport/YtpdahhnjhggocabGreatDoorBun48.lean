import Derived.Test.YtpdahhnjhggocabGreatDoorBun47
import Derived.Test.YtpdahhnjhggocabGreatDoorBun46
import Derived.Test.YtpdahhnjhggocabGreatDoorBun43
import Derived.Deep.WholeRow
import Derived.Deep.MidRow
namespace Go.Proofs.YtpdahhnjhggocabGreatDoor
open Go.RowKit Go.Extern.Stop Go.Stop Go.Extern
theorem asPartsA (a : Addr) (w : World) : (ReflectliteValue.parts (.agg #[.pointer (some ⟨10, 77, none⟩), .pointer (some a), .int .u64 409])).run Tryz.prog w = .ok (some (77, a, 409)) w := by kernel_rfl
theorem asPartsB (a : Addr) (w : World) : (ReflectliteValue.parts (.agg #[.pointer (some ⟨10, 77, none⟩), .pointer (some a), .int .u64 153])).run Tryz.prog w = .ok (some (77, a, 153)) w := by kernel_rfl
theorem asDirect (w : World) : (Rtype.directlyAssignable 77 77).run Tryz.prog w = .ok true w := by kernel_rfl
theorem asInfo : (Tryz.prog.info? 77).map (·.size) = some 2 := by kernel_rfl
theorem asSet (q b : Nat) (x y : Int) (o0 o1 : Value) (W : World) (hb : b = W.heap.size) (hq : W.heap[q]? = some (.cells #[o0, o1] 77 (0, 0))) :
  (ReflectliteValue.set #[.agg #[.pointer (some ⟨10, 77, none⟩), .pointer (some ⟨q, 0, none⟩), .int .u64 409], .agg #[.pointer (some ⟨10, 77, none⟩), .pointer (some ⟨b, 0, none⟩), .int .u64 153]]).run Tryz.prog (W.alloc (.cells #[.int .i64 x, .int .i64 y] 77))
   = .ok (.tuple #[]) ((W.alloc (.cells #[.int .i64 x, .int .i64 y] 77)).setCells q 0 [.int .i64 x, .int .i64 y]) := by
 subst hb
 have hlt : q < W.heap.size := by
  rcases Nat.lt_or_ge q W.heap.size with h | h
  ·exact h
  ·rw [Array.getElem?_eq_none h] at hq; cases hq
 have hq2 : (W.alloc (.cells #[.int .i64 x, .int .i64 y] 77)).heap[q]? = some (.cells #[o0, o1] 77 (0, 0)) := by
  rw [((Below.refl W.heap.size W).alloc (Nat.le_refl _) _).block q hlt]; exact hq
 have hu : ∃ d, Tryz.prog.underlying 77 = some d ∧ (match d with | .struct _ | .array _ _ => true | _ => false) = true := ⟨_, Tryz.underlying77, rfl⟩
 obtain ⟨d, hu, hd⟩ := hu
 have L := run_loadVar_row (P := Tryz.prog) _ _ 77 77 #[.int .i64 x, .int .i64 y] (0, 0) d (alloc_here W _) hu (by cases d <;> first | rfl | exact absurd hd (by simp)) asInfo
 have ht : (W.alloc (.cells #[.int .i64 x, .int .i64 y] 77)).there q 0 2 := by
  intro j hj
  have c0 := cell_of_block hq2 j
  match j, hj with
  | 0, _ => exact ⟨by rw [c0]; rfl, by simp [World.frozen?, hq2]⟩
  | 1, _ => exact ⟨by rw [c0]; rfl, by simp [World.frozen?, hq2]⟩
 have S := run_storeVar_mid (P := Tryz.prog) _ q 0 77 #[.int .i64 x, .int .i64 y] ht asInfo (by simp [Value.oneCell'])
 delta ReflectliteValue.set
 have M : ∀ (v x : Value) (f : Value → Value → Sem Value) (g : Array Value → Sem Value), ReflectliteValue.set.match_3 (motive := fun _ => Sem Value) #[v, x] f g = f v x := fun _ _ _ _ => rfl
 rw [M]
 simp only [Sem.run_bind, asPartsA, asPartsB, Result.andThen]
 simp [ReflectliteValue.flagAddr, L, Result.andThen, asDirect, S]
end Go.Proofs.YtpdahhnjhggocabGreatDoor
namespace Go.Proofs.YtpdahhnjhggocabGreatDoor
open Go.RowKit Go.Extern.Stop Go.Stop Go.Extern
set_option maxHeartbeats 4000000 in
theorem errAs_hit (q : Nat) (x y : Int) (o0 o1 : Value) (w : World) (hg : ErrT w) (hq : w.heap[q]? = some (.cells #[o0, o1] 77 (0, 0))) :
  Calls Tryz.prog 51 #[.iface 77 (.agg #[.int .i64 x, .int .i64 y]), .iface 79 (.pointer (some ⟨q, 0, none⟩))] w fun e w' => e = .returned (.bool true) ∧ w' = ((((w.alloc (.cells #[.pointer (some ⟨q, 0, none⟩)] 79)).alloc (.cells #[.pointer (some ⟨10, 79, none⟩), .pointer (some ⟨w.heap.size, 0, none⟩), .int .u64 150] 167)).alloc (.cells #[.pointer (some ⟨10, 79, none⟩), .pointer (some ⟨w.heap.size, 0, none⟩), .int .u64 150] 167)).alloc (.cells #[.int .i64 x, .int .i64 y] 77)).setCells q 0 [.int .i64 x, .int .i64 y] := by
 have e0 := run_callFunc_extern (P := Tryz.prog) (f := 111) (e := (fun args => ReflectliteValue.unpack (args.getD 0 (.tuple #[])))) Tryz.func111 (by kernel_rfl) (by kernel_rfl) (by kernel_rfl) (by kernel_rfl)
 have e1 := run_callFunc_extern (P := Tryz.prog) (f := 112) (e := (ReflectliteValue.methodAny (ReflectliteValue.valueError "reflectlite.Value.Type" 0) (fun t _ _ _ => ReflectliteType.toType t))) Tryz.func112 (by kernel_rfl) (by kernel_rfl) (by kernel_rfl) (by kernel_rfl)
 have e2 := run_callFunc_extern (P := Tryz.prog) (f := 113) (e := (ReflectliteValue.method (ReflectliteValue.valueError "reflectlite.Value.IsNil" 0) ReflectliteValue.isNil)) Tryz.func113 (by kernel_rfl) (by kernel_rfl) (by kernel_rfl) (by kernel_rfl)
 have e3 := run_callFunc_extern (P := Tryz.prog) (f := 323) (e := (ReflectliteType.abiMethod fun t => do pure (.int .u8 (← Rtype.kind t)))) Tryz.func323 (by kernel_rfl) (by kernel_rfl) (by kernel_rfl) (by kernel_rfl)
 have e4 := run_callFunc_extern (P := Tryz.prog) (f := 335) (e := (ReflectliteType.method ReflectliteType.elem)) Tryz.func335 (by kernel_rfl) (by kernel_rfl) (by kernel_rfl) (by kernel_rfl)
 have e5 := run_callFunc_extern (P := Tryz.prog) (f := 336) (e := (ReflectliteType.relation "Implements" ReflectliteType.implements_)) Tryz.func336 (by kernel_rfl) (by kernel_rfl) (by kernel_rfl) (by kernel_rfl)
 have e6 := run_callFunc_extern (P := Tryz.prog) (f := 177) (e := ReflectliteType.typeOf) Tryz.func177 (by kernel_rfl) (by kernel_rfl) (by kernel_rfl) (by kernel_rfl)
 have e7 := run_callFunc_extern (P := Tryz.prog) (f := 333) (e := (ReflectliteType.relation "AssignableTo" ReflectliteType.assignableTo)) Tryz.func333 (by kernel_rfl) (by kernel_rfl) (by kernel_rfl) (by kernel_rfl)
 have e8 := run_callFunc_extern (P := Tryz.prog) (f := 178) (e := (ReflectliteValue.method (ReflectliteValue.valueError "reflectlite.Value.Elem" 0) ReflectliteValue.elem)) Tryz.func178 (by kernel_rfl) (by kernel_rfl) (by kernel_rfl) (by kernel_rfl)
 have e9 := run_callFunc_extern (P := Tryz.prog) (f := 179) (e := ReflectliteValue.set) Tryz.func179 (by kernel_rfl) (by kernel_rfl) (by kernel_rfl) (by kernel_rfl)
 have g0 := asTypeOf
 have g1 := asMAssign
 have g2 := asAssign
 have g3 := asVal2
 have g4 := asVal
 have g5 := asType
 have g6 := asMKind
 have g7 := asMElem
 have g8 := asMImpl
 have g9 := asKindP
 have g10 := asKindS
 have g11 := asElem
 have g12 := asImpl
 have hql : q < w.heap.size := by
  rcases Nat.lt_or_ge q w.heap.size with h | h
  ·exact h
  ·rw [Array.getElem?_eq_none h] at hq; cases hq
 unfold ErrT at hg
 have hgl : 0 < w.heap.size := by
  rcases Nat.lt_or_ge 0 w.heap.size with h | h
  ·exact h
  ·simp [World.cell?, Array.getElem?_eq_none h] at hg
 have b1 := (Below.refl w.heap.size w).alloc (Nat.le_refl _) (.cells #[.pointer (some ⟨q, 0, none⟩)] 79)
 have b2 := b1.alloc (by simp) (.cells #[.pointer (some ⟨10, 79, none⟩), .pointer (some ⟨w.heap.size, 0, none⟩), .int .u64 150] 167)
 have b3 := b2.alloc (by simp; omega) (.cells #[.pointer (some ⟨10, 79, none⟩), .pointer (some ⟨w.heap.size, 0, none⟩), .int .u64 150] 167)
 have n8 := asIsNil ⟨w.heap.size, 0, none⟩ ⟨q, 0, none⟩ ((w.alloc (.cells #[.pointer (some ⟨q, 0, none⟩)] 79)).alloc (.cells #[.pointer (some ⟨10, 79, none⟩), .pointer (some ⟨w.heap.size, 0, none⟩), .int .u64 150] 167)) (by simp)
 have hg2 : ((w.alloc (.cells #[.pointer (some ⟨q, 0, none⟩)] 79)).alloc (.cells #[.pointer (some ⟨10, 79, none⟩), .pointer (some ⟨w.heap.size, 0, none⟩), .int .u64 150] 167)).cell? ⟨0, 0, none⟩ = some (.iface 248 (.agg #[.pointer (some ⟨10, 73, none⟩)])) := by
  rw [World.cell?_of_block (b2.block _ hgl)]; exact hg
 have el := asElemV ⟨w.heap.size, 0, none⟩ ⟨q, 0, none⟩ (((w.alloc (.cells #[.pointer (some ⟨q, 0, none⟩)] 79)).alloc (.cells #[.pointer (some ⟨10, 79, none⟩), .pointer (some ⟨w.heap.size, 0, none⟩), .int .u64 150] 167)).alloc (.cells #[.pointer (some ⟨10, 79, none⟩), .pointer (some ⟨w.heap.size, 0, none⟩), .int .u64 150] 167)) (by rw [World.cell?_alloc_lt _ _ ⟨w.heap.size, 0, none⟩ (by simp; omega)]; simp)
 have st := asSet q (w.heap.size + 1 + 1 + 1) x y o0 o1 (((w.alloc (.cells #[.pointer (some ⟨q, 0, none⟩)] 79)).alloc (.cells #[.pointer (some ⟨10, 79, none⟩), .pointer (some ⟨w.heap.size, 0, none⟩), .int .u64 150] 167)).alloc (.cells #[.pointer (some ⟨10, 79, none⟩), .pointer (some ⟨w.heap.size, 0, none⟩), .int .u64 150] 167)) (by simp) (by rw [b3.block q hql]; exact hq)
 clear b1 b2 b3 hq hg hgl hql
 go_enter Tryz.func51, Tryz.ntmps51
 go_wp2
 refine wp_loop_rounds 1 ?_
 rw [rounds_succ]
 go_wp2
 go_ret
 exact ⟨rfl, rfl⟩
end Go.Proofs.YtpdahhnjhggocabGreatDoor
namespace Go.Proofs.YtpdahhnjhggocabGreatDoor
open Go.RowKit
theorem ErrT.below {B : Nat} {w w' : World} (h : ErrT w) (hb : Below B w w') (hB : w.heap.size ≤ B) : ErrT w' := by
 have hl : 0 < w.heap.size := by
  rcases Nat.lt_or_ge 0 w.heap.size with h' | h'
  ·exact h'
  ·unfold ErrT at h; simp [World.cell?, Array.getElem?_eq_none h'] at h
 unfold ErrT at h ⊢
 rw [World.cell?_of_block (hb.block _ (Nat.lt_of_lt_of_le hl hB))]; exact h
theorem set_two {W : World} {q : Nat} {o0 o1 x y : Value} {t : TypeId} (h : W.heap[q]? = some (.cells #[o0, o1] t (0, 0))) : (W.setCells q 0 [x, y]).heap[q]? = some (.cells #[x, y] t (0, 0)) ∧ W.grownBy (W.setCells q 0 [x, y]) (some q) := by
 have e1 := setCell_eq_setRow W q 0 #[o0, o1] t (0, 0) x h
 have h1 := setRow_heap W q #[o0, o1] (#[o0, o1].setIfInBounds 0 x) t _ h
 have e2 := setCell_eq_setRow (W.setRow q (#[o0, o1].setIfInBounds 0 x)) q 1 _ t (0, 0) y h1
 have h2 := setRow_heap (W.setRow q (#[o0, o1].setIfInBounds 0 x)) q _ ((#[o0, o1].setIfInBounds 0 x).setIfInBounds 1 y) t _ h1
 have e3 : W.setCells q 0 [x, y] = (W.setRow q (#[o0, o1].setIfInBounds 0 x)).setRow q ((#[o0, o1].setIfInBounds 0 x).setIfInBounds 1 y) := by
  show (W.setCell ⟨q, 0, none⟩ x).setCell ⟨q, 1, none⟩ y = _
  rw [e1, e2]
 rw [e3]
 exact ⟨by rw [h2]; rfl, ⟨rfl, rfl, rfl, by simp, fun k _ hk => by rw [setRow_other _ q k _ (fun e => hk (by rw [e])), setRow_other _ q k _ (fun e => hk (by rw [e]))]⟩⟩
def HitPost (q : Nat) (x y : Int) (w : World) (e : Ending) (w' : World) : Prop := e = .returned (.bool true) ∧ w'.heap[q]? = some (.cells #[.int .i64 x, .int .i64 y] 77 (0, 0)) ∧ w.grownBy w' (some q)
theorem errAs_fault (q : Nat) (x y : Int) (o0 o1 : Value) (w : World) (hg : ErrT w) (hq : w.heap[q]? = some (.cells #[o0, o1] 77 (0, 0))) : Calls Tryz.prog 51 #[.iface 77 (.agg #[.int .i64 x, .int .i64 y]), .iface 79 (.pointer (some ⟨q, 0, none⟩))] w fun e w' => HitPost q x y w e w' := by
 have hql : q < w.heap.size := by
  rcases Nat.lt_or_ge q w.heap.size with h | h
  ·exact h
  ·rw [Array.getElem?_eq_none h] at hq; cases hq
 refine (errAs_hit q x y o0 o1 w hg hq).mono ?_
 rintro e w' ⟨rfl, rfl⟩
 have b4 : ∀ (X Y Z T : Obj), Below w.heap.size w ((((w.alloc X).alloc Y).alloc Z).alloc T) := fun X Y Z T => ((((Below.refl w.heap.size w).alloc (Nat.le_refl _) X).alloc (by simp) Y).alloc (by simp; omega) Z).alloc (by simp; omega) T
 have h4 := fun X Y Z T => (b4 X Y Z T).block q hql
 obtain ⟨r1, r2⟩ := set_two (x := .int .i64 x) (y := .int .i64 y) ((h4 _ _ _ _).trans hq)
 refine ⟨rfl, r1, ⟨r2.os.trans (b4 _ _ _ _).os, r2.tape.trans (b4 _ _ _ _).tape, r2.output.trans (b4 _ _ _ _).output, Nat.le_trans (b4 _ _ _ _).size r2.size, fun k hk hn => (r2.block k (Nat.lt_of_lt_of_le hk (b4 _ _ _ _).size) hn).trans ((b4 _ _ _ _).block k hk)⟩⟩
def BadPost (m : Nat) (c : Int) (w : World) (e : Ending) (w' : World) : Prop := e = .returned (.tuple #[.agg #[.slice none 0 0], .agg #[.int .i64 (m : Int), .int .i64 c]]) ∧ Below w.heap.size w w'
set_option maxHeartbeats 4000000 in
set_option maxRecDepth 100000 in
theorem implParse_bad (s : ByteArray) {w : World} {m : Nat} {c : Int} (hs : s.size ≤ 4000000) (hst : StdAt w) (het : ErrT w) (hP : parseT s.data.toList = .bad m c) : Calls Tryz.prog 13 #[.string s] w fun e w' => BadPost m c w e w' := by
 have b0 : Below w.heap.size w ((w.alloc (.cells #[.slice none 0 0] 24)).alloc (.cells #[.int .i64 0, .int .i64 0] 26)) := ((Below.refl w.heap.size w).alloc (Nat.le_refl _) _).alloc (by simp) _
 have s1 : ((w.alloc (.cells #[.slice none 0 0] 24)).alloc (.cells #[.int .i64 0, .int .i64 0] 26)).heap.size = w.heap.size + 2 := by simp
 have z0 : ((w.alloc (.cells #[.slice none 0 0] 24)).alloc (.cells #[.int .i64 0, .int .i64 0] 26)).heap[w.heap.size]? = some (.cells #[.slice none 0 0] 24 (0, 0)) := by
  have b1 := (Below.refl (w.alloc (.cells #[.slice none 0 0] 24)).heap.size (w.alloc (.cells #[.slice none 0 0] 24))).alloc (Nat.le_refl _) (.cells #[.int .i64 0, .int .i64 0] 26)
  rw [b1.block w.heap.size (by simp)]; exact alloc_here w _
 have z1 : ((w.alloc (.cells #[.slice none 0 0] 24)).alloc (.cells #[.int .i64 0, .int .i64 0] 26)).heap[w.heap.size + 1]? = some (.cells #[.int .i64 0, .int .i64 0] 26 (0, 0)) := by
  have := alloc_here (w.alloc (.cells #[.slice none 0 0] 24)) (.cells #[.int .i64 0, .int .i64 0] 26)
  rw [World.size_alloc] at this; exact this
 have HR := readText_any s hs (hst.below b0)
 have het1 := het.below b0 (Nat.le_refl _)
 rw [hP] at HR
 clear hst hP het
 generalize hw1 : (w.alloc (.cells #[.slice none 0 0] 24)).alloc (.cells #[.int .i64 0, .int .i64 0] 26) = w1 at *
 go_enter Tryz.func13, Tryz.ntmps13
 go_wp2_with (go_at_call 50; (try rw [hw1]); refine HR.mono ?_)
 rintro e w2 ⟨b2, rfl⟩
 have bx := (Below.refl w2.heap.size w2).alloc (Nat.le_refl _) (.cells #[.int .i64 0, .int .i64 0] 77)
 have b3 := b2.trans (bx.mono b2.size)
 have het3 := het1.below b3 (Nat.le_refl _)
 have HA := errAs_fault w2.heap.size (m : Int) c (.int .i64 0) (.int .i64 0) (w2.alloc (.cells #[.int .i64 0, .int .i64 0] 77)) het3 (alloc_here w2 _)
 have HB3 := hid_in b3
 have HB0 := hid_in b0
 have hz2 := b2.size
 clear HR b0 b2 bx b3 hw1 het1 het3
 unfold flt
 go_wp2_with (go_at_call 51; refine HA.mono ?_)
 rintro e w4 ⟨rfl, hq4, hg4⟩
 have hB4 : Below w1.heap.size w1 w4 := below_own HB3.out HB3.out.size hg4 (fun q hq => by cases hq; exact hz2)
 have y0 := (hB4.block w.heap.size (by omega)).trans z0
 have y1 := (hB4.block (w.heap.size + 1) (by omega)).trans z1
 have r0 := cell_of_block y0 0
 have r1 := cell_of_block y1 0
 have r2 := cell_of_block y1 1
 have f0 := frozen_of_block y0 0
 have f1 := frozen_of_block y1 0
 have f2 := frozen_of_block y1 1
 have t0 := cell_of_block hq4 0
 have t1 := cell_of_block hq4 1
 simp only [List.getElem?_toArray, List.getElem?_cons_zero, List.getElem?_cons_succ] at r0 r1 r2 t0 t1
 have hb9 := HB0.out.trans (hB4.mono (by omega))
 have HO := hid_in (show BadPost m c w (.returned (.tuple #[.agg #[.slice none 0 0], .agg #[.int .i64 (m : Int), .int .i64 c]])) (((w4.setCell ⟨w.heap.size, 0, none⟩ (.slice none 0 0)).setCell ⟨w.heap.size + 1, 0, none⟩ (.int .i64 (m : Int))).setCell ⟨w.heap.size + 1, 1, none⟩ (.int .i64 c)).drew from ⟨rfl, Below.drew (below_setCell (below_setCell (below_setCell hb9 ⟨w.heap.size, 0, none⟩ (Nat.le_refl _) _) ⟨w.heap.size + 1, 0, none⟩ (by simp only; omega) _) ⟨w.heap.size + 1, 1, none⟩ (by simp only; omega) _)⟩)
 clear y0 y1 z0 z1 HA hq4 hg4 HB3 HB0 hb9 hB4
 go_upto_region 4 with fail
 go_region
 all_goals (try go_wp2)
 all_goals exact bodyPost_ret (v := .tuple #[.agg #[.slice none 0 0], .agg #[.int .i64 (m : Int), .int .i64 c]]) (by simp [results, Tryz.results13, go_sem, r0, r1, r2]) rfl HO.out
end Go.Proofs.YtpdahhnjhggocabGreatDoor
