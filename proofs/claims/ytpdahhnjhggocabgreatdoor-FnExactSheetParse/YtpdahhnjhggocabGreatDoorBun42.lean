import Derived.Test.YtpdahhnjhggocabGreatDoorBun41
import Derived.Test.YtpdahhnjhggocabGreatDoorBun40
import Derived.Test.YtpdahhnjhggocabGreatDoorBun39
import Derived.Test.YtpdahhnjhggocabGreatDoorBun37
import Derived.Test.YtpdahhnjhggocabGreatDoorBun36
import Derived.Test.YtpdahhnjhggocabGreatDoorBun28
import Derived.Deep.WholeRow
import Derived.Deep.MidRow
namespace Go.Proofs.YtpdahhnjhggocabGreatDoor
open Go.RowKit Go.Extern.Stop Go.Stop Go.Extern
theorem asPartsA (a : Addr) (w : World) : (ReflectliteValue.parts (.agg #[.pointer (some ⟨10, 77, none⟩), .pointer (some a), .int .u64 409])).run Tryz.prog w = .ok (some (77, a, 409)) w := by kernel_rfl
theorem asPartsB (a : Addr) (w : World) : (ReflectliteValue.parts (.agg #[.pointer (some ⟨10, 77, none⟩), .pointer (some a), .int .u64 153])).run Tryz.prog w = .ok (some (77, a, 153)) w := by kernel_rfl
theorem asDirect (w : World) : (Rtype.directlyAssignable 77 77).run Tryz.prog w = .ok true w := by kernel_rfl
theorem asInfo : (Tryz.prog.info? 77).map (·.size) = some 2 := by kernel_rfl
theorem asSet (q b : Nat) (x y : Int) (o0 o1 : Value) (W : World) (hb : b = W.heap.size) (hq : W.heap[q]? = some (.cells #[o0, o1] 77 (0, 0))) :
    (ReflectliteValue.set #[.agg #[.pointer (some ⟨10, 77, none⟩), .pointer (some ⟨q, 0, none⟩), .int .u64 409], .agg #[.pointer (some ⟨10, 77, none⟩), .pointer (some ⟨b, 0, none⟩), .int .u64 153]]).run Tryz.prog (W.alloc (.cells #[.int .i64 x, .int .i64 y] 77))
      = .ok (.tuple #[]) ((W.alloc (.cells #[.int .i64 x, .int .i64 y] 77)).setCells q 0 [.int .i64 x, .int .i64 y]) := by
  subst hb
  have hlt : q < W.heap.size := by
    rcases Nat.lt_or_ge q W.heap.size with h | h
    · exact h
    · rw [Array.getElem?_eq_none h] at hq; cases hq
  have hq2 : (W.alloc (.cells #[.int .i64 x, .int .i64 y] 77)).heap[q]? = some (.cells #[o0, o1] 77 (0, 0)) := by
    rw [((Below.refl W.heap.size W).alloc (Nat.le_refl _) _).block q hlt]; exact hq
  have hu : ∃ d, Tryz.prog.underlying 77 = some d ∧ (match d with | .struct _ | .array _ _ => true | _ => false) = true := ⟨_, Tryz.underlying77, rfl⟩
  obtain ⟨d, hu, hd⟩ := hu
  have L := run_loadVar_row (P := Tryz.prog) _ _ 77 77 #[.int .i64 x, .int .i64 y] (0, 0) d (alloc_here W _) hu (by cases d <;> first | rfl | exact absurd hd (by simp)) asInfo
  have ht : (W.alloc (.cells #[.int .i64 x, .int .i64 y] 77)).there q 0 2 := by
    intro j hj
    have c0 := cell_of_block hq2 j
    match j, hj with
    | 0, _ => exact ⟨by rw [c0]; rfl, by simp [World.frozen?, hq2]⟩
    | 1, _ => exact ⟨by rw [c0]; rfl, by simp [World.frozen?, hq2]⟩
  have S := run_storeVar_mid (P := Tryz.prog) _ q 0 77 #[.int .i64 x, .int .i64 y] ht asInfo (by simp [Value.oneCell'])
  delta ReflectliteValue.set
  have M : ∀ (v x : Value) (f : Value → Value → Sem Value) (g : Array Value → Sem Value), ReflectliteValue.set.match_3 (motive := fun _ => Sem Value) #[v, x] f g = f v x := fun _ _ _ _ => rfl
  rw [M]
  simp only [Sem.run_bind, asPartsA, asPartsB, Result.andThen]
  simp [ReflectliteValue.flagAddr, L, Result.andThen, asDirect, S]
end Go.Proofs.YtpdahhnjhggocabGreatDoor
namespace Go.Proofs.YtpdahhnjhggocabGreatDoor
open Go.RowKit Go.Extern.Stop Go.Stop Go.Extern
set_option maxHeartbeats 4000000 in
theorem errAs_hit (q : Nat) (x y : Int) (o0 o1 : Value) (w : World) (hg : ErrT w) (hq : w.heap[q]? = some (.cells #[o0, o1] 77 (0, 0))) :
    Calls Tryz.prog 51 #[.iface 77 (.agg #[.int .i64 x, .int .i64 y]), .iface 79 (.pointer (some ⟨q, 0, none⟩))] w fun e w' => e = .returned (.bool true) ∧ w' = ((((w.alloc (.cells #[.pointer (some ⟨q, 0, none⟩)] 79)).alloc (.cells #[.pointer (some ⟨10, 79, none⟩), .pointer (some ⟨w.heap.size, 0, none⟩), .int .u64 150] 167)).alloc (.cells #[.pointer (some ⟨10, 79, none⟩), .pointer (some ⟨w.heap.size, 0, none⟩), .int .u64 150] 167)).alloc (.cells #[.int .i64 x, .int .i64 y] 77)).setCells q 0 [.int .i64 x, .int .i64 y] := by
  have e0 := run_callFunc_extern (P := Tryz.prog) (f := 111) (e := (fun args => ReflectliteValue.unpack (args.getD 0 (.tuple #[])))) Tryz.func111 (by kernel_rfl) (by kernel_rfl) (by kernel_rfl) (by kernel_rfl)
  have e1 := run_callFunc_extern (P := Tryz.prog) (f := 112) (e := (ReflectliteValue.methodAny (ReflectliteValue.valueError "reflectlite.Value.Type" 0) (fun t _ _ _ => ReflectliteType.toType t))) Tryz.func112 (by kernel_rfl) (by kernel_rfl) (by kernel_rfl) (by kernel_rfl)
  have e2 := run_callFunc_extern (P := Tryz.prog) (f := 113) (e := (ReflectliteValue.method (ReflectliteValue.valueError "reflectlite.Value.IsNil" 0) ReflectliteValue.isNil)) Tryz.func113 (by kernel_rfl) (by kernel_rfl) (by kernel_rfl) (by kernel_rfl)
  have e3 := run_callFunc_extern (P := Tryz.prog) (f := 323) (e := (ReflectliteType.abiMethod fun t => do pure (.int .u8 (← Rtype.kind t)))) Tryz.func323 (by kernel_rfl) (by kernel_rfl) (by kernel_rfl) (by kernel_rfl)
  have e4 := run_callFunc_extern (P := Tryz.prog) (f := 335) (e := (ReflectliteType.method ReflectliteType.elem)) Tryz.func335 (by kernel_rfl) (by kernel_rfl) (by kernel_rfl) (by kernel_rfl)
  have e5 := run_callFunc_extern (P := Tryz.prog) (f := 336) (e := (ReflectliteType.relation "Implements" ReflectliteType.implements_)) Tryz.func336 (by kernel_rfl) (by kernel_rfl) (by kernel_rfl) (by kernel_rfl)
  have e6 := run_callFunc_extern (P := Tryz.prog) (f := 177) (e := ReflectliteType.typeOf) Tryz.func177 (by kernel_rfl) (by kernel_rfl) (by kernel_rfl) (by kernel_rfl)
  have e7 := run_callFunc_extern (P := Tryz.prog) (f := 333) (e := (ReflectliteType.relation "AssignableTo" ReflectliteType.assignableTo)) Tryz.func333 (by kernel_rfl) (by kernel_rfl) (by kernel_rfl) (by kernel_rfl)
  have e8 := run_callFunc_extern (P := Tryz.prog) (f := 178) (e := (ReflectliteValue.method (ReflectliteValue.valueError "reflectlite.Value.Elem" 0) ReflectliteValue.elem)) Tryz.func178 (by kernel_rfl) (by kernel_rfl) (by kernel_rfl) (by kernel_rfl)
  have e9 := run_callFunc_extern (P := Tryz.prog) (f := 179) (e := ReflectliteValue.set) Tryz.func179 (by kernel_rfl) (by kernel_rfl) (by kernel_rfl) (by kernel_rfl)
  have g0 := asTypeOf
  have g1 := asMAssign
  have g2 := asAssign
  have g3 := asVal2
  have g4 := asVal
  have g5 := asType
  have g6 := asMKind
  have g7 := asMElem
  have g8 := asMImpl
  have g9 := asKindP
  have g10 := asKindS
  have g11 := asElem
  have g12 := asImpl
  have hql : q < w.heap.size := by
    rcases Nat.lt_or_ge q w.heap.size with h | h
    · exact h
    · rw [Array.getElem?_eq_none h] at hq; cases hq
  unfold ErrT at hg
  have hgl : 0 < w.heap.size := by
    rcases Nat.lt_or_ge 0 w.heap.size with h | h
    · exact h
    · simp [World.cell?, Array.getElem?_eq_none h] at hg
  have b1 := (Below.refl w.heap.size w).alloc (Nat.le_refl _) (.cells #[.pointer (some ⟨q, 0, none⟩)] 79)
  have b2 := b1.alloc (by simp) (.cells #[.pointer (some ⟨10, 79, none⟩), .pointer (some ⟨w.heap.size, 0, none⟩), .int .u64 150] 167)
  have b3 := b2.alloc (by simp; omega) (.cells #[.pointer (some ⟨10, 79, none⟩), .pointer (some ⟨w.heap.size, 0, none⟩), .int .u64 150] 167)
  have n8 := asIsNil ⟨w.heap.size, 0, none⟩ ⟨q, 0, none⟩ ((w.alloc (.cells #[.pointer (some ⟨q, 0, none⟩)] 79)).alloc (.cells #[.pointer (some ⟨10, 79, none⟩), .pointer (some ⟨w.heap.size, 0, none⟩), .int .u64 150] 167)) (by simp)
  have hg2 : ((w.alloc (.cells #[.pointer (some ⟨q, 0, none⟩)] 79)).alloc (.cells #[.pointer (some ⟨10, 79, none⟩), .pointer (some ⟨w.heap.size, 0, none⟩), .int .u64 150] 167)).cell? ⟨0, 0, none⟩ = some (.iface 248 (.agg #[.pointer (some ⟨10, 73, none⟩)])) := by
    rw [World.cell?_of_block (b2.block _ hgl)]; exact hg
  have el := asElemV ⟨w.heap.size, 0, none⟩ ⟨q, 0, none⟩ (((w.alloc (.cells #[.pointer (some ⟨q, 0, none⟩)] 79)).alloc (.cells #[.pointer (some ⟨10, 79, none⟩), .pointer (some ⟨w.heap.size, 0, none⟩), .int .u64 150] 167)).alloc (.cells #[.pointer (some ⟨10, 79, none⟩), .pointer (some ⟨w.heap.size, 0, none⟩), .int .u64 150] 167)) (by rw [World.cell?_alloc_lt _ _ ⟨w.heap.size, 0, none⟩ (by simp; omega)]; simp)
  have st := asSet q (w.heap.size + 1 + 1 + 1) x y o0 o1 (((w.alloc (.cells #[.pointer (some ⟨q, 0, none⟩)] 79)).alloc (.cells #[.pointer (some ⟨10, 79, none⟩), .pointer (some ⟨w.heap.size, 0, none⟩), .int .u64 150] 167)).alloc (.cells #[.pointer (some ⟨10, 79, none⟩), .pointer (some ⟨w.heap.size, 0, none⟩), .int .u64 150] 167)) (by simp) (by rw [b3.block q hql]; exact hq)
  clear b1 b2 b3 hq hg hgl hql
  go_enter Tryz.func51, Tryz.ntmps51
  go_wp2
  refine wp_loop_rounds 1 ?_
  rw [rounds_succ]
  go_wp2
  go_ret
  exact ⟨rfl, rfl⟩
end Go.Proofs.YtpdahhnjhggocabGreatDoor
namespace Go.Proofs.YtpdahhnjhggocabGreatDoor
open Go.RowKit
theorem ErrT.below {B : Nat} {w w' : World} (h : ErrT w) (hb : Below B w w') (hB : w.heap.size ≤ B) : ErrT w' := by
  have hl : 0 < w.heap.size := by
    rcases Nat.lt_or_ge 0 w.heap.size with h' | h'
    · exact h'
    · unfold ErrT at h; simp [World.cell?, Array.getElem?_eq_none h'] at h
  unfold ErrT at h ⊢
  rw [World.cell?_of_block (hb.block _ (Nat.lt_of_lt_of_le hl hB))]; exact h
theorem set_two {W : World} {q : Nat} {o0 o1 x y : Value} {t : TypeId} (h : W.heap[q]? = some (.cells #[o0, o1] t (0, 0))) : (W.setCells q 0 [x, y]).heap[q]? = some (.cells #[x, y] t (0, 0)) ∧ W.grownBy (W.setCells q 0 [x, y]) (some q) := by
  have e1 := setCell_eq_setRow W q 0 #[o0, o1] t (0, 0) x h
  have h1 := setRow_heap W q #[o0, o1] (#[o0, o1].setIfInBounds 0 x) t _ h
  have e2 := setCell_eq_setRow (W.setRow q (#[o0, o1].setIfInBounds 0 x)) q 1 _ t (0, 0) y h1
  have h2 := setRow_heap (W.setRow q (#[o0, o1].setIfInBounds 0 x)) q _ ((#[o0, o1].setIfInBounds 0 x).setIfInBounds 1 y) t _ h1
  have e3 : W.setCells q 0 [x, y] = (W.setRow q (#[o0, o1].setIfInBounds 0 x)).setRow q ((#[o0, o1].setIfInBounds 0 x).setIfInBounds 1 y) := by
    show (W.setCell ⟨q, 0, none⟩ x).setCell ⟨q, 1, none⟩ y = _
    rw [e1, e2]
  rw [e3]
  exact ⟨by rw [h2]; rfl, ⟨rfl, rfl, rfl, by simp, fun k _ hk => by rw [setRow_other _ q k _ (fun e => hk (by rw [e])), setRow_other _ q k _ (fun e => hk (by rw [e]))]⟩⟩
def HitPost (q : Nat) (x y : Int) (w : World) (e : Ending) (w' : World) : Prop := e = .returned (.bool true) ∧ w'.heap[q]? = some (.cells #[.int .i64 x, .int .i64 y] 77 (0, 0)) ∧ w.grownBy w' (some q)
theorem errAs_fault (q : Nat) (x y : Int) (o0 o1 : Value) (w : World) (hg : ErrT w) (hq : w.heap[q]? = some (.cells #[o0, o1] 77 (0, 0))) : Calls Tryz.prog 51 #[.iface 77 (.agg #[.int .i64 x, .int .i64 y]), .iface 79 (.pointer (some ⟨q, 0, none⟩))] w fun e w' => HitPost q x y w e w' := by
  have hql : q < w.heap.size := by
    rcases Nat.lt_or_ge q w.heap.size with h | h
    · exact h
    · rw [Array.getElem?_eq_none h] at hq; cases hq
  refine (errAs_hit q x y o0 o1 w hg hq).mono ?_
  rintro e w' ⟨rfl, rfl⟩
  have b4 : ∀ (X Y Z T : Obj), Below w.heap.size w ((((w.alloc X).alloc Y).alloc Z).alloc T) := fun X Y Z T => ((((Below.refl w.heap.size w).alloc (Nat.le_refl _) X).alloc (by simp) Y).alloc (by simp; omega) Z).alloc (by simp; omega) T
  have h4 := fun X Y Z T => (b4 X Y Z T).block q hql
  obtain ⟨r1, r2⟩ := set_two (x := .int .i64 x) (y := .int .i64 y) ((h4 _ _ _ _).trans hq)
  refine ⟨rfl, r1, ⟨r2.os.trans (b4 _ _ _ _).os, r2.tape.trans (b4 _ _ _ _).tape, r2.output.trans (b4 _ _ _ _).output, Nat.le_trans (b4 _ _ _ _).size r2.size, fun k hk hn => (r2.block k (Nat.lt_of_lt_of_le hk (b4 _ _ _ _).size) hn).trans ((b4 _ _ _ _).block k hk)⟩⟩
def BadPost (m : Nat) (c : Int) (w : World) (e : Ending) (w' : World) : Prop := e = .returned (.tuple #[.agg #[.slice none 0 0], .agg #[.int .i64 (m : Int), .int .i64 c]]) ∧ Below w.heap.size w w'
set_option maxHeartbeats 4000000 in
set_option maxRecDepth 100000 in
theorem implParse_bad (s : ByteArray) {w : World} {m : Nat} {c : Int} (hs : s.size ≤ 1048576) (hst : StdAt w) (het : ErrT w) (hP : parseT s.data.toList = .bad m c) : Calls Tryz.prog 13 #[.string s] w fun e w' => BadPost m c w e w' := by
  have b0 : Below w.heap.size w ((w.alloc (.cells #[.slice none 0 0] 24)).alloc (.cells #[.int .i64 0, .int .i64 0] 26)) := ((Below.refl w.heap.size w).alloc (Nat.le_refl _) _).alloc (by simp) _
  have s1 : ((w.alloc (.cells #[.slice none 0 0] 24)).alloc (.cells #[.int .i64 0, .int .i64 0] 26)).heap.size = w.heap.size + 2 := by simp
  have z0 : ((w.alloc (.cells #[.slice none 0 0] 24)).alloc (.cells #[.int .i64 0, .int .i64 0] 26)).heap[w.heap.size]? = some (.cells #[.slice none 0 0] 24 (0, 0)) := by
    have b1 := (Below.refl (w.alloc (.cells #[.slice none 0 0] 24)).heap.size (w.alloc (.cells #[.slice none 0 0] 24))).alloc (Nat.le_refl _) (.cells #[.int .i64 0, .int .i64 0] 26)
    rw [b1.block w.heap.size (by simp)]; exact alloc_here w _
  have z1 : ((w.alloc (.cells #[.slice none 0 0] 24)).alloc (.cells #[.int .i64 0, .int .i64 0] 26)).heap[w.heap.size + 1]? = some (.cells #[.int .i64 0, .int .i64 0] 26 (0, 0)) := by
    have := alloc_here (w.alloc (.cells #[.slice none 0 0] 24)) (.cells #[.int .i64 0, .int .i64 0] 26)
    rw [World.size_alloc] at this; exact this
  have HR := readText_any s hs (hst.below b0)
  have het1 := het.below b0 (Nat.le_refl _)
  rw [hP] at HR
  clear hst hP het
  generalize hw1 : (w.alloc (.cells #[.slice none 0 0] 24)).alloc (.cells #[.int .i64 0, .int .i64 0] 26) = w1 at *
  go_enter Tryz.func13, Tryz.ntmps13
  go_wp2_with (go_at_call 50; (try rw [hw1]); refine HR.mono ?_)
  rintro e w2 ⟨b2, rfl⟩
  have bx := (Below.refl w2.heap.size w2).alloc (Nat.le_refl _) (.cells #[.int .i64 0, .int .i64 0] 77)
  have b3 := b2.trans (bx.mono b2.size)
  have het3 := het1.below b3 (Nat.le_refl _)
  have HA := errAs_fault w2.heap.size (m : Int) c (.int .i64 0) (.int .i64 0) (w2.alloc (.cells #[.int .i64 0, .int .i64 0] 77)) het3 (alloc_here w2 _)
  have HB3 := hid_in b3
  have HB0 := hid_in b0
  have hz2 := b2.size
  clear HR b0 b2 bx b3 hw1 het1 het3
  unfold flt
  go_wp2_with (go_at_call 51; refine HA.mono ?_)
  rintro e w4 ⟨rfl, hq4, hg4⟩
  have hB4 : Below w1.heap.size w1 w4 := below_own HB3.out HB3.out.size hg4 (fun q hq => by cases hq; exact hz2)
  have y0 := (hB4.block w.heap.size (by omega)).trans z0
  have y1 := (hB4.block (w.heap.size + 1) (by omega)).trans z1
  have r0 := cell_of_block y0 0
  have r1 := cell_of_block y1 0
  have r2 := cell_of_block y1 1
  have f0 := frozen_of_block y0 0
  have f1 := frozen_of_block y1 0
  have f2 := frozen_of_block y1 1
  have t0 := cell_of_block hq4 0
  have t1 := cell_of_block hq4 1
  simp only [List.getElem?_toArray, List.getElem?_cons_zero, List.getElem?_cons_succ] at r0 r1 r2 t0 t1
  have hb9 := HB0.out.trans (hB4.mono (by omega))
  have HO := hid_in (show BadPost m c w (.returned (.tuple #[.agg #[.slice none 0 0], .agg #[.int .i64 (m : Int), .int .i64 c]])) (((w4.setCell ⟨w.heap.size, 0, none⟩ (.slice none 0 0)).setCell ⟨w.heap.size + 1, 0, none⟩ (.int .i64 (m : Int))).setCell ⟨w.heap.size + 1, 1, none⟩ (.int .i64 c)).drew from ⟨rfl, Below.drew (below_setCell (below_setCell (below_setCell hb9 ⟨w.heap.size, 0, none⟩ (Nat.le_refl _) _) ⟨w.heap.size + 1, 0, none⟩ (by simp only; omega) _) ⟨w.heap.size + 1, 1, none⟩ (by simp only; omega) _)⟩)
  clear y0 y1 z0 z1 HA hq4 hg4 HB3 HB0 hb9 hB4
  go_upto_region 4 with fail
  go_region
  all_goals (try go_wp2)
  all_goals exact bodyPost_ret (v := .tuple #[.agg #[.slice none 0 0], .agg #[.int .i64 (m : Int), .int .i64 c]]) (by simp [results, Tryz.results13, go_sem, r0, r1, r2]) rfl HO.out
end Go.Proofs.YtpdahhnjhggocabGreatDoor
namespace Go.Proofs.YtpdahhnjhggocabGreatDoor
open Go.RowKit
def resP : PRes → List PBlock
  | .good bs => normBs bs
  | .bad _ _ => []
def resM : PRes → Int
  | .good _ => 0
  | .bad m _ => (m : Int)
def resC : PRes → Int
  | .good _ => 0
  | .bad _ c => c
def PxI (P : List PBlock) (m c : Int) (w : World) (e : Ending) (w' : World) : Prop := ∃ (a : Option Addr) (n cap : Nat) (vs : List VB) (bs : List BAt), e = .returned (.tuple #[.agg #[.slice a n cap], .agg #[.int .i64 m, .int .i64 c]]) ∧ (bs.map BAt.plain = P ∧ BlocksIn w' (.slice a n cap) bs ∧ BlocksSmall bs ∧ GOwn w.heap.size w' (.slice a n cap) vs ∧ GSm vs) ∧ Below w.heap.size w w'
def PxS (P : List PBlock) (m c : Int) (w : World) (e : Ending) (w' : World) : Prop := ∃ (a : Option Addr) (n cap : Nat) (bs : List BAt), e = .returned (.tuple #[.agg #[.slice a n cap], .agg #[.int .i64 m, .int .i64 c]]) ∧ (bs.map BAt.plain = P ∧ BlocksIn w' (.slice a n cap) bs) ∧ Below w.heap.size w w'
theorem nil_in (w : World) : BlocksIn w (.slice none 0 0) [] := ⟨own_has (World.ownsRow_nil _ 0 64 3), fun b hb => by cases hb⟩
theorem implParse_p (s : ByteArray) {w : World} (hs : s.size ≤ 1048576) (hst : StdAt w) (het : ErrT w) : Calls Tryz.prog 13 #[.string s] w fun e w' => PxI (resP (parseT s.data.toList)) (resM (parseT s.data.toList)) (resC (parseT s.data.toList)) w e w' := by
  cases hP : parseT s.data.toList with
  | good bs =>
    refine (implParse_good s hs hst hP).mono ?_
    rintro e w' ⟨a, n, c, gs, rfl, hp, hm, hsm, hl, b⟩
    exact ⟨a, n, c, gs.map GAt.vb, gs.map GAt.b, rfl, ⟨hp, grows_in hm, gat_small (by omega) hsm, by unfold GOwn; rw [← grows_v]; exact hm, gat_vsm (by omega) hsm⟩, b⟩
  | bad m c =>
    refine (implParse_bad s hs hst het hP).mono ?_
    rintro e w' ⟨rfl, b⟩
    exact ⟨none, 0, 0, [], [], rfl, ⟨rfl, nil_in _, ⟨by simp, fun b hb => by cases hb⟩, ⟨fun r hr => by rw [List.mem_singleton.1 hr]; exact World.ownsRow_nil _ _ 64 3, by simp [gvrows]⟩, ⟨by simp, fun b hb => by cases hb⟩⟩, b⟩
theorem specParse_p (s : ByteArray) (w : World) (hs : s.size ≤ 1048576) : Calls Tryz.prog 12 #[.string s] w fun e w' => PxS (resP (parseT s.data.toList)) (resM (parseT s.data.toList)) (resC (parseT s.data.toList)) w e w' := by
  refine (specParse_any s w hs).mono ?_
  rintro e w' ⟨b, h⟩
  cases hP : parseT s.data.toList with
  | good bs =>
    rw [hP] at h
    obtain ⟨v', bs', rfl, hp, ho⟩ := h
    obtain ⟨a, c, rfl, _⟩ := own_form ho.row
    exact ⟨a, _, c, bs', rfl, ⟨hp, ho.bin⟩, b⟩
  | bad m c =>
    rw [hP] at h
    exact ⟨none, 0, 0, [], h, ⟨rfl, nil_in _⟩, b⟩
set_option maxHeartbeats 1000000 in
set_option maxRecDepth 100000 in
theorem eqFault_p (m c : Int) (w : World) : Calls Tryz.prog 15 #[.agg #[.int .i64 m, .int .i64 c], .agg #[.int .i64 m, .int .i64 c]] w fun e w' => BoolPost true w e w' := by
  have hm : (m != m) = false := by simp
  have hc : (c != c) = false := by simp
  go_enter Tryz.func15, Tryz.ntmps15
  go_wp2
  go_ret
  exact ⟨rfl, ((Below.refl w.heap.size w).alloc (Nat.le_refl _) _).alloc (by simp) _⟩
theorem boxesPx (w : World) (x : Value) (m c : Int) : Below w.heap.size w ((w.alloc (.cells #[x] 24)).alloc (.cells #[.int .i64 m, .int .i64 c] 26)) ∧ ((w.alloc (.cells #[x] 24)).alloc (.cells #[.int .i64 m, .int .i64 c] 26)).cell? ⟨w.heap.size, 0, none⟩ = some x ∧ ((w.alloc (.cells #[x] 24)).alloc (.cells #[.int .i64 m, .int .i64 c] 26)).cell? ⟨w.heap.size + 1, 0, none⟩ = some (.int .i64 m) ∧ ((w.alloc (.cells #[x] 24)).alloc (.cells #[.int .i64 m, .int .i64 c] 26)).cell? ⟨w.heap.size + 1, 1, none⟩ = some (.int .i64 c) := by
  have b0 := (Below.refl w.heap.size w).alloc (Nat.le_refl _) (.cells #[x] 24)
  have b1 := (Below.refl (w.alloc (.cells #[x] 24)).heap.size (w.alloc (.cells #[x] 24))).alloc (Nat.le_refl _) (.cells #[.int .i64 m, .int .i64 c] 26)
  have z0 := alloc_here w (.cells #[x] 24)
  have z1 := alloc_here (w.alloc (.cells #[x] 24)) (.cells #[.int .i64 m, .int .i64 c] 26)
  have y0 := cell_of_block ((b1.block w.heap.size (by simp)).trans z0) 0
  have y1 := cell_of_block z1 0
  have y2 := cell_of_block z1 1
  simp only [List.getElem?_toArray, List.getElem?_cons_zero, List.getElem?_cons_succ, World.size_alloc] at y0 y1 y2
  exact ⟨b0.trans (b1.mono b0.size), y0, y1, y2⟩
theorem boxed_gm {B : Nat} {w W : World} {v : Value} {vs : List VB} {o : Obj} (h : GOwn B w v vs) (hB : B ≤ w.heap.size) (e : W = (w.alloc (.cells #[v] 24)).alloc o) : GM B W v vs [⟨.slice (some ⟨w.heap.size, 0, none⟩) 1 1, 24, 1, 1, [v]⟩] := by
  subst e
  have x1 := (Below.refl w.heap.size w).alloc (Nat.le_refl _) (.cells #[v] 24)
  have x2 := (Below.refl (w.alloc (.cells #[v] 24)).heap.size (w.alloc (.cells #[v] 24))).alloc (Nat.le_refl _) o
  have J := Mem.cons (r := ⟨.slice (some ⟨w.heap.size, 0, none⟩) 1 1, 24, 1, 1, [v]⟩) h (box_row w v 24) x1 hB
  refine (Mem.below J x2).perm ?_
  rw [← List.singleton_append]; exact List.perm_append_comm
def MarkG (B : Nat) (v : Value) (L : List VB) (rest : List MRow) (w : World) (e : Ending) (w' : World) : Prop := e = .returned (.int .i64 (endG 1 L : Int)) ∧ GM B w' v (markGs 1 L) rest ∧ Below B w w'
theorem markSheetV_p {B : Nat} {v : Value} {L : List VB} {rest : List MRow} {w : World} (hB : B ≤ w.heap.size) (h : GM B w v L rest) (hs : GSm L) : Calls Tryz.prog 16 #[.agg #[v], .int .i64 1] w fun e w' => MarkG B v L rest w e w' :=
  markSheetV_own (k := 1) hB h hs.1 (fun x hx => (hs.2 x hx).2.1) (Nat.le_refl _) (Nat.le_trans (endG_fits hs) (by decide))
theorem heldSheetV_p {B : Nat} {v : Value} {L : List VB} {w : World} (h : GOwn B w v (markGs 1 L)) (hs : GSm L) : Calls Tryz.prog 17 #[.agg #[v], .int .i64 1] w fun e w' => IntPost (endG 1 L) w e w' :=
  heldSheetV_own (k := 1) h hs.1 (fun x hx => (hs.2 x hx).2.1) (Nat.le_refl _) (Nat.le_trans (endG_fits hs) (by decide))
set_option maxHeartbeats 4000000 in
set_option maxRecDepth 100000 in
theorem parseLaw_any (s : ByteArray) (w : World) (hst : StdAt w) (het : ErrT w) : Calls Tryz.prog 3 #[.string s] w fun e w' => e = .returned (.bool true) ∧ Below w.heap.size w w' := by
  by_cases hs : s.size ≤ 1048576
  · have hs' : ¬ (1048576 : Int) < (s.size : Int) := by omega
    have HI := fun W => implParse_p s (w := W) hs
    have HS0 := specParse_p s w hs
    generalize resP (parseT s.data.toList) = P at HI HS0
    generalize resM (parseT s.data.toList) = m at HI HS0
    generalize resC (parseT s.data.toList) = c at HI HS0
    have HIH := hid_in HI
    have HST := hid_in hst
    have HET := hid_in het
    clear HI hst het
    go_enter Tryz.func3, Tryz.ntmps3
    go_wp2_with (go_at_call 12; refine HS0.mono ?_)
    rintro e w1 ⟨a0, n0, c0, bs0, rfl, ⟨hp0, hin0⟩, b1⟩
    obtain ⟨x1, k0, k1, k2⟩ := boxesPx w1 (.slice a0 n0 c0) m c
    have g1 := b1.trans (x1.mono b1.size)
    generalize hW1 : (w1.alloc (.cells #[.slice a0 n0 c0] 24)).alloc (.cells #[.int .i64 m, .int .i64 c] 26) = W1 at *
    have lW1 := World.block_lt_of_cell? W1 _ k1
    have lW0 := World.block_lt_of_cell? W1 _ k0
    simp only at lW1 lW0
    have HN0 := hid_in (show ∀ W, Below W1.heap.size W1 W → BlocksIn W (.slice a0 n0 c0) bs0 from fun W hW => (hin0.below x1).below hW)
    have HP0 := hid_in hp0
    have G1 := hid_in g1
    have HI1 := HIH.out W1 (HST.out.below g1) (HET.out.below g1 (Nat.le_refl _))
    clear HS0 hp0 hin0 b1 x1 g1
    go_wp2_with (go_at_call 13; (try rw [hW1]); refine HI1.mono ?_)
    rintro e w2 ⟨a2, n2, c2, vs, bs2, rfl, ⟨hp2, hin2, hs2, hgo, hgs⟩, b2⟩
    obtain ⟨x2, q0, q1, q2⟩ := boxesPx w2 (.slice a2 n2 c2) m c
    have B2 := b2.trans (x2.mono b2.size)
    have GM2 := boxed_gm (o := .cells #[.int .i64 m, .int .i64 c] 26) hgo b2.size rfl
    have k0a := (B2.cell lW0).trans k0
    have k1a := (B2.cell lW1).trans k1
    have k2a := (B2.cell lW1).trans k2
    have HE := eqSheet_p (hin2.below x2) (HN0.out _ B2) (hp2.trans HP0.out.symm) ⟨hs2.1, fun x hx => (hs2.2 x hx).2⟩
    have GM2H := hid_in GM2
    have GSH := hid_in hgs
    clear HI1 hin2 hp2 hs2 hgo hgs b2 x2 k0 k1 k2 GM2 hW1
    generalize hW2 : (w2.alloc (.cells #[.slice a2 n2 c2] 24)).alloc (.cells #[.int .i64 m, .int .i64 c] 26) = W2 at *
    have lq0 := World.block_lt_of_cell? W2 _ q0
    have lq1 := World.block_lt_of_cell? W2 _ q1
    go_wp2_with (go_at_call 14; (try rw [hW2]); refine HE.mono ?_)
    rintro e w3 ⟨rfl, b3⟩
    have q1a := (b3.cell lq1).trans q1
    have q2a := (b3.cell lq1).trans q2
    have q0a := (b3.cell lq0).trans q0
    have B3 := B2.trans (b3.mono B2.size)
    have k0b := (b3.cell (World.block_lt_of_cell? W2 _ k0a)).trans k0a
    have k1b := (b3.cell (World.block_lt_of_cell? W2 _ k1a)).trans k1a
    have k2b := (b3.cell (World.block_lt_of_cell? W2 _ k2a)).trans k2a
    have HF := eqFault_p m c w3
    have GM3H := hid_in (GM2H.out.below b3)
    clear HE b3 q0 q1 q2 k0a k1a k2a B2 GM2H hW2 lq0 lq1
    go_wp2_with (go_at_call 15; refine HF.mono ?_)
    rintro e w4 ⟨rfl, b4⟩
    have B4 := B3.trans (b4.mono B3.size)
    have q0b := (b4.cell (World.block_lt_of_cell? w3 _ q0a)).trans q0a
    have k0c := (b4.cell (World.block_lt_of_cell? w3 _ k0b)).trans k0b
    have k1c := (b4.cell (World.block_lt_of_cell? w3 _ k1b)).trans k1b
    have k2c := (b4.cell (World.block_lt_of_cell? w3 _ k2b)).trans k2b
    have HM := markSheetV_p B4.size (GM3H.out.below b4) GSH.out
    clear HF b4 q0a q1a q2a k0b k1b k2b B3 GM3H
    go_wp2_with (go_at_call 16; refine HM.mono ?_)
    rintro e w5 ⟨rfl, gm5, b5⟩
    have B5 := B4.trans b5
    have q0c := row_box (Mem.head (Mem.right gm5))
    have k0d := (b5.cell lW0).trans k0c
    have k1d := (b5.cell lW1).trans k1c
    have k2d := (b5.cell lW1).trans k2c
    have HH := heldSheetV_p gm5.own GSH.out
    have O5 := hid_in gm5.own
    have he1 : ¬ ((endG 1 vs : Int) < 0) := by omega
    have he2 : ((endG 1 vs : Int) != (endG 1 vs : Int)) = false := by simp
    clear HM gm5 b5 B4 q0b k0c k1c k2c
    go_wp2_with (go_at_call 17; refine HH.mono ?_)
    rintro e w6 ⟨rfl, b6⟩
    have B6 := B5.trans (b6.mono B5.size)
    have q0d := (b6.cell (World.block_lt_of_cell? w5 _ q0c)).trans q0c
    have k0e := (b6.cell (World.block_lt_of_cell? w5 _ k0d)).trans k0d
    have k1e := (b6.cell (World.block_lt_of_cell? w5 _ k1d)).trans k1d
    have k2e := (b6.cell (World.block_lt_of_cell? w5 _ k2d)).trans k2d
    have O6 := hid_in (O5.out.below b6)
    have g6 := G1.out.trans (B6.mono G1.out.size)
    have HI6 := HIH.out w6 (HST.out.below g6) (HET.out.below g6 (Nat.le_refl _))
    clear HH b6 B5 q0c k0d k1d k2d O5 g6
    go_wp2_with (go_at_call 13; refine HI6.mono ?_)
    rintro e w7 ⟨a7, n7, c7, vs7, bs7, rfl, ⟨hp7, hin7, hs7, _, _⟩, b7⟩
    obtain ⟨x7, h0, h1, h2⟩ := boxesPx w7 (.slice a7 n7 c7) m c
    have X7 := b7.trans (x7.mono b7.size)
    have B7 := B6.trans (X7.mono B6.size)
    have q0e := (X7.cell (World.block_lt_of_cell? w6 _ q0d)).trans q0d
    have k0f := (X7.cell (World.block_lt_of_cell? w6 _ k0e)).trans k0e
    have k1f := (X7.cell (World.block_lt_of_cell? w6 _ k1e)).trans k1e
    have k2f := (X7.cell (World.block_lt_of_cell? w6 _ k2e)).trans k2e
    have O7 := hid_in (O6.out.below X7)
    have HE := eqSheet_p (hin7.below x7) (HN0.out _ B7) (hp7.trans HP0.out.symm) ⟨hs7.1, fun x hx => (hs7.2 x hx).2⟩
    clear HI6 hin7 hp7 hs7 b7 x7 X7 B6 q0d k0e k1e k2e O6
    generalize hW7 : (w7.alloc (.cells #[.slice a7 n7 c7] 24)).alloc (.cells #[.int .i64 m, .int .i64 c] 26) = W7 at *
    go_wp2_with (go_at_call 14; (try rw [hW7]); refine HE.mono ?_)
    rintro e w8 ⟨rfl, b8⟩
    have B8 := B7.trans (b8.mono B7.size)
    have q0f := (b8.cell (World.block_lt_of_cell? W7 _ q0e)).trans q0e
    have k1g := (b8.cell (World.block_lt_of_cell? W7 _ k1f)).trans k1f
    have k2g := (b8.cell (World.block_lt_of_cell? W7 _ k2f)).trans k2f
    have h1a := (b8.cell (World.block_lt_of_cell? W7 _ h1)).trans h1
    have h2a := (b8.cell (World.block_lt_of_cell? W7 _ h2)).trans h2
    have O8 := hid_in (O7.out.below b8)
    have HF := eqFault_p m c w8
    clear HE b8 B7 q0e k0f k1f k2f h0 h1 h2 O7 hW7
    go_wp2_with (go_at_call 15; refine HF.mono ?_)
    rintro e w9 ⟨rfl, b9⟩
    have B9 := B8.trans (b9.mono B8.size)
    have q0g := (b9.cell (World.block_lt_of_cell? w8 _ q0f)).trans q0f
    have HH := heldSheetV_p (O8.out.below b9) GSH.out
    clear HF b9 B8 q0f k1g k2g h1a h2a O8
    go_wp2_with (go_at_call 17; refine HH.mono ?_)
    rintro e w10 ⟨rfl, b10⟩
    have B10 := B9.trans (b10.mono B9.size)
    have HO := hid_in (G1.out.trans (B10.mono G1.out.size))
    clear HH b10 B9 q0g B10
    go_wp2
    go_ret
    exact ⟨rfl, HO.out⟩
  · have hs' : (1048576 : Int) < (s.size : Int) := by omega
    clear hst het
    go_enter Tryz.func3, Tryz.ntmps3
    go_wp2
    go_ret
    exact ⟨rfl, Below.refl _ _⟩
end Go.Proofs.YtpdahhnjhggocabGreatDoor
