import Derived.Test.YtpdahhnjhggocabGreatDoorBun48
import Derived.Test.YtpdahhnjhggocabGreatDoorBun44
import Derived.Test.YtpdahhnjhggocabGreatDoorBun42
import Derived.Test.YtpdahhnjhggocabGreatDoorBun38
import Derived.Test.YtpdahhnjhggocabGreatDoorBun33
import Derived.RangeFuncNested
import Derived.RangeFuncBound
import Derived.RangeFuncCalls
import Derived.RangeFuncLeaves
import Derived.Shelf.Abstract
import Derived.WalkKit
import Derived.OwnWalkIn
import Derived.TacticsInMore
import Derived.LoopNIn
import Derived.LoopIn
namespace Go.Proofs.YtpdahhnjhggocabGreatDoor
open Go.RowKit Go.Shelf
attribute [local go_sem] Oper.semAt_some
def KpB (b : Nat) (W W' : World) : Prop := W.heap.size ≤ W'.heap.size ∧ ∀ k cs T fz, W.heap[k]? = some (.cells cs T fz) → T ≠ 5 → k ≠ b → W'.heap[k]? = some (.cells cs T fz)
theorem KpB.refl (b : Nat) (W : World) : KpB b W W := ⟨Nat.le_refl _, fun _ _ _ _ h _ _ => h⟩
theorem KpB.trans {b : Nat} {A B C : World} (h : KpB b A B) (k : KpB b B C) : KpB b A C := ⟨Nat.le_trans h.1 k.1, fun i cs T fz hi hT hb => k.2 i cs T fz (h.2 i cs T fz hi hT hb) hT hb⟩
theorem KpB.put {b : Nat} (W : World) (l : Nat) (o o' : Obj) (h : W.heap[l]? = some o) (hc : o.isCells = false) : KpB b W (W.putObj l o') := by
 have hg := grownBy_putObj' W l o'
 refine ⟨hg.size, fun k cs T fz hk _ _ => ?_⟩
 have hne : some k ≠ some l := by
  intro e
  cases e
  rw [h] at hk
  cases hk
  cases hc
 exact (hg.block k (Array.getElem?_eq_some_iff.1 hk).1 hne).trans hk
theorem KpB.of_others {b : Nat} {W W' : World} (hs : W.heap.size ≤ W'.heap.size) (h : Lib.OthersKept 5 (some b) W W') : KpB b W W' := ⟨hs, fun k cs T fz hk hT hb => h k _ hk (fun e => hb (Option.some.inj e)) (fun c fz' e => by cases e; exact hT rfl)⟩
theorem own_kp {b B : Nat} {W W' : World} {e : TypeId} {size : Nat} {v : Value} {n : Nat} {xs : List Value} (h : W.ownsRow B e size v n xs) (hk : KpB b W W') (hT : e ≠ 5) (hb : b < B) : W'.ownsRow B e size v n xs := by
 refine ⟨h.1, h.2.imp id ?_⟩
 rintro ⟨g, cap, cur, h1, h2, h3, h4⟩
 exact ⟨g, cap, cur, h1, h2, hk.2 g _ _ _ h3 hT (by omega), h4⟩
theorem mem_kp {b B : Nat} {W W' : World} {L : List MRow} (h : Mem B W L) (hk : KpB b W W') (hT : ∀ r ∈ L, r.e ≠ 5) (hb : b < B) : Mem B W' L := ⟨fun r hr => own_kp (h.1 r hr) hk (hT r hr) hb, h.2⟩
theorem crows_types {v : Value} {cs : List CAt} {r : MRow} (h : r ∈ crows v cs) : r.e ≠ 5 := by
 rcases List.mem_cons.1 h with rfl | h
 ·exact (by decide : (131 : TypeId) ≠ 5)
 ·obtain ⟨c, _, h⟩ := List.mem_flatMap.1 h
  rcases List.mem_cons.1 h with rfl | h
  ·exact (by decide : (82 : TypeId) ≠ 5)
  ·obtain ⟨x, _, rfl⟩ := List.mem_map.1 h
   exact (by decide : (9 : TypeId) ≠ 5)
theorem wide_go {n : Nat} {P : Program} {f : FuncId} {args : Array Value} {w : World} {R R' : Ending → World → Prop} (h : Calls P f args w R) (hr : ∀ e w', R e w' → R' e w') : Fence.wide.fn f ∧ (Fence.wide.depth.isSome = true → 1 ≤ n) ∧ CallsIn Fence.wide (n - 1) P f args w R' := ⟨trivial, fun h => by simp [Fence.wide] at h, (callsIn_wide.2 h).mono hr⟩
abbrev Ln := { x : ByteArray // x.size ≤ 300000 }
abbrev Ln.encs (x : Ln) : Array Value := #[.string x.1]
abbrev Ln.txt (x : Ln) : List UInt8 := x.1.data.toList
theorem grow_of {W W' : World} (h : Below W.heap.size W W') : W.grownBy W' none := ⟨h.os, h.tape, h.output, h.size, fun k hk _ => h.block k hk⟩
theorem report_bad {a b : List UInt8} {m k : Nat} (h : parseT a = .bad m (k : Int)) : reportLs a b = [faultL oldT m (k : Int)] := by
 unfold reportLs
 rw [h]
theorem faultL_le {name : List UInt8} {m k : Nat} (hn : name.length ≤ 3) (hm : m ≤ 401) (hk : k < 12) : (faultL name m (k : Int)).length ≤ 300000 := by
 unfold faultL
 have h1 := faultT_le k hk
 have h2 := dec_seven m hm
 simp only [List.length_append, List.length_cons, List.length_nil]
 split
 ·simp; omega
 ·simp only [List.length_cons]; omega
set_option maxRecDepth 100000 in
set_option maxHeartbeats 8000000 in
theorem rep_bad (n : Nat) (l Ba Bb b : Nat) (a t : ByteArray) (ha : a.size ≤ 4000000) {m k : Nat} (hP : parseT a.data.toList = .bad m (k : Int)) (J Jx : List Ln → World → Prop)
  (hY : ∀ pre x W, J pre W → pre.length < 780 → YieldAt Fence.wide (n - 1) Tryz.prog l (Ln.encs x) W fun e W' => (e = .returned (.bool true) ∧ J (pre ++ [x]) W' ∧ KpB b W W') ∨ (e = .returned (.bool false) ∧ Jx (pre ++ [x]) W'))
  (W : World) (hJ : AbidesFrom W.heap.size J) (hca : W.cell? ⟨Ba, 0, none⟩ = some (.string a)) (hst : StdAt W) (het : ErrT W) (hft : FaultAt W) (h0 : J [] W) :
  CallsIn Fence.wide n Tryz.prog 167 #[.func (.yield l) #[] #[], .pointer (some ⟨Ba, 0, none⟩), .pointer (some ⟨Bb, 0, none⟩)] W fun e W' => (∃ v, e = .returned v) ∧
   ((∃ xs : List Ln, xs.map Ln.txt = reportLs a.data.toList t.data.toList ∧ J xs W') ∨ (∃ pre, True ∧ Jx pre W')) := by
 obtain ⟨hm, hc1, hc2⟩ := parseT_bad hP
 rw [report_bad hP]
 have HS := implParse_bad a (w := W) ha hst het hP
 have hk0 : ((k : Int) != 0) = true := by simp; omega
 clear hP
 refine callsIn_of_wp Tryz.func167 rfl trivial ?_ rfl
 simp only [Tryz.ntmps167, List.size_toArray, List.length_cons, List.length_nil, Nat.reduceAdd, Nat.reduceSub, Array.replicate_succ, Array.replicate_zero, List.push_toArray, List.append_toArray, List.nil_append, List.cons_append]
 gi_wp2
 refine wide_go HS ?_
 first | rintro e w1 rfl b1 | rintro e w1 ⟨rfl, b1⟩
 obtain ⟨x1, _, k1, k2⟩ := boxesR w1 (.slice none 0 0) (m : Int) (k : Int)
 have B1 := b1.trans (x1.mono b1.size)
 have HF := tellFault_any ⟨#[111, 108, 100]⟩ m k (w := (w1.alloc (.cells #[.slice none 0 0] 24)).alloc (.cells #[.int .i64 (m : Int), .int .i64 (k : Int)] 26)) (by decide) hm (by omega) (by omega) (hst.below B1) (hft.below B1)
 clear HS x1 b1
 generalize hW1 : (w1.alloc (.cells #[.slice none 0 0] 24)).alloc (.cells #[.int .i64 (m : Int), .int .i64 (k : Int)] 26) = W1 at *
 gi_wp2
 refine wide_go HF ?_
 rintro e w2 ⟨x, rfl, hx, b2⟩
 have B2 := B1.trans (b2.mono B1.size)
 have hxl : x.size ≤ 300000 := by
  rw [← size_toList, hx]
  exact faultL_le (by decide) hm (by omega)
 obtain ⟨fn, tmps, assign, body, hy, hR⟩ := hY [] ⟨x, hxl⟩ w2 (hJ [] W w2 none h0 (grow_of B2) (fun r e => by cases e)) (by decide)
 dsimp only [Ln.encs] at hy
 clear hW1 HF hY
 gi_wp2
 refine ⟨fun h => by simp [Fence.wide] at h, hR.mono ?_⟩
 rintro e W3 (⟨rfl, hJ4, _⟩ | ⟨rfl, hJx3⟩)
 ·gi_wp2
  refine bodyPost_ret (results_none rfl _ _ _) rfl ?_
  exact ⟨⟨_, rfl⟩, .inl ⟨[⟨x, hxl⟩], by rw [List.map_singleton]; exact congrArg (fun z => [z]) hx, hJ4⟩⟩
 ·gi_wp2
  refine bodyPost_ret (results_none rfl _ _ _) rfl ?_
  exact ⟨⟨_, rfl⟩, .inr ⟨_, trivial, hJx3⟩⟩
theorem report_bad2 {a b : List UInt8} {x : List PBlock} {m k : Nat} (h0 : parseT a = .good x) (h : parseT b = .bad m (k : Int)) : reportLs a b = [faultL newT m (k : Int)] := by
 unfold reportLs
 rw [h0, h]
theorem iParse_good (s : ByteArray) {w : World} {bs : List PBlock} (hs : s.size ≤ 4000000) (hst : StdAt w) (hP : parseT s.data.toList = .good bs) : Calls Tryz.prog 13 #[.string s] w fun e w' => ReadOk bs w e w' := by
 refine (implParse_good s hs hst hP).mono ?_
 rintro e w' ⟨a, n, c, gs, rfl, hp, hm, _, _, b⟩
 exact ⟨a, n, c, gs.map GAt.b, rfl, ⟨hp, grows_in hm⟩, b⟩
set_option maxRecDepth 100000 in
set_option maxHeartbeats 16000000 in
theorem rep_bad2 (n : Nat) (l Ba Bb b : Nat) (a t : ByteArray) (ha : a.size ≤ 4000000) (ht : t.size ≤ 4000000) {x : List PBlock} (hP : parseT a.data.toList = .good x) {m k : Nat} (hPb : parseT t.data.toList = .bad m (k : Int)) (J Jx : List Ln → World → Prop)
  (hY : ∀ pre x W, J pre W → pre.length < 780 → YieldAt Fence.wide (n - 1) Tryz.prog l (Ln.encs x) W fun e W' => (e = .returned (.bool true) ∧ J (pre ++ [x]) W' ∧ KpB b W W') ∨ (e = .returned (.bool false) ∧ Jx (pre ++ [x]) W'))
  (W : World) (_hbW : b < W.heap.size) (hJ : AbidesFrom W.heap.size J) (hca : W.cell? ⟨Ba, 0, none⟩ = some (.string a)) (hcb : W.cell? ⟨Bb, 0, none⟩ = some (.string t)) (hst : StdAt W) (het : ErrT W) (hft : FaultAt W) (h0 : J [] W) :
  CallsIn Fence.wide n Tryz.prog 167 #[.func (.yield l) #[] #[], .pointer (some ⟨Ba, 0, none⟩), .pointer (some ⟨Bb, 0, none⟩)] W fun e W' => (∃ v, e = .returned v) ∧
   ((∃ xs : List Ln, xs.map Ln.txt = reportLs a.data.toList t.data.toList ∧ J xs W') ∨ (∃ pre, True ∧ Jx pre W')) := by
 obtain ⟨hm, hc1, hc2⟩ := parseT_bad hPb
 have HRL := hid_in (report_bad2 hP hPb)
 have HS := iParse_good a (w := W) ha hst hP
 have HPB := hid_in hPb
 have hk0 : ((k : Int) != 0) = true := by simp; omega
 have h00 : ((0 : Int) != 0) = false := by decide
 generalize reportLs a.data.toList t.data.toList = RL at *
 clear hP hPb
 refine callsIn_of_wp Tryz.func167 rfl trivial ?_ rfl
 simp only [Tryz.ntmps167, List.size_toArray, List.length_cons, List.length_nil, Nat.reduceAdd, Nat.reduceSub, Array.replicate_succ, Array.replicate_zero, List.push_toArray, List.append_toArray, List.nil_append, List.cons_append]
 gi_wp2
 refine wide_go HS ?_
 rintro e w1 ⟨xa, xn, xc, bs1, rfl, ⟨hp1, hin1⟩, b1⟩
 obtain ⟨x1, k0, k1, k2⟩ := boxesR w1 (.slice xa xn xc) 0 0
 have B1 := b1.trans (x1.mono b1.size)
 have z1 : BlkAt ((w1.alloc (.cells #[.slice xa xn xc] 24)).alloc (.cells #[.int .i64 0, .int .i64 0] 26)) (w1.heap.size + 1) #[.int .i64 0, .int .i64 0] 26 := by
  have := BlkAt.new (w1.alloc (.cells #[.slice xa xn xc] 24)) #[.int .i64 0, .int .i64 0] 26
  rw [World.size_alloc] at this
  exact this
 have c1 := (B1.cell (World.block_lt_of_cell? _ _ hcb)).trans hcb
 have b1z := b1.size
 have HS2 := implParse_bad t (w := (w1.alloc (.cells #[.slice xa xn xc] 24)).alloc (.cells #[.int .i64 0, .int .i64 0] 26)) ht (hst.below B1) (het.below B1 (Nat.le_refl _)) HPB.out
 clear HS b1 hp1 hin1 x1 k0
 have hz1 : ((w1.alloc (.cells #[.slice xa xn xc] 24)).alloc (.cells #[.int .i64 0, .int .i64 0] 26)).heap.size = w1.heap.size + 2 := by simp
 gi_wp2
 refine wide_go HS2 ?_
 first | rintro e w2 rfl b2 | rintro e w2 ⟨rfl, b2⟩
 have bV := (Below.refl w2.heap.size w2).alloc (Nat.le_refl _) (.cells #[.slice none 0 0] 24)
 have yV := BlkAt.new w2 #[.slice none 0 0] 24
 have zV := (z1.below b2).below bV
 have hz2 := b2.size
 rw [hz1] at hz2
 have g0 := cell_of_block zV 0
 have e0 := frozen_of_block zV 0
 have zV1 := zV.set 0 (.int .i64 (m : Int))
 have yV1 := yV.other (q := w1.heap.size + 1) 0 (.int .i64 (m : Int)) (by omega)
 have g1 := cell_of_block zV1 1
 have e1 := frozen_of_block zV1 1
 have zV2 := zV1.set 1 (.int .i64 (k : Int))
 have yV2 := yV1.other (q := w1.heap.size + 1) 1 (.int .i64 (k : Int)) (by omega)
 have d0 := cell_of_block zV2 0
 have d1 := cell_of_block zV2 1
 have d2 := cell_of_block yV2 0
 simp only [List.getElem?_toArray, List.getElem?_cons_zero, List.getElem?_cons_succ, List.setIfInBounds_toArray, List.set_cons_zero, List.set_cons_succ] at g0 g1 d0 d1 d2
 have B2 := B1.trans (b2.mono B1.size)
 have BV := B2.trans (bV.mono B2.size)
 have hzW := b1z
 have BV2 := below_setCell (below_setCell BV ⟨w1.heap.size + 1, 0, none⟩ (by show W.heap.size ≤ w1.heap.size + 1; omega) (.int .i64 (m : Int))) ⟨w1.heap.size + 1, 1, none⟩ (by show W.heap.size ≤ w1.heap.size + 1; omega) (.int .i64 (k : Int))
 have HF := tellFault_any ⟨#[110, 101, 119]⟩ m k (w := ((w2.alloc (.cells #[.slice none 0 0] 24)).setCell ⟨w1.heap.size + 1, 0, none⟩ (.int .i64 (m : Int))).setCell ⟨w1.heap.size + 1, 1, none⟩ (.int .i64 (k : Int))) (by decide) hm (by omega) (by omega) (hst.below BV2) (hft.below BV2)
 clear HS2 zV zV1 zV2 yV yV1 yV2 bV B2 BV b2 z1 k1 k2 c1
 generalize hV2 : ((w2.alloc (.cells #[.slice none 0 0] 24)).setCell ⟨w1.heap.size + 1, 0, none⟩ (.int .i64 (m : Int))).setCell ⟨w1.heap.size + 1, 1, none⟩ (.int .i64 (k : Int)) = V2 at *
 gi_wp2
 refine wide_go HF ?_
 rintro e w3 ⟨x', rfl, hx, b3⟩
 have B3 := BV2.trans (b3.mono BV2.size)
 have hxl : x'.size ≤ 300000 := by
  rw [← size_toList, hx]
  exact faultL_le (by decide) hm (by omega)
 obtain ⟨fn, tmps, assign, body, hy, hR⟩ := hY [] ⟨x', hxl⟩ w3 (hJ [] W w3 none h0 (grow_of B3) (fun r e => by cases e)) (by decide)
 dsimp only [Ln.encs] at hy
 clear hV2 HF hY
 gi_wp2
 refine ⟨fun h => by simp [Fence.wide] at h, hR.mono ?_⟩
 rintro e W3 (⟨rfl, hJ4, _⟩ | ⟨rfl, hJx3⟩)
 ·gi_wp2
  refine bodyPost_ret (results_none rfl _ _ _) rfl ?_
  exact ⟨⟨_, rfl⟩, .inl ⟨[⟨x', hxl⟩], by rw [List.map_singleton, HRL.out]; exact congrArg (fun z => [z]) hx, hJ4⟩⟩
 ·gi_wp2
  refine bodyPost_ret (results_none rfl _ _ _) rfl ?_
  exact ⟨⟨_, rfl⟩, .inr ⟨_, trivial, hJx3⟩⟩
end Go.Proofs.YtpdahhnjhggocabGreatDoor
namespace Go.Proofs.YtpdahhnjhggocabGreatDoor
open Go.RowKit Go.Shelf
attribute [local go_sem] Oper.semAt_some
def DoPost (P : List PChange) (w : World) (e : Ending) (w' : World) : Prop := ∃ a n c cs, e = .returned (.slice a n c) ∧ (cs.map CAt.plain = P ∧ cs.length = n ∧ ∀ x ∈ cs, LinesSmall x.ls) ∧ ChangesOwn w.heap.size w' (.slice a n c) cs ∧ Below w.heap.size w w'
theorem do_of {P : List PChange} {w : World} {e : Ending} {w' : World} (h : DiffPost P w e w') : DoPost P w e w' := by
 obtain ⟨v', cs', rfl, hp, hs, _, ho, hb⟩ := h
 obtain ⟨a, c, rfl, _⟩ := own_form ho.row
 exact ⟨a, _, c, cs', rfl, ⟨hp, rfl, hs⟩, ho, hb⟩
theorem iFill_in {v : Value} {bs : List BAt} {w W : World} (h : BlocksIn w v bs) (hok : SheetOk (bs.map BAt.plain)) (hst : StdAt w) (hb : Below w.heap.size w W) : Calls Tryz.prog 23 #[.agg #[v]] W fun e w' => ShIn (fillS (bs.map BAt.plain)) W e w' := by
 refine (implFill_any (h.below hb) (ok_small hok) (hst.below hb)).mono ?_
 rintro e w' ⟨v', bs', rfl, hp, ho, hb⟩
 obtain ⟨a, c, rfl, _⟩ := own_form ho.row
 exact ⟨a, _, c, bs', rfl, hp, ho.bin, hb⟩
theorem report_good {a b : List UInt8} {x y : List PBlock} (h0 : parseT a = .good x) (h : parseT b = .good y) : reportLs a b = if diffS (fillS (normBs x)) (fillS (normBs y)) = [] then [sameT] else (diffS (fillS (normBs x)) (fillS (normBs y))).map tellC := by
 unfold reportLs
 rw [h0, h]
 simp only
 split
 ·rename_i e; rw [e, if_pos rfl]
 ·rename_i e; rw [if_neg (fun e' => e e')]
def ItRel (J : List Ln → World → Prop) (B : Nat) (D : List PChange) (n : Nat) (v : Value) (cs : List CAt) (i : Value) (wr : World) : Prop := ∃ (k : Nat) (ps : List Ln), i = .int .i64 (k : Int) ∧ k ≤ n ∧ ps.map Ln.txt = (D.take k).map tellC ∧ ps.length = k ∧ J ps wr ∧ ChangesOwn B wr v cs ∧ B ≤ wr.heap.size
set_option maxRecDepth 100000 in
set_option maxHeartbeats 16000000 in
theorem rep_good (n : Nat) (l Ba Bb b : Nat) (a t : ByteArray) (ha : a.size ≤ 4000000) (ht : t.size ≤ 4000000) {x : List PBlock} (hP : parseT a.data.toList = .good x) {y : List PBlock} (hPb : parseT t.data.toList = .good y) (J Jx : List Ln → World → Prop)
  (hY : ∀ pre x W, J pre W → pre.length < 780 → YieldAt Fence.wide (n - 1) Tryz.prog l (Ln.encs x) W fun e W' => (e = .returned (.bool true) ∧ J (pre ++ [x]) W' ∧ KpB b W W') ∨ (e = .returned (.bool false) ∧ Jx (pre ++ [x]) W'))
  (W : World) (hbW : b < W.heap.size) (hJ : AbidesFrom W.heap.size J) (hca : W.cell? ⟨Ba, 0, none⟩ = some (.string a)) (hcb : W.cell? ⟨Bb, 0, none⟩ = some (.string t)) (hst : StdAt W) (_het : ErrT W) (_hft : FaultAt W) (h0 : J [] W) :
  CallsIn Fence.wide n Tryz.prog 167 #[.func (.yield l) #[] #[], .pointer (some ⟨Ba, 0, none⟩), .pointer (some ⟨Bb, 0, none⟩)] W fun e W' => (∃ v, e = .returned v) ∧
   ((∃ xs : List Ln, xs.map Ln.txt = reportLs a.data.toList t.data.toList ∧ J xs W') ∨ (∃ pre, True ∧ Jx pre W')) := by
 have HRL := hid_in (report_good hP hPb)
 have OKX := hid_in (normBs_ok (parseT_good hP))
 have OKY := hid_in (normBs_ok (parseT_good hPb))
 have HS := iParse_good a (w := W) ha hst hP
 have HPB := hid_in hPb
 have h00 : ((0 : Int) != 0) = false := by decide
 generalize reportLs a.data.toList t.data.toList = RL at *
 clear hP hPb
 refine callsIn_of_wp Tryz.func167 rfl trivial ?_ rfl
 simp only [Tryz.ntmps167, List.size_toArray, List.length_cons, List.length_nil, Nat.reduceAdd, Nat.reduceSub, Array.replicate_succ, Array.replicate_zero, List.push_toArray, List.append_toArray, List.nil_append, List.cons_append]
 gi_wp2
 refine wide_go HS ?_
 rintro e w1 ⟨xa, xn, xc, bs1, rfl, ⟨hp1, hin1⟩, b1⟩
 obtain ⟨x1, k0, k1, k2⟩ := boxesR w1 (.slice xa xn xc) 0 0
 have B1 := b1.trans (x1.mono b1.size)
 have z1 : BlkAt ((w1.alloc (.cells #[.slice xa xn xc] 24)).alloc (.cells #[.int .i64 0, .int .i64 0] 26)) (w1.heap.size + 1) #[.int .i64 0, .int .i64 0] 26 := by
  have := BlkAt.new (w1.alloc (.cells #[.slice xa xn xc] 24)) #[.int .i64 0, .int .i64 0] 26
  rw [World.size_alloc] at this
  exact this
 have c1 := (B1.cell (World.block_lt_of_cell? _ _ hcb)).trans hcb
 have b1z := b1.size
 have HS2 := implParse_good t (w := (w1.alloc (.cells #[.slice xa xn xc] 24)).alloc (.cells #[.int .i64 0, .int .i64 0] 26)) ht (hst.below B1) HPB.out
 have HP1 := hid_in hp1
 have HIN1 := hid_in hin1
 have hz1 : ((w1.alloc (.cells #[.slice xa xn xc] 24)).alloc (.cells #[.int .i64 0, .int .i64 0] 26)).heap.size = w1.heap.size + 2 := by simp
 clear HS b1 hp1 hin1
 gi_wp2
 refine wide_go HS2 ?_
 rintro e w2 ⟨ya, yn, yc, gs2, rfl, hp2, hm2, _, _, b2⟩
 have bV := (Below.refl w2.heap.size w2).alloc (Nat.le_refl _) (.cells #[.slice ya yn yc] 24)
 have yV := BlkAt.new w2 #[.slice ya yn yc] 24
 have zV := (z1.below b2).below bV
 have hz2 := b2.size
 rw [hz1] at hz2
 have g0 := cell_of_block zV 0
 have e0 := frozen_of_block zV 0
 have zV1 := zV.set 0 (.int .i64 0)
 have yV1 := yV.other (q := w1.heap.size + 1) 0 (.int .i64 0) (by omega)
 have g1 := cell_of_block zV1 1
 have e1 := frozen_of_block zV1 1
 have zV2 := zV1.set 1 (.int .i64 0)
 have yV2 := yV1.other (q := w1.heap.size + 1) 1 (.int .i64 0) (by omega)
 have d0 := cell_of_block zV2 0
 have d1 := cell_of_block zV2 1
 have d2 := cell_of_block yV2 0
 simp only [List.getElem?_toArray, List.getElem?_cons_zero, List.getElem?_cons_succ, List.setIfInBounds_toArray, List.set_cons_zero, List.set_cons_succ] at g0 g1 d0 d1 d2
 have B2 := B1.trans (b2.mono B1.size)
 have BV := B2.trans (bV.mono B2.size)
 have hzW := b1z
 have BV2 := below_setCell (below_setCell BV ⟨w1.heap.size + 1, 0, none⟩ (by show W.heap.size ≤ w1.heap.size + 1; omega) (.int .i64 0)) ⟨w1.heap.size + 1, 1, none⟩ (by show W.heap.size ≤ w1.heap.size + 1; omega) (.int .i64 0)
 have N1 := x1.trans (b2.mono x1.size)
 have N2 := N1.trans (bV.mono N1.size)
 have N3 := below_setCell (below_setCell N2 ⟨w1.heap.size + 1, 0, none⟩ (Nat.le_succ _) (.int .i64 0)) ⟨w1.heap.size + 1, 1, none⟩ (Nat.le_succ _) (.int .i64 0)
 have hm3 := ((hm2.below bV).setCell ⟨w1.heap.size + 1, 0, none⟩ (by rw [hz1]; exact Nat.lt_succ_self _) (.int .i64 0)).setCell ⟨w1.heap.size + 1, 1, none⟩ (by rw [hz1]; exact Nat.lt_succ_self _) (.int .i64 0)
 have IN1 := hid_in (HIN1.out.below N3)
 have IN2 := hid_in (grows_in hm3)
 have HP2 := hid_in (show (gs2.map GAt.b).map BAt.plain = normBs y from hp2)
 have STV := hid_in (hst.below BV2)
 have k0' : (((w2.alloc (.cells #[.slice ya yn yc] 24)).setCell ⟨w1.heap.size + 1, 0, none⟩ (.int .i64 0)).setCell ⟨w1.heap.size + 1, 1, none⟩ (.int .i64 0)).cell? ⟨w1.heap.size, 0, none⟩ = some (.slice xa xn xc) := by
  have hq : w1.heap.size ≠ w1.heap.size + 1 := by omega
  have u1 := BlkAt.new w1 #[.slice xa xn xc] 24
  have u2 := u1.below ((Below.refl _ (w1.alloc (.cells #[.slice xa xn xc] 24))).alloc (Nat.le_refl _) (.cells #[.int .i64 0, .int .i64 0] 26))
  have u3 := (((u2.below b2).below bV).other (q := w1.heap.size + 1) 0 (.int .i64 0) hq).other (q := w1.heap.size + 1) 1 (.int .i64 0) hq
  have u4 := cell_of_block u3 0
  simpa only [List.getElem?_toArray, List.getElem?_cons_zero] using u4
 have T2 := hid_in (show Two w1.heap.size w2.heap.size (.slice xa xn xc) (.slice ya yn yc) _ from ⟨k0', d2⟩)
 clear HS2 zV zV1 zV2 yV yV1 yV2 bV B2 BV b2 z1 k0 k1 k2 c1 N1 N2 N3 x1 hm2 hm3 hp2 d2 k0' HIN1 B1
 generalize hV2 : ((w2.alloc (.cells #[.slice ya yn yc] 24)).setCell ⟨w1.heap.size + 1, 0, none⟩ (.int .i64 0)).setCell ⟨w1.heap.size + 1, 1, none⟩ (.int .i64 0) = V2 at *
 gi_wp2
 (try rw [hV2])
 clear hV2 g0 g1 e0 e1
 refine wpIn_wide.2 ?_
 have t1 : ∀ p : { W : World // Two w1.heap.size w2.heap.size (.slice xa xn xc) (.slice ya yn yc) W }, p.1.cell? ⟨w1.heap.size, 0, none⟩ = some (.slice xa xn xc) := fun p => p.2.1
 have t2 : ∀ p : { W : World // Two w1.heap.size w2.heap.size (.slice xa xn xc) (.slice ya yn yc) W }, p.1.cell? ⟨w2.heap.size, 0, none⟩ = some (.slice ya yn yc) := fun p => p.2.2
 letI : Inhabited { W : World // Two w1.heap.size w2.heap.size (.slice xa xn xc) (.slice ya yn yc) W } := ⟨⟨V2, T2.out⟩⟩
 have Bd : Below V2.heap.size V2 V2.drew := (Below.refl _ _).drew
 have HT1 := iFill_in IN1.out (by rw [HP1.out]; exact OKX.out) STV.out Bd
 rw [HP1.out] at HT1
 refine wp_region_hold (S := Two w1.heap.size w2.heap.size (.slice xa xn xc) (.slice ya yn yc)) 5 6 (by kernel_rfl) rfl ?_
 refine wpHold_mask [true, false, true, false, false, false] 4 rfl (by kernel_rfl) (T2.out.below Bd) ?_
 simp only [maskL_t, maskL_f, maskL_n]
 iterate 2 (refine wpReads_step (fun K hK => ?_); go_simp; refine hK _ ?_; clear hK K)
 refine wpReads_nil ?_
 refine wpHold_branch (f := 3) (rs := [1]) (by kernel_rfl) (by simp) ?_
 refine AllHold.cons rfl (by decide) (fun K hK => ?_) AllHold.nil
 go_simp
 go_wp2_with (go_at_call 23; refine HT1.mono ?_; rintro e wa ⟨aa, na, ca, bsa, rfl, hpa, oa, ba⟩)
 have ba' := Bd.trans ba
 refine hK.out _ _ (T2.out.below ba') ?_
 clear hK K
 have HT2 := iFill_in IN2.out (by rw [HP2.out]; exact OKY.out) STV.out ba'
 rw [HP2.out] at HT2
 refine wpHold_branch (f := 2) (rs := [3]) (by kernel_rfl) (by simp) ?_
 refine AllHold.cons rfl (by decide) (fun K hK => ?_) AllHold.nil
 go_simp
 go_wp2_with (go_at_call 23; refine HT2.mono ?_; rintro e wb ⟨ab, nb, cb, bsb, rfl, hpb, ob, bb⟩)
 have bb' := ba'.trans (bb.mono ba'.size)
 refine hK.out _ _ (T2.out.below bb') ?_
 clear hK K
 have HD0 := (implDiff_any (oa.below bb) ob (ok_small (by rw [hpa, fillS_of OKX.out]; exact fillS_ok OKX.out)) (ok_small (by rw [hpb, fillS_of OKY.out]; exact fillS_ok OKY.out)) (STV.out.below bb')).mono fun e w' h => do_of h
 rw [hpa, hpb] at HD0
 refine wpHold_branch (f := 1) (rs := [4]) (by kernel_rfl) (by simp) ?_
 refine AllHold.cons rfl (by decide) (fun K hK => ?_) AllHold.nil
 clear hpa hpb oa ob
 go_simp
 go_wp2_with (go_at_call 34; refine HD0.mono ?_; rintro e w5 ⟨da, dn, dc, cs, rfl, ⟨hp5, hl5, hs5⟩, ho5, b5⟩)
 have b5' := bb'.trans (b5.mono bb'.size)
 have B5 := hid_in (BV2.trans (b5'.mono BV2.size))
 have hwb : W.heap.size ≤ wb.heap.size := Nat.le_trans BV2.size bb'.size
 have hw5 := b5.size
 refine hK.out _ _ (T2.out.below b5') ?_
 clear hK K HD0 HT1 HT2 t1 t2
 have HOW := hid_in ho5
 have HP5 := hid_in hp5
 have HL5 := hid_in hl5
 have HS5 := hid_in hs5
 clear hp5 hl5 hs5 ho5 b5 b5' bb bb' ba ba' Bd BV2
 refine wpHold_last (by kernel_rfl) rfl (by kernel_rfl) ?_
 intro K hK
 go_simp
 refine hK.out _ _ (NoPanic.normal ?_)
 clear hK K
 have HOK := hid_in (show ∀ c ∈ diffS (fillS (normBs x)) (fillS (normBs y)), ChOk c from fun c hc => diffS_ok hc)
 have hdn : dn ≤ 780 := by
  have := diffS_len (fillS (normBs x)) (fillS (normBs y))
  rw [← HP5.out, List.length_map, HL5.out] at this
  exact this
 generalize diffS (fillS (normBs x)) (fillS (normBs y)) = D at *
 have hJ5 := hJ [] W w5 none h0 (grow_of B5.out) (fun r e => by cases e)
 by_cases hD0 : dn = 0
 ·have eD : D = [] := by rw [← HP5.out, List.length_eq_zero_iff.1 (HL5.out.trans hD0)]; rfl
  rw [if_pos eD] at HRL
  subst hD0
  obtain ⟨fn, tmps, assign, body, hy, hR⟩ := hY [] ⟨⟨#[116, 104, 101, 32, 115, 97, 109, 101]⟩, by decide⟩ w5 hJ5 (by decide)
  dsimp only [Ln.encs] at hy
  clear hY eD
  gi_wp2
  refine ⟨fun h => by simp [Fence.wide] at h, hR.mono ?_⟩
  rintro e W3 (⟨rfl, hJ4, _⟩ | ⟨rfl, hJx3⟩)
  ·gi_wp2
   refine bodyPost_ret (results_none rfl _ _ _) rfl ?_
   exact ⟨⟨_, rfl⟩, .inl ⟨_, by rw [HRL.out]; rfl, hJ4⟩⟩
  ·gi_wp2
   refine bodyPost_ret (results_none rfl _ _ _) rfl ?_
   exact ⟨⟨_, rfl⟩, .inr ⟨_, trivial, hJx3⟩⟩
 ·have eD : ¬ D = [] := fun e => hD0 (by rw [← HL5.out, ← List.length_map (f := CAt.plain), HP5.out, e]; rfl)
  rw [if_neg eD] at HRL
  have hd0 : ((dn : Int) == 0) = false := by rw [beq_eq_false_iff_ne]; omega
  have HI := hid_in (show ItRel J wb.heap.size D dn (.slice da dn dc) cs (.int .i64 0) w5 from ⟨0, [], rfl, by omega, by simp, rfl, hJ5, HOW.out, hw5⟩)
  clear eD hD0 hJ5
  gi_wp2
  gi_loopw [46] (fun i wr => ItRel J wb.heap.size D dn (.slice da dn dc) cs i wr) (fun i _ => dn - (intOf i).toNat)
  case atStart => exact HI.out
  case round =>
   clear HI
   obtain ⟨k, ps, rfl, hk, hps, hpl, hJs, hown, hszr⟩ := hrel
   by_cases hlt : k < dn
   ·obtain ⟨D1, c, T1, eL, hD1⟩ := split1 cs k (by have := HL5.out; omega)
    have hcm : c ∈ cs := by rw [eL]; simp
    have hrow := hown.cin.1
    rw [eL] at hrow
    obtain ⟨g, off, rfl, d0, d1, d2, d3, d4⟩ := hrow.change
    rw [hD1] at d0 d1 d2 d3 d4
    have hin := (hown.lines c hcm).lin
    obtain ⟨la, lc, elv⟩ := hin.1.form
    have hDk : D[k]? = some c.plain := by rw [← HP5.out, eL, List.getElem?_map, List.getElem?_append_right (by omega), hD1, Nat.sub_self]; rfl
    have hcok := HOK.out c.plain (List.mem_of_getElem? hDk)
    have HTK := hid_in (show (D.take (k + 1)).map tellC = ps.map Ln.txt ++ [tellC c.plain] from by
     obtain ⟨hkD, e⟩ := List.getElem?_eq_some_iff.1 hDk
     rw [List.take_succ_eq_append_getElem hkD, List.map_append, List.map_singleton, e, hps])
    have bR := (Below.refl wr.heap.size wr).alloc (Nat.le_refl _) (.cells #[.int .i64 c.what, .string c.kind, .string c.name, .string c.key, .slice la c.ls.length lc] 131)
    have zR := BlkAt.new wr #[.int .i64 c.what, .string c.kind, .string c.name, .string c.key, .slice la c.ls.length lc] 131
    have HTC := tellChange_any (w := wr.alloc (.cells #[.int .i64 c.what, .string c.kind, .string c.name, .string c.key, .slice la c.ls.length lc] 131)) (hin.below bR) hcok (HS5.out c hcm)
    have htl := tellC_le hcok
    rw [elv] at HTC d4
    have HOWN := hid_in (hown.below bR)
    have y0 := cell_of_block zR 0
    have y1 := cell_of_block zR 1
    have y2 := cell_of_block zR 2
    have y3 := cell_of_block zR 3
    have y4 := cell_of_block zR 4
    simp only [List.getElem?_toArray, List.getElem?_cons_zero, List.getElem?_cons_succ] at y0 y1 y2 y3 y4
    have k1 : (0 : Int) ≤ (k : Int) := by omega
    have k2 : (k : Int) < (dn : Int) := by omega
    clear hown hrow hin elv eL hD1 hcm hDk hcok zR hps
    generalize tellC c.plain = TC at *
    generalize c.what = cw at *
    generalize c.kind = ck at *
    generalize c.name = cn at *
    generalize c.key = cy at *
    generalize c.ls.length = nl at *
    generalize hW6 : wr.alloc (.cells #[.int .i64 cw, .string ck, .string cn, .string cy, .slice la nl lc] 131) = W6 at *
    gi_wp2
    refine wide_go HTC ?_
    rintro e w7 ⟨x', rfl, hx, b7⟩
    have B7 := bR.trans (b7.mono bR.size)
    have hxl : x'.size ≤ 300000 := by rw [← size_toList, hx]; omega
    have hJ7 := hJ ps wr w7 none hJs (grow_of B7) (fun r e => by cases e)
    obtain ⟨fn, tmps, assign, body, hy, hR⟩ := hY ps ⟨x', hxl⟩ w7 hJ7 (by omega)
    dsimp only [Ln.encs] at hy
    have HO7 := hid_in (HOWN.out.below b7)
    have HX := hid_in hx
    have hz7 := B7.size
    clear hW6 HTC y0 y1 y2 y3 y4 d0 d1 d2 d3 d4 hx hJ7 hJs
    gi_wp2
    refine ⟨fun h => by simp [Fence.wide] at h, hR.mono ?_⟩
    rintro e W8 (⟨rfl, hJ8, hk8⟩ | ⟨rfl, hJx8⟩)
    ·have HR := hid_in (show ItRel J wb.heap.size D dn (.slice (some ⟨g, off, none⟩) dn dc) cs (.int .i64 ((k : Int) + 1)) W8 from ⟨k + 1, ps ++ [⟨x', hxl⟩], by rw [Int.natCast_add]; rfl, by omega, by rw [HTK.out, List.map_append, List.map_singleton, ← HX.out], by rw [List.length_append, hpl]; rfl, hJ8, mem_kp HO7.out hk8 (fun r hr => crows_types hr) (by omega), by have := hk8.1; omega⟩)
     clear hJ8 hk8
     gi_wp2
     go_roundw
     case rel => exact HR.out
     case measure => simp [intOf]; omega
    ·gi_wp2
     refine bodyPost_ret (results_none rfl _ _ _) rfl ?_
     exact ⟨⟨_, rfl⟩, .inr ⟨_, trivial, hJx8⟩⟩
   ·obtain rfl : k = dn := by omega
    have hDD : D.take k = D := by rw [← HP5.out, ← HL5.out, ← List.length_map (f := CAt.plain), List.take_length]
    rw [hDD] at hps
    gi_wp2
    go_end0
    exact ⟨⟨_, rfl⟩, .inl ⟨ps, by rw [HRL.out]; exact hps, hJs⟩⟩
end Go.Proofs.YtpdahhnjhggocabGreatDoor
namespace Go.Proofs.YtpdahhnjhggocabGreatDoor
open Go.RowKit Go.Shelf
attribute [local go_sem] Oper.semAt_some
theorem rep_stops (n Ba Bb b : Nat) (a t : ByteArray) (ha : a.size ≤ 4000000) (ht : t.size ≤ 4000000) (w : World) (hb : b < w.heap.size) (hca : w.cell? ⟨Ba, 0, none⟩ = some (.string a)) (hcb : w.cell? ⟨Bb, 0, none⟩ = some (.string t)) (hst : StdAt w) (het : ErrT w) (hft : FaultAt w) :
  SeqStopsK Fence.wide n Tryz.prog 167 #[.pointer (some ⟨Ba, 0, none⟩), .pointer (some ⟨Bb, 0, none⟩)] (fun x : Ln => Ln.encs x) (KpB b) (fun xs => xs.map Ln.txt = reportLs a.data.toList t.data.toList) (fun _ => True) 780 w := fun l J Jx W hW hJ _ hY h0 => by
 have hca' := (hW.cell (World.block_lt_of_cell? _ _ hca)).trans hca
 have hcb' := (hW.cell (World.block_lt_of_cell? _ _ hcb)).trans hcb
 have hbW := Nat.lt_of_lt_of_le hb hW.size
 cases hP : parseT a.data.toList with
 | bad m c =>
  obtain ⟨k, rfl⟩ : ∃ k : Nat, c = (k : Int) := ⟨c.toNat, by have := (parseT_bad hP).2.1; omega⟩
  exact rep_bad n l Ba Bb b a t ha hP J Jx hY W hJ hca' (hst.below hW) (het.below hW (Nat.le_refl _)) (hft.below hW) h0
 | good x =>
  cases hPb : parseT t.data.toList with
  | bad m c =>
   obtain ⟨k, rfl⟩ : ∃ k : Nat, c = (k : Int) := ⟨c.toNat, by have := (parseT_bad hPb).2.1; omega⟩
   exact rep_bad2 n l Ba Bb b a t ha ht hP hPb J Jx hY W hbW hJ hca' hcb' (hst.below hW) (het.below hW (Nat.le_refl _)) (hft.below hW) h0
  | good y => exact rep_good n l Ba Bb b a t ha ht hP hPb J Jx hY W hbW hJ hca' hcb' (hst.below hW) (het.below hW (Nat.le_refl _)) (hft.below hW) h0
theorem reportLines_any (a b : ByteArray) (w : World) : Calls Tryz.prog 100 #[.string a, .string b] w fun e w' => e = .returned (.func (.func 167) #[] #[.pointer (some ⟨w.heap.size, 0, none⟩), .pointer (some ⟨w.heap.size + 1, 0, none⟩)]) ∧ w' = (w.alloc (.cells #[.string a] 9)).alloc (.cells #[.string b] 9) := by
 have hmf : ∀ (fn : Fn) (first cap : Array Value) (w : World), (Instr.makeFunc fn first cap).run Tryz.prog w = .ok (.func fn first cap) w := fun _ _ _ _ => rfl
 go_enter Tryz.func100, Tryz.ntmps100
 go_wp2
 go_ret
 exact ⟨rfl, rfl⟩
theorem rtx_start (w0 : World) : Rtx w0.heap.size w0.heap.size [] (w0.alloc (.cells #[.pointer none, .slice none 0 0] 98)) := by
 refine .inl ⟨Nat.le_refl _, .slice none 0 0, ?_, World.ownsRowF_nil _ _ _ _, ?_⟩
 ·unfold World.alloc; simp
 ·intro e; cases e
theorem rtxText_any {B b : Nat} {l : List UInt8} {w : World} (h : Rtx B b l w) (h0 : l ≠ []) : Calls Tryz.prog 67 #[.pointer (some ⟨b, 0, none⟩)] w fun e w' => e = .returned (.string ⟨l.toArray⟩) ∧ Rwt B b l w w' := by
 refine (rblText_any B b l w h h0).mono ?_
 rintro e w' ⟨rfl, h1, h2, h3⟩
 exact ⟨rfl, h1, h2, h3⟩
theorem rtx_own {B b : Nat} {l : List UInt8} {W W' : World} {row : Option Nat} (h : Rtx B b l W) (hg : W.grownBy W' row) (hr : ∀ r, row = some r → ∃ o : Obj, W.heap[r]? = some o ∧ o.isCells = false) : Rtx B b l W' := by
 have hlt : ∀ (k : Nat) (cs : Array Value) (T : TypeId) fz, W.heap[k]? = some (.cells cs T fz) → W'.heap[k]? = some (.cells cs T fz) := by
  intro k cs T fz hk
  refine (hg.block k (Array.getElem?_eq_some_iff.1 hk).1 (fun e => ?_)).trans hk
  obtain ⟨o, ho, hc⟩ := hr k e.symm
  rw [ho] at hk
  cases hk
  cases hc
 have key : ∀ p, Lib.BuilderAtF 98 5 B b p (Lib.byteCells l) W → Lib.BuilderAtF 98 5 B b p (Lib.byteCells l) W' := by
  rintro p ⟨h1, v, h2, h3, h4⟩
  refine ⟨h1, v, hlt _ _ _ _ h2, ⟨h3.1, ?_⟩, h4⟩
  rcases h3.2 with h | ⟨g, cap, cur, fz, hv, hg1, hg2, r⟩
  ·exact .inl h
  ·exact .inr ⟨g, cap, cur, fz, hv, hg1, hlt _ _ _ _ hg2, r⟩
 rcases h with h | h
 ·exact .inl (key _ h)
 ·exact .inr (key _ h)
theorem others_keep {B b : Nat} {l : List UInt8} {W W' : World} (h : Rtx B b l W) (hs : W.heap.size ≤ W'.heap.size) (ho : Lib.OthersKept 5 (some b) W W') : KeepsOthers W W' := by
 refine ⟨hs, fun k o hk hc => ho k o hk (fun e => ?_) (fun c fz e => by rw [e] at hc; cases hc)⟩
 cases e
 rcases h with ⟨_, v, h2, _⟩ | ⟨_, v, h2, _⟩ <;> (rw [h2] at hk; cases hk; cases hc)
def flatR (pre : List Ln) : List UInt8 := pre.flatMap (fun x => x.txt ++ [10])
theorem flatR_snoc (pre : List Ln) (x : Ln) : flatR (pre ++ [x]) = flatR pre ++ x.txt ++ [10] := by unfold flatR; rw [List.flatMap_append, List.flatMap_singleton, List.append_assoc]
theorem flatR_le (pre : List Ln) : (flatR pre).length ≤ 300001 * pre.length := by
 unfold flatR
 refine flatm_len _ 300001 pre (fun x _ => ?_)
 have := x.2
 rw [List.length_append, List.length_singleton, size_toList]
 omega
theorem report_ne (a b : List UInt8) : reportS a b ≠ [] := by
 unfold reportS
 have h : reportLs a b ≠ [] := by
  unfold reportLs
  split
  ·simp
  ·split
   ·simp
   ·split
    ·simp
    ·rename_i h; simpa using h
 cases hh : reportLs a b with
 | nil => exact absurd hh h
 | cons x L => simp
set_option maxRecDepth 100000 in
set_option maxHeartbeats 8000000 in
theorem implReport_any (a t : ByteArray) {w : World} (ha : a.size ≤ 4000000) (ht : t.size ≤ 4000000) (hst : StdAt w) (het : ErrT w) (hft : FaultAt w) : Calls Tryz.prog 43 #[.string a, .string t] w fun e w' => TextIs (reportS a.data.toList t.data.toList) w e w' := by
 have T0 := rtx_start w
 have b1 := (Below.refl w.heap.size w).alloc (Nat.le_refl _) (.cells #[.pointer none, .slice none 0 0] 98)
 have HL := reportLines_any a t (w.alloc (.cells #[.pointer none, .slice none 0 0] 98))
 have kk := two_boxes (w := w.alloc (.cells #[.pointer none, .slice none 0 0] 98)) (cs := #[.string a]) (ds := #[.string t]) (T := 9) (U := 9)
 have k0 := kk.1 0
 have j0 := kk.2 0
 simp only [List.getElem?_toArray, List.getElem?_cons_zero] at k0 j0
 have b2 := (((Below.refl _ (w.alloc (.cells #[.pointer none, .slice none 0 0] 98))).alloc (Nat.le_refl _) (.cells #[.string a] 9)).alloc (by simp) (.cells #[.string t] 9))
 have T2 := T0.gr b2
 have B2 := b1.trans (b2.mono b1.size)
 have hz : (((w.alloc (.cells #[.pointer none, .slice none 0 0] 98)).alloc (.cells #[.string a] 9)).alloc (.cells #[.string t] 9)).heap.size = w.heap.size + 3 := by simp
 have HRS := hid_in (show reportS a.data.toList t.data.toList = (reportLs a.data.toList t.data.toList).flatMap (fun l => l ++ [10]) from rfl)
 have HNE := hid_in (report_ne a.data.toList t.data.toList)
 have HST := rep_stops 3 (w.heap.size + 1) (w.heap.size + 2) w.heap.size a t ha ht _ (by rw [hz]; omega) (by simpa using k0) (by simpa using j0) (hst.below B2) (het.below B2 (Nat.le_refl _)) (hft.below B2)
 clear hst het hft T0 b1 b2 kk k0 j0
 generalize reportS a.data.toList t.data.toList = RS at *
 refine (callsIn_wide (n := 4)).1 ?_
 refine callsIn_of_wp_marks Tryz.func43 rfl trivial ?_ rfl
 simp only [Tryz.ntmps43, List.size_toArray, List.length_cons, List.length_nil, Nat.reduceAdd, Nat.reduceSub, Array.replicate_succ, Array.replicate_zero, List.push_toArray, List.append_toArray, List.nil_append, List.cons_append]
 gi_wp2
 refine ⟨trivial, (callsIn_wide.2 HL).mono ?_⟩
 rintro e w2 ⟨rfl, rfl⟩
 rw [World.size_alloc]
 clear HL
 generalize ((w.alloc (.cells #[.pointer none, .slice none 0 0] 98)).alloc (.cells #[.string a] 9)).alloc (.cells #[.string t] 9) = W0 at *
 gi_wp2
 refine wpIn_rangeFunc_ownG rfl (by decide) (gf := 167) (lb := #[.pointer (some ⟨w.heap.size + 1, 0, none⟩), .pointer (some ⟨w.heap.size + 2, 0, none⟩)]) rfl trivial (enters_of Tryz.func167 (by kernel_rfl) rfl)
  HST (fun h k => KpB.trans h k) (fun W l o o' _ h hc _ => KpB.put W l o o' h hc) (Below.refl _ _) (fun _ => rfl)
  (fun pre W => Rtx w.heap.size w.heap.size (flatR pre) W ∧ Below w.heap.size w W)
  (fun _ _ _ => False)
  (OwnFrom.and (I := fun (pre : List Ln) W => Rtx w.heap.size w.heap.size (flatR pre) W) (fun s A B row hs hg hr => rtx_own hs hg (fun r e => (hr r e).2)) (ownFrom_below (Nat.le_refl _) (by omega)))
  (fun _ _ _ _ _ hs _ _ => hs)
  ⟨T2, B2⟩
  (fun x => { tmps := #[.string a, .string t, undef, undef, .string ⟨#[]⟩, .pointer (some ⟨w.heap.size, 0, none⟩), .string x.1, .string a, .string t, .func (.func 167) #[] #[.pointer (some ⟨w.heap.size + 1, 0, none⟩), .pointer (some ⟨w.heap.size + 2, 0, none⟩)], .string x.1, undef, undef, undef, undef], defers := [] })
  ?assign ?body ?done ?stop
 case assign =>
  intro l x W K hK
  gi_wp2
  exact hK
 case body =>
  rintro l pre x W ⟨hT, hB⟩ hlt
  have hpl := flatR_le pre
  have hx := x.2
  have H1 := rtxString_any x.1 hT (by rw [size_toList]; omega) hB.size
  gi_wp2
  refine ⟨trivial, (CallsIn.inRound l (callsIn_wide.2 H1)).mono ?_⟩
  rintro e w3 ⟨rfl, W3⟩
  have H2 := rtxByte_any (10 : UInt8) W3.1 (by rw [List.length_append, size_toList]; omega) (Nat.le_trans hB.size W3.2.1.size)
  clear H1
  gi_wp2
  refine ⟨trivial, (CallsIn.inRound l (callsIn_wide.2 H2)).mono ?_⟩
  rintro e w4 ⟨rfl, W4⟩
  have W5 := W3.trans W4
  clear H2
  gi_wp2
  refine ⟨(others_keep hT W5.2.1.size W5.2.2).from _, KpB.of_others W5.2.1.size W5.2.2, by rw [flatR_snoc]; exact W5.1, hB.trans W5.2.1⟩
 case done =>
  rintro D ys W hD hS ⟨hT, hB⟩ hK
  have hfl : flatR ys = RS := by
   rw [HRS.out, ← hS, List.flatMap_map]; rfl
  rw [hfl] at hT
  have H1 := rtxText_any hT HNE.out
  gi_wp2
  refine ⟨trivial, (callsIn_wide.2 H1).mono ?_⟩
  rintro e w3 ⟨rfl, W3⟩
  have hK3 := (others_keep hT W3.2.1.size W3.2.2).same D _ hK rfl
  have HB3 := hid_in (hB.trans W3.2.1)
  clear H1 W3
  gi_wp2
  refine ⟨by simp, .inl ⟨_, _, rfl, run_takeDeferred hK3, ?_⟩⟩
  exact ⟨_, results_tmp rfl _ _ _, _, rfl, rfl, HB3.out.trans (belowK_b (w := w) (Nat.le_refl _) w3 D _ _ (by omega) hK3 rfl rfl)⟩
 case stop =>
  rintro D c pre W _ _ h _
  exact h.elim
end Go.Proofs.YtpdahhnjhggocabGreatDoor
namespace Go.Proofs.YtpdahhnjhggocabGreatDoor
open Go.RowKit
set_option maxHeartbeats 2000000 in
set_option maxRecDepth 100000 in
theorem reportLaw_any (a b : ByteArray) (w : World) (hst : StdAt w) (het : ErrT w) (hft : FaultAt w) : Calls Tryz.prog 11 #[.string a, .string b] w fun e w' => e = .returned (.bool true) ∧ Below w.heap.size w w' := by
 by_cases ha : a.size ≤ 1048576
 ·have ha' : ¬ (1048576 : Int) < (a.size : Int) := by omega
  by_cases hb : b.size ≤ 1048576
  ·have hb' : ¬ (1048576 : Int) < (b.size : Int) := by omega
   have HS := specReport_any a b (w := w) (by omega) (by omega)
   go_enter Tryz.func11, Tryz.ntmps11
   go_wp2_with (go_at_call 42; refine HS.mono ?_)
   rintro e w1 ⟨t, rfl, ht, b1⟩
   have HI := implReport_any a b (w := w1) (by omega) (by omega) (hst.below b1) (het.below b1 (Nat.le_refl _)) (hft.below b1)
   have HT := hid_in ht
   clear HS ht
   go_wp2_with (go_at_call 43; refine HI.mono ?_)
   rintro e w2 ⟨u, rfl, hu, b2⟩
   have e : u = t := by
    have h := hu.trans HT.out.symm
    cases u; cases t
    simp only at h
    rw [ByteArray.mk.injEq]
    exact Array.toList_inj.1 h
   subst e
   have hne : (u.toList != u.toList) = false := by simp
   have B2 := b1.trans (b2.mono b1.size)
   clear HI hu HT
   go_wp2
   go_ret
   exact ⟨rfl, B2⟩
  ·have hb' : (1048576 : Int) < (b.size : Int) := by omega
   go_enter Tryz.func11, Tryz.ntmps11
   go_wp2
   go_ret
   exact ⟨rfl, Below.refl _ _⟩
 ·have ha' : (1048576 : Int) < (a.size : Int) := by omega
  go_enter Tryz.func11, Tryz.ntmps11
  go_wp2
  go_ret
  exact ⟨rfl, Below.refl _ _⟩
end Go.Proofs.YtpdahhnjhggocabGreatDoor
