import Derived.Test.YtpdahhnjhggocaaGreatDoorBun48
import Derived.Test.YtpdahhnjhggocaaGreatDoorBun44
import Derived.Test.YtpdahhnjhggocaaGreatDoorBun42
import Derived.Test.YtpdahhnjhggocaaGreatDoorBun41
import Derived.Test.YtpdahhnjhggocaaGreatDoorBun32
import Derived.Test.YtpdahhnjhggocaaGreatDoorBun16
namespace Go.Proofs.YtpdahhnjhggocaaGreatDoor
open Go.RowKit
def DrawnFar (w : World) (e : Ending) (w' : World) : Prop := ∃ a n c bs, e = .returned (.agg #[.slice a n c]) ∧ (BlocksIn w' (.slice a n c) bs ∧ BlocksSmall bs ∧ ∀ q, q < w.heap.size → BlocksFar q (.slice a n c) bs) ∧ Below w.heap.size w w'
theorem Spoilt.one {d B p k n c : Nat} {w W W' : World} {a : Option Addr} (h : Spoilt d B p k W (.returned (.agg #[.slice a n c])) W') (hw : Below w.heap.size w W) (hp : w.heap.size ≤ p) (hz : w.heap.size < W.heap.size) (cs : Array Value) : DrawnFar w (.returned (.agg #[.slice a n c])) (W'.setRow w.heap.size cs) := by
  obtain ⟨a', n', c', bs, k', he, hk', hr, hg, hin, hs, hf⟩ := h
  cases he
  have gs := grown_setRow W' w.heap.size cs
  have hgz := hg.size
  exact ⟨a, n, c, bs, rfl, ⟨hin.far (hf _ hz) gs, hs.1, fun q hq => hf q (by omega)⟩, belowGrown (belowGrown hw (by omega) hp hg) (by omega) (Nat.le_refl _) gs⟩
set_option maxHeartbeats 4000000 in
set_option maxRecDepth 100000 in
theorem drawValid_any (a : Option Addr) (len cap : Nat) (w : World) (hc : Code w.heap.size w a len cap) : Calls Tryz.prog 87 #[.slice a len cap] w fun e w' => DrawnFar w e w' := by
  have b0 := (Below.refl w.heap.size w).alloc (Nat.le_refl _) (.cells #[.slice none 0 0] 25)
  have z1 := alloc_here w (.cells #[.slice none 0 0] 25)
  have s1 : (w.alloc (.cells #[.slice none 0 0] 25)).heap.size = w.heap.size + 1 := by simp
  have hc1 := hc.below b0 (show w.heap.size ≤ w.heap.size + 1 by omega)
  generalize hw1 : w.alloc (.cells #[.slice none 0 0] 25) = w1 at *
  have HO := l1Open_any (w.heap.size + 1) a len cap w1 (by omega) hc1.1 hc1.2.1 hc1.2.2.1 hc1.2.2.2
  rw [s1] at HO
  clear hc hc1
  go_enter Tryz.func87, Tryz.ntmps87
  go_wp2_with (go_at_call 42; (try rw [hw1]); refine HO.mono ?_)
  rintro e w2 ⟨rfl, h2, b2⟩
  have HD := l3Draw_any _ _ 0 w2 h2 (by omega)
  have hz2 := b2.size
  have z2 := (b2.block w.heap.size (by omega)).trans z1
  have b02 := b0.trans (b2.mono (by omega))
  have hpl := h2.lt
  clear HO h2 hw1
  go_wp2_with (go_at_call 78; refine HD.mono ?_)
  rintro e w3 ⟨v, bs, k3, rfl, hk3, hr3, hg3, ho3, hl3, hs3⟩
  obtain ⟨sa, sc, rfl, _⟩ := own_form ho3.row
  have hg3z := hg3.size
  have z3 := (hg3.block w.heap.size (by omega) (by intro e; have := Option.some.inj e; omega)).trans z2
  have b03 := belowGrown b02 b02.size (by omega) hg3
  have bx := (Below.refl w3.heap.size w3).alloc (Nat.le_refl _) (.cells #[.slice sa bs.length sc] 25)
  have xb := alloc_here w3 (.cells #[.slice sa bs.length sc] 25)
  have z4 := (bx.block w.heap.size (by omega)).trans z3
  have b04 := b03.trans (bx.mono b03.size)
  have hr4 := hr3.below bx
  have HP := pick_any _ _ k3 2 _ hr4 (by omega) (by omega) (by omega)
  have HOW := hid_in (ho3.below bx)
  have HSM := hid_in hs3
  clear HD ho3 hs3 hr3 hr4 bx z2 z3
  generalize hnl : bs.length = nl at *
  have enl := hid_in hnl
  clear hnl
  have hz4 : (w3.alloc (.cells #[.slice sa nl sc] 25)).heap.size = w3.heap.size + 1 := by simp
  generalize hw4 : w3.alloc (.cells #[.slice sa nl sc] 25) = w4 at *
  go_wp2_with (go_at_call 44; (try rw [hw4]); refine HP.mono ?_)
  rintro e w5 ⟨y, hy, rfl, hr5, hg5⟩
  have hX5 := (hg5.block w3.heap.size (by omega) (by intro e; have := Option.some.inj e; omega)).trans xb
  have cX := cell_of_block hX5 0
  simp only [List.getElem?_toArray, List.getElem?_cons_zero] at cX
  have OW5 := hid_in (show BlocksOwn w2.heap.size w5 (.slice sa nl sc) bs from Mem.other HOW.out hg5 (by omega))
  have z5 := (hg5.block w.heap.size (by omega) (by intro e; have := Option.some.inj e; omega)).trans z4
  have b05 := belowGrown b04 b04.size (by omega) hg5
  have hg5z := hg5.size
  clear HP HOW hX5 xb hg5 hw4 b04 b03
  by_cases hy0 : y = 0
  · subst hy0
    have HSP := l3Spoil_any _ _ (k3 + 1) w5 hr5 (by omega) OW5.out.bin (by have := enl.out; omega) HSM.out
    clear OW5 HSM
    go_wp2_with (go_at_call 104; refine HSP.mono ?_)
    rintro e w6 hsp
    have hspH := hid_in hsp
    obtain ⟨a6, n6, c6, bs6, k6, rfl, hk6, hr6, hg6, hin6, hs6, hf6⟩ := hsp
    have z6 := (hg6.block w.heap.size (by omega) (by intro e; have := Option.some.inj e; omega)).trans z5
    have HOK := hid_in (hspH.out.one b05 (by omega) (by omega) #[.slice a6 n6 c6])
    clear HSP hspH hr6 hg6 hin6 hs6 hf6
    go_wp2_with (with_reducible show wpList _ _ _ (Oper.mk _ (Op.store _ (Operand.tmp 2) _) _ _ _ _ :: _) _ _; refine wpList_store_row rfl 25 _ _ rfl w.heap.size #[.slice a6 n6 c6] ?_ ?_ 25 _ z6 ?_ ?_ ?_ ?_)
    all_goals (first | rfl | kernel_rfl | exact sheet_size | skip)
    have z7 : (w6.setRow w.heap.size #[.slice a6 n6 c6]).heap[w.heap.size]? = some (.cells #[.slice a6 n6 c6] 25 (0, 0)) := setRow_heap _ _ _ _ _ _ z6
    have y0 := cell_of_block z7 0
    simp only [List.getElem?_toArray, List.getElem?_cons_zero] at y0
    generalize w6.setRow w.heap.size #[.slice a6 n6 c6] = W at HOK y0 z7 ⊢
    exact bodyPost_ret (v := .agg #[.slice a6 n6 c6]) (by simp [results, Tryz.results87, go_sem, y0]) rfl HOK.out
  · have hyn : ((y : Int) == 0) = false := by rw [beq_eq_false_iff_ne]; omega
    have gs := grown_setRow w5 w.heap.size #[.slice sa nl sc]
    have HOK := hid_in (show DrawnFar w (.returned (.agg #[.slice sa nl sc])) (w5.setRow w.heap.size #[.slice sa nl sc]) from ⟨sa, nl, sc, bs, rfl, ⟨OW5.out.bin.far (OW5.out.far (by omega)) gs, small_blocks (by have := enl.out; omega) HSM.out, fun q hq => OW5.out.far (by omega)⟩, belowGrown b05 b05.size (Nat.le_refl _) gs⟩)
    clear OW5 HSM gs
    go_wp2_with (with_reducible show wpList _ _ _ (Oper.mk _ (Op.store _ (Operand.tmp 2) _) _ _ _ _ :: _) _ _; refine wpList_store_row rfl 25 _ _ rfl w.heap.size #[.slice sa nl sc] ?_ ?_ 25 _ z5 ?_ ?_ ?_ ?_)
    all_goals (first | rfl | kernel_rfl | exact sheet_size | skip)
    have z7 : (w5.setRow w.heap.size #[.slice sa nl sc]).heap[w.heap.size]? = some (.cells #[.slice sa nl sc] 25 (0, 0)) := setRow_heap _ _ _ _ _ _ z5
    have y0 := cell_of_block z7 0
    simp only [List.getElem?_toArray, List.getElem?_cons_zero] at y0
    generalize w5.setRow w.heap.size #[.slice sa nl sc] = W at HOK y0 z7 ⊢
    exact bodyPost_ret (v := .agg #[.slice sa nl sc]) (by simp [results, Tryz.results87, go_sem, y0]) rfl HOK.out
end Go.Proofs.YtpdahhnjhggocaaGreatDoor
namespace Go.Proofs.YtpdahhnjhggocaaGreatDoor
open Go.RowKit
def opp12_0 : Oper := { dst := some 31, op := Op.load 46 (Operand.tmp 7), type := 46, pos := "l8_draw.go:306", after := #[], guard := none }
def opp12_1 : Oper := { dst := some 32, op := Op.move (Operand.tmp 8), type := 3, pos := "l8_draw.go:306", after := #[], guard := none }
def opp12_2 : Oper := { dst := some 33, op := Op.binOp BinOp.sub 3 (Operand.const (Value.int IntKind.i64 200)) (Operand.tmp 32) 3, type := 3, pos := "l8_draw.go:306", after := #[{ on := 1, ground := Ground.data }], guard := none }
def opp12_3 : Oper := { dst := some 34, op := Op.call { callee := Callee.value (Operand.func 80), args := #[Operand.const (Value.string { data := #[116] }), Operand.tmp 33], argTypes := #[9, 3] }, type := 9, pos := "l8_draw.go:306", after := #[{ on := 2, ground := Ground.data }], guard := none }
def opp12_4 : Oper := { dst := some 35, op := Op.buildSlice 52 2 #[(0, Operand.tmp 34), (1, Operand.const (Value.string { data := #[49] }))], type := 52, pos := "l8_draw.go:306", after := #[{ on := 3, ground := Ground.data }], guard := none }
def opp12_5 : Oper := { dst := some 36, op := Op.build 115 #[(0, Operand.const (Value.string { data := #[108, 105, 107, 101] })), (1, Operand.tmp 35)], type := 115, pos := "l8_draw.go:306", after := #[{ on := 4, ground := Ground.data }], guard := none }
def opp12_6 : Oper := { dst := some 37, op := Op.call { callee := Callee.value (Operand.func 86), args := #[Operand.tmp 31, Operand.tmp 36], argTypes := #[46, 115] }, type := 46, pos := "l8_draw.go:306", after := #[{ on := 0, ground := Ground.data }, { on := 5, ground := Ground.data }, { on := 3, ground := Ground.chain }], guard := none }
def opp12_7 : Oper := { dst := none, op := Op.store 46 (Operand.tmp 7) (Operand.tmp 37), type := 0, pos := "l8_draw.go:306", after := #[{ on := 6, ground := Ground.data }, { on := 6, ground := Ground.chain }, { on := 0, ground := Ground.phase }, { on := 1, ground := Ground.phase }, { on := 2, ground := Ground.phase }, { on := 3, ground := Ground.phase }, { on := 4, ground := Ground.phase }, { on := 5, ground := Ground.phase }, { on := 6, ground := Ground.phase }], guard := none }
def opsp12 : List Oper := [opp12_0, opp12_1, opp12_2, opp12_3, opp12_4, opp12_5, opp12_6, opp12_7]
def P12F (W0 : World) (c S Y k n2 : Nat) (kind name : ByteArray) (bv : Value) (i : Nat) (x : Value) (W : World) : Prop := match i with
  | 0 => x = .agg #[.string kind, .string name, bv]
  | 1 => x = .int .i64 (k : Int)
  | 2 => x = .int .i64 (n2 : Int)
  | 3 => ∃ s : ByteArray, x = .string s ∧ s.size ≤ 200
  | 4 => ∃ g ws, x = .slice (some ⟨g, 0, none⟩) 2 2 ∧ ws.length = 2 ∧ (∀ z ∈ ws, z.length ≤ 200) ∧ HasRow W (.slice (some ⟨g, 0, none⟩) 2 2) 2 1 (strs ws) ∧ W0.heap.size ≤ g
  | 5 => ∃ g ws, x = .agg #[.string ⟨#[108, 105, 107, 101]⟩, .slice (some ⟨g, 0, none⟩) 2 2] ∧ ws.length = 2 ∧ (∀ z ∈ ws, z.length ≤ 200) ∧ HasRow W (.slice (some ⟨g, 0, none⟩) 2 2) 2 1 (strs ws) ∧ W0.heap.size ≤ g
  | 6 => ∃ (a : Option Addr) (m cc : Nat) (ls' : List LAt), x = .agg #[.string kind, .string name, .slice a m cc] ∧ LFree c [S, Y] W (.slice a m cc) ls' ∧ SmallX name ls' ∧ ls'.length ≤ k + 1
  | _ => True
theorem P12F.keep {W0 : World} {c S Y k n2 : Nat} {kind name : ByteArray} {bv : Value} {W W' : World} (hb : Below W.heap.size W W') : ∀ (i : Nat) (x : Value), P12F W0 c S Y k n2 kind name bv i x W → P12F W0 c S Y k n2 kind name bv i x W' := by
  intro i x h
  unfold P12F at *
  split <;> simp only at h
  all_goals first | exact h | trivial | (obtain ⟨g, ws, e, h1, h2, h3, h4⟩ := h; exact ⟨g, ws, e, h1, h2, h3.below hb, h4⟩) | (obtain ⟨a, m, cc, ls', e, h1, h2⟩ := h; exact ⟨a, m, cc, ls', e, h1.below hb, h2⟩)
theorem put_free {c S Y n cc k : Nat} {bk bn : ByteArray} {bv : Value} {ls ls' : List LAt} {x : LAt} {a : Option Addr} {W W' : World} (h : NrY c S Y bk bn bv ls W) (hk : ls.length ≤ k) (hS : S < W.heap.size) (hc : c ≤ W.heap.size) (hx : ∀ q, q < W.heap.size → q ∈ [S, Y] ∨ q < c → FarV q x.v x.ws.length) (hxs : x.ws.length ≤ 1048576 ∧ ∀ z ∈ x.ws, z.length ≤ 1048576) (hk9 : k ≤ 1000) (h2 : ls'.length = ls.length + 1) (h3 : ∀ y ∈ ls', y = x ∨ y ∈ ls) (h4 : LinesIn W' (.slice a n cc) ls') (h5 : ∀ q, q < W.heap.size → LinesFar q bv ls → FarV q x.v x.ws.length → LinesFar q (.slice a n cc) ls') : LFree c [S, Y] W' (.slice a n cc) ls' ∧ SmallX bn ls' ∧ ls'.length ≤ k + 1 := by
  have hY := h.lt
  refine ⟨⟨h4, fun q hq => h5 q ?_ (h.free.2.1 q hq) (hx q ?_ (.inl hq)), fun q hq => h5 q (by omega) (h.free.2.2 q hq) (hx q (by omega) (.inr hq))⟩, ⟨h.small.1, by omega, fun y hy => ?_⟩, by omega⟩
  · simp only [List.mem_cons, List.not_mem_nil, or_false] at hq; rcases hq with rfl | rfl <;> omega
  · simp only [List.mem_cons, List.not_mem_nil, or_false] at hq; rcases hq with rfl | rfl <;> omega
  · rcases h3 y hy with rfl | hy
    · exact hxs
    · exact h.small.2.2 y hy
set_option maxHeartbeats 2000000 in
set_option maxRecDepth 10000 in
theorem regionP12 {Q : Exit → Act → World → Prop} {a : Act} {W0 w1 : World} {B p S Y k n2 kk bn bc : Nat} {ba : Option Addr} {v : Value} {cs : List BAt} {kind name : ByteArray} {ls : List LAt} (hS : NrS B p w1 S kk v cs W0) (hY0 : NrY w1.heap.size S Y kind name (.slice ba bn bc) ls W0) (hfY : BlocksFar Y v cs) (hk : k < 10) (hk2 : (200 : Int) - (k : Int) = (n2 : Int)) (hls : ls.length ≤ k) (h7 : a.eval (.tmp 7) = (.pointer (some ⟨Y, 0, none⟩))) (h8 : a.eval (.tmp 8) = .int .i64 (k : Int)) (hsz : a.tmps.size = 44)
    (hQ : ∀ u qa m cc ls' W' a', a' = putS a [31, 32, 33, 34, 35, 36, 37] u → NrS B p w1 S kk v cs W' → NrY w1.heap.size S Y kind name (.slice qa m cc) ls' W' → ls'.length ≤ k + 1 → Q .normal a' W') : (Code.region 12 opsp12.toArray true).wp Tryz.prog Q a W0 := by
  have hnd : ([31, 32, 33, 34, 35, 36, 37] : List Nat).Nodup := by decide
  have hn2 : n2 ≤ 200 := by omega
  have hwr : IntKind.i64.wrap (n2 : Int) = (n2 : Int) := by rw [IntKind.wrap_i64]; omega
  refine wp_region_invS0 [31, 32, 33, 34, 35, 36, 37] (P12F W0 w1.heap.size S Y k n2 kind name (.slice ba bn bc)) (fun _ W => NrS B p w1 S kk v cs W ∧ NrY w1.heap.size S Y kind name (.slice ba bn bc) ls W ∧ Below W0.heap.size W0 W) 7 8 [0, 1, 2, 3, 4, 5, 6, 7] (by kernel_rfl) rfl (by decide) (by kernel_rfl) ?h1 ⟨hS.below (Below.refl _ _).drew, hY0.below (Below.refl _ _).drew, (Below.refl _ _).drew⟩ ?hall
  case h1 =>
    intro i x W hi
    unfold P12F
    split <;> first | omega | trivial
  refine AllInv.consQ (o := opp12_0) [] (by kernel_rfl) (by decide) (by kernel_rfl) rfl ?o0 (AllInv.consQ (o := opp12_1) [] (by kernel_rfl) (by decide) (by kernel_rfl) rfl ?o1 (AllInv.consQ (o := opp12_2) [1] (by kernel_rfl) (by decide) (by kernel_rfl) rfl ?o2 (AllInv.consQ (o := opp12_3) [2] (by kernel_rfl) (by decide) (by kernel_rfl) rfl ?o3 (AllInv.consQ (o := opp12_4) [3] (by kernel_rfl) (by decide) (by kernel_rfl) rfl ?o4 (AllInv.consQ (o := opp12_5) [4] (by kernel_rfl) (by decide) (by kernel_rfl) rfl ?o5 (AllInv.consQ (o := opp12_6) [0, 5, 3] (by kernel_rfl) (by decide) (by kernel_rfl) rfl ?o6 (AllInv.lastQ (o := opp12_7) [6, 6, 0, 1, 2, 3, 4, 5, 6] (by kernel_rfl) (by kernel_rfl) rfl ?o7)))))))
  case o0 =>
    rintro Q' L _ W h0L hpre ⟨v, rfl, hv, hJ, hY, hb⟩ K hK
    have g0 := cell_of_block hY.box 0
    have g1 := cell_of_block hY.box 1
    have g2 := cell_of_block hY.box 2
    simp only [List.getElem?_toArray, List.getElem?_cons_zero, List.getElem?_cons_succ] at g0 g1 g2
    have r7 := (eval_out (v := v) (show 7 ∉ ([31, 32, 33, 34, 35, 36, 37] : List Nat) by decide)).trans h7
    have he : execOp (putS a [31, 32, 33, 34, 35, 36, 37] v).eval opp12_0 = execOp (Act.eval ⟨#[undef], []⟩) ⟨some 0, .load 46 (.const (.pointer (some ⟨Y, 0, none⟩))), 0, "", #[], none⟩ := by simp only [execOp, eval_const, opp12_0, r7]
    refine Lid.mk ?_
    unfold Oper.wp
    rw [he]
    clear he
    go_simp
    exact hK.out _ _ (InvG.next (W := W) hv 0 (.agg #[.string kind, .string name, (.slice ba bn bc)]) (put_in 0 hnd rfl) (fun _ _ h => h) rfl ⟨hJ, hY, hb⟩)
  case o1 =>
    rintro Q' L _ W h0L hpre ⟨v, rfl, hv, hJ, hY, hb⟩ K hK
    have r8 := (eval_out (v := v) (show 8 ∉ ([31, 32, 33, 34, 35, 36, 37] : List Nat) by decide)).trans h8
    have he : execOp (putS a [31, 32, 33, 34, 35, 36, 37] v).eval opp12_1 = execOp (Act.eval ⟨#[undef], []⟩) ⟨some 0, .move (.const (.int .i64 (k : Int))), 0, "", #[], none⟩ := by simp only [execOp, eval_const, opp12_1, r8]
    refine Lid.mk ?_
    unfold Oper.wp
    rw [he]
    clear he
    go_simp
    exact hK.out _ _ (InvG.next (W := W) hv 1 (.int .i64 (k : Int)) (put_in 1 hnd rfl) (fun _ _ h => h) rfl ⟨hJ, hY, hb⟩)
  case o2 =>
    rintro Q' L _ W h0L hpre ⟨v, rfl, hv, hJ, hY, hb⟩ K hK
    have r32 : (putS a [31, 32, 33, 34, 35, 36, 37] v).eval (.tmp 32) = _ := (eval_in 1 hnd rfl (by omega)).trans (hv 1 (hpre 1 (by simp)))
    refine Lid.mk ?_
    unfold Oper.wp
    simp only [execOp, opp12_2, eval_const, r32]
    go_simp
    exact hK.out _ _ (InvG.next (W := W) hv 2 (.int .i64 (n2 : Int)) (put_in 2 hnd rfl) (fun _ _ h => h) rfl ⟨hJ, hY, hb⟩)
  case o3 =>
    rintro Q' L _ W h0L hpre ⟨v, rfl, hv, hJ, hY, hb⟩ K hK
    have r33 : (putS a [31, 32, 33, 34, 35, 36, 37] v).eval (.tmp 33) = _ := (eval_in 2 hnd rfl (by omega)).trans (hv 2 (hpre 2 (by simp)))
    have HM := l1Many_any ⟨#[116]⟩ n2 W (by decide) (by omega)
    have he : execOp (putS a [31, 32, 33, 34, 35, 36, 37] v).eval opp12_3 = execOp (Act.eval ⟨#[undef], []⟩) ⟨some 0, .call { callee := .value (.func 80), args := #[.const (.string ⟨#[116]⟩), .const (.int .i64 (n2 : Int))], argTypes := #[9, 3] }, 0, "", #[], none⟩ := by simp only [execOp, eval_const, opp12_3, resolve, eval_func, List.map_toArray, List.map_cons, List.map_nil, r33]
    refine Lid.mk ?_
    unfold Oper.wp
    rw [he]
    clear he
    go_simp
    refine HM.mono ?_
    rintro e W' ⟨tt, htt, rfl, rfl⟩
    have hts : tt.size ≤ 200 := by rw [htt]; show 1 * n2 ≤ 200; omega
    exact hK.out _ _ (InvG.next (W := W') hv 3 (.string tt) (put_in 3 hnd rfl) (fun _ _ h => h) ⟨tt, rfl, hts⟩ ⟨hJ, hY, hb⟩)
  case o4 =>
    rintro Q' L _ W h0L hpre ⟨v, rfl, hv, hJ, hY, hb⟩ K hK
    obtain ⟨ss, e3, hss⟩ := hv 3 (hpre 3 (by simp))
    have r34 : (putS a [31, 32, 33, 34, 35, 36, 37] v).eval (.tmp 34) = _ := (eval_in 3 hnd rfl (by omega)).trans e3
    have bx := (Below.refl W.heap.size W).alloc (Nat.le_refl _) (.cells #[.string ss, .string ⟨#[49]⟩] 9)
    have hrow := own_has (World.ownsRow_lit (base := W.heap.size) (e := 9) (size := 1) W #[.string ss, .string ⟨#[49]⟩] 2 (Nat.le_refl _) (by decide) rfl)
    have he : execOp (putS a [31, 32, 33, 34, 35, 36, 37] v).eval opp12_4 = execOp (Act.eval ⟨#[undef], []⟩) ⟨some 0, .buildSlice 52 2 #[(0, .const (.string ss)), (1, .const (.string ⟨#[49]⟩))], 0, "", #[], none⟩ := by simp only [execOp, eval_const, opp12_4, r34, List.map_toArray, List.map_cons, List.map_nil]
    refine Lid.mk ?_
    unfold Oper.wp
    rw [he]
    clear he
    go_simp
    exact hK.out _ _ (InvG.next (W := W) hv 4 (.slice (some ⟨W.heap.size, 0, none⟩) 2 2) (put_in 4 hnd rfl) (P12F.keep bx) ⟨W.heap.size, [ss.data.toList, [49]], rfl, rfl, by intro z hz; simp only [List.mem_cons, List.not_mem_nil, or_false] at hz; rcases hz with rfl | rfl; simpa using hss; decide, by simpa [strs] using hrow, hb.size⟩ ⟨hJ.below bx, hY.below bx, hb.trans (bx.mono hb.size)⟩)
  case o5 =>
    rintro Q' L _ W h0L hpre ⟨v, rfl, hv, hJ, hY, hb⟩ K hK
    obtain ⟨g, ws, e4, w1l, w2l, w3l, w4l⟩ := hv 4 (hpre 4 (by simp))
    have r35 : (putS a [31, 32, 33, 34, 35, 36, 37] v).eval (.tmp 35) = _ := (eval_in 4 hnd rfl (by omega)).trans e4
    have he : execOp (putS a [31, 32, 33, 34, 35, 36, 37] v).eval opp12_5 = execOp (Act.eval ⟨#[undef], []⟩) ⟨some 0, .build 115 #[(0, .const (.string ⟨#[108, 105, 107, 101]⟩)), (1, .const (.slice (some ⟨g, 0, none⟩) 2 2))], 0, "", #[], none⟩ := by simp only [execOp, eval_const, opp12_5, r35, List.map_toArray, List.map_cons, List.map_nil]
    refine Lid.mk ?_
    unfold Oper.wp
    rw [he]
    clear he
    go_simp
    exact hK.out _ _ (InvG.next (W := W) hv 5 (.agg #[.string ⟨#[108, 105, 107, 101]⟩, .slice (some ⟨g, 0, none⟩) 2 2]) (put_in 5 hnd rfl) (fun _ _ h => h) ⟨g, ws, rfl, w1l, w2l, w3l, w4l⟩ ⟨hJ, hY, hb⟩)
  case o6 =>
    rintro Q' L _ W h0L hpre ⟨v, rfl, hv, hJ, hY, hb⟩ K hK
    obtain ⟨g, ws, e5, w1l, w2l, w3l, w4l⟩ := hv 5 (hpre 5 (by simp))
    have r31 : (putS a [31, 32, 33, 34, 35, 36, 37] v).eval (.tmp 31) = _ := (eval_in 0 hnd rfl (by omega)).trans (hv 0 (hpre 0 (by simp)))
    have r36 : (putS a [31, 32, 33, 34, 35, 36, 37] v).eval (.tmp 36) = _ := (eval_in 5 hnd rfl (by omega)).trans e5
    have HW := l3PutLine_all (b := ⟨kind, name, (.slice ba bn bc), ls⟩) (x := ⟨⟨#[108, 105, 107, 101]⟩, .slice (some ⟨g, 0, none⟩) 2 2, ws⟩) (w := W) hY.free.1 hY.small.2 (by unfold LineIn; rw [w1l]; exact w3l) (by rw [w1l]; decide)
    have hz1 := hJ.gr.size
    have hSl := hJ.Slt
    have he : execOp (putS a [31, 32, 33, 34, 35, 36, 37] v).eval opp12_6 = execOp (Act.eval ⟨#[undef], []⟩) ⟨some 0, .call { callee := .value (.func 86), args := #[.const (.agg #[.string kind, .string name, (.slice ba bn bc)]), .const (.agg #[.string ⟨#[108, 105, 107, 101]⟩, .slice (some ⟨g, 0, none⟩) 2 2])], argTypes := #[46, 115] }, 0, "", #[], none⟩ := by simp only [execOp, eval_const, opp12_6, resolve, eval_func, List.map_toArray, List.map_cons, List.map_nil, r31, r36]
    refine Lid.mk ?_
    unfold Oper.wp
    rw [he]
    clear he
    go_simp
    refine HW.mono ?_
    rintro e W' ⟨qa, m, cc, ls', rfl, ⟨hq1, hq2, hq3, hq4, hq5⟩, bx⟩
    have hfr := put_free (k := k) hY hls hSl hz1 (x := ⟨⟨#[108, 105, 107, 101]⟩, .slice (some ⟨g, 0, none⟩) 2 2, ws⟩) (fun q hq hq2 => by
      right
      intro b off m' c' e
      injection e with e
      injection e with e
      injection e with e1
      subst e1
      have hz0 := hS.gr.size
      have hSl0 := hS.Slt
      have hYl0 := hY0.lt
      simp only [List.mem_cons, List.not_mem_nil, or_false] at hq2
      omega) ⟨by simp only; rw [w1l]; decide, fun z hz => Nat.le_trans (w2l z hz) (by decide)⟩ (by omega) hq2 hq3 hq4 hq5
    exact hK.out _ _ (InvG.next (W := W) hv 6 (.agg #[.string kind, .string name, .slice qa m cc]) (put_in 6 hnd rfl) (P12F.keep bx) ⟨qa, m, cc, ls', rfl, hfr⟩ ⟨hJ.below bx, hY.below bx, hb.trans (bx.mono hb.size)⟩)
  case o7 =>
    rintro Q' L _ W h0L hpre ⟨v, rfl, hv, hJ, hY, hb⟩ K hK
    obtain ⟨qa, m, cc, ls2, e6, hfr, hsm, hl2⟩ := hv 6 (hpre 6 (by simp))
    have r37 : (putS a [31, 32, 33, 34, 35, 36, 37] v).eval (.tmp 37) = _ := (eval_in 6 hnd rfl (by omega)).trans e6
    have r7 := (eval_out (v := v) (show 7 ∉ ([31, 32, 33, 34, 35, 36, 37] : List Nat) by decide)).trans h7
    have g0 := cell_of_block hY.box 0
    have g1 := cell_of_block hY.box 1
    have g2 := cell_of_block hY.box 2
    simp only [List.getElem?_toArray, List.getElem?_cons_zero, List.getElem?_cons_succ] at g0 g1 g2
    have f0 := frozen_of_block hY.box 0
    have f1 := frozen_of_block hY.box 1
    have f2 := frozen_of_block hY.box 2
    have HT := box_turn (k' := kind) (n' := name) (v' := .slice qa m cc) hY.box
    have HN := hid_in (hJ.turn HT.2 hY.cY hY.YS hfY)
    have HM := hid_in (hY.put HT.2 HT.1 hfr hsm)
    have he : execOp (putS a [31, 32, 33, 34, 35, 36, 37] v).eval opp12_7 = execOp (Act.eval ⟨#[undef], []⟩) ⟨some 0, .store 46 (.const (.pointer (some ⟨Y, 0, none⟩))) (.const (.agg #[.string kind, .string name, .slice qa m cc])), 0, "", #[], none⟩ := by simp only [execOp, eval_const, opp12_7, r7, r37]
    refine Lid.mk ?_
    unfold Oper.wp
    rw [he]
    clear he
    go_simp
    exact hK.out _ _ (NoPanic.normal (hQ _ qa m cc ls2 _ _ rfl HN.out HM.out hl2))
end Go.Proofs.YtpdahhnjhggocaaGreatDoor
namespace Go.Proofs.YtpdahhnjhggocaaGreatDoor
open Go.RowKit
def LoopP (B p kk : Nat) (w3 : World) (S n : Nat) (i : Value) (W : World) : Prop := ∃ (j : Nat) (v : Value) (cs : List BAt), i = .int .i64 (j : Int) ∧ j ≤ n ∧ cs.length ≤ j ∧ NrS B p w3 S kk v cs W
def LoopPk (B p kk : Nat) (w3 : World) (S Y : Nat) (kind name : ByteArray) (v : Value) (cs : List BAt) (i : Value) (W : World) : Prop := ∃ (k : Nat) (ba : Option Addr) (bn bc : Nat) (ls : List LAt), i = .int .i64 (k : Int) ∧ k ≤ 10 ∧ ls.length ≤ k ∧ NrS B p w3 S kk v cs W ∧ NrY w3.heap.size S Y kind name (.slice ba bn bc) ls W
theorem blocksFresh' {w : World} {q : Nat} {v : Value} {bs : List BAt} (h : BlocksIn w v bs) (hq : w.heap.size ≤ q) : BlocksFar q v bs := ⟨FarV.of_lt h.1 (by decide) hq, fun x hx => LinesIn.fresh (h.2 x hx) hq⟩
set_option maxHeartbeats 8000000 in
set_option maxRecDepth 100000 in
theorem drawPrint_any (a : Option Addr) (len cap : Nat) (w : World) (hc : Code w.heap.size w a len cap) : Calls Tryz.prog 24 #[.slice a len cap] w fun e w' => DrawnOne w e w' := by
  have b0 := (Below.refl w.heap.size w).alloc (Nat.le_refl _) (.cells #[.slice none 0 0] 25)
  have z1 := alloc_here w (.cells #[.slice none 0 0] 25)
  have s1 : (w.alloc (.cells #[.slice none 0 0] 25)).heap.size = w.heap.size + 1 := by simp
  have hc1 := hc.below b0 (show w.heap.size ≤ w.heap.size + 1 by omega)
  generalize hw1 : w.alloc (.cells #[.slice none 0 0] 25) = w1 at *
  have HO := l1Open_any (w.heap.size + 1) a len cap w1 (by omega) hc1.1 hc1.2.1 hc1.2.2.1 hc1.2.2.2
  rw [s1] at HO
  have HCC := hid_in hc
  clear hc hc1
  go_enter Tryz.func24, Tryz.ntmps24
  go_wp2_with (go_at_call 42; (try rw [hw1]); refine HO.mono ?_)
  rintro e w2 ⟨rfl, h2, b2⟩
  have HP := pick_any _ _ 0 20 w2 h2 (by omega) (by omega) (by omega)
  have hz2 := b2.size
  have z2 := (b2.block w.heap.size (by omega)).trans z1
  have b02 := b0.trans (b2.mono (by omega))
  have hpl := h2.lt
  clear HO h2 hw1
  go_wp2_with (go_at_call 44; refine HP.mono ?_)
  rintro e w3 ⟨y, hy, rfl, hr3, hg3⟩
  have hg3z := hg3.size
  have z3 := (hg3.block w.heap.size (by omega) (by intro e; have := Option.some.inj e; omega)).trans z2
  have b03 := belowGrown b02 b02.size (show w.heap.size ≤ w.heap.size + 1 by omega) hg3
  clear HP hg3 z2 b02
  by_cases hy0 : y = 0
  · subst hy0
    have bA := (Below.refl w3.heap.size w3).alloc (Nat.le_refl _) (.cells #[.slice none 0 0] 25)
    have zA := alloc_here w3 (.cells #[.slice none 0 0] 25)
    have HS4 : NrS (w.heap.size + 1) (w.heap.size + 1) w3 w3.heap.size 1 (.slice none 0 0) [] (w3.alloc (.cells #[.slice none 0 0] 25)) := ⟨hr3.below bA, grown_of_below bA _, zA, Nat.le_refl _, by omega, ⟨⟨rfl, none, 0, rfl, ⟨Nat.le_refl _, Nat.zero_le _⟩, .inl rfl⟩, by simp⟩, fun q _ => ⟨.inl rfl, by simp⟩, ⟨.inl rfl, by simp⟩, by simp⟩
    have HP := pick_any _ _ 1 12 _ HS4.rd (by omega) (by omega) (by omega)
    have HS4H := hid_in HS4
    clear HS4 hr3 zA bA HCC
    generalize hw4 : w3.alloc (.cells #[.slice none 0 0] 25) = w4 at *
    have ew4 := hid_in hw4
    clear hw4
    go_wp2_with (go_at_call 44; (try rw [ew4.out]); refine HP.mono ?_)
    rintro e w5 ⟨x, hx, rfl, hr5, hg5⟩
    have HS5 := hid_in (HS4H.out.grown hg5 hr5)
    have hn1 : (1 : Int) + (x : Int) = ((1 + x : Nat) : Int) := by omega
    clear HP HS4H hr5 hg5 ew4
    generalize hnn : 1 + x = n at *
    have hn12 : n ≤ 12 := by omega
    clear hnn hx
    go_wp2
    go_loopw [6] (fun i wr => LoopP (w.heap.size + 1) (w.heap.size + 1) (1 + 1) w3 w3.heap.size n i wr) (fun i _ => n - (intOf i).toNat)
    case atStart => exact ⟨0, .slice none 0 0, [], rfl, by omega, by simp, HS5.out⟩
    case round =>
      obtain ⟨j, v, cs, rfl, hjn, hcl, HS⟩ := hrel
      obtain ⟨xa, xc, rfl⟩ := HS.bin.1.form
      clear HS5
      by_cases hlt : j < n
      · have hlt' : ((j : Int) < (n : Int)) := by omega
        obtain ⟨ds, hds, HD⟩ : ∃ ds : ByteArray, ds.size ≤ 7 ∧ ∀ q : Gr wr, Calls Tryz.prog 85 #[.int .i64 (j : Int)] q.u fun e w' => e = .returned (.string ds) ∧ Below q.u.heap.size q.u w' := dec_drawn wr j (by omega)
        have HD0 := HD ⟨wr, Below.refl _ _⟩
        have hcat : ¬ 9223372036854775807 < 1 + ds.size := by omega
        have HSH := hid_in HS
        clear HS HD
        go_wp2_with (go_at_call 85; refine HD0.mono ?_)
        first | rintro e w6 rfl b6 | rintro e w6 ⟨rfl, b6⟩
        have HS6 := HSH.out.below b6
        have bx := (Below.refl w6.heap.size w6).alloc (Nat.le_refl _) (.cells #[.string ⟨#[115, 101, 114, 118, 105, 99, 101]⟩, .string (⟨#[115]⟩ ++ ds), .slice none 0 0] 46)
        have xb := alloc_here w6 (.cells #[.string ⟨#[115, 101, 114, 118, 105, 99, 101]⟩, .string (⟨#[115]⟩ ++ ds), .slice none 0 0] 46)
        have HFY := hid_in (blocksFresh' HS6.bin (Nat.le_refl w6.heap.size))
        have hS6 := HS6.Slt
        have hW6 := HS6.gr.size
        have HS7 := HS6.below bx
        have hnm : (⟨#[115]⟩ ++ ds : ByteArray).size ≤ 1048576 := by rw [ByteArray.size_append]; show 1 + ds.size ≤ 1048576; omega
        have HK := hid_in (show LoopPk (w.heap.size + 1) (w.heap.size + 1) (1 + 1) w3 w3.heap.size w6.heap.size ⟨#[115, 101, 114, 118, 105, 99, 101]⟩ (⟨#[115]⟩ ++ ds) (.slice xa cs.length xc) cs (.int .i64 0) (w6.alloc (.cells #[.string ⟨#[115, 101, 114, 118, 105, 99, 101]⟩, .string (⟨#[115]⟩ ++ ds), .slice none 0 0] 46)) from ⟨0, none, 0, 0, [], rfl, by omega, by simp, HS7, ⟨xb, by omega, by omega, ⟨⟨⟨rfl, none, 0, rfl, ⟨Nat.le_refl _, Nat.zero_le _⟩, .inl rfl⟩, by simp⟩, fun q _ => ⟨.inl rfl, by simp⟩, fun q _ => ⟨.inl rfl, by simp⟩⟩, ⟨hnm, by simp, by simp⟩⟩⟩)
        clear HD0 HSH HS6 HS7 b6 bx xb hnm
        obtain ⟨wo, hwo⟩ : ∃ wo, wo = wr := ⟨_, rfl⟩
        subst hwo
        generalize hnmm : (⟨#[115]⟩ ++ ds : ByteArray) = nm at *
        go_wp2
        go_loopw [8] (fun i wi => LoopPk (w.heap.size + 1) (w.heap.size + 1) (1 + 1) w3 w3.heap.size w6.heap.size ⟨#[115, 101, 114, 118, 105, 99, 101]⟩ nm (.slice xa cs.length xc) cs i wi) (fun i _ => 10 - (intOf i).toNat)
        case atStart => exact HK.out
        case round =>
          clear HK
          obtain ⟨k, ba, bn, bc, ls, rfl, hk10, hlk, HS, HY⟩ := hrel
          by_cases hk : k < 10
          · have hk' : ((k : Int) < 10) := by omega
            have HSH := hid_in HS
            have HYH := hid_in HY
            clear HS HY
            go_upto_region 12 with fail
            refine regionP12 (B := w.heap.size + 1) (n2 := 200 - k) HSH.out HYH.out HFY.out hk (by omega) hlk (by kernel_rfl) (by kernel_rfl) (by kernel_rfl) ?_
            intro u qa m cc ls' W' a' ha' HS' HY' hl'
            simp only [putS, setS, List.setIfInBounds_toArray, List.set_cons_zero, List.set_cons_succ] at ha'
            subst ha'
            have HI := hid_in (show LoopPk (w.heap.size + 1) (w.heap.size + 1) (1 + 1) w3 w3.heap.size w6.heap.size ⟨#[115, 101, 114, 118, 105, 99, 101]⟩ nm (.slice xa cs.length xc) cs (.int .i64 ((k + 1 : Nat) : Int)) W' from ⟨k + 1, qa, m, cc, ls', rfl, by omega, hl', HS', HY'⟩)
            clear HSH HYH HS' HY'
            go_wp2
            go_roundw
            case rel => exact HI.out
            case measure => simp [intOf]; omega
          · have hk' : ¬ ((k : Int) < 10) := by omega
            have hSl := HS.Slt
            have hYl := HY.lt
            have q0 := cell_of_block HS.box 0
            have y0 := cell_of_block HY.box 0
            have y1 := cell_of_block HY.box 1
            have y2 := cell_of_block HY.box 2
            simp only [List.getElem?_toArray, List.getElem?_cons_zero, List.getElem?_cons_succ] at q0 y0 y1 y2
            have hWz := HS.gr.size
            have HPB := l3PutBlock_all (x := ⟨⟨#[115, 101, 114, 118, 105, 99, 101]⟩, nm, .slice ba bn bc, ls⟩) HS.bin (by omega) HY.free.1
            have HSH := hid_in HS
            have HYH := hid_in HY
            clear HS HY
            simp only at HPB
            go_wp2_with (go_at_call 54; refine HPB.mono ?_)
            rintro e w7 ⟨a7, n7, c7, bs7, rfl, h7, b7⟩
            have HS7 := HSH.out.below b7
            have hbox := HS7.box
            have HPT := hid_in (HS7.put (v' := .slice a7 n7 c7) (bs' := bs7) h7.2.2.2.1 (fun q hq => h7.2.2.2.2 q (by omega) (HSH.out.abv q hq) (HYH.out.free.2.2 q hq)) (h7.2.2.2.2 _ hSl HSH.out.farS (HYH.out.free.2.1 _ (by simp))) (fun y hy => by
              rcases h7.2.2.1 y hy with rfl | hy
              · exact HYH.out.small
              · exact HSH.out.small y hy))
            have hlen7 := h7.2.1
            clear HPB h7 HS7 HSH HYH q0 y0 y1 y2
            go_wp2_with (with_reducible show wpList _ _ _ (Oper.mk _ (Op.store _ (Operand.tmp 4) _) _ _ _ _ :: _) _ _; refine wpList_store_row rfl 25 _ _ rfl w3.heap.size #[.slice a7 n7 c7] ?_ ?_ 25 _ hbox ?_ ?_ ?_ ?_)
            all_goals (first | rfl | kernel_rfl | exact sheet_size | skip)
            go_roundw
            case rel => exact ⟨j + 1, .slice a7 n7 c7, bs7, by go_num, by omega, by omega, HPT.out⟩
            case measure => simp [intOf]; omega
      · obtain rfl : j = n := by omega
        have hlt' : ¬ ((j : Int) < (j : Int)) := by omega
        have q0 := cell_of_block HS.box 0
        simp only [List.getElem?_toArray, List.getElem?_cons_zero] at q0
        have z6 := (HS.gr.block w.heap.size (by omega) (by intro e; have := Option.some.inj e; omega)).trans z3
        have gs := grown_setRow wr w.heap.size #[.slice xa cs.length xc]
        have hb6 := belowGrown b03 b03.size (show w.heap.size ≤ w.heap.size + 1 by omega) HS.gr
        have HOK := hid_in (show DrawnOne w (.returned (.agg #[.slice xa cs.length xc])) (wr.setRow w.heap.size #[.slice xa cs.length xc]) from ⟨xa, cs.length, xc, cs, rfl, ⟨HS.bin.far (HS.abv _ (by omega)) gs, ⟨by omega, HS.small⟩⟩, belowGrown hb6 hb6.size (Nat.le_refl _) gs⟩)
        clear HS gs hb6
        generalize cs.length = nc at *
        go_wp2_with (with_reducible show wpList _ _ _ (Oper.mk _ (Op.store _ (Operand.tmp 2) _) _ _ _ _ :: _) _ _; refine wpList_store_row rfl 25 _ _ rfl w.heap.size #[.slice xa nc xc] ?_ ?_ 25 _ z6 ?_ ?_ ?_ ?_)
        all_goals (first | rfl | kernel_rfl | exact sheet_size | skip)
        have z7 : (wr.setRow w.heap.size #[.slice xa nc xc]).heap[w.heap.size]? = some (.cells #[.slice xa nc xc] 25 (0, 0)) := setRow_heap _ _ _ _ _ _ z6
        have y0 := cell_of_block z7 0
        simp only [List.getElem?_toArray, List.getElem?_cons_zero] at y0
        generalize wr.setRow w.heap.size #[.slice xa nc xc] = W at HOK y0 z7 ⊢
        exact bodyPost_ret (v := .agg #[.slice xa nc xc]) (by simp [results, Tryz.results24, go_sem, y0]) rfl HOK.out
  · have hyn : ((y : Int) == 0) = false := by rw [beq_eq_false_iff_ne]; omega
    have HV := drawValid_any a len cap w3 (HCC.out.below b03 (by omega))
    clear HCC hr3
    go_wp2_with (go_at_call 87; refine HV.mono ?_)
    rintro e w6 ⟨a6, n6, c6, bs6, rfl, ⟨hin6, hs6, hf6⟩, b6⟩
    have z6 := (b6.block w.heap.size (by omega)).trans z3
    have gs := grown_setRow w6 w.heap.size #[.slice a6 n6 c6]
    have b06 := b03.trans (b6.mono b03.size)
    have HOK := hid_in (show DrawnOne w (.returned (.agg #[.slice a6 n6 c6])) (w6.setRow w.heap.size #[.slice a6 n6 c6]) from ⟨a6, n6, c6, bs6, rfl, ⟨hin6.far (hf6 _ (by omega)) gs, hs6⟩, belowGrown b06 b06.size (Nat.le_refl _) gs⟩)
    clear HV hin6 hs6 hf6 gs b6 b06
    go_wp2_with (with_reducible show wpList _ _ _ (Oper.mk _ (Op.store _ (Operand.tmp 2) _) _ _ _ _ :: _) _ _; refine wpList_store_row rfl 25 _ _ rfl w.heap.size #[.slice a6 n6 c6] ?_ ?_ 25 _ z6 ?_ ?_ ?_ ?_)
    all_goals (first | rfl | kernel_rfl | exact sheet_size | skip)
    have z7 : (w6.setRow w.heap.size #[.slice a6 n6 c6]).heap[w.heap.size]? = some (.cells #[.slice a6 n6 c6] 25 (0, 0)) := setRow_heap _ _ _ _ _ _ z6
    have y0 := cell_of_block z7 0
    simp only [List.getElem?_toArray, List.getElem?_cons_zero] at y0
    generalize w6.setRow w.heap.size #[.slice a6 n6 c6] = W at HOK y0 z7 ⊢
    exact bodyPost_ret (v := .agg #[.slice a6 n6 c6]) (by simp [results, Tryz.results24, go_sem, y0]) rfl HOK.out
end Go.Proofs.YtpdahhnjhggocaaGreatDoor
namespace Go.Proofs.YtpdahhnjhggocaaGreatDoor
open Go.RowKit
theorem fnPrint_all (a : Option Addr) (len cap : Nat) (w : World) (hc : len ≤ 1048576 → Code w.heap.size w a len cap) (hlen : len ≤ 9223372036854775807) (hst : StdAt w) : Calls Tryz.prog 5 #[.slice a len cap] w fun e w' => e = .returned (.bool true) ∧ Below w.heap.size w w' :=
  fnPrint_any a len cap w hlen hst (fun h => drawPrint_any a len cap w (hc h))
end Go.Proofs.YtpdahhnjhggocaaGreatDoor
