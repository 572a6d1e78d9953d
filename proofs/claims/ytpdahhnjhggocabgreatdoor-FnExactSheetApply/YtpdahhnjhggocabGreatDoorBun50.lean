import Derived.Test.YtpdahhnjhggocabGreatDoorBun49
import Derived.Test.YtpdahhnjhggocabGreatDoorBun45
import Derived.Test.YtpdahhnjhggocabGreatDoorBun33
import Derived.Test.YtpdahhnjhggocabGreatDoorBun29
import Derived.Defers
import Derived.Recover
namespace Go.Proofs.YtpdahhnjhggocabGreatDoor
open Go.RowKit
theorem take_any {B M : Nat} {p : Int} {w : World} {v : Value} {bs : List BAt} {c : CAt} (hm : Mk B M p w v bs) (hok : SheetOk (bs.map BAt.plain)) (ht : TabOk c.plain) (hc : LinesIn w c.v c.ls) (hcs : LinesSmall c.ls) (hcn : c.name.size ≤ 1048576) (hbud : ∀ b ∈ bs, b.ls.length + c.ls.length ≤ 1048576) : Calls Tryz.prog 164 #[.pointer (some ⟨M, 0, none⟩), c.step] w fun e w' => MkPost B M p (oneS (bs.map BAt.plain) c.plain) w e w' := by
 obtain ⟨what, ck, cn, cy, cv, cl⟩ := c
 have hc : LinesIn w cv cl := hc
 have hcs : LinesSmall cl := hcs
 have hcn : cn.size ≤ 1048576 := hcn
 have hbud : ∀ b ∈ bs, b.ls.length + cl.length ≤ 1048576 := hbud
 obtain ⟨la, lc, rfl⟩ := hc.1.form
 unfold CAt.plain at ht ⊢
 unfold CAt.step
 simp only at *
 rcases ht with ⟨h1, h2, h3⟩ | ⟨h1, h2⟩ | ⟨h1, h2, h3⟩ | ⟨h1, h2⟩
 ·obtain rfl : what = 1 := h1
  obtain rfl : cy = ⟨#[]⟩ := h2
  obtain rfl : cl = [] := List.map_eq_nil_iff.1 h3
  exact take_gone hm hok ck cn
 ·obtain rfl : what = 2 := h1
  obtain rfl : cy = ⟨#[]⟩ := h2
  exact take_new hm hok ck cn rfl hc hcs hcn
 ·obtain rfl : what = 3 := h1
  exact take_set hm hok ck cn cy rfl hc hcs (fun e => h2 (by rw [e]; rfl)) (fun y hy => h3 _ (List.mem_map_of_mem hy)) hbud
 ·obtain rfl : what = 4 := h1
  obtain rfl : cl = [] := List.map_eq_nil_iff.1 h2
  exact take_unset hm hok ck cn cy
theorem catch_idle (a b : Addr) (w : World) : CallsD Tryz.prog 162 #[.pointer (some a), .pointer (some b)] .returning w fun e u' w' => e = .returned (.tuple #[]) ∧ u' = .returning ∧ w' = w := by
 refine callsD_of_wpS Tryz.func162 rfl fun c₀ cs hu => ?_
 apply wpS_seq
 apply wpS_region
 simp [wpOpsS, go_sem, recoverD, hu, Tryz.ntmps162, Exit.thenS]
 refine wpS_of_wp ?_
 change Code.wp _ _ _ { tmps := #[.pointer (some a), .pointer (some b), undef, undef, undef, .nilIface, undef, undef, undef, undef, undef, undef, undef, undef, undef], defers := [] } _
 go_wp2
 exact ⟨rfl, .returning, by cases c₀; simp_all, .tuple #[], by simp [results, Tryz.results162], rfl, rfl, rfl⟩
end Go.Proofs.YtpdahhnjhggocabGreatDoor
namespace Go.Proofs.YtpdahhnjhggocabGreatDoor
open Go.RowKit
theorem ta_stop (p : Value) (W : World) : (Instr.typeAssert (.iface 230 p) 20 230 true).run Tryz.prog W = .ok (.tuple #[p, .bool true]) W := by kernel_rfl
def CatchPost (G C : Nat) (q : Int) (w : World) (e : Ending) (u' : FrameMode) (w' : World) : Prop := e = .returned (.tuple #[]) ∧ u' = .panicking [{ v := .iface 230 (.agg #[.int .i64 q]), recovered := true }] ∧ BlkAt w' G #[.slice none 0 0] 24 ∧ BlkAt w' C #[.int .i64 (2 + q)] 3 ∧ w.heap.size ≤ w'.heap.size ∧ w'.os = w.os ∧ w'.tape = w.tape ∧ w'.output = w.output ∧ ∀ k, k < w.heap.size → k ≠ G → k ≠ C → w'.heap[k]? = w.heap[k]?
set_option maxHeartbeats 4000000 in
set_option maxRecDepth 100000 in
theorem catch_stop {G C : Nat} {q : Int} {w : World} {x : Value} {y : Value} (hG : BlkAt w G #[x] 24) (hC : BlkAt w C #[y] 3) (hGC : G ≠ C) (hq : 0 ≤ q ∧ q ≤ 1048576) : CallsD Tryz.prog 162 #[.pointer (some ⟨G, 0, none⟩), .pointer (some ⟨C, 0, none⟩)] (.panicking [{ v := .iface 230 (.agg #[.int .i64 q]), recovered := false }]) w fun e u' w' => CatchPost G C q w e u' w' := by
 have ta0 := fun W => ta_stop (.agg #[.int .i64 q]) W
 have bX := (Below.refl w.heap.size w).alloc (Nat.le_refl _) (.cells #[.int .i64 q] 230)
 have zX := BlkAt.new w #[.int .i64 q] 230
 have x0 := cell_of_block zX 0
 simp only [List.getElem?_toArray, List.getElem?_cons_zero] at x0
 have hG1 := hG.below bX
 have hC1 := hC.below bX
 have hGl := hG.lt
 have hCl := hC.lt
 refine callsD_of_wpS Tryz.func162 rfl fun c₀ cs hu => ?_
 apply wpS_seq
 apply wpS_region
 simp [wpOpsS, go_sem, recoverD, hu, Tryz.ntmps162, Exit.thenS]
 refine wpS_of_wp ?_
 change Code.wp _ _ _ { tmps := #[.pointer (some ⟨G, 0, none⟩), .pointer (some ⟨C, 0, none⟩), undef, undef, undef, .iface 230 (.agg #[.int .i64 q]), undef, undef, undef, undef, undef, undef, undef, undef, undef], defers := [] } _
 go_upto_region 7 with fail
 have hq1 : 0 ≤ q := hq.1
 have hq2 : q ≤ 1048576 := hq.2
 have hwr : IntKind.i64.wrap (2 + q) = 2 + q := by rw [IntKind.wrap_i64]; omega
 have t0 : ∀ r : { W : World // W.cell? ⟨w.heap.size, 0, none⟩ = some (.int .i64 q) }, r.1.cell? ⟨w.heap.size, 0, none⟩ = some (.int .i64 q) := fun r => r.2
 letI I0 : Inhabited { W : World // W.cell? ⟨w.heap.size, 0, none⟩ = some (.int .i64 q) } := ⟨⟨_, x0⟩⟩
 refine wp_region_hold (S := fun W => W.cell? ⟨w.heap.size, 0, none⟩ = some (.int .i64 q)) 5 6 (by kernel_rfl) rfl ?_
 refine wpHold_mask [true, true, true, true, false, false] 2 rfl (by kernel_rfl) x0 ?_
 simp only [maskL_t, maskL_f, maskL_n]
 iterate 4 (refine wpReads_step (fun K hK => ?_); go_simp; refine hK _ ?_; clear hK K)
 refine wpReads_nil ?_
 clear t0
 have bd := bX.drew
 have hG2 : BlkAt (w.alloc (.cells #[.int .i64 q] 230)).drew G #[x] 24 := hG1
 have hC2 : BlkAt (w.alloc (.cells #[.int .i64 q] 230)).drew C #[y] 3 := hC1
 have zX2 : BlkAt (w.alloc (.cells #[.int .i64 q] 230)).drew w.heap.size #[.int .i64 q] 230 := zX
 clear hG1 hC1 zX bX I0 x0
 generalize (w.alloc (.cells #[.int .i64 q] 230)).drew = W1 at *
 refine wpHold_branch (f := 1) (rs := [4]) (by kernel_rfl) (by simp) ?_
 refine AllHold.cons rfl (by decide) (fun K hK => ?_) AllHold.nil
 rw [if_pos (by rfl)]
 refine wp_store_row 24 _ _ rfl G #[.slice none 0 0] rfl rfl 24 _ hG2 (by kernel_rfl) rfl (by first | rfl | kernel_rfl) ?_
 have gz := grown_setRow W1 G #[.slice none 0 0]
 have zX3 := zX2.grown gz (by omega)
 have zC3 := hC2.grown gz (fun e => hGC e.symm)
 have zG3 : BlkAt (W1.setRow G #[.slice none 0 0]) G #[.slice none 0 0] 24 := setRow_heap _ _ _ _ _ _ hG2
 have x3 := cell_of_block zX3 0
 simp only [List.getElem?_toArray, List.getElem?_cons_zero] at x3
 refine hK.out _ _ x3 ?_
 clear hK K
 have c3 := cell_of_block zC3 0
 have f3 := frozen_of_block zC3 0
 simp only [List.getElem?_toArray, List.getElem?_cons_zero] at c3
 have gc := grown_setCell1 (W1.setRow G #[.slice none 0 0]) C 0 (.int .i64 (2 + q))
 have zC4 := zC3.set 0 (.int .i64 (2 + q))
 simp only [List.setIfInBounds_toArray, List.set_cons_zero] at zC4
 have zG4 := zG3.grown gc hGC
 have HCP := hid_in (show CatchPost G C q w (.returned (.tuple #[])) (.panicking [{ v := .iface 230 (.agg #[.int .i64 q]), recovered := true }]) ((W1.setRow G #[.slice none 0 0]).setCell ⟨C, 0, none⟩ (.int .i64 (2 + q))) from ⟨rfl, rfl, zG4, zC4, Nat.le_trans bd.size (Nat.le_trans gz.size gc.size), gc.os.trans (gz.os.trans bd.os), gc.tape.trans (gz.tape.trans bd.tape), gc.output.trans (gz.output.trans bd.output), fun k hk h1 h2 => (gc.block k (Nat.lt_of_lt_of_le hk (Nat.le_trans bd.size gz.size)) (fun e => h2 (Option.some.inj e))).trans ((gz.block k (Nat.lt_of_lt_of_le hk bd.size) (fun e => h1 (Option.some.inj e))).trans (bd.block k hk))⟩)
 clear gz gc zX3 zC3 zG3 zC4 zG4
 generalize W1.setRow G #[.slice none 0 0] = W2 at *
 refine wpHold_last (by kernel_rfl) rfl (by kernel_rfl) ?_
 intro K hK
 go_simp
 refine hK.out _ _ (NoPanic.normal ?_)
 clear hK K
 exact ⟨rfl, _, rfl, .tuple #[], by simp [results, Tryz.results162], HCP.out⟩
end Go.Proofs.YtpdahhnjhggocabGreatDoor
namespace Go.Proofs.YtpdahhnjhggocabGreatDoor
open Go.RowKit
theorem Mk.place {B M : Nat} {p : Int} {w : World} {v : Value} {bs : List BAt} (h : Mk B M p w v bs) (q : Int) : Mk B M q (w.setCell ⟨M, 1, none⟩ (.int .i64 q)) v bs ∧ Below B w (w.setCell ⟨M, 1, none⟩ (.int .i64 q)) := by
 have hg := grown_setCell1 w M 1 (.int .i64 q)
 have hb : Below B w (w.setCell ⟨M, 1, none⟩ (.int .i64 q)) := belowGrown (Below.refl B w) h.size h.low hg
 have h1 := h.box.set 1 (.int .i64 q)
 simp only [List.setIfInBounds_toArray, List.set_cons_zero, List.set_cons_succ] at h1
 exact ⟨⟨h1, h.low, Mem.box h.own h.box (brows_types (by decide) (by decide) (by decide)) hg, h.std.below hb⟩, hb⟩
def McJ (w : World) (M : Nat) (cs : List CAt) (G : List PBlock × Int) (i : Value) (W : World) : Prop := ∃ (k : Nat) (v : Value) (bs : List BAt) (p : Int), i = .int .i64 (k : Int) ∧ k ≤ cs.length ∧ Below w.heap.size w W ∧ BlkAt W (w.heap.size + 1) #[.slice none 0 0] 24 ∧ BlkAt W (w.heap.size + 2) #[.int .i64 0] 3 ∧ Mk (w.heap.size + 3) M p W v bs ∧ SheetOk (bs.map BAt.plain) ∧ applyGo k (bs.map BAt.plain) ((cs.drop k).map CAt.plain) = G ∧ tot ((cs.drop k).map CAt.plain) ≤ 1048576 ∧ ∀ b ∈ bs, b.ls.length + tot ((cs.drop k).map CAt.plain) ≤ 1048576
theorem oneS_tab {A : List PBlock} {c : PChange} (h : ¬ TabOk c) : oneS A c = none := by
 unfold oneS
 split
 ·rw [if_neg (fun k => h (.inr (.inl ⟨k.1, k.2.1⟩)))]
 ·rw [if_neg (fun k => h (.inl ⟨k.1, k.2.1, k.2.2⟩)), if_neg (fun k => h (.inr (.inr (.inl ⟨k.1, k.2.1, k.2.2.1⟩)))), if_neg (fun k => h (.inr (.inr (.inr ⟨k.1, k.2.1⟩))))]
theorem stop_post {w u u' : World} {k : Int} {e : Ending} {md : FrameMode} {G : List PBlock × Int} (hb : Below w.heap.size w u) (h : CatchPost (w.heap.size + 1) (w.heap.size + 2) k u e md u') (hG : G = ([], 2 + k)) : ApPost G w (.returned (.tuple #[.agg #[.slice none 0 0], .int .i64 (2 + k)])) u' := by
 obtain ⟨_, _, _, _, h1, h2, h3, h4, h5⟩ := h
 refine ⟨.slice none 0 0, [], by rw [hG], by rw [hG]; rfl, blocks_none _ _, ⟨h2.trans hb.os, h3.trans hb.tape, h4.trans hb.output, Nat.le_trans hb.size h1, fun q hq => ?_⟩⟩
 exact (h5 q (Nat.lt_of_lt_of_le hq hb.size) (by omega) (by omega)).trans (hb.block q hq)
set_option maxHeartbeats 16000000 in
set_option maxRecDepth 100000 in
theorem makeChanges_any {v lv : Value} {bs : List BAt} {cs : List CAt} {w : World} (hbs : BlocksIn w v bs) (hok : SheetOk (bs.map BAt.plain)) (hst : StdAt w) (hcs : ChangesIn w lv cs) (hcl : cs.length ≤ 1048576) (hcm : ∀ c ∈ cs, c.name.size ≤ 1048576 ∧ LinesSmall c.ls) (htot : tot (cs.map CAt.plain) ≤ 1048576) (hbud : ∀ b ∈ bs, b.ls.length + tot (cs.map CAt.plain) ≤ 1048576) : Calls Tryz.prog 98 #[.agg #[v], lv] w fun e w' => ApPost (applyGo 0 (bs.map BAt.plain) (cs.map CAt.plain)) w e w' := by
 obtain ⟨va, vc, rfl⟩ := hbs.1.form
 obtain ⟨la, lc, rfl⟩ := hcs.1.form
 have hmf : ∀ (fn : Fn) (first cap : Array Value) (w : World), (Instr.makeFunc fn first cap).run Tryz.prog w = .ok (.func fn first cap) w := fun _ _ _ _ => rfl
 obtain ⟨hsz, hy0, hy1, hy2⟩ := alloc3 (w := w) (o1 := .cells #[.slice va bs.length vc] 24) (o2 := .cells #[.slice none 0 0] 24) (o3 := .cells #[.int .i64 0] 3)
 have b0 : Below w.heap.size w (((w.alloc (.cells #[.slice va bs.length vc] 24)).alloc (.cells #[.slice none 0 0] 24)).alloc (.cells #[.int .i64 0] 3)) := (((Below.refl w.heap.size w).alloc (Nat.le_refl _) _).alloc (by simp) _).alloc (by simp; omega) _
 have HC := copyBlocks_any (hbs.below b0) (ok_small hok)
 have HST := hid_in hst
 have HCS := hid_in hcs
 have HCM := hid_in hcm
 have HOK := hid_in hok
 have HTOT := hid_in htot
 have HBUD := hid_in hbud
 obtain ⟨R, hR⟩ : ∃ R, applyGo 0 (bs.map BAt.plain) (cs.map CAt.plain) = R := ⟨_, rfl⟩
 have HRR := hid_in hR
 rw [hR]
 clear hR hbs hok hst hcs hcm htot hbud
 generalize hnb : bs.length = nb at *
 clear hnb
 generalize hnl : cs.length = nl at *
 have enl := hid_in hnl
 clear hnl
 generalize hW0 : ((w.alloc (.cells #[.slice va nb vc] 24)).alloc (.cells #[.slice none 0 0] 24)).alloc (.cells #[.int .i64 0] 3) = W0 at *
 have EW := hid_in hW0
 have HSZ := hid_in hsz
 clear hW0 hsz
 have z0 : BlkAt W0 w.heap.size #[.slice va nb vc] 24 := hy0
 have z1 : BlkAt W0 (w.heap.size + 1) #[.slice none 0 0] 24 := hy1
 have z2 : BlkAt W0 (w.heap.size + 2) #[.int .i64 0] 3 := hy2
 have s0 := cell_of_block z0 0
 simp only [List.getElem?_toArray, List.getElem?_cons_zero] at s0
 clear hy0 hy1 hy2
 go_enter_defers Tryz.func98, Tryz.ntmps98
 go_upto_region 1 with fail
 rw [EW.out]
 clear EW
 go_wp2_with (go_at_call 163; refine HC.mono ?_)
 first | rintro e w1 v1 rfl bs1 hp1 o1 b1 | rintro e w1 v1 bs1 rfl hp1 o1 b1 | rintro e w1 ⟨v1, bs1, rfl, hp1, o1, b1⟩
 obtain ⟨a1, c1, rfl, _⟩ := own_form o1.row
 have x2 : Below w1.heap.size w1 (w1.alloc (.cells #[.slice a1 bs1.length c1, .int .i64 0] 233)) := (Below.refl _ _).alloc (Nat.le_refl _) _
 have B1 := b0.trans (b1.mono b0.size)
 have B2 := B1.trans (x2.mono B1.size)
 have hb1z := b1.size
 rw [HSZ.out] at hb1z
 have hMK : Mk (w.heap.size + 3) w1.heap.size 0 (w1.alloc (.cells #[.slice a1 bs1.length c1, .int .i64 0] 233)) (.slice a1 bs1.length c1) bs1 := ⟨BlkAt.new w1 _ _, hb1z, (o1.below x2).mono (by rw [HSZ.out]; omega), ⟨w, HST.out, B2, by omega⟩⟩
 have zG2 := (z1.below b1).below x2
 have zC2 := (z2.below b1).below x2
 have HMK := hid_in hMK
 have HP1 := hid_in hp1
 have HG0 := hid_in (show applyGo 0 (bs1.map BAt.plain) (cs.map CAt.plain) = R from by rw [hp1]; exact HRR.out)
 clear hMK hp1 o1 b1 x2 HC z0 z1 z2 s0 B1 b0
 generalize bs1.length = n1 at *
 go_wp2
 generalize w1.alloc (.cells #[.slice a1 n1 c1, .int .i64 0] 233) = W2 at *
 generalize w1.heap.size = M at *
 go_loopw [16] (fun i wr => McJ w M cs R i wr) (fun i _ => nl - (intOf i).toNat)
 case atStart =>
  exact ⟨0, _, bs1, 0, rfl, Nat.zero_le _, B2, zG2, zC2, HMK.out, by rw [HP1.out]; exact HOK.out, by rw [List.drop_zero]; exact HG0.out, by rw [List.drop_zero]; exact HTOT.out, by rw [List.drop_zero]; exact bud_plain.2 (by rw [HP1.out]; exact bud_plain.1 HBUD.out)⟩
 case round =>
  clear HMK zG2 zC2 B2 HG0
  obtain ⟨k, vv, bsk, pp, rfl, hkn, hb, zG, zC, hmk, hok, hgo, htot, hbud⟩ := hrel
  obtain ⟨a, c, rfl, _⟩ := own_form hmk.own.row
  have hbz := hb.size
  by_cases hlt : k < nl
  ·have hlt' : ((k : Int) < (nl : Int)) := by omega
   have hk0 : (0 : Int) ≤ (k : Int) := by omega
   obtain ⟨E, x, F, ecs, hE⟩ := split1 cs k (by rw [enl.out]; exact hlt)
   obtain ⟨ew, ek, en, ey, ev, els⟩ := x
   have hxm : (⟨ew, ek, en, ey, ev, els⟩ : CAt) ∈ cs := by rw [ecs]; simp
   have hxin : LinesIn w ev els := HCS.out.2 _ hxm
   obtain ⟨ea, ec, rfl⟩ := hxin.1.form
   obtain ⟨lg, loff, rfl, d0, d1, d2, d3, d4⟩ := (show HasRow w (.slice la nl lc) nl 5 ((E ++ (⟨ew, ek, en, ey, .slice ea els.length ec, els⟩ : CAt) :: F).flatMap CAt.cells) from by have := HCS.out.1; rw [enl.out, ecs] at this; exact this).change
   rw [hE] at d0 d1 d2 d3 d4
   have e0 := (hb.cell (World.block_lt_of_cell? w _ d0)).trans d0
   have e1 := (hb.cell (World.block_lt_of_cell? w _ d1)).trans d1
   have e2 := (hb.cell (World.block_lt_of_cell? w _ d2)).trans d2
   have e3 := (hb.cell (World.block_lt_of_cell? w _ d3)).trans d3
   have e4 := (hb.cell (World.block_lt_of_cell? w _ d4)).trans d4
   have hdk : cs.drop k = (⟨ew, ek, en, ey, .slice ea els.length ec, els⟩ : CAt) :: F := by rw [ecs, ← hE, List.drop_left]
   have hdk1 : cs.drop (k + 1) = F := by rw [ecs, show k + 1 = (E ++ [(⟨ew, ek, en, ey, .slice ea els.length ec, els⟩ : CAt)]).length by simp [hE], show E ++ (⟨ew, ek, en, ey, .slice ea els.length ec, els⟩ : CAt) :: F = (E ++ [⟨ew, ek, en, ey, .slice ea els.length ec, els⟩]) ++ F by simp, List.drop_left]
   rw [hdk] at hgo htot hbud
   rw [List.map_cons, applyGo_cons] at hgo
   rw [List.map_cons, tot_cons] at htot hbud
   have hlc : els.length = (CAt.plain ⟨ew, ek, en, ey, .slice ea els.length ec, els⟩).lines.length := by unfold CAt.plain; simp
   have hxcm := HCM.out _ hxm
   have hbx : ∀ b ∈ bsk, b.ls.length + els.length ≤ 1048576 := fun b hb => by have h1 := hbud b hb; rw [← hlc] at h1; omega
   have HOKO := hid_in (fun A' (h : oneS (bsk.map BAt.plain) (CAt.plain ⟨ew, ek, en, ey, .slice ea els.length ec, els⟩) = some A') => oneS_ok hok h)
   have HBO := hid_in (fun A' (h : oneS (bsk.map BAt.plain) (CAt.plain ⟨ew, ek, en, ey, .slice ea els.length ec, els⟩) = some A') => oneS_bud h htot (bud_plain.1 hbud))
   have HTF := hid_in (show tot (F.map CAt.plain) ≤ 1048576 from by omega)
   have HNT := hid_in (show ¬ TabOk (CAt.plain ⟨ew, ek, en, ey, .slice ea els.length ec, els⟩) → oneS (bsk.map BAt.plain) (CAt.plain ⟨ew, ek, en, ey, .slice ea els.length ec, els⟩) = none from fun h => oneS_tab h)
   have bx := (Below.refl wr.heap.size wr).alloc (Nat.le_refl _) (.cells #[.int .i64 ew, .string ek, .string en, .string ey, .slice ea els.length ec] 131)
   have hmk1 := hmk.below bx
   obtain ⟨hmk2, bpl⟩ := hmk1.place (k : Int)
   have gpl := grown_setCell1 (wr.alloc (.cells #[.int .i64 ew, .string ek, .string en, .string ey, .slice ea els.length ec] 131)) M 1 (.int .i64 (k : Int))
   have zX := (BlkAt.new wr #[.int .i64 ew, .string ek, .string en, .string ey, .slice ea els.length ec] 131).grown gpl (by have := hmk.box.lt; omega)
   have c1' := cell_of_block hmk1.box 1
   have f1' := frozen_of_block hmk1.box 1
   have m1 := cell_of_block hmk2.box 1
   have q0 := cell_of_block zX 0
   have q1 := cell_of_block zX 1
   have q2 := cell_of_block zX 2
   have q3 := cell_of_block zX 3
   have q4 := cell_of_block zX 4
   simp only [List.getElem?_toArray, List.getElem?_cons_zero, List.getElem?_cons_succ] at c1' m1 q0 q1 q2 q3 q4
   have bB := (bx.mono (show w.heap.size + 3 ≤ wr.heap.size from hmk.size)).trans bpl
   have hb2 := hb.trans (bB.mono (by omega))
   have zG1 : BlkAt _ (w.heap.size + 1) #[.slice none 0 0] 24 := (bB.block (w.heap.size + 1) (by omega)).trans zG
   have zC1 : BlkAt _ (w.heap.size + 2) #[.int .i64 0] 3 := (bB.block (w.heap.size + 2) (by omega)).trans zC
   have HRD := read_any (M := M) (p := (k : Int)) (c := ⟨ew, ek, en, ey, .slice ea els.length ec, els⟩) m1 (hxin.below hb2) hxcm.2.1
   have HXI := hid_in hxin
   have HXC := hid_in hxcm
   have HBX := hid_in hbx
   have HOKK := hid_in hok
   have HMK2 := hid_in hmk2
   generalize hO : oneS (bsk.map BAt.plain) (CAt.plain ⟨ew, ek, en, ey, .slice ea els.length ec, els⟩) = O at *
   have EO := hid_in hO
   have HGO := hid_in hgo
   have HDK := hid_in hdk1
   clear hO hgo hdk hdk1 htot hbud hlc hok hxin hxm ecs hE d0 d1 d2 d3 d4 hxcm hbx hmk hmk1 hmk2 gpl zX bpl bx
   go_upto_region 7 with fail
   generalize (wr.alloc (.cells #[.int .i64 ew, .string ek, .string en, .string ey, .slice ea els.length ec] 131)).setCell ⟨M, 1, none⟩ (.int .i64 (k : Int)) = W6 at *
   go_wp2_with (go_at_call 165; refine HRD.mono ?_)
   rintro e u1 ⟨b7, h7⟩
   have hz6 := HMK2.out.size
   have bB7 := bB.trans (b7.mono hz6)
   have hb7 := hb2.trans (b7.mono hb2.size)
   rcases h7 with ⟨hto, v7, rfl, hl7⟩ | ⟨hnt, rfl⟩
   ·have HTK := take_any (c := ⟨ew, ek, en, ey, v7, els⟩) (HMK2.out.below b7) HOKK.out hto hl7 HXC.out.2 HXC.out.1 HBX.out
    rw [show CAt.plain ⟨ew, ek, en, ey, v7, els⟩ = CAt.plain ⟨ew, ek, en, ey, .slice ea els.length ec, els⟩ from rfl, EO.out] at HTK
    clear hto hl7 HRD
    go_wp2_with (go_at_call 164; refine HTK.mono ?_)
    rintro e u2 ⟨b8, h8⟩
    have bB8 := bB7.trans b8
    have hb8 := hb7.trans (b8.mono (by omega))
    have zG8 : BlkAt u2 (w.heap.size + 1) #[.slice none 0 0] 24 := (bB8.block (w.heap.size + 1) (by omega)).trans zG
    have zC8 : BlkAt u2 (w.heap.size + 2) #[.int .i64 0] 3 := (bB8.block (w.heap.size + 2) (by omega)).trans zC
    rcases h8 with ⟨hO, rfl⟩ | ⟨A, v', bs', hO, rfl, hpl, hmk'⟩
    ·have HG := hid_in (show R = ([], 2 + (k : Int)) from by rw [← HGO.out, hO])
     clear HTK hO
     go_wp2
     refine leaves_cons (f := 162) (args := #[.pointer (some ⟨w.heap.size + 1, 0, none⟩), .pointer (some ⟨w.heap.size + 1 + 1, 0, none⟩)]) (by simp) (by simp [go_sem]) ?_
     refine (catch_stop (q := (k : Int)) (show BlkAt u2 (w.heap.size + 1) #[.slice none 0 0] 24 from zG8) (show BlkAt u2 (w.heap.size + 1 + 1) #[.int .i64 0] 3 from zC8) (by omega) ⟨by omega, by omega⟩).mono ?_
     rintro e md w'' hcp
     have hcp2 := hcp
     obtain ⟨rfl, rfl, y1, y2, _⟩ := hcp
     have HP := hid_in (stop_post (w := w) hb8 hcp2 HG.out)
     have v1 := cell_of_block y1 0
     have v2 := cell_of_block y2 0
     simp only [List.getElem?_toArray, List.getElem?_cons_zero] at v1 v2
     clear hcp2 y1 y2
     refine ⟨_, ?_, HP.out⟩
     simp [results, Tryz.results98, go_sem, v1, v2]
    ·have HJ := hid_in (show McJ w M cs R (.int .i64 ((k + 1 : Nat) : Int)) u2 from ⟨k + 1, v', bs', (k : Int), rfl, by rw [enl.out]; omega, hb8, zG8, zC8, hmk', by rw [hpl]; exact HOKO.out A hO, by rw [hpl, HDK.out]; have := HGO.out; rw [hO] at this; exact this, by rw [HDK.out]; exact HTF.out, by rw [HDK.out]; exact bud_plain.2 (by rw [hpl]; exact HBO.out A hO)⟩)
     clear HTK hO hmk' hpl zG8 zC8
     go_wp2
     go_roundw
     case rel => exact HJ.out
     case measure => simp [intOf]; omega
   ·have HG := hid_in (show R = ([], 2 + (k : Int)) from by
     have h9 := HNT.out hnt
     rw [← HGO.out, h9])
    have zG8 : BlkAt u1 (w.heap.size + 1) #[.slice none 0 0] 24 := (bB7.block (w.heap.size + 1) (by omega)).trans zG
    have zC8 : BlkAt u1 (w.heap.size + 2) #[.int .i64 0] 3 := (bB7.block (w.heap.size + 2) (by omega)).trans zC
    clear HRD hnt
    go_wp2
    refine leaves_cons (f := 162) (args := #[.pointer (some ⟨w.heap.size + 1, 0, none⟩), .pointer (some ⟨w.heap.size + 1 + 1, 0, none⟩)]) (by simp) (by simp [go_sem]) ?_
    refine (catch_stop (q := (k : Int)) (show BlkAt u1 (w.heap.size + 1) #[.slice none 0 0] 24 from zG8) (show BlkAt u1 (w.heap.size + 1 + 1) #[.int .i64 0] 3 from zC8) (by omega) ⟨by omega, by omega⟩).mono ?_
    rintro e md w'' hcp
    have hcp2 := hcp
    obtain ⟨rfl, rfl, y1, y2, _⟩ := hcp
    have HP := hid_in (stop_post (w := w) hb7 hcp2 HG.out)
    have v1 := cell_of_block y1 0
    have v2 := cell_of_block y2 0
    simp only [List.getElem?_toArray, List.getElem?_cons_zero] at v1 v2
    clear hcp2 y1 y2
    refine ⟨_, ?_, HP.out⟩
    simp [results, Tryz.results98, go_sem, v1, v2]
  ·have hlt' : ¬ ((k : Int) < (nl : Int)) := by omega
   have x0 := cell_of_block hmk.box 0
   simp only [List.getElem?_toArray, List.getElem?_cons_zero] at x0
   have HG := hid_in (show R = (bsk.map BAt.plain, 0) from by rw [← hgo, List.drop_of_length_le (by rw [enl.out]; omega)]; rfl)
   have HO := hid_in (hmk.own)
   have r9 : wr.heap[w.heap.size + 1]? = some (.cells #[.slice none 0 0] 24 (0, 0)) := zG
   clear hgo htot hbud hok
   generalize hnk : bsk.length = nk at *
   have gz := grown_setRow wr (w.heap.size + 1) #[.slice a nk c]
   have zG3 : BlkAt (wr.setRow (w.heap.size + 1) #[.slice a nk c]) (w.heap.size + 1) #[.slice a nk c] 24 := setRow_heap _ _ _ _ _ _ r9
   have zC3 : BlkAt (wr.setRow (w.heap.size + 1) #[.slice a nk c]) (w.heap.size + 1 + 1) #[.int .i64 0] 3 := zC.grown gz (by omega)
   have c3 := cell_of_block zC3 0
   have f3 := frozen_of_block zC3 0
   simp only [List.getElem?_toArray, List.getElem?_cons_zero] at c3
   have gc := grown_setCell1 (wr.setRow (w.heap.size + 1) #[.slice a nk c]) (w.heap.size + 1 + 1) 0 (.int .i64 0)
   have zG4 := zG3.grown gc (by omega)
   have zC4 := zC3.set 0 (.int .i64 0)
   simp only [List.setIfInBounds_toArray, List.set_cons_zero] at zC4
   have g1 := cell_of_block zG4 0
   have g2 := cell_of_block zC4 0
   simp only [List.getElem?_toArray, List.getElem?_cons_zero] at g1 g2
   have HP := hid_in (show ApPost R w (.returned (.tuple #[.agg #[.slice a nk c], .int .i64 0])) ((wr.setRow (w.heap.size + 1) #[.slice a nk c]).setCell ⟨w.heap.size + 1 + 1, 0, none⟩ (.int .i64 0)) from ⟨_, bsk, by rw [HG.out], by rw [HG.out], ((Mem.other HO.out gz (by omega)).other gc (by omega)).mono (by omega), belowGrown (belowGrown hb hbz (by omega) gz) (Nat.le_trans hbz gz.size) (by omega) gc⟩)
   clear gz gc zG3 zC3 zG4 zC4 HO hnk
   go_wp2_with (with_reducible show wpList _ _ _ (Oper.mk _ (Op.store _ (Operand.tmp 4) _) _ _ _ _ :: _) _ _; refine wpList_store_row rfl 24 _ _ rfl (w.heap.size + 1) #[.slice a nk c] ?_ ?_ 24 _ r9 ?_ ?_ ?_ ?_)
   any_goals (first | rfl | exact sheet_size)
   refine leaves_cons (f := 162) (args := #[.pointer (some ⟨w.heap.size + 1, 0, none⟩), .pointer (some ⟨w.heap.size + 1 + 1, 0, none⟩)]) (by simp) (by simp [go_sem]) ?_
   refine (catch_idle _ _ _).mono ?_
   rintro e md w'' ⟨rfl, rfl, rfl⟩
   refine ⟨_, ?_, HP.out⟩
   simp [results, Tryz.results98, go_sem, g1, g2]
end Go.Proofs.YtpdahhnjhggocabGreatDoor
namespace Go.Proofs.YtpdahhnjhggocabGreatDoor
open Go.RowKit
set_option maxHeartbeats 16000000 in
set_option maxRecDepth 100000 in
theorem implApply_any {v lv : Value} {bs : List BAt} {cs : List CAt} {w : World} (hbs : BlocksIn w v bs) (hsm : BlocksSmall bs) (hst : StdAt w) (hcs : ChangesIn w lv cs) (hcl : cs.length ≤ 1048576) (hcm : ∀ c ∈ cs, c.name.size ≤ 1048576 ∧ LinesSmall c.ls) (htot : tot (cs.map CAt.plain) ≤ 1048576) (hbud : ∀ b ∈ bs, b.ls.length + tot (cs.map CAt.plain) ≤ 1048576) : Calls Tryz.prog 41 #[.agg #[v], lv] w fun e w' => ApPost (applyS (bs.map BAt.plain) (cs.map CAt.plain)) w e w' := by
 obtain ⟨va, vc, rfl⟩ := hbs.1.form
 obtain ⟨la, lc, rfl⟩ := hcs.1.form
 have G : Below w.heap.size w ((w.alloc (.cells #[.slice va bs.length vc] 24)).alloc (.cells #[.slice none 0 0] 24)) := ((Below.refl w.heap.size w).alloc (Nat.le_refl _) _).alloc (by simp) _
 have hz : ((w.alloc (.cells #[.slice va bs.length vc] 24)).alloc (.cells #[.slice none 0 0] 24)).heap.size = w.heap.size + 2 := by simp
 have y0 : BlkAt ((w.alloc (.cells #[.slice va bs.length vc] 24)).alloc (.cells #[.slice none 0 0] 24)) w.heap.size #[.slice va bs.length vc] 24 := by
  show ((w.alloc _).alloc _).heap[w.heap.size]? = _
  rw [alloc_there _ _ _ (by simp), alloc_here]
 have y1 : BlkAt ((w.alloc (.cells #[.slice va bs.length vc] 24)).alloc (.cells #[.slice none 0 0] 24)) (w.heap.size + 1) #[.slice none 0 0] 24 := by
  have := alloc_here (w.alloc (.cells #[.slice va bs.length vc] 24)) (.cells #[.slice none 0 0] 24)
  simpa [BlkAt] using this
 have HV := implValid_any (hbs.below G) hsm (hst.below G)
 have HST := hid_in (hst.below G)
 have HB := hid_in (hbs.below G)
 have HSM := hid_in hsm
 have HCS := hid_in hcs
 have HCM := hid_in hcm
 have HBUD := hid_in hbud
 have HTOT := hid_in htot
 obtain ⟨R, hR⟩ : ∃ R, applyS (bs.map BAt.plain) (cs.map CAt.plain) = R := ⟨_, rfl⟩
 have HRR := hid_in hR
 rw [hR]
 clear hst hR hbs hsm hcs hcm hbud htot
 generalize hVB : sheetB (bs.map BAt.plain) = VB at *
 have EVB := hid_in hVB
 clear hVB
 generalize hnb : bs.length = nb at *
 have enb := hid_in hnb
 clear hnb
 generalize hnl : cs.length = nl at *
 have enl := hid_in hnl
 clear hnl
 generalize hW0 : (w.alloc (.cells #[.slice va nb vc] 24)).alloc (.cells #[.slice none 0 0] 24) = W0 at *
 have EW := hid_in hW0
 have HSZ := hid_in hz
 clear hW0 hz
 have s0 := cell_of_block y0 0
 simp only [List.getElem?_toArray, List.getElem?_cons_zero] at s0
 go_enter Tryz.func41, Tryz.ntmps41
 go_upto_region 1 with fail
 rw [EW.out]
 clear EW
 go_wp2_with (go_at_call 64; refine HV.mono ?_)
 first | rintro e w1 rfl b1 | rintro e w1 ⟨rfl, b1⟩
 have c1 := (b1.cell (World.block_lt_of_cell? W0 _ s0)).trans s0
 have z1 := y1.below b1
 have hsz1 := b1.size
 rw [HSZ.out] at hsz1
 have g1 := G.trans (b1.mono G.size)
 have HB1 := hid_in (HB.out.below b1)
 have HST1 := hid_in (HST.out.below b1)
 clear HV s0 y0 y1 b1 G HB
 cases VB
 ·have HG := hid_in (show R = ([], 1) from by rw [← HRR.out]; unfold applyS; rw [if_neg (by rw [EVB.out]; simp)])
  have r9 : w1.heap[w.heap.size + 1]? = some (.cells #[.slice none 0 0] 24 (0, 0)) := z1
  go_wp2_with (with_reducible show wpList _ _ _ (Oper.mk _ (Op.store _ (Operand.tmp 4) _) _ _ _ _ :: _) _ _; refine wpList_store_row rfl 24 _ _ rfl (w.heap.size + 1) #[.slice none 0 0] ?_ ?_ 24 _ r9 ?_ ?_ ?_ ?_)
  all_goals (first | rfl | kernel_rfl | exact sheet_size | skip)
  have z5 : (w1.setRow (w.heap.size + 1) #[.slice none 0 0]).heap[w.heap.size + 1]? = some (.cells #[.slice none 0 0] 24 (0, 0)) := setRow_heap _ _ _ _ _ _ z1
  have b5 : Below w.heap.size w (w1.setRow (w.heap.size + 1) #[.slice none 0 0]) := ⟨g1.os, g1.tape, g1.output, by rw [setRow_size]; exact g1.size, fun k hk => by rw [setRow_other _ _ _ _ (by omega)]; exact g1.block k hk⟩
  have y5 := cell_of_block z5 0
  simp only [List.getElem?_toArray, List.getElem?_cons_zero] at y5
  generalize w1.setRow (w.heap.size + 1) #[.slice none 0 0] = W at b5 y5 z5 ⊢
  exact bodyPost_ret (v := .tuple #[.agg #[.slice none 0 0], .int .i64 1]) (by simp [results, Tryz.results41, go_sem, y5]) rfl ⟨_, [], by rw [HG.out], by rw [HG.out]; rfl, blocks_none _ _, b5⟩
 ·have HOK := hid_in (show SheetOk (bs.map BAt.plain) from sheetB_iff.1 EVB.out)
  have HR1 := hid_in (show applyGo 0 (bs.map BAt.plain) (cs.map CAt.plain) = R from by rw [← HRR.out]; unfold applyS; rw [if_pos EVB.out])
  have HMC := makeChanges_any HB1.out HOK.out HST1.out (HCS.out.below g1) (by rw [enl.out]; exact hcl) HCM.out HTOT.out HBUD.out
  rw [HR1.out] at HMC
  go_wp2_with (go_at_call 98; refine HMC.mono ?_)
  rintro e w5 ⟨v5, bs5, rfl, hp5, o5, b5⟩
  obtain ⟨a5, c5, rfl, hform⟩ := own_form o5.row
  have z5 := z1.below b5
  have BW := g1.trans (b5.mono g1.size)
  have HP5 := hid_in hp5
  have HO5 := hid_in o5
  clear hp5 o5 b5 hform HMC
  generalize bs5.length = n5 at *
  obtain ⟨R1, R2⟩ := R
  have r9 : w5.heap[w.heap.size + 1]? = some (.cells #[.slice none 0 0] 24 (0, 0)) := z5
  have b9 : Below w.heap.size w (w5.setRow (w.heap.size + 1) #[.slice a5 n5 c5]) := ⟨BW.os, BW.tape, BW.output, by rw [setRow_size]; exact BW.size, fun q hq => by rw [setRow_other _ _ _ _ (by omega)]; exact BW.block q hq⟩
  go_wp2_with (with_reducible show wpList _ _ _ (Oper.mk _ (Op.store _ (Operand.tmp 4) _) _ _ _ _ :: _) _ _; refine wpList_store_row rfl 24 _ _ rfl (w.heap.size + 1) #[.slice a5 n5 c5] ?_ ?_ 24 _ r9 ?_ ?_ ?_ ?_)
  any_goals (first | rfl | exact sheet_size)
  ·first | rfl | kernel_rfl
  have z9 : (w5.setRow (w.heap.size + 1) #[.slice a5 n5 c5]).heap[w.heap.size + 1]? = some (.cells #[.slice a5 n5 c5] 24 (0, 0)) := setRow_heap _ _ _ _ _ _ r9
  have v9 := cell_of_block z9 0
  simp only [List.getElem?_toArray, List.getElem?_cons_zero] at v9
  have O9 := hid_in ((HO5.out.setRow (w.heap.size + 1) (by omega) #[.slice a5 n5 c5]).mono (show w.heap.size ≤ w1.heap.size by omega))
  generalize w5.setRow (w.heap.size + 1) #[.slice a5 n5 c5] = W9 at *
  exact bodyPost_ret (v := .tuple #[.agg #[.slice a5 n5 c5], .int .i64 R2]) (by simp [results, Tryz.results41, go_sem, v9]) rfl ⟨_, bs5, rfl, HP5.out, O9.out, b9⟩
end Go.Proofs.YtpdahhnjhggocabGreatDoor
namespace Go.Proofs.YtpdahhnjhggocabGreatDoor
open Go.RowKit
theorem applyGo_ok : ∀ (cs : List PChange) (i : Nat) (A : List PBlock), SheetOk A → SheetOk (applyGo i A cs).1
 | [], _, _, h => h
 | c :: cs, i, A, h => by
  rw [applyGo_cons]
  cases hO : oneS A c with
  | none => exact ⟨by simp, by simp, by simp⟩
  | some A' => exact applyGo_ok cs (i + 1) A' (oneS_ok h hO)
theorem applyS_ok (A : List PBlock) (cs : List PChange) : SheetOk (applyS A cs).1 := by
 unfold applyS
 by_cases h : sheetB A = true
 ·rw [if_pos h]; exact applyGo_ok cs 0 A (sheetB_iff.1 h)
 ·rw [if_neg h]; exact ⟨by simp, by simp, by simp⟩
theorem changes_same {xs cs : List CAt} (hp : xs.map CAt.plain = cs.map CAt.plain) (h : ∀ c ∈ cs, ChangeSm c) : ∀ c ∈ xs, ChangeSm c := fun c hc => by
 have h1 : c.plain ∈ cs.map CAt.plain := by rw [← hp]; exact List.mem_map_of_mem hc
 obtain ⟨c0, h0, e0⟩ := List.mem_map.1 h1
 have h2 := h c0 h0
 have e1 : c0.name = c.name := congrArg PChange.name e0
 have e2 : c0.ls.map LAt.plain = c.ls.map LAt.plain := congrArg PChange.lines e0
 exact ⟨by rw [← e1]; exact h2.1, h2.2.same e2.symm⟩
theorem perm_a1 (y x : MRow) (G C X : List MRow) : (y :: (G ++ (C ++ (x :: (X ++ []))))).Perm (X ++ (y :: (G ++ (C ++ [x])))) := by
 have : y :: (G ++ (C ++ (x :: (X ++ [])))) = (y :: (G ++ (C ++ [x]))) ++ X := by simp
 rw [this]
 exact List.perm_append_comm
theorem perm_a2 (y x : MRow) (G C : List MRow) : (y :: (G ++ (C ++ [x]))).Perm (C ++ (y :: (G ++ [x]))) := by
 have e1 : y :: (G ++ (C ++ [x])) = ((y :: G) ++ C) ++ [x] := by simp
 have e2 : C ++ (y :: (G ++ [x])) = (C ++ (y :: G)) ++ [x] := by simp
 rw [e1, e2]
 exact List.Perm.append_right _ List.perm_append_comm
theorem apply_spec {us xs : List BAt} {cs ys : List CAt} {xv yv : Value} {W : World} (hx : BlocksIn W xv xs) (hy : ChangesIn W yv ys) (px : xs.map BAt.plain = us.map BAt.plain) (py : ys.map CAt.plain = cs.map CAt.plain) (su : BlocksSmall us) (sc : cs.length ≤ 1048576 ∧ ∀ c ∈ cs, ChangeSm c) (ht : tot (cs.map CAt.plain) ≤ 1048576) (hb : ∀ b ∈ us, b.ls.length + tot (cs.map CAt.plain) ≤ 1048576) : Calls Tryz.prog 39 #[.agg #[xv], yv] W fun e w' => ApPost (applyS (us.map BAt.plain) (cs.map CAt.plain)) W e w' := by
 have hl : ys.length = cs.length := by have := congrArg List.length py; simpa using this
 have h := specApply_any hx (su.same px) hy (by rw [hl]; exact sc.1) (changes_same py sc.2) (by rw [py]; exact ht) (by rw [py]; exact bud_plain.2 (by rw [px]; exact bud_plain.1 hb))
 rw [px, py] at h
 exact h
theorem apply_impl {us xs : List BAt} {cs ys : List CAt} {xv yv : Value} {W : World} (hx : BlocksIn W xv xs) (hst : StdAt W) (hy : ChangesIn W yv ys) (px : xs.map BAt.plain = us.map BAt.plain) (py : ys.map CAt.plain = cs.map CAt.plain) (su : BlocksSmall us) (sc : cs.length ≤ 1048576 ∧ ∀ c ∈ cs, ChangeSm c) (ht : tot (cs.map CAt.plain) ≤ 1048576) (hb : ∀ b ∈ us, b.ls.length + tot (cs.map CAt.plain) ≤ 1048576) : Calls Tryz.prog 41 #[.agg #[xv], yv] W fun e w' => ApPost (applyS (us.map BAt.plain) (cs.map CAt.plain)) W e w' := by
 have hl : ys.length = cs.length := by have := congrArg List.length py; simpa using this
 have h := implApply_any hx (su.same px) hst hy (by rw [hl]; exact sc.1) (changes_same py sc.2) (by rw [py]; exact ht) (by rw [py]; exact bud_plain.2 (by rw [px]; exact bud_plain.1 hb))
 rw [px, py] at h
 exact h
def ToCPost (cs : List CAt) (w : World) (e : Ending) (w' : World) : Prop := ∃ v' ls', e = .returned v' ∧ ls'.map CAt.plain = cs.map CAt.plain ∧ ChangesOwn w.heap.size w' v' ls' ∧ Below w.heap.size w w'
theorem toChanges_p {v : Value} {cs : List CAt} {w : World} (h : ChangesIn w v cs) (hs : cs.length ≤ 1048576 ∧ ∀ c ∈ cs, ChangeSm c) : Calls Tryz.prog 40 #[v] w fun e w' => ToCPost cs w e w' := toChanges_any h hs
theorem eqChs_p {v u : Value} {xs ys : List CAt} {w : World} (h1 : ChangesIn w v xs) (h2 : ChangesIn w u ys) (he : xs.map CAt.plain = ys.map CAt.plain) (hs : ChSmall xs) : Calls Tryz.prog 35 #[v, u] w fun e w' => BoolPost true w e w' := eqChanges_any h1 h2 he hs
def MarkCN (w3 : World) (k : Nat) (v : Value) (cs : List CAt) (N : List MRow) (e : Ending) (w' : World) : Prop := e = .returned (.int .i64 (endC k cs : Int)) ∧ LwJ w3 (crows v (markCs k cs) ++ N) w'
theorem LwJ.markN {w3 W : World} {v : Value} {cs : List CAt} {N : List MRow} (h : LwJ w3 (crows v cs ++ N) W) (hs : ChSmall cs) (k : Nat) (h1 : 1 ≤ k) (h2 : k ≤ 2305843009213693952) : Calls Tryz.prog 36 #[v, .int .i64 (k : Int)] W fun e w' => MarkCN w3 k v cs N e w' := by
 refine (markChanges_own (rest := N) (k := k) h.2.size h.1 hs h1 h2).mono ?_
 rintro e w' ⟨he, hm, hb⟩
 exact ⟨he, hm, h.2.trans hb⟩
set_option maxHeartbeats 16000000 in
set_option maxRecDepth 100000 in
theorem applyLaw_any {uv lv : Value} {us : List BAt} {cs : List CAt} {w : World} (h : BlocksIn w uv us) (hw : BlocksWide us) (h' : ChangesIn w lv cs) (hw' : ChangesWide cs) (hst : StdAt w) : Calls Tryz.prog 10 #[.agg #[uv], lv] w fun e w' => e = .returned (.bool true) ∧ Below w.heap.size w w' := by
 obtain ⟨ua, uc, rfl⟩ := h.1.form
 obtain ⟨la, lc, rfl⟩ := h'.1.form
 have g0 : Below w.heap.size w (w.alloc (.cells #[.slice ua us.length uc] 35)) := (Below.refl _ _).alloc (Nat.le_refl _) _
 have k0 := one_box (w := w) (cs := #[.slice ua us.length uc]) (T := 35) 0
 simp only [List.getElem?_toArray, List.getElem?_cons_zero] at k0
 have HZ := szSheetB_any (left := 1048576) (h.below g0) hw (Nat.le_refl _)
 have IU := hid_in h
 have IC := hid_in h'
 have WC := hid_in hw'
 have ST := hid_in hst
 clear h h' hw hw' hst
 generalize us.length = nu at *
 generalize hnl : cs.length = nl at *
 have enl := hid_in hnl
 clear hnl
 go_enter Tryz.func10, Tryz.ntmps10
 go_wp2_with (go_at_call 18; refine HZ.mono ?_)
 rintro e w1 ⟨rfl | ⟨r, hr, rfl, hs, hsb⟩, b1⟩
 ·clear HZ
  go_wp2
  go_ret
  exact ⟨rfl, g0.trans (b1.mono g0.size)⟩
 have hr0 : ¬ ((r : Int) < 0) := by omega
 have k1 := (b1.cell (World.block_lt_of_cell? _ _ k0)).trans k0
 have g1 := g0.trans (b1.mono g0.size)
 clear HZ k0 b1 g0
 have HS := hid_in hs
 have HSB := hid_in hsb
 clear hs hsb
 have HZ := szChanges_any (left := r) (IC.out.below g1) WC.out hr
 go_wp2_with (go_at_call 38; refine HZ.mono ?_)
 rintro e w2 ⟨rfl | ⟨r2, hr2, rfl, hs2, hst2⟩, b2⟩
 ·clear HZ
  go_wp2
  go_ret
  exact ⟨rfl, g1.trans (b2.mono g1.size)⟩
 have hr0' : ¬ ((r2 : Int) < 0) := by omega
 have k2 := (b2.cell (World.block_lt_of_cell? _ _ k1)).trans k1
 have g2 := g1.trans (b2.mono g1.size)
 have HS2 := hid_in hs2
 have HTOT := hid_in (show tot (cs.map CAt.plain) ≤ 1048576 from by omega)
 have HBUD := hid_in (show ∀ b ∈ us, b.ls.length + tot (cs.map CAt.plain) ≤ 1048576 from fun b hb => by have := HSB.out b hb; omega)
 clear HZ k1 b2 g1 hs2 hst2 HSB
 have HCS := hid_in (show ChSmall cs from ⟨HS2.out.1, fun c hc => (HS2.out.2 c hc).2⟩)
 have HTa := toSheet_p (IU.out.below g2) HS.out
 go_wp2_with (go_at_call 20; refine HTa.mono ?_)
 rintro e wa ⟨va, bsa, rfl, hpa, oa1, ba⟩
 obtain ⟨aa, ca, rfl, _⟩ := own_form oa1.row
 have ga := g2.trans (ba.mono g2.size)
 have ka := (ba.cell (World.block_lt_of_cell? _ _ k2)).trans k2
 have HTb := toChanges_p (IC.out.below ga) HS2.out
 have OA := hid_in oa1
 have HPA := hid_in hpa
 clear HTa oa1 hpa
 generalize bsa.length = na at *
 go_wp2_with (go_at_call 40; refine HTb.mono ?_)
 rintro e wb ⟨vb, csb, rfl, hpb, ob1, bb⟩
 obtain ⟨ab, cb, rfl, _⟩ := own_form ob1.row
 have gb := ga.trans (bb.mono ga.size)
 have kb := (bb.cell (World.block_lt_of_cell? _ _ ka)).trans ka
 have HSP := apply_spec (OA.out.bin.below bb) ob1.cin HPA.out hpb HS.out HS2.out HTOT.out HBUD.out
 obtain ⟨R, hR⟩ : ∃ R, applyS (us.map BAt.plain) (cs.map CAt.plain) = R := ⟨_, rfl⟩
 have ER := hid_in hR
 rw [hR] at HSP
 clear hR HTb hpb ob1 OA HPA ka
 generalize csb.length = nb at *
 go_wp2_with (go_at_call 39; refine HSP.mono ?_)
 rintro e w3 ⟨v3, bs3, rfl, hp3, o3, b3⟩
 obtain ⟨a3, c3, rfl, _⟩ := own_form o3.row
 have x3 := (Below.refl w3.heap.size w3).alloc (Nat.le_refl _) (.cells #[.slice a3 bs3.length c3] 24)
 have g3' := hid_in ((gb.trans (b3.mono gb.size)).trans (x3.mono (gb.trans (b3.mono gb.size)).size))
 have kU := hid_in ((x3.cell (World.block_lt_of_cell? _ _ ((b3.cell (World.block_lt_of_cell? _ _ kb)).trans kb))).trans ((b3.cell (World.block_lt_of_cell? _ _ kb)).trans kb))
 have n3 := one_box (w := w3) (cs := #[.slice a3 bs3.length c3]) (T := 24) 0
 simp only [List.getElem?_toArray, List.getElem?_cons_zero] at n3
 have N3 := hid_in n3
 have OB3 := hid_in (o3.bin.below x3)
 have HP3 := hid_in hp3
 clear n3 o3 hp3 b3 x3 HSP gb kb bb ba ga g2 k2
 generalize bs3.length = m3 at *
 obtain ⟨R1, R2⟩ := R
 generalize hW3 : w3.alloc (.cells #[.slice a3 m3 c3] 24) = W3 at *
 have EW3 := hid_in hW3
 clear hW3
 have hGG : ∃ G3, w3.heap.size = G3 := ⟨_, rfl⟩
 go_upto_region 9 with fail
 rw [EW3.out]
 clear EW3
 obtain ⟨G3, hG3⟩ := hGG
 rw [hG3] at N3 ⊢
 clear hG3
 have HN := hid_in (show ∀ W, Below W3.heap.size W3 W → BlocksIn W (.slice a3 m3 c3) bs3 from fun W hW => OB3.out.below hW)
 have k3 := kU.out
 have HT := toSheet_p (IU.out.below g3'.out) HS.out
 clear OB3
 go_wp2_with (go_at_call 20; refine HT.mono ?_)
 rintro e w4 ⟨v4, bs4, rfl, hp4, o4, b4⟩
 obtain ⟨a4, c4, rfl, _⟩ := own_form o4.row
 have J4 := hid_in (LwJ.add (w3 := W3) (L := []) ⟨Mem.nil _ _, Below.refl _ _⟩ o4 b4)
 have HP4 := hid_in hp4
 have HT2 := toChanges_p (IC.out.below (J4.out.from g3'.out)) HS2.out
 clear HT hp4 o4 b4 k3
 generalize bs4.length = n4 at *
 generalize hW4 : w4.alloc (.cells #[.slice a4 n4 c4] 24) = W4 at *
 go_wp2_with (go_at_call 40; (try rw [hW4]); refine HT2.mono ?_)
 clear hW4
 rintro e w5 ⟨v5, cs5, rfl, hp5, o5, b5⟩
 obtain ⟨a5, c5, rfl, _⟩ := own_form o5.row
 have J5 := hid_in (show LwJ W3 (crows (.slice a5 cs5.length c5) cs5 ++ _) w5 from ⟨Mem.join J4.out.1 o5 b5 J4.out.2.size, J4.out.2.trans (b5.mono J4.out.2.size)⟩)
 have HP5 := hid_in hp5
 have S5 := hid_in (show ChSmall cs5 from ⟨by have := congrArg List.length hp5; simp at this; have := HS2.out.1; omega, fun c hc => (changes_same hp5 HS2.out.2 c hc).2⟩)
 have x5 := J5.out.cell (g := w4.heap.size) (v := .slice a4 n4 c4) (by simp)
 have HV := apply_impl J5.out.right.tail.left.bin (ST.out.below (J5.out.from g3'.out)) (ChangesOwn.cin J5.out.left.1) HP4.out hp5 HS.out HS2.out HTOT.out HBUD.out
 rw [ER.out] at HV
 clear HT2 hp5 o5 b5 J4
 generalize cs5.length = n5 at *
 go_wp2_with (go_at_call 41; refine HV.mono ?_)
 rintro e w6 ⟨v6, bs6, rfl, hp6, o6, b6⟩
 obtain ⟨a6, c6, rfl, _⟩ := own_form o6.row
 have J6 := hid_in (J5.out.add o6 b6)
 have HP6 := hid_in hp6
 have S6 := hid_in (show BlocksSmall bs6 from ok_small (by rw [hp6]; have := applyS_ok (us.map BAt.plain) (cs.map CAt.plain); rw [ER.out] at this; exact this))
 have z6 := J6.out.cell (g := w6.heap.size) (v := .slice a6 bs6.length c6) (by simp)
 have n6 := J6.out.old N3.out
 have HE := eqSheet_p J6.out.tail.left.bin (HN.out _ J6.out.2) (hp6.trans HP3.out.symm) ⟨S6.out.1, fun x hx => (S6.out.2 x hx).2⟩
 have hne : (R2 != R2) = false := by simp
 clear HV hp6 o6 b6 x5 J5
 generalize bs6.length = n6' at *
 generalize hW6 : w6.alloc (.cells #[.slice a6 n6' c6] 24) = W6 at *
 go_wp2_with (go_at_call 14; (try rw [hW6]); refine HE.mono ?_)
 clear hW6
 rintro e w7 ⟨rfl, b7⟩
 have J7 := hid_in (J6.out.below b7)
 clear HE z6 n6 J6 b7
 have k7 := J7.out.old kU.out
 have m7 := J7.out.cell (g := w4.heap.size) (v := .slice a4 n4 c4) (by simp)
 have HT : ∀ W, Below w7.heap.size w7 W → Calls Tryz.prog 20 #[.agg #[.slice ua nu uc]] W fun e w' => ∃ v' bs', e = .returned (.agg #[v']) ∧ bs'.map BAt.plain = us.map BAt.plain ∧ BlocksOwn W.heap.size w' v' bs' ∧ Below w7.heap.size w7 w' := fun W hW => (toSheet_any (IU.out.below ((J7.out.below hW).from g3'.out)) HS.out).mono fun e w' ⟨v', bs', he, hp, ho, hb⟩ => ⟨v', bs', he, hp, ho, hW.trans (hb.mono hW.size)⟩
 have o7 : BlocksIn w7 (.slice a4 n4 c4) bs4 := J7.out.tail.right.right.tail.left.bin
 have s4 := hid_in (HS.out.same HP4.out)
 have HE2 := hid_in (show ∀ (W : World) v' bs', Below w7.heap.size w7 W → bs'.map BAt.plain = us.map BAt.plain → BlocksIn W v' bs' → Calls Tryz.prog 14 #[.agg #[.slice a4 n4 c4], .agg #[v']] W fun e w' => e = .returned (.bool true) ∧ Below w7.heap.size w7 w' from fun W v' bs' hW hp ho => (eqSheet_any (o7.below hW) ho (HP4.out.trans hp.symm) ⟨s4.out.1, fun x hx => (s4.out.2 x hx).2⟩).mono fun e w' ⟨he, hb⟩ => ⟨he, hW.trans (hb.mono hW.size)⟩)
 have hdr : Below w7.heap.size w7 w7.drew := (Below.refl _ _).drew
 have hl7 := World.block_lt_of_cell? _ _ k7
 have hm7 := World.block_lt_of_cell? _ _ m7
 clear o7
 go_upto_region 14 with fail
 go_region_held3 (fun W' => W'.cell? ⟨w.heap.size, 0, none⟩ = some (.slice ua nu uc) ∧ W'.cell? ⟨w4.heap.size, 0, none⟩ = some (.slice a4 n4 c4))
  (first | exact ⟨k7, m7⟩ | exact ⟨(b9.cell hl7).trans k7, (b9.cell hm7).trans m7⟩ | exact ⟨(b8.cell hl7).trans k7, (b8.cell hm7).trans m7⟩)
  (first | (go_at_call 20; refine (HT _ hdr).mono ?_; rintro e w8 ⟨v8, bs8, rfl, hp8, o8, b8⟩; obtain ⟨a8, c8, rfl, _⟩ := own_form o8.row) | (go_at_call 14; refine (HE2.out _ _ bs8 b8 hp8 o8.bin).mono ?_; rintro e w9 ⟨rfl, b9⟩))
 have J9 := hid_in (J7.out.below b9)
 clear HT HE2 J7 k7 m7 hp8 o8 b8 b9 hdr hl7 hm7
 have HT2 := toChanges_p (IC.out.below (J9.out.from g3'.out)) HS2.out
 go_wp2_with (go_at_call 40; refine HT2.mono ?_)
 rintro e w10 ⟨v10, cs10, rfl, hp10, o10, b10⟩
 obtain ⟨a10, c10, rfl, _⟩ := own_form o10.row
 have J10 := hid_in (J9.out.below b10)
 have HE := eqChs_p (ChangesOwn.cin J10.out.tail.right.left.1) o10.cin (HP5.out.trans hp10.symm) S5.out
 clear HT2 J9 b10 o10 hp10
 generalize cs10.length = n10 at *
 go_wp2_with (go_at_call 35; refine HE.mono ?_)
 rintro e w11 ⟨rfl, b11⟩
 have J11 := hid_in ((J10.out.below b11).perm (perm_a1 _ _ _ _ _))
 clear HE J10 b11
 have m11 := J11.out.cell (g := w4.heap.size) (v := .slice a4 n4 c4) (by simp)
 have HM := J11.out.mark1 s4.out
 have hk1 := endB_le bs4 1
 have hk2 := endB_fits s4.out
 generalize hkk : endB 1 bs4 = kk at hk1 hk2
 go_wp2_with (go_at_call 16; refine HM.mono ?_)
 rintro e w12 ⟨rfl, J12⟩
 rw [hkk]
 have J12 := hid_in (J12.right.perm (perm_a2 _ _ _ _))
 clear HM J11 m11 hkk
 have HM := J12.out.markN S5.out kk hk1 hk2
 go_wp2_with (go_at_call 36; refine HM.mono ?_)
 rintro e w13 ⟨rfl, J13⟩
 generalize endC kk cs5 = k3
 have hk3 : ¬ ((k3 : Int) < 0) := by omega
 have J13 := hid_in J13.right
 have z13 := J13.out.cell (g := w6.heap.size) (v := .slice a6 n6' c6) (by simp)
 have n13 := J13.out.old N3.out
 have HE := eqSheet_p J13.out.tail.left.bin (HN.out _ J13.out.2) (HP6.out.trans HP3.out.symm) ⟨S6.out.1, fun x hx => (S6.out.2 x hx).2⟩
 clear HM J12
 go_wp2_with (go_at_call 14; refine HE.mono ?_)
 rintro e w14 ⟨rfl, b14⟩
 have J14 := hid_in (((J13.out.below b14).left (N := _ :: brows _ _) : LwJ W3 (bx w6.heap.size (.slice a6 n6' c6) :: brows (.slice a6 n6' c6) bs6) w14).perm (List.perm_append_comm (l₁ := [_])))
 have z14 := J14.out.cell (g := w6.heap.size) (v := .slice a6 n6' c6) (by simp)
 clear HE J13 z13 n13 b14 hk3
 have HM := J14.out.mark1 S6.out
 go_wp2_with (go_at_call 16; refine HM.mono ?_)
 rintro e w15 ⟨rfl, J15⟩
 have J15 := hid_in J15
 have z15 := J15.out.cell (g := w6.heap.size) (v := .slice a6 n6' c6) (by simp)
 have HH := heldSheet_p J15.out.own S6.out
 have he2 : ¬ ((endB 1 bs6 : Int) < 0) := by omega
 have he3 : ((endB 1 bs6 : Int) != (endB 1 bs6 : Int)) = false := by simp
 clear HM J14 z14
 go_wp2_with (go_at_call 17; refine HH.mono ?_)
 rintro e w16 ⟨rfl, b16⟩
 have J16 := hid_in (J15.out.below b16)
 have k16 := J16.out.old kU.out
 clear HH J15 z15 b16
 have HT := toSheet_p (IU.out.below (J16.out.from g3'.out)) HS.out
 go_wp2_with (go_at_call 20; refine HT.mono ?_)
 rintro e wc ⟨vc, bsc, rfl, hpc, oc1, bc⟩
 obtain ⟨ac, cc, rfl, _⟩ := own_form oc1.row
 have Jc := hid_in (J16.out.below bc)
 have HT2 := toChanges_p (IC.out.below (Jc.out.from g3'.out)) HS2.out
 have OC := hid_in oc1
 have HPC := hid_in hpc
 clear HT J16 oc1 hpc k16
 generalize bsc.length = nc at *
 go_wp2_with (go_at_call 40; refine HT2.mono ?_)
 rintro e wd ⟨vd, csd, rfl, hpd, od1, bd⟩
 obtain ⟨ad, cd, rfl, _⟩ := own_form od1.row
 have Jd := hid_in (Jc.out.below bd)
 have HV := apply_impl (OC.out.bin.below bd) (ST.out.below (Jd.out.from g3'.out)) od1.cin HPC.out hpd HS.out HS2.out HTOT.out HBUD.out
 rw [ER.out] at HV
 clear HT2 Jc bc OC HPC od1 hpd bd
 generalize csd.length = nd at *
 go_wp2_with (go_at_call 41; refine HV.mono ?_)
 rintro e w17 ⟨v17, bs17, rfl, hp17, o17, b17⟩
 obtain ⟨a17, c17, rfl, _⟩ := own_form o17.row
 have x17 := (Below.refl w17.heap.size w17).alloc (Nat.le_refl _) (.cells #[.slice a17 bs17.length c17] 24)
 have J17 := hid_in ((Jd.out.below b17).below x17)
 have z17 := one_box (w := w17) (cs := #[.slice a17 bs17.length c17]) (T := 24) 0
 simp only [List.getElem?_toArray, List.getElem?_cons_zero] at z17
 have n17 := J17.out.old N3.out
 have s17 : BlocksSmall bs17 := ok_small (by rw [hp17]; have := applyS_ok (us.map BAt.plain) (cs.map CAt.plain); rw [ER.out] at this; exact this)
 have HE := eqSheet_p (o17.bin.below x17) (HN.out _ J17.out.2) (hp17.trans HP3.out.symm) ⟨s17.1, fun x hx => (s17.2 x hx).2⟩
 clear HV Jd hp17 o17 b17 x17 s17
 generalize bs17.length = n17' at *
 generalize hW17 : w17.alloc (.cells #[.slice a17 n17' c17] 24) = W17 at *
 go_wp2_with (go_at_call 14; (try rw [hW17]); refine HE.mono ?_)
 clear hW17
 rintro e w18 ⟨rfl, b18⟩
 have J18 := hid_in (J17.out.below b18)
 have z18 := J18.out.cell (g := w6.heap.size) (v := .slice a6 n6' c6) (by simp)
 have HH := heldSheet_p J18.out.own S6.out
 clear HE J17 n17 z17 b18
 go_wp2_with (go_at_call 17; refine HH.mono ?_)
 rintro e w19 ⟨rfl, b19⟩
 have g19 := (J18.out.below b19).from g3'.out
 clear HH J18 z18 b19
 go_wp2
 go_ret
 exact ⟨rfl, g19⟩
end Go.Proofs.YtpdahhnjhggocabGreatDoor
