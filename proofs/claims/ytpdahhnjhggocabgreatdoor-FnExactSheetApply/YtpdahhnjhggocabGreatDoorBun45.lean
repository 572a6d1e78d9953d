import Derived.Test.YtpdahhnjhggocabGreatDoorBun44
import Derived.Test.YtpdahhnjhggocabGreatDoorBun43
import Derived.Test.YtpdahhnjhggocabGreatDoorBun42
import Derived.Test.YtpdahhnjhggocabGreatDoorBun35
import Derived.Test.YtpdahhnjhggocabGreatDoorBun33
import Derived.Test.YtpdahhnjhggocabGreatDoorBun31
import Derived.Test.YtpdahhnjhggocabGreatDoorBun29
namespace Go.Proofs.YtpdahhnjhggocabGreatDoor
open Go.RowKit
theorem ofK_has {ls : List PLine} {key : ByteArray} : (ofK ls key).length = 0 ↔ hasK ls key = false := by
 unfold ofK hasK
 rw [List.length_eq_zero_iff, List.filter_eq_nil_iff, List.any_eq_false]
set_option maxHeartbeats 16000000 in
set_option maxRecDepth 100000 in
theorem one7_unset {B : Nat} {v : Value} {bs : List BAt} {c : CAt} {w : World} (hB : B ≤ w.heap.size) (hr : BRow B w v bs) (hok : SheetOk (bs.map BAt.plain)) (hc : LinesIn w c.v c.ls) (hcf : ∀ q, B ≤ q → LinesFar q c.v c.ls) (hcs : LinesSmall c.ls) (hw : c.what = 4) (hbud : ∀ b ∈ bs, b.ls.length + c.ls.length ≤ 1048576) : Calls Tryz.prog 96 #[.agg #[v], .agg #[.int .i64 c.what, .string c.kind, .string c.name, .string c.key, c.v]] w fun e w' => OnePost B v (oneS (bs.map BAt.plain) c.plain) w e w' := by
 obtain ⟨what, ck, cn, cy, cv, cl⟩ := c
 have hc : LinesIn w cv cl := hc
 have hcf : ∀ q, B ≤ q → LinesFar q cv cl := hcf
 have hcs : LinesSmall cl := hcs
 have HBUD := hid_in (show ∀ b ∈ bs, b.ls.length + cl.length ≤ 1048576 from hbud)
 clear hbud
 obtain ⟨la, lc, rfl⟩ := hc.1.form
 obtain ⟨va, vc, rfl, hvf⟩ := own_form hr.row
 have hw : what = 4 := hw
 subst hw
 obtain ⟨hsz, hy0, hy1, hy2⟩ := alloc3 (w := w) (o1 := (.cells #[.slice va bs.length vc] 24)) (o2 := (.cells #[.int .i64 4, .string ck, .string cn, .string cy, .slice la cl.length lc] 131)) (o3 := (.cells #[.slice none 0 0] 24))
 have b0 : Below w.heap.size w (((w.alloc (.cells #[.slice va bs.length vc] 24)).alloc (.cells #[.int .i64 4, .string ck, .string cn, .string cy, .slice la cl.length lc] 131)).alloc (.cells #[.slice none 0 0] 24)) := (((Below.refl w.heap.size w).alloc (Nat.le_refl _) _).alloc (by simp) _).alloc (by simp; omega) _
 have hlb : bs.length ≤ 60 := by have := hok.1; rw [List.length_map] at this; exact this
 have HF := l3Find_at ck cn (hr.bin.below b0) (by omega)
 unfold HeadAt at HF
 have HR := hid_in (hr.below b0)
 have HC := hid_in (hc.below b0)
 have HCF := hid_in hcf
 have HCS := hid_in hcs
 have HGL := hid_in (show ∀ g, va = some ⟨g, 0, none⟩ → g < w.heap.size ∧ B ≤ g from fun g e => by subst e; exact ⟨(hr.row.lt g rfl).2, (hr.row.lt g rfl).1⟩)
 have HOK := hid_in hok
 have HNG := hid_in (@headAt_neg (bs.map BAt.plain) ck cn)
 have HSM := hid_in (fun h => @headAt_some (bs.map BAt.plain) ck cn h)
 have HOLD := hid_in (show ∀ q, w.heap.size ≤ q → ∀ x ∈ bs, LinesFar q x.v x.ls from fun q hq x hx => lines_old (hr.2 x hx).1 hq)
 obtain ⟨O, hO⟩ : ∃ O, oneS (bs.map BAt.plain) (CAt.plain ⟨4, ck, cn, cy, .slice la cl.length lc, cl⟩) = O := ⟨_, rfl⟩
 have HO := hid_in hO
 rw [hO]
 clear hO hr hc hcf hcs hok
 obtain ⟨P, hP⟩ : ∃ P, bs.map BAt.plain = P := ⟨_, rfl⟩
 rw [hP] at HF HO HNG HSM HOK
 have EP := hid_in hP
 clear hP
 generalize hAT : headAt P ck cn = AT at *
 clear hAT
 generalize hnb : bs.length = nb at *
 have enb := hid_in hnb
 clear hnb
 generalize hnl : cl.length = nl at *
 have enl := hid_in hnl
 clear hnl
 generalize hW0 : ((w.alloc (.cells #[.slice va nb vc] 24)).alloc (.cells #[.int .i64 4, .string ck, .string cn, .string cy, .slice la nl lc] 131)).alloc (.cells #[.slice none 0 0] 24) = W0 at *
 have EW := hid_in hW0
 have HSZ := hid_in hsz
 clear hW0 hsz
 have z0 : BlkAt W0 w.heap.size #[.slice va nb vc] 24 := hy0
 have z1 : BlkAt W0 (w.heap.size + 1) #[.int .i64 4, .string ck, .string cn, .string cy, .slice la nl lc] 131 := hy1
 have z2 : BlkAt W0 (w.heap.size + 2) #[.slice none 0 0] 24 := hy2
 have s0 := cell_of_block z0 0
 have q1 := cell_of_block z1 1
 have q2 := cell_of_block z1 2
 simp only [List.getElem?_toArray, List.getElem?_cons_zero, List.getElem?_cons_succ] at s0 q1 q2
 clear hy0 hy1 hy2
 go_enter Tryz.func96, Tryz.ntmps96
 go_upto_region 1 with fail
 rw [EW.out]
 clear EW
 go_wp2_with (go_at_call 76; refine HF.mono ?_)
 first | rintro e w1 rfl b1 | rintro e w1 ⟨rfl, b1⟩
 have B1 := b0.trans (b1.mono b0.size)
 have hz1 := b1.size
 rw [HSZ.out] at hz1
 have y0 := z0.below b1
 have y1 := z1.below b1
 have y2 := z2.below b1
 have HR1 := hid_in (HR.out.below b1)
 have HC1 := hid_in (HC.out.below b1)
 clear HF z0 z1 z2 s0 q1 q2 b1 b0 HR HC
 have s0 := cell_of_block y0 0
 have q0 := cell_of_block y1 0
 have q1 := cell_of_block y1 1
 have q2 := cell_of_block y1 2
 have q3 := cell_of_block y1 3
 have q4 := cell_of_block y1 4
 simp only [List.getElem?_toArray, List.getElem?_cons_zero, List.getElem?_cons_succ] at s0 q0 q1 q2 q3 q4
 by_cases hneg : AT < 0
 ·obtain rfl : O = none := by rw [← HO.out]; exact unset_none rfl (.inl (HNG.out.1 hneg))
  have r9 : w1.heap[w.heap.size + 1 + 1]? = some (.cells #[.slice none 0 0] 24 (0, 0)) := y2
  have b9 : Below w.heap.size w (w1.setRow (w.heap.size + 2) #[.slice va nb vc]) := ⟨B1.os, B1.tape, B1.output, by rw [setRow_size]; exact B1.size, fun k hk => by rw [setRow_other _ _ _ _ (by omega)]; exact B1.block k hk⟩
  go_wp2_with (with_reducible show wpList _ _ _ (Oper.mk _ (Op.store _ (Operand.tmp 4) _) _ _ _ _ :: _) _ _; refine wpList_store_row rfl 24 _ _ rfl (w.heap.size + 1 + 1) #[.slice va nb vc] ?_ ?_ 24 _ r9 ?_ ?_ ?_ ?_)
  all_goals (first | rfl | kernel_rfl | exact sheet_size | skip)
  have z9 : (w1.setRow (w.heap.size + 2) #[.slice va nb vc]).heap[w.heap.size + 2]? = some (.cells #[.slice va nb vc] 24 (0, 0)) := setRow_heap _ _ _ _ _ _ r9
  have v9 := cell_of_block z9 0
  simp only [List.getElem?_toArray, List.getElem?_cons_zero] at v9
  rw [show w.heap.size + 1 + 1 = w.heap.size + 2 from rfl]
  generalize w1.setRow (w.heap.size + 2) #[.slice va nb vc] = W9 at b9 v9 z9 ⊢
  go_wp2
  exact bodyPost_ret (v := .tuple #[.agg #[.slice va nb vc], .bool false]) (by simp [results, Tryz.results96, go_sem, v9]) rfl ⟨b9.mono hB, KeepR.of_below b9, ⟨_, _, _, rfl⟩⟩
 ·obtain ⟨j, hj, rfl, hfind⟩ := HSM.out (by omega)
  have hj0 : ¬ ((j : Int) < 0) := by omega
  obtain ⟨D, x, T, eb, hD, hhd, hlook⟩ := split_at EP.out hfind
  clear hneg hfind
  by_cases hl : nl = 0
  ·have hcl : cl = [] := List.length_eq_zero_iff.1 (enl.out.trans hl)
   have HCN0 := hid_in hcl
   have hl0 : ¬ ((0 : Int) < (nl : Int)) := by omega
   have hld : decide (0 < nl) = false := decide_eq_false (by omega)
   have HL0 := hid_in hl
   clear hcl hl
   have hjb : j < nb := by have := enb.out; rw [← hD, ← this, eb]; simp
   have hjb' : (j : Int) < (nb : Int) := by omega
   have hj1 : (0 : Int) ≤ (j : Int) := by omega
   obtain ⟨g, rfl⟩ : ∃ g, va = some ⟨g, 0, none⟩ := by
    rcases hvf with e | ⟨g, e⟩
    ·omega
    ·exact ⟨g, e⟩
   clear hvf
   obtain ⟨xk, xn, xv, xl⟩ := x
   have hxin : LinesIn w1 xv xl := (HR1.out.2 ⟨xk, xn, xv, xl⟩ (by rw [eb]; simp)).1
   obtain ⟨xa, xc, rfl⟩ := hxin.1.form
   have HXG := hid_in (show LinesFar g (.slice xa xl.length xc) xl from (HR1.out.2 ⟨xk, xn, .slice xa xl.length xc, xl⟩ (by rw [eb]; simp)).2 g rfl)
   have HXO := hid_in (show ∀ q, w.heap.size ≤ q → LinesFar q (.slice xa xl.length xc) xl from fun q hq => HOLD.out q hq ⟨xk, xn, .slice xa xl.length xc, xl⟩ (by rw [eb]; simp))
   have HXI := hid_in hxin
   clear hxin
   have hgl : g < w.heap.size := (HGL.out g rfl).1
   have HXS := hid_in (show LinesSmall xl from ((ok_small (bs := bs) (by rw [EP.out]; exact HOK.out)).2 ⟨xk, xn, .slice xa xl.length xc, xl⟩ (by rw [eb]; simp)).2)
   obtain ⟨g', off', e', r1, r2, r3⟩ := (show HasRow w1 (.slice (some ⟨g, 0, none⟩) nb vc) nb 3 ((D ++ (⟨xk, xn, .slice xa xl.length xc, xl⟩ : BAt) :: T).flatMap BAt.cells) from by have := HR1.out.bin.1; rw [enb.out, eb] at this; exact this).block
   cases e'
   simp only [Nat.zero_add, hD] at r1 r2 r3
   have EB := hid_in eb
   have ED := hid_in hD
   have HHD := hid_in hhd
   have HLK := hid_in hlook
   clear eb hD hhd hlook
   generalize hnx : xl.length = nx at *
   have enx := hid_in hnx
   clear hnx
   clear HSM HNG
   have HW5 : ∀ W, Below w1.heap.size w1 W → Calls Tryz.prog 69 #[.agg #[.string xk, .string xn, .slice xa nx xc], .string cy] W fun e w' => ∃ v' ls', e = .returned v' ∧ ls'.map LAt.plain = ofK (xl.map LAt.plain) cy ∧ LinesOwn W.heap.size w' v' ls' ∧ LinesSmall ls' ∧ Below W.heap.size W w' := fun W hb => l5Of_any (b := ⟨xk, xn, .slice xa nx xc, xl⟩) cy (HXI.out.below hb) HXS.out
   have hKS5 := hid_in (show ∀ u, Below w1.heap.size w1 u → u.cell? ⟨w.heap.size + 1, 0, none⟩ = some (.int .i64 4) ∧ u.cell? ⟨w.heap.size, 0, none⟩ = some (.slice (some ⟨g, 0, none⟩) nb vc) ∧ u.cell? ⟨w.heap.size + 1, 3, none⟩ = some (.string cy) ∧ u.cell? ⟨g, j * 3, none⟩ = some (.string xk) ∧ u.cell? ⟨g, j * 3 + 1, none⟩ = some (.string xn) ∧ u.cell? ⟨g, j * 3 + 2, none⟩ = some (.slice xa nx xc) from fun u hu => ⟨(hu.cell (World.block_lt_of_cell? w1 _ q0)).trans q0, (hu.cell (World.block_lt_of_cell? w1 _ s0)).trans s0, (hu.cell (World.block_lt_of_cell? w1 _ q3)).trans q3, (hu.cell (World.block_lt_of_cell? w1 _ r1)).trans r1, (hu.cell (World.block_lt_of_cell? w1 _ r2)).trans r2, (hu.cell (World.block_lt_of_cell? w1 _ r3)).trans r3⟩)
   have t0 : ∀ p : { W : World // W.cell? ⟨w.heap.size + 1, 0, none⟩ = some (.int .i64 4) ∧ W.cell? ⟨w.heap.size, 0, none⟩ = some (.slice (some ⟨g, 0, none⟩) nb vc) ∧ W.cell? ⟨w.heap.size + 1, 3, none⟩ = some (.string cy) ∧ W.cell? ⟨g, j * 3, none⟩ = some (.string xk) ∧ W.cell? ⟨g, j * 3 + 1, none⟩ = some (.string xn) ∧ W.cell? ⟨g, j * 3 + 2, none⟩ = some (.slice xa nx xc) }, p.1.cell? ⟨w.heap.size + 1, 0, none⟩ = some (.int .i64 4) := fun p => p.2.1
   have t1 : ∀ p : { W : World // W.cell? ⟨w.heap.size + 1, 0, none⟩ = some (.int .i64 4) ∧ W.cell? ⟨w.heap.size, 0, none⟩ = some (.slice (some ⟨g, 0, none⟩) nb vc) ∧ W.cell? ⟨w.heap.size + 1, 3, none⟩ = some (.string cy) ∧ W.cell? ⟨g, j * 3, none⟩ = some (.string xk) ∧ W.cell? ⟨g, j * 3 + 1, none⟩ = some (.string xn) ∧ W.cell? ⟨g, j * 3 + 2, none⟩ = some (.slice xa nx xc) }, p.1.cell? ⟨w.heap.size, 0, none⟩ = some (.slice (some ⟨g, 0, none⟩) nb vc) := fun p => p.2.2.1
   have t2 : ∀ p : { W : World // W.cell? ⟨w.heap.size + 1, 0, none⟩ = some (.int .i64 4) ∧ W.cell? ⟨w.heap.size, 0, none⟩ = some (.slice (some ⟨g, 0, none⟩) nb vc) ∧ W.cell? ⟨w.heap.size + 1, 3, none⟩ = some (.string cy) ∧ W.cell? ⟨g, j * 3, none⟩ = some (.string xk) ∧ W.cell? ⟨g, j * 3 + 1, none⟩ = some (.string xn) ∧ W.cell? ⟨g, j * 3 + 2, none⟩ = some (.slice xa nx xc) }, p.1.cell? ⟨w.heap.size + 1, 3, none⟩ = some (.string cy) := fun p => p.2.2.2.1
   have t3 : ∀ p : { W : World // W.cell? ⟨w.heap.size + 1, 0, none⟩ = some (.int .i64 4) ∧ W.cell? ⟨w.heap.size, 0, none⟩ = some (.slice (some ⟨g, 0, none⟩) nb vc) ∧ W.cell? ⟨w.heap.size + 1, 3, none⟩ = some (.string cy) ∧ W.cell? ⟨g, j * 3, none⟩ = some (.string xk) ∧ W.cell? ⟨g, j * 3 + 1, none⟩ = some (.string xn) ∧ W.cell? ⟨g, j * 3 + 2, none⟩ = some (.slice xa nx xc) }, p.1.cell? ⟨g, j * 3, none⟩ = some (.string xk) := fun p => p.2.2.2.2.1
   have t4 : ∀ p : { W : World // W.cell? ⟨w.heap.size + 1, 0, none⟩ = some (.int .i64 4) ∧ W.cell? ⟨w.heap.size, 0, none⟩ = some (.slice (some ⟨g, 0, none⟩) nb vc) ∧ W.cell? ⟨w.heap.size + 1, 3, none⟩ = some (.string cy) ∧ W.cell? ⟨g, j * 3, none⟩ = some (.string xk) ∧ W.cell? ⟨g, j * 3 + 1, none⟩ = some (.string xn) ∧ W.cell? ⟨g, j * 3 + 2, none⟩ = some (.slice xa nx xc) }, p.1.cell? ⟨g, j * 3 + 1, none⟩ = some (.string xn) := fun p => p.2.2.2.2.2.1
   have t5 : ∀ p : { W : World // W.cell? ⟨w.heap.size + 1, 0, none⟩ = some (.int .i64 4) ∧ W.cell? ⟨w.heap.size, 0, none⟩ = some (.slice (some ⟨g, 0, none⟩) nb vc) ∧ W.cell? ⟨w.heap.size + 1, 3, none⟩ = some (.string cy) ∧ W.cell? ⟨g, j * 3, none⟩ = some (.string xk) ∧ W.cell? ⟨g, j * 3 + 1, none⟩ = some (.string xn) ∧ W.cell? ⟨g, j * 3 + 2, none⟩ = some (.slice xa nx xc) }, p.1.cell? ⟨g, j * 3 + 2, none⟩ = some (.slice xa nx xc) := fun p => p.2.2.2.2.2.2
   letI I0 : Inhabited { W : World // W.cell? ⟨w.heap.size + 1, 0, none⟩ = some (.int .i64 4) ∧ W.cell? ⟨w.heap.size, 0, none⟩ = some (.slice (some ⟨g, 0, none⟩) nb vc) ∧ W.cell? ⟨w.heap.size + 1, 3, none⟩ = some (.string cy) ∧ W.cell? ⟨g, j * 3, none⟩ = some (.string xk) ∧ W.cell? ⟨g, j * 3 + 1, none⟩ = some (.string xn) ∧ W.cell? ⟨g, j * 3 + 2, none⟩ = some (.slice xa nx xc) } := ⟨⟨w1, q0, s0, q3, r1, r2, r3⟩⟩
   go_upto_region 16 with fail
   refine wp_region_hold (S := fun W => W.cell? ⟨w.heap.size + 1, 0, none⟩ = some (.int .i64 4) ∧ W.cell? ⟨w.heap.size, 0, none⟩ = some (.slice (some ⟨g, 0, none⟩) nb vc) ∧ W.cell? ⟨w.heap.size + 1, 3, none⟩ = some (.string cy) ∧ W.cell? ⟨g, j * 3, none⟩ = some (.string xk) ∧ W.cell? ⟨g, j * 3 + 1, none⟩ = some (.string xn) ∧ W.cell? ⟨g, j * 3 + 2, none⟩ = some (.slice xa nx xc)) 14 15 (by kernel_rfl) rfl ?_
   refine wpHold_mask [true, true, true, true, true, true, true, true, true, true, true, false, false, false, false] 4 rfl (by kernel_rfl) ⟨q0, s0, q3, r1, r2, r3⟩ ?_
   simp only [maskL_t, maskL_f, maskL_n]
   iterate 4 (refine wpReads_step (fun K hK => ?_); go_simp; refine hK _ ?_; clear hK K)
   iterate 7 (refine wpReads_step (fun K hK => ?_); rw [if_pos (by kernel_rfl)]; go_simp; refine hK _ ?_; clear hK K)
   refine wpReads_nil ?_
   clear t0 t1 t2 t3 t4 t5
   refine wpHold_branch (f := 3) (rs := [11]) (by kernel_rfl) (by simp) ?_
   refine AllHold.cons rfl (by decide) (fun K hK => ?_) AllHold.nil
   rw [if_pos (by kernel_rfl)]
   go_simp
   have Bd5 : Below w1.heap.size w1 w1.drew := (Below.refl _ _).drew
   go_wp2_with (go_at_call 69; refine (HW5 _ Bd5).mono ?_; rintro e wq ⟨v5, ls5, rfl, hp5, o5, _, c5⟩)
   have bq := Bd5.trans c5
   refine hK.out _ _ (hKS5.out _ bq) ?_
   clear hK K
   obtain ⟨a6, c6, rfl⟩ := o5.lin.1.form
   have HP5 := hid_in hp5
   clear hp5 o5 c5
   generalize hm5 : ls5.length = m5 at *
   have EM5 := hid_in hm5
   clear hm5
   refine wpHold_branch (f := 2) (rs := [12]) (by kernel_rfl) (by simp) ?_
   refine AllHold.cons rfl (by decide) (fun K hK => ?_) AllHold.nil
   rw [if_pos (by kernel_rfl)]
   go_simp
   refine hK.out _ _ (hKS5.out _ bq) ?_
   clear hK K
   refine wpHold_branch (f := 1) (rs := [13]) (by kernel_rfl) (by simp) ?_
   refine AllHold.cons rfl (by decide) (fun K hK => ?_) AllHold.nil
   rw [if_pos (by kernel_rfl)]
   go_simp
   refine hK.out _ _ (hKS5.out _ bq) ?_
   clear hK K
   refine wpHold_last (by kernel_rfl) rfl (by kernel_rfl) ?_
   intro K hK
   go_simp
   refine hK.out _ _ (NoPanic.normal ?_)
   clear hK K hKS5 HW5 I0 Bd5
   by_cases hm0 : m5 = 0
   ·have hm1 : (m5 == 0) = true := by simpa using hm0
    have hm2 : ((m5 : Int) == 0) = true := by simpa using hm0
    obtain rfl : O = none := by rw [← HO.out]; exact unset_none rfl (.inr (.inr ⟨_, HLK.out, ofK_has.1 (show (ofK (xl.map LAt.plain) cy).length = 0 from by rw [← HP5.out, List.length_map, EM5.out]; exact hm0)⟩))
    have BQ := B1.trans (bq.mono (by omega))
    have zq := y2.below bq
    have s0q := (bq.cell (World.block_lt_of_cell? w1 _ s0)).trans s0
    have r9 : wq.heap[w.heap.size + 1 + 1]? = some (.cells #[.slice none 0 0] 24 (0, 0)) := zq
    have b9 : Below w.heap.size w (wq.setRow (w.heap.size + 2) #[.slice (some ⟨g, 0, none⟩) nb vc]) := ⟨BQ.os, BQ.tape, BQ.output, by rw [setRow_size]; exact BQ.size, fun k hk => by rw [setRow_other _ _ _ _ (by omega)]; exact BQ.block k hk⟩
    go_wp2_with (with_reducible show wpList _ _ _ (Oper.mk _ (Op.store _ (Operand.tmp 4) _) _ _ _ _ :: _) _ _; refine wpList_store_row rfl 24 _ _ rfl (w.heap.size + 1 + 1) #[.slice (some ⟨g, 0, none⟩) nb vc] ?_ ?_ 24 _ r9 ?_ ?_ ?_ ?_)
    all_goals (first | rfl | kernel_rfl | exact sheet_size | skip)
    have z9 : (wq.setRow (w.heap.size + 2) #[.slice (some ⟨g, 0, none⟩) nb vc]).heap[w.heap.size + 2]? = some (.cells #[.slice (some ⟨g, 0, none⟩) nb vc] 24 (0, 0)) := setRow_heap _ _ _ _ _ _ r9
    have v9 := cell_of_block z9 0
    simp only [List.getElem?_toArray, List.getElem?_cons_zero] at v9
    rw [show w.heap.size + 1 + 1 = w.heap.size + 2 from rfl]
    generalize wq.setRow (w.heap.size + 2) #[.slice (some ⟨g, 0, none⟩) nb vc] = W9 at b9 v9 z9 ⊢
    go_wp2
    exact bodyPost_ret (v := .tuple #[.agg #[.slice (some ⟨g, 0, none⟩) nb vc], .bool false]) (by simp [results, Tryz.results96, go_sem, v9]) rfl ⟨b9.mono hB, KeepR.of_below b9, ⟨_, _, _, rfl⟩⟩
   ·have hm1 : (m5 == 0) = false := by simpa using hm0
    have hm2 : ((m5 : Int) == 0) = false := by simpa using hm0
    have HHAS := hid_in (show hasK (xl.map LAt.plain) cy = true from by
     cases hh : hasK (xl.map LAt.plain) cy
     ·exact absurd (ofK_has.2 hh) (by rw [← HP5.out, List.length_map, EM5.out]; exact hm0)
     ·rfl)
    clear hm0
    have HW : ∀ W, Below wq.heap.size wq W → Calls Tryz.prog 160 #[.agg #[.string xk, .string xn, .slice xa nx xc], .string cy] W fun e w' => WithoutPost ⟨xk, xn, .slice xa nx xc, xl⟩ cy W e w' := fun W hb => l7Without_any (b := ⟨xk, xn, .slice xa nx xc, xl⟩) cy (HXI.out.below (bq.trans (hb.mono bq.size))) HXS.out
    have KQ := hid_in (show Kp7 w 4 ck cn cy (.slice la nl lc) (.slice (some ⟨g, 0, none⟩) nb vc) wq from Kp7.below ⟨B1, y0, y1, y2⟩ bq)
    have RQ := hid_in (HR1.out.below bq)
    have CQ := hid_in (HC1.out.below bq)
    have s0q := (bq.cell (World.block_lt_of_cell? w1 _ s0)).trans s0
    have q3q := (bq.cell (World.block_lt_of_cell? w1 _ q3)).trans q3
    have r1q := (bq.cell (World.block_lt_of_cell? w1 _ r1)).trans r1
    have r2q := (bq.cell (World.block_lt_of_cell? w1 _ r2)).trans r2
    have r3q := (bq.cell (World.block_lt_of_cell? w1 _ r3)).trans r3
    have hqz := bq.size
    have hKS := hid_in (show ∀ u, Below wq.heap.size wq u → u.cell? ⟨w.heap.size, 0, none⟩ = some (.slice (some ⟨g, 0, none⟩) nb vc) ∧ u.cell? ⟨w.heap.size + 1, 3, none⟩ = some (.string cy) ∧ u.cell? ⟨g, j * 3, none⟩ = some (.string xk) ∧ u.cell? ⟨g, j * 3 + 1, none⟩ = some (.string xn) ∧ u.cell? ⟨g, j * 3 + 2, none⟩ = some (.slice xa nx xc) from fun u hu => ⟨(hu.cell (World.block_lt_of_cell? wq _ s0q)).trans s0q, (hu.cell (World.block_lt_of_cell? wq _ q3q)).trans q3q, (hu.cell (World.block_lt_of_cell? wq _ r1q)).trans r1q, (hu.cell (World.block_lt_of_cell? wq _ r2q)).trans r2q, (hu.cell (World.block_lt_of_cell? wq _ r3q)).trans r3q⟩)
    have t0 : ∀ p : { W : World // W.cell? ⟨w.heap.size, 0, none⟩ = some (.slice (some ⟨g, 0, none⟩) nb vc) ∧ W.cell? ⟨w.heap.size + 1, 3, none⟩ = some (.string cy) ∧ W.cell? ⟨g, j * 3, none⟩ = some (.string xk) ∧ W.cell? ⟨g, j * 3 + 1, none⟩ = some (.string xn) ∧ W.cell? ⟨g, j * 3 + 2, none⟩ = some (.slice xa nx xc) }, p.1.cell? ⟨w.heap.size, 0, none⟩ = some (.slice (some ⟨g, 0, none⟩) nb vc) := fun p => p.2.1
    have t1 : ∀ p : { W : World // W.cell? ⟨w.heap.size, 0, none⟩ = some (.slice (some ⟨g, 0, none⟩) nb vc) ∧ W.cell? ⟨w.heap.size + 1, 3, none⟩ = some (.string cy) ∧ W.cell? ⟨g, j * 3, none⟩ = some (.string xk) ∧ W.cell? ⟨g, j * 3 + 1, none⟩ = some (.string xn) ∧ W.cell? ⟨g, j * 3 + 2, none⟩ = some (.slice xa nx xc) }, p.1.cell? ⟨w.heap.size + 1, 3, none⟩ = some (.string cy) := fun p => p.2.2.1
    have t2 : ∀ p : { W : World // W.cell? ⟨w.heap.size, 0, none⟩ = some (.slice (some ⟨g, 0, none⟩) nb vc) ∧ W.cell? ⟨w.heap.size + 1, 3, none⟩ = some (.string cy) ∧ W.cell? ⟨g, j * 3, none⟩ = some (.string xk) ∧ W.cell? ⟨g, j * 3 + 1, none⟩ = some (.string xn) ∧ W.cell? ⟨g, j * 3 + 2, none⟩ = some (.slice xa nx xc) }, p.1.cell? ⟨g, j * 3, none⟩ = some (.string xk) := fun p => p.2.2.2.1
    have t3 : ∀ p : { W : World // W.cell? ⟨w.heap.size, 0, none⟩ = some (.slice (some ⟨g, 0, none⟩) nb vc) ∧ W.cell? ⟨w.heap.size + 1, 3, none⟩ = some (.string cy) ∧ W.cell? ⟨g, j * 3, none⟩ = some (.string xk) ∧ W.cell? ⟨g, j * 3 + 1, none⟩ = some (.string xn) ∧ W.cell? ⟨g, j * 3 + 2, none⟩ = some (.slice xa nx xc) }, p.1.cell? ⟨g, j * 3 + 1, none⟩ = some (.string xn) := fun p => p.2.2.2.2.1
    have t4 : ∀ p : { W : World // W.cell? ⟨w.heap.size, 0, none⟩ = some (.slice (some ⟨g, 0, none⟩) nb vc) ∧ W.cell? ⟨w.heap.size + 1, 3, none⟩ = some (.string cy) ∧ W.cell? ⟨g, j * 3, none⟩ = some (.string xk) ∧ W.cell? ⟨g, j * 3 + 1, none⟩ = some (.string xn) ∧ W.cell? ⟨g, j * 3 + 2, none⟩ = some (.slice xa nx xc) }, p.1.cell? ⟨g, j * 3 + 2, none⟩ = some (.slice xa nx xc) := fun p => p.2.2.2.2.2
    letI I1 : Inhabited { W : World // W.cell? ⟨w.heap.size, 0, none⟩ = some (.slice (some ⟨g, 0, none⟩) nb vc) ∧ W.cell? ⟨w.heap.size + 1, 3, none⟩ = some (.string cy) ∧ W.cell? ⟨g, j * 3, none⟩ = some (.string xk) ∧ W.cell? ⟨g, j * 3 + 1, none⟩ = some (.string xn) ∧ W.cell? ⟨g, j * 3 + 2, none⟩ = some (.slice xa nx xc) } := ⟨⟨wq, s0q, q3q, r1q, r2q, r3q⟩⟩
    go_upto_region 18 with fail
    refine wp_region_hold (S := fun W => W.cell? ⟨w.heap.size, 0, none⟩ = some (.slice (some ⟨g, 0, none⟩) nb vc) ∧ W.cell? ⟨w.heap.size + 1, 3, none⟩ = some (.string cy) ∧ W.cell? ⟨g, j * 3, none⟩ = some (.string xk) ∧ W.cell? ⟨g, j * 3 + 1, none⟩ = some (.string xn) ∧ W.cell? ⟨g, j * 3 + 2, none⟩ = some (.slice xa nx xc)) 9 10 (by kernel_rfl) rfl ?_
    refine wpHold_mask [true, true, true, true, true, true, true, false, false, false] 3 rfl (by kernel_rfl) ⟨s0q, q3q, r1q, r2q, r3q⟩ ?_
    simp only [maskL_t, maskL_f, maskL_n]
    iterate 7 (refine wpReads_step (fun K hK => ?_); go_simp; refine hK _ ?_; clear hK K)
    refine wpReads_nil ?_
    clear t0 t1 t2 t3 t4
    refine wpHold_branch (f := 2) (rs := [7, 8]) (by kernel_rfl) (by simp) ?_
    refine AllHold.cons rfl (by decide) (fun K hK => ?wayA) (AllHold.cons rfl (by decide) (fun K hK => ?wayB) AllHold.nil)
    case' wayA =>
     go_simp
     have Bd : Below wq.heap.size wq wq.drew := (Below.refl _ _).drew
     go_wp2_with (go_at_call 160; refine (HW _ Bd).mono ?_; rintro e u1 ⟨a5, n5, c5, rfl, o5, c1⟩)
     have b1 := Bd.trans c1
     refine hK.out _ _ (hKS.out _ b1) ?_
     clear hK K
     have hn5 : n5 = (xl.filter (notKey cy)).length := by obtain ⟨_, _, e, _⟩ := own_form o5; cases e; rfl
     refine wpHold_branch (f := 1) (rs := [8]) (by kernel_rfl) (by simp) ?_
     refine AllHold.cons rfl (by decide) (fun K hK => ?_) AllHold.nil
     have EN5 := hid_in hn5
     have O5 := hid_in o5
     clear hn5 o5
     go_simp
     have bY := (Below.refl u1.heap.size u1).alloc (Nat.le_refl _) (.cells #[.string ⟨#[]⟩, .string ⟨#[]⟩, .slice none 0 0] 64)
     have zY := BlkAt.new u1 #[.string ⟨#[]⟩, .string ⟨#[]⟩, .slice none 0 0] 64
     have b2 := b1.trans (bY.mono b1.size)
     refine hK.out _ _ (hKS.out _ b2) ?_
     clear hK K
     have hz1 := b1.size
     have HFY := hid_in (And.intro (without_far O5.out (show g < wq.drew.heap.size by show g < wq.heap.size; omega) HXG.out) (And.intro (without_far O5.out (show w.heap.size + 2 < wq.drew.heap.size by show w.heap.size + 2 < wq.heap.size; omega) (HXO.out _ (by omega))) (lines_old (without_in (xv := .slice xa nx xc) O5.out (HXI.out.below (bq.trans (b1.mono bq.size)))) (Nat.le_refl u1.heap.size))))
     have HLY := hid_in ((without_in (xv := .slice xa nx xc) O5.out (HXI.out.below (bq.trans (b1.mono bq.size)))).below bY)
     have hYz : w.heap.size + 3 ≤ u1.heap.size := by omega
     have KQ2 := hid_in (KQ.out.below b2)
     have RQ2 := hid_in (RQ.out.below b2)
     have CQ2 := hid_in (CQ.out.below b2)
     generalize hYY : u1.heap.size = Y at *
     clear hYY
     generalize hUY : u1.alloc (.cells #[.string ⟨#[]⟩, .string ⟨#[]⟩, .slice none 0 0] 64) = UY at *
     clear hUY bY c1 b1 Bd O5 HW hKS b2 hqz I1 KQ RQ CQ s0q q3q r1q r2q r3q bq
    case' wayB =>
     go_simp
     have bY : Below wq.heap.size wq (wq.alloc (.cells #[.string ⟨#[]⟩, .string ⟨#[]⟩, .slice none 0 0] 64)).drew := ((Below.refl wq.heap.size wq).alloc (Nat.le_refl _) (.cells #[.string ⟨#[]⟩, .string ⟨#[]⟩, .slice none 0 0] 64)).drew
     have zY0 : BlkAt (wq.alloc (.cells #[.string ⟨#[]⟩, .string ⟨#[]⟩, .slice none 0 0] 64)).drew wq.heap.size #[.string ⟨#[]⟩, .string ⟨#[]⟩, .slice none 0 0] 64 := BlkAt.new wq _ _
     have hsY : (wq.alloc (.cells #[.string ⟨#[]⟩, .string ⟨#[]⟩, .slice none 0 0] 64)).drew.heap.size = wq.heap.size + 1 := by show (wq.alloc _).heap.size = _; simp
     have HSY := hid_in hsY
     clear hsY
     refine hK.out _ _ (hKS.out _ bY) ?_
     clear hK K
     refine wpHold_branch (f := 1) (rs := [7]) (by kernel_rfl) (by simp) ?_
     refine AllHold.cons rfl (by decide) (fun K hK => ?_) AllHold.nil
     go_simp
     go_wp2_with (go_at_call 160; refine (HW _ bY).mono ?_; rintro e UY ⟨a5, n5, c5, rfl, o5, c1⟩)
     have b2 := bY.trans (c1.mono bY.size)
     refine hK.out _ _ (hKS.out _ b2) ?_
     clear hK K
     have hn5 : n5 = (xl.filter (notKey cy)).length := by obtain ⟨_, _, e, _⟩ := own_form o5; cases e; rfl
     have EN5 := hid_in hn5
     have zY := zY0.below c1
     rw [HSY.out] at o5
     have HFY := hid_in (And.intro (without_far o5 (show g < wq.heap.size + 1 by omega) HXG.out) (And.intro (without_far o5 (show w.heap.size + 2 < wq.heap.size + 1 by omega) (HXO.out _ (by omega))) (without_far o5 (show wq.heap.size < wq.heap.size + 1 by omega) (HXO.out wq.heap.size (by omega)))))
     have HLY := hid_in (without_in (xv := .slice xa nx xc) o5 (HXI.out.below (bq.trans (b2.mono bq.size))))
     have hYz : w.heap.size + 3 ≤ wq.heap.size := by omega
     have KQ2 := hid_in (KQ.out.below b2)
     have RQ2 := hid_in (RQ.out.below b2)
     have CQ2 := hid_in (CQ.out.below b2)
     clear hn5 o5 zY0 c1 bY HSY HW hKS b2 hqz I1 KQ RQ CQ s0q q3q r1q r2q r3q bq
     generalize hYY : wq.heap.size = Y at *
     clear hYY
    all_goals
     refine wpHold_last (by kernel_rfl) rfl (by kernel_rfl) ?_
     intro K hK
     rw [if_pos (by rfl)]
     refine wp_store_row 64 _ _ rfl Y #[.string xk, .string xn, .slice a5 n5 c5] rfl rfl 64 _ zY (by kernel_rfl) rfl (by first | rfl | kernel_rfl) ?_
     refine hK.out _ _ (NoPanic.normal ?_)
     clear hK K
     have HS7 := hid_in (S7.lay (B := B) (g := g) (xk := xk) (xn := xn) KQ2.out zY hYz RQ2.out CQ2.out (fun e => by have e3 : g = Y := Option.some.inj e; omega) (fun y hy => HOLD.out Y (by omega) y hy) (HCF.out Y (by omega)) HLY.out HFY.out)
     generalize UY.setRow Y #[.string xk, .string xn, .slice a5 n5 c5] = WX at *
     clear zY KQ2 RQ2 CQ2 HLY HFY y0 y1 y2 s0 q0 q1 q2 q3 q4 r1 r2 r3 HR1 HC1 B1
     go_wp2
     go_loopw [8] (fun i wr => LoopS 4 B g w Y ck cn cy (.slice la nl lc) (.slice (some ⟨g, 0, none⟩) nb vc) cl bs xk xn xl nl i wr) (fun i _ => nl - (intOf i).toNat)
     case atStart =>
      exact ⟨0, a5, n5, c5, xl.filter (notKey cy), rfl, by omega, by rw [without_plain]; rfl, by simp, by have := List.length_filter_le (notKey cy) xl; omega, fun y hy => .inl (List.mem_filter.1 hy).1, HS7.out⟩
     case round =>
      clear HS7
      obtain ⟨k, a, n, c, ls, rfl, hkn, hpl, hks, hlen, hmem, HS⟩ := hrel
      have hnl : nl ≤ 1048576 := by have := HCS.out.1; rw [enl.out] at this; exact this
      have hlt : ¬ k < nl := by have := HL0.out; omega
      have hlt' : ¬ ((k : Int) < (nl : Int)) := by omega
      have HPLN := hid_in (show ls.map LAt.plain = setL (rulesOf xk) (xl.map LAt.plain) cy (cl.map LAt.plain) from by rw [hpl, List.take_of_length_le (by have := enl.out; omega)])
      have HKSN := hid_in (show ∀ y ∈ cl, y.key = cy from fun y hy => hks y (by rw [List.take_of_length_le (by have := enl.out; omega)]; exact hy))
      have hbx := HBUD.out ⟨xk, xn, .slice xa nx xc, xl⟩ (by rw [EB.out]; simp)
      have HLS := hid_in (show LinesSmall ls from ⟨by have : xl.length + nl ≤ 1048576 := hbx; omega, fun z hz => by
       rcases hmem z hz with h | h
       ·exact HXS.out.2 z h
       ·exact HCS.out.2 z h⟩)
      clear hbx hpl hks hlen hmem
      have hjn : (D ++ (⟨xk, xn, .slice xa nx xc, xl⟩ : BAt) :: T).length = nb := by rw [← EB.out]; exact enb.out
      have hbr : BRow B wr (.slice (some ⟨g, 0, none⟩) nb vc) (D ++ (⟨xk, xn, .slice xa nx xc, xl⟩ : BAt) :: T) := by rw [← EB.out]; exact HS.row
      have hset := BRow.set (b := ⟨xk, xn, .slice a n c, ls⟩) hbr hjn HS.lin HS.far.1
      have hth := BRow.there hbr hjn
      have hrow := hbr.row
      rw [hjn] at hrow
      rw [ED.out] at hset hth
      have gz : wr.grownBy (((wr.setCell ⟨g, j * 3, none⟩ (.string xk)).setCell ⟨g, j * 3 + 1, none⟩ (.string xn)).setCell ⟨g, j * 3 + 2, none⟩ (.slice a n c)) (some g) := hset.2
      have HBR := hid_in (show BRow B (((wr.setCell ⟨g, j * 3, none⟩ (.string xk)).setCell ⟨g, j * 3 + 1, none⟩ (.string xn)).setCell ⟨g, j * 3 + 2, none⟩ (.slice a n c)) (.slice (some ⟨g, 0, none⟩) nb vc) (D ++ (⟨xk, xn, .slice a n c, ls⟩ : BAt) :: T) from hset.1)
      obtain ⟨v0, k1⟩ := Option.isSome_iff_exists.1 (hth 0 (by omega)).1
      have k2 := (hth 0 (by omega)).2
      have hs0 := (hrow.stored (j * 3) (.string xk)).1
      obtain ⟨v1, k3⟩ := Option.isSome_iff_exists.1 (row_there hs0 (j * 3) 3 (by omega) 1 (by omega)).1
      have k4 := hs0.frozenAt (j * 3 + 1)
      have hs1 := (hs0.stored (j * 3 + 1) (.string xn)).1
      obtain ⟨v2, k5⟩ := Option.isSome_iff_exists.1 (row_there hs1 (j * 3) 3 (by omega) 2 (by omega)).1
      have k6 := hs1.frozenAt (j * 3 + 2)
      rw [Nat.add_zero] at k1 k2
      have p0 := cell_of_block HS.kp.2.1 0
      have p4 := cell_of_block HS.kp.2.2.1 4
      have e0 := cell_of_block HS.yb 0
      have e1 := cell_of_block HS.yb 1
      have e2 := cell_of_block HS.yb 2
      simp only [List.getElem?_toArray, List.getElem?_cons_zero, List.getElem?_cons_succ] at p0 p4 e0 e1 e2
      have hwz := HS.kp.1.size
      have BU := belowGrown (HS.kp.1.mono hB) (by omega) (HGL.out g rfl).2 gz
      have hZU : w.heap.size ≤ (((wr.setCell ⟨g, j * 3, none⟩ (.string xk)).setCell ⟨g, j * 3 + 1, none⟩ (.string xn)).setCell ⟨g, j * 3 + 2, none⟩ (.slice a n c)).heap.size := by simp only [World.size_setCell]; omega
      have KU : KeepR (.slice (some ⟨g, 0, none⟩) nb vc) w (((wr.setCell ⟨g, j * 3, none⟩ (.string xk)).setCell ⟨g, j * 3 + 1, none⟩ (.string xn)).setCell ⟨g, j * 3 + 2, none⟩ (.slice a n c)) := KeepR.grown HS.kp.1 rfl gz
      have hBU : B ≤ (((wr.setCell ⟨g, j * 3, none⟩ (.string xk)).setCell ⟨g, j * 3 + 1, none⟩ (.string xn)).setCell ⟨g, j * 3 + 2, none⟩ (.slice a n c)).heap.size := by simp only [World.size_setCell]; omega
      have yS := HS.kp.2.1.grown gz (by omega)
      have yR := HS.kp.2.2.2.grown gz (by omega)
      have HVO := hid_in (show (Value.slice (some ⟨g, 0, none⟩) nb vc).ownBlock ≠ some (w.heap.size + 2) from fun e => by have e3 : g = w.heap.size + 2 := Option.some.inj e; omega)
      have HFR := hid_in (show ∀ z ∈ D ++ (⟨xk, xn, .slice a n c, ls⟩ : BAt) :: T, LinesFar (w.heap.size + 2) z.v z.ls from fun z hz => by
       rcases List.mem_append.1 hz with hz | hz
       ·exact HOLD.out _ (by omega) z (by rw [EB.out]; simp [hz])
       ·rcases List.mem_cons.1 hz with rfl | hz
        ·exact HS.far.2.1
        ·exact HOLD.out _ (by omega) z (by rw [EB.out]; simp [hz]))
      have HSMALL := hid_in (show BlocksSmall (D ++ (⟨xk, xn, .slice a n c, ls⟩ : BAt) :: T) from by
       have h0 := ok_small (bs := bs) (by rw [EP.out]; exact HOK.out)
       refine ⟨by have := h0.1; rw [EB.out] at this; simpa using this, fun z hz => ?_⟩
       rcases List.mem_append.1 hz with hz | hz
       ·exact h0.2 z (by rw [EB.out]; simp [hz])
       ·rcases List.mem_cons.1 hz with rfl | hz
        ·exact ⟨(h0.2 (⟨xk, xn, .slice xa nx xc, xl⟩ : BAt) (by rw [EB.out]; simp)).1, HLS.out⟩
        ·exact h0.2 z (by rw [EB.out]; simp [hz]))
      have eP : P = D.map BAt.plain ++ (⟨xk, xn, .slice xa nx xc, xl⟩ : BAt).plain :: T.map BAt.plain := by rw [← EP.out, EB.out]; simp
      have HPOK := hid_in (show SheetOk (D.map BAt.plain ++ (⟨xk, xn, .slice xa nx xc, xl⟩ : BAt).plain :: T.map BAt.plain) from by rw [← eP]; exact HOK.out)
      have EPH := hid_in eP
      clear eP
      have HRES := hid_in (show ∀ VB, sheetB ((D ++ (⟨xk, xn, .slice a n c, ls⟩ : BAt) :: T).map BAt.plain) = VB → ∀ U, Below B w U → KeepR (.slice (some ⟨g, 0, none⟩) nb vc) w U → BRow B U (.slice (some ⟨g, 0, none⟩) nb vc) (D ++ (⟨xk, xn, .slice a n c, ls⟩ : BAt) :: T) → OnePost B (.slice (some ⟨g, 0, none⟩) nb vc) O w (.returned (.tuple #[.agg #[(.slice (some ⟨g, 0, none⟩) nb vc)], .bool VB])) U from fun VB hVB U hU hKU hb => by
       have hMP : (D ++ (⟨xk, xn, .slice a n c, ls⟩ : BAt) :: T).map BAt.plain = swapH P ck cn ((xl.map LAt.plain).filter (otherK cy)) := by
        rw [EPH.out, swapH_split HPOK.out HHD.out, List.map_append, List.map_cons]
        have e := HPLN.out
        rw [HCN0.out] at e
        exact congrArg (fun z => D.map BAt.plain ++ (⟨xk, xn, z⟩ : PBlock) :: T.map BAt.plain) e
       have hsw : SheetOk ((D ++ (⟨xk, xn, .slice a n c, ls⟩ : BAt) :: T).map BAt.plain) := by
        rw [hMP, EPH.out, swapH_split HPOK.out HHD.out]
        exact (sheet_swap (b' := ⟨xk, xn, (xl.map LAt.plain).filter (otherK cy)⟩) HPOK.out rfl rfl).2 ((HPOK.out.2.1 (BAt.plain (⟨xk, xn, .slice xa nx xc, xl⟩ : BAt)) (by simp)).2.2.sub List.filter_sublist)
       obtain rfl : VB = true := by rw [← hVB]; exact sheetB_iff.2 hsw
       rw [← HO.out, unset_some (A := P) (c := CAt.plain ⟨4, ck, cn, cy, .slice la nl lc, cl⟩) rfl HLK.out (by rw [HCN0.out]; rfl) HHAS.out]
       exact ⟨hU, hKU, _, _, _, _, rfl, hMP, hb⟩)
      clear hset hth hrow hs0 hs1 hbr hjn HS
      go_upto_region 26 with fail
      clear k1 k2 k3 k4 k5 k6 p0 p4 e0 e1 e2 hlt' hkn
      clear HO HOK HLK HHD EPH HPOK HKSN HPLN HOLD HLS HCF EB EP
      generalize hBSN : D ++ (⟨xk, xn, .slice a n c, ls⟩ : BAt) :: T = BSN at *
      clear hBSN
      generalize (((wr.setCell ⟨g, j * 3, none⟩ (.string xk)).setCell ⟨g, j * 3 + 1, none⟩ (.string xn)).setCell ⟨g, j * 3 + 2, none⟩ (.slice a n c)) = U at *
      have sU := cell_of_block yS 0
      simp only [List.getElem?_toArray, List.getElem?_cons_zero] at sU
      have Bd : Below U.heap.size U U.drew := (Below.refl _ _).drew
      have HVV := specValid_any (HBR.out.bin.below Bd) HSMALL.out
      generalize hVB : sheetB (BSN.map BAt.plain) = VB at HVV
      have EVB := hid_in hVB
      clear hVB
      have t0 : ∀ p : { W : World // W.cell? ⟨w.heap.size, 0, none⟩ = some (.slice (some ⟨g, 0, none⟩) nb vc) }, p.1.cell? ⟨w.heap.size, 0, none⟩ = some (.slice (some ⟨g, 0, none⟩) nb vc) := fun p => p.2
      letI IU : Inhabited { W : World // W.cell? ⟨w.heap.size, 0, none⟩ = some (.slice (some ⟨g, 0, none⟩) nb vc) } := ⟨⟨U, sU⟩⟩
      refine wp_region_hold (S := fun W => W.cell? ⟨w.heap.size, 0, none⟩ = some (.slice (some ⟨g, 0, none⟩) nb vc)) 4 5 (by kernel_rfl) rfl ?_
      refine wpHold_mask [true, true, false, false, false] 3 rfl (by kernel_rfl) sU ?_
      simp only [maskL_t, maskL_f, maskL_n]
      iterate 2 (refine wpReads_step (fun K hK => ?_); go_simp; refine hK _ ?_; clear hK K)
      refine wpReads_nil ?_
      clear t0
      refine wpHold_branch (f := 2) (rs := [2]) (by kernel_rfl) (by simp) ?_
      refine AllHold.cons rfl (by decide) (fun K hK => ?_) AllHold.nil
      go_simp
      go_wp2_with (go_at_call 61; refine HVV.mono ?_; first | rintro e u2 rfl c2 | rintro e u2 ⟨rfl, c2⟩)
      have c2' := Bd.trans c2
      have xS := yS.below c2'
      have xR := yR.below c2'
      have HBR2 := hid_in (HBR.out.below c2')
      have BU2 := BU.trans (c2'.mono hBU)
      have KU2 := KU.then hZU c2'
      have sU2 := cell_of_block xS 0
      have rU2 := cell_of_block xR 0
      have fU2 := frozen_of_block xR 0
      simp only [List.getElem?_toArray, List.getElem?_cons_zero] at sU2 rU2
      refine hK.out _ _ sU2 ?_
      clear hK K
      refine wpHold_branch (f := 1) (rs := [3]) (by kernel_rfl) (by simp) ?_
      refine AllHold.cons rfl (by decide) (fun K hK => ?_) AllHold.nil
      go_simp
      have xS3 := xS.other (q := w.heap.size + 2) 0 (.slice (some ⟨g, 0, none⟩) nb vc) (by omega)
      have xR3 := xR.set 0 (.slice (some ⟨g, 0, none⟩) nb vc)
      have sU3 := cell_of_block xS3 0
      have v9 := cell_of_block xR3 0
      simp only [List.getElem?_toArray, List.getElem?_cons_zero, List.setIfInBounds_toArray, List.set_cons_zero] at sU3 v9
      have BU3 := below_setCell BU2 ⟨w.heap.size + 2, 0, none⟩ (by show B ≤ w.heap.size + 2; omega) (.slice (some ⟨g, 0, none⟩) nb vc)
      have KU3 := KU2.set (w.heap.size + 2) (by omega) 0 (.slice (some ⟨g, 0, none⟩) nb vc)
      have HBR3 := hid_in (brow_far HBR2.out (grown_setCell1 u2 (w.heap.size + 2) 0 (.slice (some ⟨g, 0, none⟩) nb vc)) HVO.out HFR.out)
      refine hK.out _ _ sU3 ?_
      clear hK K IU
      generalize u2.setCell ⟨w.heap.size + 2, 0, none⟩ (.slice (some ⟨g, 0, none⟩) nb vc) = U3 at *
      refine wpHold_last (by kernel_rfl) rfl (by kernel_rfl) ?_
      intro K hK
      go_simp
      refine hK.out _ _ (NoPanic.normal ?_)
      clear hK K
      have HPO := hid_in (show OnePost B _ O w (.returned (.tuple #[.agg #[.slice (some ⟨g, 0, none⟩) nb vc], .bool VB])) U3 from HRES.out VB EVB.out U3 BU3 KU3 HBR3.out)
      go_wp2
      exact bodyPost_ret (v := .tuple #[.agg #[.slice (some ⟨g, 0, none⟩) nb vc], .bool VB]) (by simp [results, Tryz.results96, go_sem, v9]) rfl HPO.out
  ·have hl0 : ((0 : Int) < (nl : Int)) := by omega
   have hld : decide (0 < nl) = true := decide_eq_true (by omega)
   have hcl : cl ≠ [] := fun e => hl (by rw [← enl.out, e]; rfl)
   obtain rfl : O = none := by rw [← HO.out]; exact unset_none rfl (.inr (.inl (fun e => hcl (List.map_eq_nil_iff.1 e))))
   clear hlook hcl
   have r9 : w1.heap[w.heap.size + 1 + 1]? = some (.cells #[.slice none 0 0] 24 (0, 0)) := y2
   have b9 : Below w.heap.size w (w1.setRow (w.heap.size + 2) #[.slice va nb vc]) := ⟨B1.os, B1.tape, B1.output, by rw [setRow_size]; exact B1.size, fun k hk => by rw [setRow_other _ _ _ _ (by omega)]; exact B1.block k hk⟩
   go_wp2_with (with_reducible show wpList _ _ _ (Oper.mk _ (Op.store _ (Operand.tmp 4) _) _ _ _ _ :: _) _ _; refine wpList_store_row rfl 24 _ _ rfl (w.heap.size + 1 + 1) #[.slice va nb vc] ?_ ?_ 24 _ r9 ?_ ?_ ?_ ?_)
   all_goals (first | rfl | kernel_rfl | exact sheet_size | skip)
   have z9 : (w1.setRow (w.heap.size + 2) #[.slice va nb vc]).heap[w.heap.size + 2]? = some (.cells #[.slice va nb vc] 24 (0, 0)) := setRow_heap _ _ _ _ _ _ r9
   have v9 := cell_of_block z9 0
   simp only [List.getElem?_toArray, List.getElem?_cons_zero] at v9
   rw [show w.heap.size + 1 + 1 = w.heap.size + 2 from rfl]
   generalize w1.setRow (w.heap.size + 2) #[.slice va nb vc] = W9 at b9 v9 z9 ⊢
   go_wp2
   exact bodyPost_ret (v := .tuple #[.agg #[.slice va nb vc], .bool false]) (by simp [results, Tryz.results96, go_sem, v9]) rfl ⟨b9.mono hB, KeepR.of_below b9, ⟨_, _, _, rfl⟩⟩
end Go.Proofs.YtpdahhnjhggocabGreatDoor
namespace Go.Proofs.YtpdahhnjhggocabGreatDoor
open Go.RowKit
def tot (cs : List PChange) : Nat := (cs.map (fun c => c.lines.length)).sum
theorem tot_cons (c : PChange) (cs : List PChange) : tot (c :: cs) = c.lines.length + tot cs := by unfold tot; simp
theorem setL_length (R : List Plain) (ls : List PLine) (key : ByteArray) (xs : List PLine) : (setL R ls key xs).length = (ls.filter (otherK key)).length + xs.length := by
 unfold setL
 generalize ls.filter (otherK key) = acc
 induction xs generalizing acc with
 | nil => rfl
 | cons a xs ih => rw [List.foldl_cons, ih, (putIn_perm (lineLt R) a acc).length_eq]; simp; omega
theorem oneS_len {A A' : List PBlock} {c : PChange} {m : Nat} (h : oneS A c = some A') (hA : ∀ b ∈ A, b.lines.length ≤ m) : ∀ b ∈ A', b.lines.length ≤ m + c.lines.length := by
 have hswap : ∀ ls : List PLine, ls.length ≤ m + c.lines.length → ∀ b ∈ swapH A c.kind c.name ls, b.lines.length ≤ m + c.lines.length := fun ls hl b hb => by
  unfold swapH at hb
  obtain ⟨b0, h0, e0⟩ := List.mem_map.1 hb
  by_cases hh : isHead c.kind c.name b0 = true
  ·rw [if_pos hh] at e0; rw [← e0]; exact hl
  ·rw [if_neg hh] at e0; rw [← e0]; have := hA b0 h0; omega
 unfold oneS at h
 split at h
 ·split at h
  ·cases h
   intro b hb
   rcases List.mem_cons.1 ((putIn_perm blockLt _ A).mem_iff.1 hb) with rfl | hb
   ·exact Nat.le_add_left _ _
   ·have := hA b hb; omega
  ·cases h
 ·rename_i b0 hb0
  have hm := hA b0 (look_some hb0).1
  split at h
  ·cases h
   intro b hb
   have := hA b (List.mem_filter.1 hb).1; omega
  split at h
  ·cases h
   refine hswap _ ?_
   rw [setL_length]
   have := List.length_filter_le (otherK c.key) b0.lines; omega
  split at h
  ·cases h
   refine hswap _ ?_
   have := List.length_filter_le (otherK c.key) b0.lines; omega
  ·cases h
theorem far_box {W : World} {X : Nat} {a : Option Addr} {m c : Nat} {T : TypeId} (hx : BlkAt W X #[.slice a m c] T) {v : Value} {n size : Nat} {xs : List Value} (h : HasRow W v n size xs) (hs : 0 < n → ∃ s, xs[0]? = some (.string s)) : FarV X v n := by
 obtain ⟨hl, ao, cap, rfl, hk, hc⟩ := h
 rcases hc with h0 | ⟨b, off, rfl, hc⟩
 ·exact .inl h0
 ·by_cases h0 : n = 0
  ·exact .inl h0
  ·refine .inr fun b' off' m' c' e hb => ?_
   obtain ⟨s, hs⟩ := hs (by omega)
   have h1 := hc 0 _ hs
   cases e
   subst hb
   have h2 := cell_of_block hx (off + 0)
   rw [h2, List.getElem?_toArray] at h1
   match ho : off + 0 with
   | 0 => rw [ho] at h1; simp at h1
   | k + 1 => rw [ho] at h1; simp at h1
theorem lines_box {W : World} {X : Nat} {a : Option Addr} {m c : Nat} {T : TypeId} (hx : BlkAt W X #[.slice a m c] T) {v : Value} {ls : List LAt} (h : LinesIn W v ls) : LinesFar X v ls := by
 refine ⟨far_box hx h.1 fun hn => ?_, fun y hy => far_box hx (h.2 y hy) fun hn => ?_⟩
 ·cases ls with
  | nil => exact absurd hn (by simp)
  | cons y ls => exact ⟨y.key, by simp [LAt.cells]⟩
 ·cases hw : y.ws with
  | nil => rw [hw] at hn; exact absurd hn (by simp)
  | cons s ss => exact ⟨⟨s.toArray⟩, by unfold strs; simp⟩
theorem own_box {W : World} {X base size n : Nat} {cs : Array Value} {T e : TypeId} {v : Value} {xs : List Value} (hx : BlkAt W X cs T) (h : W.ownsRow base e size v n xs) (hT : T ≠ e) : v.ownBlock ≠ some X := by
 intro hv
 rcases h.2 with ⟨rfl, _⟩ | ⟨g, cap, cur, rfl, _, hg, _⟩
 ·cases hv
 ·have hgx : g = X := Option.some.inj hv
  rw [hgx] at hg
  have e2 : some (Obj.cells cs T (0, 0)) = some (Obj.cells cur e (0, 0)) := (show W.heap[X]? = _ from hx).symm.trans hg
  injection e2 with e2
  injection e2 with _ e3
  exact hT e3
theorem l7One_any {B : Nat} {v : Value} {bs : List BAt} {c : CAt} {w : World} (hB : B ≤ w.heap.size) (hr : BRow B w v bs) (hok : SheetOk (bs.map BAt.plain)) (hc : LinesIn w c.v c.ls) (hcf : ∀ q, B ≤ q → LinesFar q c.v c.ls) (hcs : LinesSmall c.ls) (hcn : c.name.size ≤ 1048576) (hbud : ∀ b ∈ bs, b.ls.length + c.ls.length ≤ 1048576) : Calls Tryz.prog 96 #[.agg #[v], .agg #[.int .i64 c.what, .string c.kind, .string c.name, .string c.key, c.v]] w fun e w' => OnePost B v (oneS (bs.map BAt.plain) c.plain) w e w' := by
 by_cases h1 : c.what = 1
 ·exact one7_gone hB hr hok hc hcf hcs h1
 by_cases h2 : c.what = 2
 ·exact one7_new hB hr hok hc hcf hcs h2 hcn
 by_cases h3 : c.what = 3
 ·exact one7_set hB hr hok hc hcf hcs h3 hbud
 by_cases h4 : c.what = 4
 ·exact one7_unset hB hr hok hc hcf hcs h4 hbud
 exact one7_other hB hr hok hc hcf hcs h1 h2 h3 h4
def OneIs (B : Nat) (O : Option (List PBlock)) (u : Value) (ok : Bool) (w' : World) : Prop := (O = none ∧ ok = false) ∨ ∃ A bs', O = some A ∧ ok = true ∧ bs'.map BAt.plain = A ∧ BRow B w' u bs'
theorem OneIs.below {B : Nat} {O : Option (List PBlock)} {u : Value} {ok : Bool} {w w' : World} (h : OneIs B O u ok w) (hb : Below w.heap.size w w') : OneIs B O u ok w' := by
 rcases h with h | ⟨A, bs', h1, h2, h3, h4⟩
 ·exact .inl h
 ·exact .inr ⟨A, bs', h1, h2, h3, h4.below hb⟩
theorem one_fin {B : Nat} {v : Value} {O : Option (List PBlock)} {w : World} {e : Ending} {w' : World} (h : OnePost B v O w e w') : ∃ a n c ok, e = .returned (.tuple #[.agg #[.slice a n c], .bool ok]) ∧ Below B w w' ∧ KeepR v w w' ∧ OneIs B O (.slice a n c) ok w' := by
 obtain ⟨h1, h2, h3⟩ := h
 cases O with
 | none =>
  obtain ⟨a, n, c, he⟩ := h3
  exact ⟨a, n, c, false, he, h1, h2, .inl ⟨rfl, rfl⟩⟩
 | some A =>
  obtain ⟨a, n, c, bs', he, hp, hb⟩ := h3
  exact ⟨a, n, c, true, he, h1, h2, .inr ⟨A, bs', rfl, rfl, hp, hb⟩⟩
theorem bud_plain {bs : List BAt} {t M : Nat} : (∀ b ∈ bs, b.ls.length + t ≤ M) ↔ ∀ p ∈ bs.map BAt.plain, p.lines.length + t ≤ M := by
 constructor
 ·intro h p hp
  obtain ⟨b, hb, rfl⟩ := List.mem_map.1 hp
  have := h b hb
  unfold BAt.plain; simpa using this
 ·intro h b hb
  have := h b.plain (List.mem_map_of_mem hb)
  unfold BAt.plain at this; simpa using this
def ApPost (G : List PBlock × Int) (w : World) (e : Ending) (w' : World) : Prop := ∃ v' bs', e = .returned (.tuple #[.agg #[v'], .int .i64 G.2]) ∧ bs'.map BAt.plain = G.1 ∧ BlocksOwn w.heap.size w' v' bs' ∧ Below w.heap.size w w'
theorem applyGo_cons (i : Nat) (A : List PBlock) (c : PChange) (cs : List PChange) : applyGo i A (c :: cs) = match oneS A c with
  | none => ([], 2 + (i : Int))
  | some A' => applyGo (i + 1) A' cs := rfl
theorem oneS_bud {A A' : List PBlock} {c : PChange} {t M : Nat} (h : oneS A c = some A') (ht : c.lines.length + t ≤ M) (hA : ∀ b ∈ A, b.lines.length + (c.lines.length + t) ≤ M) : ∀ b ∈ A', b.lines.length + t ≤ M := fun b hb => by
 have := oneS_len (m := M - (c.lines.length + t)) h (fun b hb => by have := hA b hb; omega) b hb
 omega
def ApJ (w : World) (X : Nat) (cs : List CAt) (G : List PBlock × Int) (i : Value) (W : World) : Prop := ∃ (k : Nat) (a : Option Addr) (n c : Nat) (bs : List BAt), i = .int .i64 (k : Int) ∧ k ≤ cs.length ∧ Below w.heap.size w W ∧ BlkAt W (w.heap.size + 1) #[.slice none 0 0] 24 ∧ BlkAt W X #[.slice a n c] 24 ∧ BRow (w.heap.size + 2) W (.slice a n c) bs ∧ SheetOk (bs.map BAt.plain) ∧ applyGo k (bs.map BAt.plain) ((cs.drop k).map CAt.plain) = G ∧ tot ((cs.drop k).map CAt.plain) ≤ 1048576 ∧ ∀ b ∈ bs, b.ls.length + tot ((cs.drop k).map CAt.plain) ≤ 1048576
end Go.Proofs.YtpdahhnjhggocabGreatDoor
namespace Go.Proofs.YtpdahhnjhggocabGreatDoor
open Go.RowKit
def ChangeWide (x : CAt) : Prop := x.kind.size ≤ 9223372036854775807 ∧ x.name.size ≤ 9223372036854775807 ∧ x.key.size ≤ 9223372036854775807 ∧ LinesWide x.ls
def ChangesWide (cs : List CAt) : Prop := ∀ x ∈ cs, ChangeWide x
def ChangeSm (x : CAt) : Prop := x.name.size ≤ 1048576 ∧ LinesSmall x.ls
set_option maxHeartbeats 1000000 in
set_option maxRecDepth 100000 in
theorem szChange_any {left : Nat} {x : CAt} {w : World} (h : LinesIn w x.v x.ls) (hw : ChangeWide x) (hl : left ≤ 1048576) : Calls Tryz.prog 95 #[.agg #[.int .i64 x.what, .string x.kind, .string x.name, .string x.key, x.v], .int .i64 (left : Int)] w fun e w' => SzR left (fun r => ChangeSm x ∧ x.ls.length + r ≤ left) w e w' := by
 obtain ⟨ax, cx, e1⟩ := h.1.form
 rw [e1] at h ⊢
 have g6 : Below w.heap.size w (w.alloc (.cells #[.int .i64 x.what, .string x.kind, .string x.name, .string x.key, .slice ax x.ls.length cx] 142)) := (Below.refl _ _).alloc (Nat.le_refl _) _
 have h6 := h.below g6
 have kk := one_box (w := w) (cs := #[.int .i64 x.what, .string x.kind, .string x.name, .string x.key, .slice ax x.ls.length cx]) (T := 142)
 have k1 := kk 1
 have k2 := kk 2
 have k3 := kk 3
 have k4 := kk 4
 clear kk
 simp only [List.getElem?_toArray, List.getElem?_cons_zero, List.getElem?_cons_succ] at k1 k2 k3 k4
 have hk : (x.kind.size : Int) ≤ 9223372036854775807 := by have := hw.1; omega
 have hk2 : (x.name.size : Int) ≤ 9223372036854775807 := by have := hw.2.1; omega
 have hk3 : (x.key.size : Int) ≤ 9223372036854775807 := by have := hw.2.2.1; omega
 have HZ := fun (l : Nat) (hl : l ≤ 1048576) => szLinesB_any (left := l) h6 hw.2.2.2 hl
 have hBS := hid_in (show x.name.size ≤ 1048576 → LinesSmall x.ls → ChangeSm x from fun a b => ⟨a, b⟩)
 generalize ChangeSm x = BS at *
 clear h hw e1 h6
 generalize LinesSmall x.ls = LS at *
 generalize x.ls.length = nx at *
 generalize x.kind = xk at *
 generalize x.name = xn at *
 generalize x.key = xy at *
 generalize x.what = xw at *
 by_cases h1 : xk.size ≤ left
 ·have h1' : ¬ ((left : Int) - (xk.size : Int) < 0) := by omega
  by_cases h2 : xk.size + xn.size ≤ left
  ·have h2' : ¬ ((left : Int) - (xk.size : Int) - (xn.size : Int) < 0) := by omega
   by_cases h3 : xk.size + xn.size + xy.size ≤ left
   ·have HZ' := HZ (left - xk.size - xn.size - xy.size) (by omega)
    have hc : ((left - xk.size - xn.size - xy.size : Nat) : Int) = (left : Int) - (xk.size : Int) - (xn.size : Int) - (xy.size : Int) := by omega
    rw [hc] at HZ'
    have h3' : ¬ ((left : Int) - (xk.size : Int) - (xn.size : Int) - (xy.size : Int) < 0) := by omega
    have hBS' := hid_in (hBS.out (by omega))
    clear HZ hBS
    go_enter Tryz.func95, Tryz.ntmps95
    go_wp2_with (go_at_call 159; refine HZ'.mono ?_)
    rintro e w2 ⟨rfl | ⟨r, hr, rfl, hs, hbb⟩, b2⟩
    ·go_wp2
     go_ret
     exact ⟨.inl rfl, g6.trans (b2.mono g6.size)⟩
    ·have hr0 : ¬ ((r : Int) < 0) := by omega
     go_wp2
     go_ret
     exact ⟨.inr ⟨r, by omega, rfl, hBS'.out hs, by omega⟩, g6.trans (b2.mono g6.size)⟩
   ·have h3' : (left : Int) - (xk.size : Int) - (xn.size : Int) - (xy.size : Int) < 0 := by omega
    clear HZ hBS
    go_enter Tryz.func95, Tryz.ntmps95
    go_wp2
    go_ret
    exact ⟨.inl rfl, g6⟩
  ·have h2' : (left : Int) - (xk.size : Int) - (xn.size : Int) < 0 := by omega
   clear HZ hBS
   go_enter Tryz.func95, Tryz.ntmps95
   go_wp2
   go_ret
   exact ⟨.inl rfl, g6⟩
 ·have h1' : (left : Int) - (xk.size : Int) < 0 := by omega
  clear HZ hBS
  go_enter Tryz.func95, Tryz.ntmps95
  go_wp2
  go_ret
  exact ⟨.inl rfl, g6⟩
theorem tot_snoc (D : List CAt) (x : CAt) : tot ((D ++ [x]).map CAt.plain) = tot (D.map CAt.plain) + x.ls.length := by
 unfold tot CAt.plain
 simp
set_option maxHeartbeats 1000000 in
set_option maxRecDepth 100000 in
theorem szChanges_any {left : Nat} {v : Value} {bs : List CAt} {w : World} (h : ChangesIn w v bs) (hw : ChangesWide bs) (hl : left ≤ 1048576) : Calls Tryz.prog 38 #[v, .int .i64 (left : Int)] w fun e w' => SzR left (fun r => (bs.length ≤ 1048576 ∧ ∀ c ∈ bs, ChangeSm c) ∧ tot (bs.map CAt.plain) + r ≤ left) w e w' := by
 obtain ⟨ao, cap, rfl⟩ := h.1.form
 have hf := row_wide h.1
 generalize hn : bs.length = len at *
 have en := hid_in hn
 clear hn
 have hf' : (len : Int) ≤ 9223372036854775807 := by omega
 by_cases hl1 : len ≤ left
 ·have hl' : ¬ ((left : Int) - (len : Int) < 0) := by omega
  go_enter Tryz.func38, Tryz.ntmps38
  go_wp2
  go_loopw [1, 5] (fun q i wr => ∃ j r : Nat, j ≤ len ∧ tot ((bs.take j).map CAt.plain) + r + len ≤ left ∧ i = .int .i64 (j : Int) ∧ q = .int .i64 (r : Int) ∧ Below w.heap.size w wr ∧ AllTo ChangeSm bs j) (fun _ i _ => len - (intOf i).toNat)
  case atStart => exact ⟨0, left - len, by omega, by show tot [] + _ + _ ≤ _; unfold tot; simp; omega, rfl, by congr 1; omega, Below.refl _ _, AllTo.zero _ _⟩
  case round =>
   obtain ⟨j, r, hj, hr, rfl, rfl, bw, hA⟩ := hrel
   by_cases hlt : j < len
   ·obtain ⟨D, x, T, rfl, hD⟩ := split1 bs j (by have := en.out; omega)
    have h5 := h.below bw
    obtain ⟨g, off, rfl, c1, c2, c3, c4, c5⟩ := h5.1.change
    obtain ⟨ax, cx, e1⟩ := (h5.2 x (by simp)).1.form
    have HX := szChange_any (left := r) (h5.2 x (by simp)) (hw x (by simp)) (by omega)
    rw [e1] at c5 HX
    subst hD
    have hA' := hid_in (show ∀ q, ChangeSm x ∧ x.ls.length + q ≤ r → AllTo ChangeSm (D ++ x :: T) (D.length + 1) ∧ tot (((D ++ x :: T).take (D.length + 1)).map CAt.plain) + q + len ≤ left from fun q h => ⟨hA.succ (r := x) h.1, by rw [take_one, tot_snoc]; rw [take_front] at hr; have := h.2; omega⟩)
    clear h h5 hw hA e1 en
    have hrl : r ≤ left := by omega
    clear hr
    generalize x.ls.length = nx at *
    generalize x.kind = xk at *
    generalize x.name = xn at *
    generalize x.key = xy at *
    generalize x.what = xw at *
    go_wp2_with (go_at_call 95; refine HX.mono ?_)
    rintro e w2 ⟨rfl | ⟨q, hq, rfl, hs⟩, b2⟩
    ·go_wp2
     go_ret
     exact ⟨.inl rfl, bw.trans (b2.mono bw.size)⟩
    ·have HA := hid_in (hA'.out q hs)
     have hq0 : ¬ ((q : Int) < 0) := by omega
     clear hA' hs
     go_wp2
     go_roundw
     case rel => exact ⟨D.length + 1, q, by omega, HA.out.2, by go_num, rfl, bw.trans (b2.mono bw.size), HA.out.1⟩
     case measure => simp [intOf]; omega
   ·obtain rfl : j = len := by omega
    have HB := AllTo.all (p := ChangeSm) (l := bs) (by rw [en.out]; exact hA)
    have hr' : tot (bs.map CAt.plain) + r + j ≤ left := by rw [show bs.take j = bs by rw [← en.out, List.take_length]] at hr; exact hr
    have HA := hid_in (show (j ≤ 1048576 ∧ ∀ c ∈ bs, ChangeSm c) ∧ tot (bs.map CAt.plain) + r ≤ left from ⟨⟨by omega, HB⟩, by omega⟩)
    have hrl : r ≤ left := by omega
    clear hr hr'
    clear HB
    clear hA h hw
    go_wp2
    go_ret
    exact ⟨.inr ⟨r, by omega, rfl, HA.out⟩, bw⟩
 ·have hl' : (left : Int) - (len : Int) < 0 := by omega
  clear h hw
  go_enter Tryz.func38, Tryz.ntmps38
  go_wp2
  go_ret
  exact ⟨.inl rfl, Below.refl _ _⟩
end Go.Proofs.YtpdahhnjhggocabGreatDoor
namespace Go.Proofs.YtpdahhnjhggocabGreatDoor
open Go.RowKit
set_option maxHeartbeats 2000000 in
set_option maxRecDepth 100000 in
theorem toChange_any {x : CAt} {w : World} (h : LinesIn w x.v x.ls) (hs : LinesSmall x.ls) : Calls Tryz.prog 97 #[.agg #[.int .i64 x.what, .string x.kind, .string x.name, .string x.key, x.v]] w fun e w' => ∃ v ls', e = .returned (.agg #[.int .i64 x.what, .string x.kind, .string x.name, .string x.key, v]) ∧ ls'.map LAt.plain = x.ls.map LAt.plain ∧ LinesOwn w.heap.size w' v ls' ∧ Below w.heap.size w w' := by
 obtain ⟨ax, cx, e1⟩ := h.1.form
 rw [e1] at h ⊢
 have b0 : Below w.heap.size w (((w.alloc (.cells #[.int .i64 x.what, .string x.kind, .string x.name, .string x.key, .slice ax x.ls.length cx] 142)).alloc (.cells #[.int .i64 0, .string ⟨#[]⟩, .string ⟨#[]⟩, .string ⟨#[]⟩, .slice none 0 0] 131)).alloc (.cells #[.int .i64 x.what, .string x.kind, .string x.name, .string x.key, .slice none 0 0] 131)) := (((Below.refl _ _).alloc (Nat.le_refl _) _).alloc (by simp) _).alloc (by simp; omega) _
 obtain ⟨hsz, -, hz1, hz2⟩ := alloc3 (w := w) (o1 := .cells #[.int .i64 x.what, .string x.kind, .string x.name, .string x.key, .slice ax x.ls.length cx] 142) (o2 := .cells #[.int .i64 0, .string ⟨#[]⟩, .string ⟨#[]⟩, .string ⟨#[]⟩, .slice none 0 0] 131) (o3 := .cells #[.int .i64 x.what, .string x.kind, .string x.name, .string x.key, .slice none 0 0] 131)
 have HW := toLines_any (h.below b0) hs
 generalize x.ls.map LAt.plain = PL at *
 clear h e1 hs
 generalize x.ls.length = nx at *
 generalize x.kind = xk at *
 generalize x.name = xn at *
 generalize x.key = xy at *
 generalize x.what = xw at *
 go_enter Tryz.func97, Tryz.ntmps97
 go_wp2_with (go_at_call 161; refine HW.mono ?_)
 rintro e w2 ⟨v, ls', rfl, hpl, o2, b2⟩
 rw [hsz] at o2 b2
 have z1 := (b2.block (w.heap.size + 1) (by omega)).trans hz1
 have z2 := (b2.block (w.heap.size + 2) (by omega)).trans hz2
 have hw2 : w.heap.size + 3 ≤ w2.heap.size := by have := b2.size; rw [hsz] at this; exact this
 have b02 := b0.trans (b2.mono (by omega))
 have c0 := cell_of_block z2 0
 have c1 := cell_of_block z2 1
 have c2 := cell_of_block z2 2
 have c3 := cell_of_block z2 3
 have c4 := cell_of_block z2 4
 have f1 := frozen_of_block z2 4
 simp only [List.getElem?_toArray, List.getElem?_cons_zero, List.getElem?_cons_succ] at c0 c1 c2 c3 c4
 obtain ⟨av, cv, rfl, _⟩ := own_form o2.row
 have HPL := hid_in hpl
 clear hpl
 have hO2 := hid_in o2
 clear o2
 generalize ls'.length = nv at *
 have z1' : (w2.setCell ⟨w.heap.size + 2, 4, none⟩ (.slice av nv cv)).heap[w.heap.size + 1]? = some (.cells #[.int .i64 0, .string ⟨#[]⟩, .string ⟨#[]⟩, .string ⟨#[]⟩, .slice none 0 0] 131 (0, 0)) := by rw [Below.heap_setCell _ _ _ _ (by simp)]; exact z1
 clear HW hz1 hz2 hsz
 go_wp2_with (with_reducible show wpList _ _ _ (Oper.mk _ (Op.store _ (Operand.tmp 2) _) _ _ _ _ :: _) _ _; refine wpList_store_row rfl 131 _ _ rfl (w.heap.size + 1) #[.int .i64 xw, .string xk, .string xn, .string xy, .slice av nv cv] ?_ ?_ 131 _ z1' ?_ ?_ ?_ ?_)
 all_goals (first | rfl | kernel_rfl | skip)
 have z5 : ((w2.setCell ⟨w.heap.size + 2, 4, none⟩ (.slice av nv cv)).setRow (w.heap.size + 1) #[.int .i64 xw, .string xk, .string xn, .string xy, .slice av nv cv]).heap[w.heap.size + 1]? = some (.cells #[.int .i64 xw, .string xk, .string xn, .string xy, .slice av nv cv] 131 (0, 0)) := setRow_heap _ _ _ _ _ _ z1'
 have o5 := ((hO2.out.setCell ⟨w.heap.size + 2, 4, none⟩ (by simp) (.slice av nv cv)).setRow (w.heap.size + 1) (by omega) #[.int .i64 xw, .string xk, .string xn, .string xy, .slice av nv cv]).mono (show w.heap.size ≤ w.heap.size + 3 by omega)
 have b5 : Below w.heap.size w ((w2.setCell ⟨w.heap.size + 2, 4, none⟩ (.slice av nv cv)).setRow (w.heap.size + 1) #[.int .i64 xw, .string xk, .string xn, .string xy, .slice av nv cv]) :=
  ⟨b02.os, b02.tape, b02.output, by rw [setRow_size]; simp; omega, fun k hk => by rw [setRow_other _ _ _ _ (by omega), Below.heap_setCell _ _ _ _ (by simp; omega)]; exact b02.block k hk⟩
 have y0 := cell_of_block z5 0
 have y1 := cell_of_block z5 1
 have y2 := cell_of_block z5 2
 have y3 := cell_of_block z5 3
 have y4 := cell_of_block z5 4
 simp only [List.getElem?_toArray, List.getElem?_cons_zero, List.getElem?_cons_succ] at y0 y1 y2 y3 y4
 rw [show w.heap.size + 1 + 1 = w.heap.size + 2 from rfl]
 generalize (w2.setCell ⟨w.heap.size + 2, 4, none⟩ (.slice av nv cv)).setRow (w.heap.size + 1) #[.int .i64 xw, .string xk, .string xn, .string xy, .slice av nv cv] = W at *
 exact bodyPost_ret (v := .agg #[.int .i64 xw, .string xk, .string xn, .string xy, .slice av nv cv]) (by simp [results, Tryz.results97, go_sem, y0, y1, y2, y3, y4]) rfl ⟨_, ls', rfl, HPL.out, o5, b5⟩
set_option maxHeartbeats 2000000 in
set_option maxRecDepth 100000 in
theorem toChanges_any {v : Value} {ls : List CAt} {w : World} (h : ChangesIn w v ls) (hs : ls.length ≤ 1048576 ∧ ∀ c ∈ ls, ChangeSm c) : Calls Tryz.prog 40 #[v] w fun e w' => ∃ v' ls', e = .returned v' ∧ ls'.map CAt.plain = ls.map CAt.plain ∧ ChangesOwn w.heap.size w' v' ls' ∧ Below w.heap.size w w' := by
 obtain ⟨ao, cap, rfl⟩ := h.1.form
 have hl := hs.1
 generalize hn : ls.length = len at *
 have en := hid_in hn
 clear hn
 obtain ⟨i0, hi, hz0, hz1, hz2⟩ := info_parts infoChange
 go_enter Tryz.func40, Tryz.ntmps40
 go_wp2_with (with_reducible show wpList _ _ _ (Oper.mk _ (Op.makeSlice _ _ _) _ _ _ _ :: _) _ _; refine wpList_make_full w rfl _ _ _ rfl w.heap.size 131 i0 _ 5 Tryz.underlying49 hi hz0 hz1 .i64 .i64 (len : Int) (len : Int) len ?_ ?_ rfl rfl (by rw [hz2]; omega) (by unfold maxLen; omega) (Nat.le_refl _) ?_)
 ·rfl
 ·rfl
 intro w1 own1 gr1
 have b1 := below_madeR gr1
 have hgt1 := (own1.lt w.heap.size rfl).2
 obtain ⟨zs, own1, hmadeL⟩ : ∃ zs : List Value, w1.ownsRow w.heap.size 131 5 (.slice (some ⟨w.heap.size, 0, none⟩) len len) len zs ∧ zs.length = len * 5 := ⟨_, own1, own1.1⟩
 clear gr1
 go_wp2
 go_loopw [4] (fun i wr => ∃ (j : Nat) (done : List CAt), j ≤ len ∧ i = .int .i64 (j : Int) ∧ done.map CAt.plain = (ls.take j).map CAt.plain ∧ wr.ownsRow w.heap.size 131 5 (.slice (some ⟨w.heap.size, 0, none⟩) len len) len (done.flatMap CAt.cells ++ zs.drop (j * 5)) ∧ Mem (w.heap.size + 1) wr (done.flatMap CAt.rows) ∧ Below w.heap.size w wr ∧ w.heap.size < wr.heap.size) (fun i _ => len - (intOf i).toNat)
 case atStart => exact ⟨0, [], by omega, rfl, by simp, by simpa using own1, Mem.nil _ _, b1, hgt1⟩
 case round =>
  obtain ⟨j, done, hj, rfl, hdn, hown, hdw, bw, hgt⟩ := hrel
  have hdl : done.length = j := by have := congrArg List.length hdn; simp at this; have := en.out; omega
  by_cases hlt : j < len
  ·obtain ⟨D, x, T, e0, hD⟩ := split1 ls j (by have := en.out; omega)
   have h5 := h.below bw
   have hxm : x ∈ ls := by rw [e0]; simp
   have h6 := h5
   rw [e0] at h6
   obtain ⟨g, off, rfl, c1, c2, c3, c4, c5⟩ := h6.1.change
   obtain ⟨ax, cx, e1⟩ := (h5.2 x hxm).1.form
   have HX := toChange_any (h5.2 x hxm) (hs.2 x hxm).2
   rw [hD] at c1 c2 c3 c4 c5
   rw [e1] at c5 HX
   have hstep := hid_in (show ∀ v' ls', ls'.map LAt.plain = x.ls.map LAt.plain → (done ++ [⟨x.what, x.kind, x.name, x.key, v', ls'⟩] : List CAt).map CAt.plain = (ls.take (j + 1)).map CAt.plain from by
    intro v' ls' hpl
    rw [List.map_append, hdn, e0, ← hD, take_front, take_one, List.map_append, List.map_singleton, List.map_singleton, show CAt.plain ⟨x.what, x.kind, x.name, x.key, v', ls'⟩ = x.plain from by unfold CAt.plain; rw [hpl]])
   have hcell := hid_in (show ∀ v' ls', (done.flatMap CAt.cells ++ [.int .i64 x.what, .string x.kind, .string x.name, .string x.key, v']) ++ zs.drop (j * 5 + 5) = (done ++ [⟨x.what, x.kind, x.name, x.key, v', ls'⟩] : List CAt).flatMap CAt.cells ++ zs.drop ((j + 1) * 5) from by
    intro v' ls'
    rw [List.flatMap_append, List.flatMap_singleton, show (j + 1) * 5 = j * 5 + 5 by omega]; rfl)
   have hsplit := hid_in (show done.flatMap CAt.cells ++ zs.drop (j * 5) = done.flatMap CAt.cells ++ (zs.drop (j * 5)).take 5 ++ zs.drop (j * 5 + 5) from by
    rw [List.append_assoc, ← List.drop_drop, List.take_append_drop])
   have hAl := hid_in (show (done.flatMap CAt.cells).length = j * 5 from by rw [rowF_len _ 5 CAt.len, hdl])
   have hBl := hid_in (show ((zs.drop (j * 5)).take 5).length = 5 from by simp; omega)
   have hT := fun v' W (hW : W.ownsRow w.heap.size 131 5 (.slice (some ⟨w.heap.size, 0, none⟩) len len) len (done.flatMap CAt.cells ++ zs.drop (j * 5))) => own_setCells [.int .i64 x.what, .string x.kind, .string x.name, .string x.key, v'] (j * 5) W _ hW
   have hdw' := hid_in hdw
   have hown' := hid_in hown
   have hB0 : (0 : Int) ≤ (j : Int) := by omega
   have hB1 : (j : Int) < (len : Int) := by omega
   clear h h5 h6 hs hdn own1 b1 hmadeL hown hdw e0 e1 hD hxm
   go_wp2_with (go_at_call 97; refine HX.mono ?_)
   rintro e w2 ⟨v', ls', rfl, hpl, o2, b2⟩
   have hown2 := own_below hown'.out b2
   obtain ⟨av, cv, rfl, _⟩ := own_form o2.row
   obtain ⟨u0, k1⟩ := Option.isSome_iff_exists.1 (row_there hown2 (j * 5) 5 (by omega) 0 (by omega)).1
   have k2 := (hown2.frozenAt (j * 5))
   have hs0 := (hown2.stored (j * 5) (.int .i64 x.what)).1
   obtain ⟨u1, k3⟩ := Option.isSome_iff_exists.1 (row_there hs0 (j * 5) 5 (by omega) 1 (by omega)).1
   have k4 := hs0.frozenAt (j * 5 + 1)
   have hs1 := (hs0.stored (j * 5 + 1) (.string x.kind)).1
   obtain ⟨u2, k5⟩ := Option.isSome_iff_exists.1 (row_there hs1 (j * 5) 5 (by omega) 2 (by omega)).1
   have k6 := hs1.frozenAt (j * 5 + 2)
   have hs2 := (hs1.stored (j * 5 + 2) (.string x.name)).1
   obtain ⟨u3, k7⟩ := Option.isSome_iff_exists.1 (row_there hs2 (j * 5) 5 (by omega) 3 (by omega)).1
   have k8 := hs2.frozenAt (j * 5 + 3)
   have hs3 := (hs2.stored (j * 5 + 3) (.string x.key)).1
   obtain ⟨u4, k9⟩ := Option.isSome_iff_exists.1 (row_there hs3 (j * 5) 5 (by omega) 4 (by omega)).1
   have k10 := hs3.frozenAt (j * 5 + 4)
   rw [Nat.add_zero] at k1
   obtain ⟨ys, y1, y2, y3⟩ := hT (.slice av ls'.length cv) w2 hown2
   have hy := y3 _ _ _ hsplit.out hAl.out hBl.out
   rw [hy, hcell.out _ ls'] at y1
   have hdw2 := hid_in (show Mem (w.heap.size + 1) (w2.setCells w.heap.size (j * 5) [.int .i64 x.what, .string x.kind, .string x.name, .string x.key, .slice av ls'.length cv]) ((done ++ [⟨x.what, x.kind, x.name, x.key, .slice av ls'.length cv, ls'⟩] : List CAt).flatMap CAt.rows) from by
    rw [List.flatMap_append, List.flatMap_singleton]
    exact ((hdw'.out.join (N := lrows (.slice av ls'.length cv) ls') o2 b2 (by omega)).perm List.perm_append_comm).other y2 (by omega))
   have b3 := below_grownR (bw.trans (b2.mono bw.size)) y2
   have hgt3 : w.heap.size < (w2.setCells w.heap.size (j * 5) [.int .i64 x.what, .string x.kind, .string x.name, .string x.key, .slice av ls'.length cv]).heap.size := by have := b2.size; have := y2.size; omega
   have Y1 := hid_in y1
   have HST := hid_in (hstep.out (.slice av ls'.length cv) ls' hpl)
   clear hT y1 y2 y3 hy hsplit hcell hAl hBl hdw' hown' hown2 HX c1 c2 c3 c4 c5 o2 hstep hs0 hs1 hs2 hs3 hpl
   go_wp2
   go_roundw
   case rel => exact ⟨j + 1, _, by omega, by go_num, HST.out, Y1.out, hdw2.out, b3, hgt3⟩
   case measure => simp [intOf]; omega
  ·obtain rfl : j = len := by omega
   have hls : ls.take j = ls := by rw [← en.out, List.take_length]
   rw [hls] at hdn
   have hz : zs.drop (j * 5) = [] := List.drop_eq_nil_of_le (by omega)
   rw [hz, List.append_nil] at hown
   have HO := hid_in (show ChangesOwn w.heap.size wr (.slice (some ⟨w.heap.size, 0, none⟩) j j) done from Mem.low hdw (show wr.ownsRow w.heap.size 131 5 (.slice (some ⟨w.heap.size, 0, none⟩) j j) done.length (done.flatMap CAt.cells) by rw [hdl]; exact hown) rfl (by omega))
   have HD := hid_in hdn
   clear h hs hown hdw hdn own1
   go_wp2
   go_ret
   exact ⟨_, done, rfl, HD.out, HO.out, bw⟩
end Go.Proofs.YtpdahhnjhggocabGreatDoor
namespace Go.Proofs.YtpdahhnjhggocabGreatDoor
open Go.RowKit
set_option maxHeartbeats 16000000 in
set_option maxRecDepth 100000 in
theorem specApply_any {v lv : Value} {bs : List BAt} {cs : List CAt} {w : World} (hbs : BlocksIn w v bs) (hsm : BlocksSmall bs) (hcs : ChangesIn w lv cs) (hcl : cs.length ≤ 1048576) (hcm : ∀ c ∈ cs, c.name.size ≤ 1048576 ∧ LinesSmall c.ls) (htot : tot (cs.map CAt.plain) ≤ 1048576) (hbud : ∀ b ∈ bs, b.ls.length + tot (cs.map CAt.plain) ≤ 1048576) : Calls Tryz.prog 39 #[.agg #[v], lv] w fun e w' => ApPost (applyS (bs.map BAt.plain) (cs.map CAt.plain)) w e w' := by
 obtain ⟨va, vc, rfl⟩ := hbs.1.form
 obtain ⟨la, lc, rfl⟩ := hcs.1.form
 have G : Below w.heap.size w ((w.alloc (.cells #[.slice va bs.length vc] 24)).alloc (.cells #[.slice none 0 0] 24)) := ((Below.refl w.heap.size w).alloc (Nat.le_refl _) _).alloc (by simp) _
 have hz : ((w.alloc (.cells #[.slice va bs.length vc] 24)).alloc (.cells #[.slice none 0 0] 24)).heap.size = w.heap.size + 2 := by simp
 have y0 : BlkAt ((w.alloc (.cells #[.slice va bs.length vc] 24)).alloc (.cells #[.slice none 0 0] 24)) w.heap.size #[.slice va bs.length vc] 24 := by
  show ((w.alloc _).alloc _).heap[w.heap.size]? = _
  rw [alloc_there _ _ _ (by simp), alloc_here]
 have y1 : BlkAt ((w.alloc (.cells #[.slice va bs.length vc] 24)).alloc (.cells #[.slice none 0 0] 24)) (w.heap.size + 1) #[.slice none 0 0] 24 := by
  have := alloc_here (w.alloc (.cells #[.slice va bs.length vc] 24)) (.cells #[.slice none 0 0] 24)
  simpa [BlkAt] using this
 have HV := specValid_any (hbs.below G) hsm
 have HB := hid_in (hbs.below G)
 have HSM := hid_in hsm
 have HCS := hid_in hcs
 have HCM := hid_in hcm
 have HBUD := hid_in hbud
 have HTOT := hid_in htot
 obtain ⟨R, hR⟩ : ∃ R, applyS (bs.map BAt.plain) (cs.map CAt.plain) = R := ⟨_, rfl⟩
 have HRR := hid_in hR
 rw [hR]
 clear hR hbs hsm hcs hcm hbud htot
 generalize hVB : sheetB (bs.map BAt.plain) = VB at *
 have EVB := hid_in hVB
 clear hVB
 generalize hnb : bs.length = nb at *
 have enb := hid_in hnb
 clear hnb
 generalize hnl : cs.length = nl at *
 have enl := hid_in hnl
 clear hnl
 generalize hW0 : (w.alloc (.cells #[.slice va nb vc] 24)).alloc (.cells #[.slice none 0 0] 24) = W0 at *
 have EW := hid_in hW0
 have HSZ := hid_in hz
 clear hW0 hz
 have s0 := cell_of_block y0 0
 simp only [List.getElem?_toArray, List.getElem?_cons_zero] at s0
 go_enter Tryz.func39, Tryz.ntmps39
 go_upto_region 1 with fail
 rw [EW.out]
 clear EW
 go_wp2_with (go_at_call 61; refine HV.mono ?_)
 first | rintro e w1 rfl b1 | rintro e w1 ⟨rfl, b1⟩
 have c1 := (b1.cell (World.block_lt_of_cell? W0 _ s0)).trans s0
 have z1 := y1.below b1
 have hsz1 := b1.size
 rw [HSZ.out] at hsz1
 have g1 := G.trans (b1.mono G.size)
 have HB1 := hid_in (HB.out.below b1)
 clear HV s0 y0 y1 b1 G HB
 cases VB
 ·have HG := hid_in (show R = ([], 1) from by rw [← HRR.out]; unfold applyS; rw [if_neg (by rw [EVB.out]; simp)])
  have r9 : w1.heap[w.heap.size + 1]? = some (.cells #[.slice none 0 0] 24 (0, 0)) := z1
  go_wp2_with (with_reducible show wpList _ _ _ (Oper.mk _ (Op.store _ (Operand.tmp 4) _) _ _ _ _ :: _) _ _; refine wpList_store_row rfl 24 _ _ rfl (w.heap.size + 1) #[.slice none 0 0] ?_ ?_ 24 _ r9 ?_ ?_ ?_ ?_)
  all_goals (first | rfl | kernel_rfl | exact sheet_size | skip)
  have z5 : (w1.setRow (w.heap.size + 1) #[.slice none 0 0]).heap[w.heap.size + 1]? = some (.cells #[.slice none 0 0] 24 (0, 0)) := setRow_heap _ _ _ _ _ _ z1
  have b5 : Below w.heap.size w (w1.setRow (w.heap.size + 1) #[.slice none 0 0]) := ⟨g1.os, g1.tape, g1.output, by rw [setRow_size]; exact g1.size, fun k hk => by rw [setRow_other _ _ _ _ (by omega)]; exact g1.block k hk⟩
  have y5 := cell_of_block z5 0
  simp only [List.getElem?_toArray, List.getElem?_cons_zero] at y5
  generalize w1.setRow (w.heap.size + 1) #[.slice none 0 0] = W at b5 y5 z5 ⊢
  exact bodyPost_ret (v := .tuple #[.agg #[.slice none 0 0], .int .i64 1]) (by simp [results, Tryz.results39, go_sem, y5]) rfl ⟨_, [], by rw [HG.out], by rw [HG.out]; rfl, blocks_none _ _, b5⟩
 ·have HC := l3Copy_any HB1.out HSM.out
  have HOK := hid_in (show SheetOk (bs.map BAt.plain) from sheetB_iff.1 EVB.out)
  go_wp2_with (go_at_call 49; refine HC.mono ?_; rintro e w2 ⟨v2, bs2, rfl, hp2, o2, b2⟩; obtain ⟨a2, c2, rfl, hform⟩ := own_form o2.row)
  have x3 : Below w2.heap.size w2 (w2.alloc (.cells #[.slice a2 bs2.length c2] 24)) := (Below.refl _ _).alloc (Nat.le_refl _) _
  have hsz2 := b2.size
  have g2 := g1.trans (b2.mono g1.size)
  have g3 := g2.trans (x3.mono g2.size)
  have zR3 := (z1.below b2).below x3
  have zX3 := BlkAt.new w2 #[.slice a2 bs2.length c2] 24
  have HBR := hid_in ((o2.brow.mono (show w.heap.size + 2 ≤ w1.heap.size from hsz1)).below x3)
  have HP2 := hid_in hp2
  have hXz : w.heap.size + 2 ≤ w2.heap.size := by omega
  clear HC hp2 o2 b2 hform c1 z1 x3 HB1 g1 g2
  generalize bs2.length = n2 at *
  generalize w2.alloc (.cells #[.slice a2 n2 c2] 24) = w3 at *
  generalize w2.heap.size = X at *
  have HG0 := hid_in (show applyGo 0 (bs.map BAt.plain) (cs.map CAt.plain) = R from by rw [← HRR.out]; unfold applyS; rw [if_pos EVB.out])
  go_loopw [7] (fun i wr => ApJ w X cs R i wr) (fun i _ => nl - (intOf i).toNat)
  case atStart =>
   exact ⟨0, a2, n2, c2, bs2, rfl, Nat.zero_le _, g3, zR3, zX3, HBR.out, by rw [HP2.out]; exact HOK.out, by rw [HP2.out, List.drop_zero]; exact HG0.out, by rw [List.drop_zero]; exact HTOT.out, by rw [List.drop_zero]; exact bud_plain.2 (by rw [HP2.out]; exact bud_plain.1 HBUD.out)⟩
  case round =>
   clear HBR g3 zR3 zX3 HG0
   obtain ⟨k, a, n, c, bsk, rfl, hkn, hb, zR, zX, hbr, hok, hgo, htot, hbud⟩ := hrel
   have hXk := zX.lt
   have hbz := hb.size
   by_cases hlt : k < nl
   ·have hlt' : ((k : Int) < (nl : Int)) := by omega
    have hk0 : (0 : Int) ≤ (k : Int) := by omega
    obtain ⟨E, x, F, ecs, hE⟩ := split1 cs k (by rw [enl.out]; exact hlt)
    obtain ⟨ew, ek, en, ey, ev, els⟩ := x
    have hxm : (⟨ew, ek, en, ey, ev, els⟩ : CAt) ∈ cs := by rw [ecs]; simp
    have hxin : LinesIn w ev els := HCS.out.2 _ hxm
    obtain ⟨ea, ec, rfl⟩ := hxin.1.form
    obtain ⟨lg, loff, rfl, d0, d1, d2, d3, d4⟩ := (show HasRow w (.slice la nl lc) nl 5 ((E ++ (⟨ew, ek, en, ey, .slice ea els.length ec, els⟩ : CAt) :: F).flatMap CAt.cells) from by have := HCS.out.1; rw [enl.out, ecs] at this; exact this).change
    rw [hE] at d0 d1 d2 d3 d4
    have hlg : lg < w.heap.size := World.block_lt_of_cell? w _ d0
    have e0 := (hb.cell (World.block_lt_of_cell? w _ d0)).trans d0
    have e1 := (hb.cell (World.block_lt_of_cell? w _ d1)).trans d1
    have e2 := (hb.cell (World.block_lt_of_cell? w _ d2)).trans d2
    have e3 := (hb.cell (World.block_lt_of_cell? w _ d3)).trans d3
    have e4 := (hb.cell (World.block_lt_of_cell? w _ d4)).trans d4
    have x0 := cell_of_block zX 0
    simp only [List.getElem?_toArray, List.getElem?_cons_zero] at x0
    have hdk : cs.drop k = (⟨ew, ek, en, ey, .slice ea els.length ec, els⟩ : CAt) :: F := by rw [ecs, ← hE, List.drop_left]
    have hdk1 : cs.drop (k + 1) = F := by rw [ecs, show k + 1 = (E ++ [(⟨ew, ek, en, ey, .slice ea els.length ec, els⟩ : CAt)]).length by simp [hE], show E ++ (⟨ew, ek, en, ey, .slice ea els.length ec, els⟩ : CAt) :: F = (E ++ [⟨ew, ek, en, ey, .slice ea els.length ec, els⟩]) ++ F by simp, List.drop_left]
    rw [hdk] at hgo htot hbud
    rw [List.map_cons, applyGo_cons] at hgo
    rw [List.map_cons, tot_cons] at htot hbud
    have hlc : els.length = (CAt.plain ⟨ew, ek, en, ey, .slice ea els.length ec, els⟩).lines.length := by unfold CAt.plain; simp
    have HONE : ∀ W, Below wr.heap.size wr W → Calls Tryz.prog 96 #[.agg #[.slice a n c], .agg #[.int .i64 ew, .string ek, .string en, .string ey, .slice ea els.length ec]] W fun e w' => OnePost (w.heap.size + 2) (.slice a n c) (oneS (bsk.map BAt.plain) (CAt.plain ⟨ew, ek, en, ey, .slice ea els.length ec, els⟩)) W e w' := fun W hW => l7One_any (c := ⟨ew, ek, en, ey, .slice ea els.length ec, els⟩) (by have := hW.size; omega) (hbr.below hW) hok (hxin.below (hb.trans (hW.mono hb.size))) (fun q hq => lines_old hxin (by omega)) (HCM.out _ hxm).2 (HCM.out _ hxm).1 (fun b hb => by have h1 := hbud b hb; rw [← hlc] at h1; show b.ls.length + els.length ≤ _; omega)
    have HOKO := hid_in (fun A' (h : oneS (bsk.map BAt.plain) (CAt.plain ⟨ew, ek, en, ey, .slice ea els.length ec, els⟩) = some A') => oneS_ok hok h)
    have HBO := hid_in (fun A' (h : oneS (bsk.map BAt.plain) (CAt.plain ⟨ew, ek, en, ey, .slice ea els.length ec, els⟩) = some A') => oneS_bud h htot (bud_plain.1 hbud))
    have HTF := hid_in (show tot (F.map CAt.plain) ≤ 1048576 from by omega)
    generalize oneS (bsk.map BAt.plain) (CAt.plain ⟨ew, ek, en, ey, .slice ea els.length ec, els⟩) = O at *
    have HGO := hid_in hgo
    have HDK := hid_in hdk1
    have HZN := hid_in (own_box zX hbr.row (by decide))
    have HBRK := hid_in hbr
    clear hgo hdk hdk1 htot hbud hlc hok hxin hxm ecs hE hbr d0 d1 d2 d3 d4
    generalize els.length = el at *
    have HKS := hid_in (show ∀ u, Below (w.heap.size + 2) wr u → KeepR (.slice a n c) wr u → u.cell? ⟨X, 0, none⟩ = some (.slice a n c) ∧ u.cell? ⟨lg, loff + k * 5, none⟩ = some (.int .i64 ew) ∧ u.cell? ⟨lg, loff + k * 5 + 1, none⟩ = some (.string ek) ∧ u.cell? ⟨lg, loff + k * 5 + 2, none⟩ = some (.string en) ∧ u.cell? ⟨lg, loff + k * 5 + 3, none⟩ = some (.string ey) ∧ u.cell? ⟨lg, loff + k * 5 + 4, none⟩ = some (.slice ea el ec) from fun u hu hk => ⟨cell_of_block (show BlkAt u X #[.slice a n c] 24 from (hk X hXk HZN.out).trans zX) 0, (hu.cell (p := ⟨lg, loff + k * 5, none⟩) (show lg < w.heap.size + 2 by omega)).trans e0, (hu.cell (p := ⟨lg, loff + k * 5 + 1, none⟩) (show lg < w.heap.size + 2 by omega)).trans e1, (hu.cell (p := ⟨lg, loff + k * 5 + 2, none⟩) (show lg < w.heap.size + 2 by omega)).trans e2, (hu.cell (p := ⟨lg, loff + k * 5 + 3, none⟩) (show lg < w.heap.size + 2 by omega)).trans e3, (hu.cell (p := ⟨lg, loff + k * 5 + 4, none⟩) (show lg < w.heap.size + 2 by omega)).trans e4⟩)
    have t0 : ∀ p : { W : World // W.cell? ⟨X, 0, none⟩ = some (.slice a n c) ∧ W.cell? ⟨lg, loff + k * 5, none⟩ = some (.int .i64 ew) ∧ W.cell? ⟨lg, loff + k * 5 + 1, none⟩ = some (.string ek) ∧ W.cell? ⟨lg, loff + k * 5 + 2, none⟩ = some (.string en) ∧ W.cell? ⟨lg, loff + k * 5 + 3, none⟩ = some (.string ey) ∧ W.cell? ⟨lg, loff + k * 5 + 4, none⟩ = some (.slice ea el ec) }, p.1.cell? ⟨X, 0, none⟩ = some (.slice a n c) := fun p => p.2.1
    have t1 : ∀ p : { W : World // W.cell? ⟨X, 0, none⟩ = some (.slice a n c) ∧ W.cell? ⟨lg, loff + k * 5, none⟩ = some (.int .i64 ew) ∧ W.cell? ⟨lg, loff + k * 5 + 1, none⟩ = some (.string ek) ∧ W.cell? ⟨lg, loff + k * 5 + 2, none⟩ = some (.string en) ∧ W.cell? ⟨lg, loff + k * 5 + 3, none⟩ = some (.string ey) ∧ W.cell? ⟨lg, loff + k * 5 + 4, none⟩ = some (.slice ea el ec) }, p.1.cell? ⟨lg, loff + k * 5, none⟩ = some (.int .i64 ew) := fun p => p.2.2.1
    have t2 : ∀ p : { W : World // W.cell? ⟨X, 0, none⟩ = some (.slice a n c) ∧ W.cell? ⟨lg, loff + k * 5, none⟩ = some (.int .i64 ew) ∧ W.cell? ⟨lg, loff + k * 5 + 1, none⟩ = some (.string ek) ∧ W.cell? ⟨lg, loff + k * 5 + 2, none⟩ = some (.string en) ∧ W.cell? ⟨lg, loff + k * 5 + 3, none⟩ = some (.string ey) ∧ W.cell? ⟨lg, loff + k * 5 + 4, none⟩ = some (.slice ea el ec) }, p.1.cell? ⟨lg, loff + k * 5 + 1, none⟩ = some (.string ek) := fun p => p.2.2.2.1
    have t3 : ∀ p : { W : World // W.cell? ⟨X, 0, none⟩ = some (.slice a n c) ∧ W.cell? ⟨lg, loff + k * 5, none⟩ = some (.int .i64 ew) ∧ W.cell? ⟨lg, loff + k * 5 + 1, none⟩ = some (.string ek) ∧ W.cell? ⟨lg, loff + k * 5 + 2, none⟩ = some (.string en) ∧ W.cell? ⟨lg, loff + k * 5 + 3, none⟩ = some (.string ey) ∧ W.cell? ⟨lg, loff + k * 5 + 4, none⟩ = some (.slice ea el ec) }, p.1.cell? ⟨lg, loff + k * 5 + 2, none⟩ = some (.string en) := fun p => p.2.2.2.2.1
    have t4 : ∀ p : { W : World // W.cell? ⟨X, 0, none⟩ = some (.slice a n c) ∧ W.cell? ⟨lg, loff + k * 5, none⟩ = some (.int .i64 ew) ∧ W.cell? ⟨lg, loff + k * 5 + 1, none⟩ = some (.string ek) ∧ W.cell? ⟨lg, loff + k * 5 + 2, none⟩ = some (.string en) ∧ W.cell? ⟨lg, loff + k * 5 + 3, none⟩ = some (.string ey) ∧ W.cell? ⟨lg, loff + k * 5 + 4, none⟩ = some (.slice ea el ec) }, p.1.cell? ⟨lg, loff + k * 5 + 3, none⟩ = some (.string ey) := fun p => p.2.2.2.2.2.1
    have t5 : ∀ p : { W : World // W.cell? ⟨X, 0, none⟩ = some (.slice a n c) ∧ W.cell? ⟨lg, loff + k * 5, none⟩ = some (.int .i64 ew) ∧ W.cell? ⟨lg, loff + k * 5 + 1, none⟩ = some (.string ek) ∧ W.cell? ⟨lg, loff + k * 5 + 2, none⟩ = some (.string en) ∧ W.cell? ⟨lg, loff + k * 5 + 3, none⟩ = some (.string ey) ∧ W.cell? ⟨lg, loff + k * 5 + 4, none⟩ = some (.slice ea el ec) }, p.1.cell? ⟨lg, loff + k * 5 + 4, none⟩ = some (.slice ea el ec) := fun p => p.2.2.2.2.2.2
    letI I0 : Inhabited { W : World // W.cell? ⟨X, 0, none⟩ = some (.slice a n c) ∧ W.cell? ⟨lg, loff + k * 5, none⟩ = some (.int .i64 ew) ∧ W.cell? ⟨lg, loff + k * 5 + 1, none⟩ = some (.string ek) ∧ W.cell? ⟨lg, loff + k * 5 + 2, none⟩ = some (.string en) ∧ W.cell? ⟨lg, loff + k * 5 + 3, none⟩ = some (.string ey) ∧ W.cell? ⟨lg, loff + k * 5 + 4, none⟩ = some (.slice ea el ec) } := ⟨⟨wr, x0, e0, e1, e2, e3, e4⟩⟩
    go_upto_region 7 with fail
    refine wp_region_hold (S := fun W => W.cell? ⟨X, 0, none⟩ = some (.slice a n c) ∧ W.cell? ⟨lg, loff + k * 5, none⟩ = some (.int .i64 ew) ∧ W.cell? ⟨lg, loff + k * 5 + 1, none⟩ = some (.string ek) ∧ W.cell? ⟨lg, loff + k * 5 + 2, none⟩ = some (.string en) ∧ W.cell? ⟨lg, loff + k * 5 + 3, none⟩ = some (.string ey) ∧ W.cell? ⟨lg, loff + k * 5 + 4, none⟩ = some (.slice ea el ec)) 11 12 (by kernel_rfl) rfl ?_
    refine wpHold_mask [true, true, true, true, true, false, false, false, false, false, false, false] 7 rfl (by kernel_rfl) ⟨x0, e0, e1, e2, e3, e4⟩ ?_
    simp only [maskL_t, maskL_f, maskL_n]
    iterate 5 (refine wpReads_step (fun K hK => ?_); go_simp; refine hK _ ?_; clear hK K)
    refine wpReads_nil ?_
    clear t0 t1 t2 t3 t4 t5
    refine wpHold_branch (f := 6) (rs := [5, 9]) (by kernel_rfl) (by simp) ?_
    refine AllHold.cons rfl (by decide) (fun K hK => ?wayA) (AllHold.cons rfl (by decide) (fun K hK => ?wayB) AllHold.nil)
    case' wayA =>
     go_simp
     have Bd : Below wr.heap.size wr wr.drew := (Below.refl _ _).drew
     go_wp2_with (go_at_call 96; refine (HONE _ Bd).mono ?_; intro e u1 hpost; obtain ⟨a', n', c', ok, rfl, f1, f2, f3⟩ := one_fin hpost)
     have b1 : Below (w.heap.size + 2) wr u1 := (Bd.mono (by omega)).trans f1
     have k1 : KeepR (.slice a n c) wr u1 := fun q hq hn => f2 q hq hn
     refine hK.out _ _ (HKS.out _ b1 k1) ?_
     clear hK K hpost
     refine wpHold_mask [false, false, false, false, false, false, true, true, true, false, false, false] 3 rfl (by kernel_rfl) (HKS.out _ b1 k1) ?_
     simp only [maskL_t, maskL_f, maskL_n]
     iterate 3 (refine wpReads_step (fun K hK => ?_); go_simp; refine hK _ ?_; clear hK K)
     refine wpReads_nil ?_
     refine wpHold_branch (f := 2) (rs := [9]) (by kernel_rfl) (by simp) ?_
     refine AllHold.cons rfl (by decide) (fun K hK => ?_) AllHold.nil
     go_simp
     have bY := (Below.refl u1.heap.size u1).alloc (Nat.le_refl _) (.cells #[.slice none 0 0] 24)
     have zY := BlkAt.new u1 #[.slice none 0 0] 24
     have h1z := b1.size
     have b2 := b1.trans (bY.mono (by omega))
     have k2 := k1.then h1z bY
     refine hK.out _ _ (HKS.out _ b2 k2) ?_
     clear hK K
     have HF := hid_in (f3.below bY)
     have hYz : w.heap.size + 2 ≤ u1.heap.size := by omega
     have hYX : X ≠ u1.heap.size := by omega
     clear f1 f2 f3 b1 k1 bY Bd h1z
     generalize u1.alloc (.cells #[.slice none 0 0] 24) = UY at *
     generalize u1.heap.size = Y at *
    case' wayB =>
     go_simp
     have bY : Below wr.heap.size wr (wr.alloc (.cells #[.slice none 0 0] 24)).drew := ((Below.refl wr.heap.size wr).alloc (Nat.le_refl _) (.cells #[.slice none 0 0] 24)).drew
     have zY0 : BlkAt (wr.alloc (.cells #[.slice none 0 0] 24)).drew wr.heap.size #[.slice none 0 0] 24 := BlkAt.new wr _ _
     refine hK.out _ _ (HKS.out _ (bY.mono (by omega)) (KeepR.of_below bY)) ?_
     clear hK K
     refine wpHold_branch (f := 5) (rs := [5]) (by kernel_rfl) (by simp) ?_
     refine AllHold.cons rfl (by decide) (fun K hK => ?_) AllHold.nil
     go_simp
     go_wp2_with (go_at_call 96; refine (HONE _ bY).mono ?_; intro e UY hpost; obtain ⟨a', n', c', ok, rfl, f1, f2, f3⟩ := one_fin hpost)
     have b2 : Below (w.heap.size + 2) wr UY := (bY.mono (by omega)).trans f1
     have k2 : KeepR (.slice a n c) wr UY := fun q hq hn => (f2 q (Nat.lt_of_lt_of_le hq bY.size) hn).trans (bY.block q hq)
     refine hK.out _ _ (HKS.out _ b2 k2) ?_
     clear hK K hpost
     refine wpHold_mask [false, false, false, false, false, false, true, true, true, false, false, false] 2 rfl (by kernel_rfl) (HKS.out _ b2 k2) ?_
     simp only [maskL_t, maskL_f, maskL_n]
     iterate 3 (refine wpReads_step (fun K hK => ?_); go_simp; refine hK _ ?_; clear hK K)
     refine wpReads_nil ?_
     have zY : BlkAt UY wr.heap.size #[.slice none 0 0] 24 := (f2 wr.heap.size zY0.lt (own_box zY0 (HBRK.out.below bY).row (by decide))).trans zY0
     have HF := hid_in f3
     have hYz : w.heap.size + 2 ≤ wr.heap.size := by omega
     have hYX : X ≠ wr.heap.size := by omega
     have EY : ∃ Y, wr.heap.size = Y := ⟨_, rfl⟩
     obtain ⟨Y, hY⟩ := EY
     rw [hY] at zY hYz hYX ⊢
     clear f1 f2 f3 bY zY0 hY
    all_goals
     refine wpHold_branch (f := 1) (rs := [10]) (by kernel_rfl) (by simp) ?_
     refine AllHold.cons rfl (by decide) (fun K hK => ?_) AllHold.nil
     rw [if_pos (by rfl)]
     refine wp_store_row 24 _ _ rfl Y #[.slice a' n' c'] rfl rfl 24 _ zY (by kernel_rfl) rfl (by first | rfl | kernel_rfl) ?_
     have gz := grown_setRow UY Y #[.slice a' n' c']
     have b3 := belowGrown b2 (by have := b2.size; omega) hYz gz
     have zX2 : BlkAt UY X #[.slice a n c] 24 := (k2 X hXk HZN.out).trans zX
     have zX3 := zX2.grown gz hYX
     have zR3 := (show BlkAt UY (w.heap.size + 1) #[.slice none 0 0] 24 from (b2.block _ (by omega)).trans zR).grown gz (by omega)
     have zY3 : BlkAt (UY.setRow Y #[.slice a' n' c']) Y #[.slice a' n' c'] 24 := setRow_heap _ _ _ _ _ _ zY
     have HF3 := hid_in (show OneIs (w.heap.size + 2) O (.slice a' n' c') ok (UY.setRow Y #[.slice a' n' c']) from by
      rcases HF.out with h | ⟨A, bs', h1, h2, h3, h4⟩
      ·exact .inl h
      ·exact .inr ⟨A, bs', h1, h2, h3, brow_far h4 gz (own_box zY h4.row (by decide)) (fun y hy => lines_box zY (h4.2 y hy).1)⟩)
     have x9 := cell_of_block zX3 0
     simp only [List.getElem?_toArray, List.getElem?_cons_zero] at x9
     refine hK.out _ _ ⟨x9, (b3.cell (p := ⟨lg, loff + k * 5, none⟩) (show lg < w.heap.size + 2 by omega)).trans e0, (b3.cell (p := ⟨lg, loff + k * 5 + 1, none⟩) (show lg < w.heap.size + 2 by omega)).trans e1, (b3.cell (p := ⟨lg, loff + k * 5 + 2, none⟩) (show lg < w.heap.size + 2 by omega)).trans e2, (b3.cell (p := ⟨lg, loff + k * 5 + 3, none⟩) (show lg < w.heap.size + 2 by omega)).trans e3, (b3.cell (p := ⟨lg, loff + k * 5 + 4, none⟩) (show lg < w.heap.size + 2 by omega)).trans e4⟩ ?_
     clear hK K gz zX2 HF HKS I0 HONE x9
     generalize UY.setRow Y #[.slice a' n' c'] = WZ at *
     refine wpHold_last (by kernel_rfl) rfl (by kernel_rfl) ?_
     intro K hK
     go_simp
     refine hK.out _ _ (NoPanic.normal ?_)
     clear hK K zY zX zR x0 e0 e1 e2 e3 e4 HZN b2 k2
     have hz3 := b3.size
     have BW : Below w.heap.size w WZ := hb.trans (b3.mono (by omega))
     have y9 := cell_of_block zY3 0
     simp only [List.getElem?_toArray, List.getElem?_cons_zero] at y9
     rcases HF3.out with ⟨hO, rfl⟩ | ⟨A, bs', hO, rfl, hpl, hbr'⟩
     ·have HG := hid_in (show R = ([], 2 + (k : Int)) from by rw [← HGO.out, hO])
      clear hO HF3 HGO HOKO HBO
      have r9 : WZ.heap[w.heap.size + 1]? = some (.cells #[.slice none 0 0] 24 (0, 0)) := zR3
      have b9 : Below w.heap.size w (WZ.setRow (w.heap.size + 1) #[.slice none 0 0]) := ⟨BW.os, BW.tape, BW.output, by rw [setRow_size]; exact BW.size, fun q hq => by rw [setRow_other _ _ _ _ (by omega)]; exact BW.block q hq⟩
      go_wp2_with (with_reducible show wpList _ _ _ (Oper.mk _ (Op.store _ (Operand.tmp 4) _) _ _ _ _ :: _) _ _; refine wpList_store_row rfl 24 _ _ rfl (w.heap.size + 1) #[.slice none 0 0] ?_ ?_ 24 _ r9 ?_ ?_ ?_ ?_)
      ·rfl
      ·rfl
      ·first | rfl | kernel_rfl | exact sheet_size
      ·rfl
      ·first | rfl | kernel_rfl
      have z9 : (WZ.setRow (w.heap.size + 1) #[.slice none 0 0]).heap[w.heap.size + 1]? = some (.cells #[.slice none 0 0] 24 (0, 0)) := setRow_heap _ _ _ _ _ _ r9
      have v9 := cell_of_block z9 0
      simp only [List.getElem?_toArray, List.getElem?_cons_zero] at v9
      generalize WZ.setRow (w.heap.size + 1) #[.slice none 0 0] = W9 at b9 v9 z9 ⊢
      exact bodyPost_ret (v := .tuple #[.agg #[.slice none 0 0], .int .i64 (2 + (k : Int))]) (by simp [results, Tryz.results39, go_sem, v9]) rfl ⟨_, [], by rw [HG.out], by rw [HG.out]; rfl, blocks_none _ _, b9⟩
     ·have HG := hid_in (show applyGo (k + 1) A (F.map CAt.plain) = R from by have := HGO.out; rw [hO] at this; exact this)
      have HOK9 := hid_in (HOKO.out A hO)
      have HB9 := hid_in (HBO.out A hO)
      have HPL := hid_in hpl
      have gx := grown_setRow WZ X #[.slice a' n' c']
      have HJ := hid_in (show ApJ w X cs R (.int .i64 ((k + 1 : Nat) : Int)) (WZ.setRow X #[.slice a' n' c']) from ⟨k + 1, a', n', c', bs', rfl, by rw [enl.out]; omega, belowGrown BW BW.size (by omega) gx, zR3.grown gx (by omega), setRow_heap _ _ _ _ _ _ zX3, brow_far hbr' gx (own_box zX3 hbr'.row (by decide)) (fun y hy => lines_box zX3 (hbr'.2 y hy).1), by rw [HPL.out]; exact HOK9.out, by rw [HPL.out, HDK.out]; exact HG.out, by rw [HDK.out]; exact HTF.out, by rw [HDK.out]; exact bud_plain.2 (by rw [HPL.out]; exact HB9.out)⟩)
      have r9 : WZ.heap[X]? = some (.cells #[.slice a n c] 24 (0, 0)) := zX3
      clear hO HF3 HGO HOKO HBO hpl hbr' HG HOK9 HB9 HPL gx
      go_wp2_with (with_reducible show wpList _ _ _ (Oper.mk _ (Op.store _ (Operand.tmp 6) _) _ _ _ _ :: _) _ _; refine wpList_store_row rfl 24 _ _ rfl X #[.slice a' n' c'] ?_ ?_ 24 _ r9 ?_ ?_ ?_ ?_)
      ·rfl
      ·rfl
      ·first | rfl | kernel_rfl | exact sheet_size
      ·rfl
      ·first | rfl | kernel_rfl
      generalize WZ.setRow X #[.slice a' n' c'] = W9 at *
      try go_wp2
      go_roundw
      case rel => exact HJ.out
      case measure => simp [intOf]; omega
   ·have hlt' : ¬ ((k : Int) < (nl : Int)) := by omega
    have x0 := cell_of_block zX 0
    simp only [List.getElem?_toArray, List.getElem?_cons_zero] at x0
    have HG := hid_in (show R = (bsk.map BAt.plain, 0) from by rw [← hgo, List.drop_of_length_le (by rw [enl.out]; omega)]; rfl)
    have HC := l3Copy_any hbr.bin (ok_small hok)
    clear hgo htot hbud
    go_wp2_with (go_at_call 49; refine HC.mono ?_)
    first | rintro e w5 v5 rfl bs5 hp5 o5 b5 | rintro e w5 v5 bs5 rfl hp5 o5 b5 | rintro e w5 ⟨v5, bs5, rfl, hp5, o5, b5⟩
    obtain ⟨a5, c5, rfl, hform⟩ := own_form o5.row
    have z5 := zR.below b5
    have BW := hb.trans (b5.mono hb.size)
    have HP5 := hid_in hp5
    have HO5 := hid_in o5
    clear hp5 o5 b5 hform HC hok hbr zX x0
    generalize bs5.length = n5 at *
    have r9 : w5.heap[w.heap.size + 1]? = some (.cells #[.slice none 0 0] 24 (0, 0)) := z5
    have b9 : Below w.heap.size w (w5.setRow (w.heap.size + 1) #[.slice a5 n5 c5]) := ⟨BW.os, BW.tape, BW.output, by rw [setRow_size]; exact BW.size, fun q hq => by rw [setRow_other _ _ _ _ (by omega)]; exact BW.block q hq⟩
    go_wp2_with (with_reducible show wpList _ _ _ (Oper.mk _ (Op.store _ (Operand.tmp 4) _) _ _ _ _ :: _) _ _; refine wpList_store_row rfl 24 _ _ rfl (w.heap.size + 1) #[.slice a5 n5 c5] ?_ ?_ 24 _ r9 ?_ ?_ ?_ ?_)
    ·rfl
    ·rfl
    ·first | rfl | kernel_rfl | exact sheet_size
    ·rfl
    ·first | rfl | kernel_rfl
    have z9 : (w5.setRow (w.heap.size + 1) #[.slice a5 n5 c5]).heap[w.heap.size + 1]? = some (.cells #[.slice a5 n5 c5] 24 (0, 0)) := setRow_heap _ _ _ _ _ _ r9
    have v9 := cell_of_block z9 0
    simp only [List.getElem?_toArray, List.getElem?_cons_zero] at v9
    have O9 := hid_in ((HO5.out.setRow (w.heap.size + 1) (by omega) #[.slice a5 n5 c5]).mono (show w.heap.size ≤ wr.heap.size from hbz))
    generalize w5.setRow (w.heap.size + 1) #[.slice a5 n5 c5] = W9 at *
    exact bodyPost_ret (v := .tuple #[.agg #[.slice a5 n5 c5], .int .i64 0]) (by simp [results, Tryz.results39, go_sem, v9]) rfl ⟨_, bs5, by rw [HG.out], by rw [HG.out]; exact HP5.out, O9.out, b9⟩
end Go.Proofs.YtpdahhnjhggocabGreatDoor
namespace Go.Proofs.YtpdahhnjhggocabGreatDoor
open Go.RowKit
def stopE (p : Int) : List PanicEntry := [{ v := .iface 230 (.agg #[.int .i64 p]), recovered := false }]
def TabOk (c : PChange) : Prop := (c.what = 1 ∧ c.key = ⟨#[]⟩ ∧ c.lines = []) ∨ (c.what = 2 ∧ c.key = ⟨#[]⟩) ∨ (c.what = 3 ∧ c.lines ≠ [] ∧ ∀ a ∈ c.lines, a.key = c.key) ∨ (c.what = 4 ∧ c.lines = [])
def TabPost (p : Int) (c : CAt) (w : World) (e : Ending) (w' : World) : Prop := Below w.heap.size w w' ∧ ((TabOk c.plain ∧ ∃ v', e = .returned (CAt.step ⟨c.what, c.kind, c.name, c.key, v', c.ls⟩) ∧ LinesIn w' v' c.ls) ∨ (¬ TabOk c.plain ∧ e = .panicked (stopE p)))
theorem tabok1 {k n y : ByteArray} {L : List PLine} : TabOk ⟨1, k, n, y, L⟩ ↔ y = ⟨#[]⟩ ∧ L = [] := by simp [TabOk]
theorem tabok2 {k n y : ByteArray} {L : List PLine} : TabOk ⟨2, k, n, y, L⟩ ↔ y = ⟨#[]⟩ := by simp [TabOk]
theorem tabok3 {k n y : ByteArray} {L : List PLine} : TabOk ⟨3, k, n, y, L⟩ ↔ L ≠ [] ∧ ∀ a ∈ L, a.key = y := by simp [TabOk]
theorem tabok4 {k n y : ByteArray} {L : List PLine} : TabOk ⟨4, k, n, y, L⟩ ↔ L = [] := by simp [TabOk]
theorem tabok_other {c : PChange} (h1 : c.what ≠ 1) (h2 : c.what ≠ 2) (h3 : c.what ≠ 3) (h4 : c.what ≠ 4) : ¬ TabOk c := by
 intro h
 rcases h with h | h | h | h
 ·exact h1 h.1
 ·exact h2 h.1
 ·exact h3 h.1
 ·exact h4 h.1
theorem withKey_all {ls : List LAt} {k : ByteArray} (h : (withKey ls k).length = ls.length) : withKey ls k = ls := List.filter_eq_self.2 (by
 have := List.length_filter_eq_length_iff.1 h
 exact this)
set_option maxHeartbeats 4000000 in
set_option maxRecDepth 100000 in
theorem read_other {M : Nat} {p : Int} {c : CAt} {w : World} (hm : w.cell? ⟨M, 1, none⟩ = some (.int .i64 p)) (hc : LinesIn w c.v c.ls) (hl : c.ls.length ≤ 1048576) (h1 : c.what ≠ 1) (h2 : c.what ≠ 2) (h3 : c.what ≠ 3) (h4 : c.what ≠ 4) : Calls Tryz.prog 165 #[.pointer (some ⟨M, 0, none⟩), .agg #[.int .i64 c.what, .string c.kind, .string c.name, .string c.key, c.v]] w fun e w' => TabPost p c w e w' := by
 obtain ⟨what, ck, cn, cy, cv, cl⟩ := c
 have hc0 : LinesIn w cv cl := hc
 clear hc
 have hl0 : cl.length ≤ 1048576 := hl
 clear hl
 obtain ⟨la, lc, rfl⟩ := hc0.1.form
 have g1 : what ≠ 1 := h1
 have g2 : what ≠ 2 := h2
 have g3 : what ≠ 3 := h3
 have g4 : what ≠ 4 := h4
 clear h1 h2 h3 h4
 have e1 : (what == 1) = false := by simpa using g1
 have e2 : (what == 2) = false := by simpa using g2
 have e3 : (what == 3) = false := by simpa using g3
 have e4 : (what == 4) = false := by simpa using g4
 have b0 : Below w.heap.size w ((w.alloc (.cells #[.int .i64 what, .string ck, .string cn, .string cy, .slice la cl.length lc] 131)).alloc (.cells #[.string ck, .string cn] 124)) := ((Below.refl w.heap.size w).alloc (Nat.le_refl _) _).alloc (by simp) _
 have hz := two_boxes (w := w) (cs := #[.int .i64 what, .string ck, .string cn, .string cy, .slice la cl.length lc]) (ds := #[.string ck, .string cn]) (T := 131) (U := 124)
 have q0 := hz.1 0
 have q1 := hz.1 1
 have q2 := hz.1 2
 have q3 := hz.1 3
 have q4 := hz.1 4
 have r0 := hz.2 0
 have r1 := hz.2 1
 have p0 := one_box (w := w) (cs := #[.int .i64 what, .string ck, .string cn, .string cy, .slice la cl.length lc]) (T := 131) 1
 have p1 := one_box (w := w) (cs := #[.int .i64 what, .string ck, .string cn, .string cy, .slice la cl.length lc]) (T := 131) 2
 have hml := World.block_lt_of_cell? w _ hm
 have m1 := (b0.cell hml).trans hm
 simp only [List.getElem?_toArray, List.getElem?_cons_zero, List.getElem?_cons_succ] at q0 q1 q2 q3 q4 r0 r1 p0 p1
 have HLW := fun rk => linesWithKey_any rk (hc0.below b0) hl0
 have HCI := hid_in (hc0.below b0)
 clear hz hc0
 generalize hnl : cl.length = nl at *
 have enl := hid_in hnl
 clear hnl
 go_enter Tryz.func165, Tryz.ntmps165
 clear HLW
 go_wp2
 exact ⟨rfl, b0, .inr ⟨tabok_other g1 g2 g3 g4, rfl⟩⟩
set_option maxHeartbeats 4000000 in
set_option maxRecDepth 100000 in
theorem read_new {M : Nat} {p : Int} {c : CAt} {w : World} (hm : w.cell? ⟨M, 1, none⟩ = some (.int .i64 p)) (hc : LinesIn w c.v c.ls) (hl : c.ls.length ≤ 1048576) (hw : c.what = 2) : Calls Tryz.prog 165 #[.pointer (some ⟨M, 0, none⟩), .agg #[.int .i64 c.what, .string c.kind, .string c.name, .string c.key, c.v]] w fun e w' => TabPost p c w e w' := by
 obtain ⟨what, ck, cn, cy, cv, cl⟩ := c
 have hc0 : LinesIn w cv cl := hc
 clear hc
 have hl0 : cl.length ≤ 1048576 := hl
 clear hl
 obtain ⟨la, lc, rfl⟩ := hc0.1.form
 have hw0 : what = 2 := hw
 clear hw
 subst hw0
 have b0 : Below w.heap.size w ((w.alloc (.cells #[.int .i64 2, .string ck, .string cn, .string cy, .slice la cl.length lc] 131)).alloc (.cells #[.string ck, .string cn] 124)) := ((Below.refl w.heap.size w).alloc (Nat.le_refl _) _).alloc (by simp) _
 have hz := two_boxes (w := w) (cs := #[.int .i64 2, .string ck, .string cn, .string cy, .slice la cl.length lc]) (ds := #[.string ck, .string cn]) (T := 131) (U := 124)
 have q0 := hz.1 0
 have q1 := hz.1 1
 have q2 := hz.1 2
 have q3 := hz.1 3
 have q4 := hz.1 4
 have r0 := hz.2 0
 have r1 := hz.2 1
 have p0 := one_box (w := w) (cs := #[.int .i64 2, .string ck, .string cn, .string cy, .slice la cl.length lc]) (T := 131) 1
 have p1 := one_box (w := w) (cs := #[.int .i64 2, .string ck, .string cn, .string cy, .slice la cl.length lc]) (T := 131) 2
 have hml := World.block_lt_of_cell? w _ hm
 have m1 := (b0.cell hml).trans hm
 simp only [List.getElem?_toArray, List.getElem?_cons_zero, List.getElem?_cons_succ] at q0 q1 q2 q3 q4 r0 r1 p0 p1
 have HLW := fun rk => linesWithKey_any rk (hc0.below b0) hl0
 have HCI := hid_in (hc0.below b0)
 clear hz hc0
 generalize hnl : cl.length = nl at *
 have enl := hid_in hnl
 clear hnl
 go_enter Tryz.func165, Tryz.ntmps165
 clear HLW
 by_cases hk : cy = ⟨#[]⟩
 ·subst hk
  go_wp2_with (go_at_call 222; refine (need_true M _).mono ?_; rintro e w2 ⟨rfl, rfl⟩)
  refine bodyPost_ret (v := .iface 220 (.agg #[.string ck, .string cn, .slice la nl lc])) (by simp [results, Tryz.results165, go_sem]) rfl ⟨b0, .inl ⟨tabok2.2 rfl, .slice la nl lc, rfl, HCI.out⟩⟩
 ·have hkb := ba_nil hk
  go_wp2_with (go_at_call 222; refine (need_false (p := p) m1).mono ?_; rintro e w2 ⟨rfl, rfl⟩)
  exact ⟨rfl, b0, .inr ⟨fun h => hk (tabok2.1 h), rfl⟩⟩
set_option maxHeartbeats 4000000 in
set_option maxRecDepth 100000 in
theorem read_gone {M : Nat} {p : Int} {c : CAt} {w : World} (hm : w.cell? ⟨M, 1, none⟩ = some (.int .i64 p)) (hc : LinesIn w c.v c.ls) (hl : c.ls.length ≤ 1048576) (hw : c.what = 1) : Calls Tryz.prog 165 #[.pointer (some ⟨M, 0, none⟩), .agg #[.int .i64 c.what, .string c.kind, .string c.name, .string c.key, c.v]] w fun e w' => TabPost p c w e w' := by
 obtain ⟨what, ck, cn, cy, cv, cl⟩ := c
 have hc0 : LinesIn w cv cl := hc
 clear hc
 have hl0 : cl.length ≤ 1048576 := hl
 clear hl
 obtain ⟨la, lc, rfl⟩ := hc0.1.form
 have hw0 : what = 1 := hw
 clear hw
 subst hw0
 have b0 : Below w.heap.size w ((w.alloc (.cells #[.int .i64 1, .string ck, .string cn, .string cy, .slice la cl.length lc] 131)).alloc (.cells #[.string ck, .string cn] 124)) := ((Below.refl w.heap.size w).alloc (Nat.le_refl _) _).alloc (by simp) _
 have hz := two_boxes (w := w) (cs := #[.int .i64 1, .string ck, .string cn, .string cy, .slice la cl.length lc]) (ds := #[.string ck, .string cn]) (T := 131) (U := 124)
 have q0 := hz.1 0
 have q1 := hz.1 1
 have q2 := hz.1 2
 have q3 := hz.1 3
 have q4 := hz.1 4
 have r0 := hz.2 0
 have r1 := hz.2 1
 have p0 := one_box (w := w) (cs := #[.int .i64 1, .string ck, .string cn, .string cy, .slice la cl.length lc]) (T := 131) 1
 have p1 := one_box (w := w) (cs := #[.int .i64 1, .string ck, .string cn, .string cy, .slice la cl.length lc]) (T := 131) 2
 have hml := World.block_lt_of_cell? w _ hm
 have m1 := (b0.cell hml).trans hm
 simp only [List.getElem?_toArray, List.getElem?_cons_zero, List.getElem?_cons_succ] at q0 q1 q2 q3 q4 r0 r1 p0 p1
 have HLW := fun rk => linesWithKey_any rk (hc0.below b0) hl0
 have HCI := hid_in (hc0.below b0)
 clear hz hc0
 generalize hnl : cl.length = nl at *
 have enl := hid_in hnl
 clear hnl
 go_enter Tryz.func165, Tryz.ntmps165
 clear HLW
 by_cases hk : cy = ⟨#[]⟩
 ·subst hk
  by_cases hn : nl = 0
  ·have hcl : cl = [] := List.length_eq_zero_iff.1 (enl.out.trans hn)
   have HN := hid_in hcl
   clear hcl
   subst hn
   go_wp2_with (go_at_call 222; refine (need_true M _).mono ?_; rintro e w2 ⟨rfl, rfl⟩)
   refine bodyPost_ret (v := .iface 217 (.agg #[.string ck, .string cn])) (by simp [results, Tryz.results165, go_sem]) rfl ⟨b0, .inl ⟨tabok1.2 ⟨rfl, by rw [HN.out]; rfl⟩, .slice la 0 lc, rfl, HCI.out⟩⟩
  ·have HN := hid_in (show cl ≠ [] from fun e => hn (by rw [← enl.out, e]; rfl))
   have hn1 : (nl == 0) = false := by simpa using hn
   have hn2 : ((nl : Int) == 0) = false := by simpa using hn
   go_wp2_with (go_at_call 222; refine (need_false (p := p) m1).mono ?_; rintro e w2 ⟨rfl, rfl⟩)
   exact ⟨rfl, b0, .inr ⟨fun h => HN.out (List.map_eq_nil_iff.1 (tabok1.1 h).2), rfl⟩⟩
 ·have hkb := ba_nil hk
  go_wp2_with (go_at_call 222; refine (need_false (p := p) m1).mono ?_; rintro e w2 ⟨rfl, rfl⟩)
  exact ⟨rfl, b0, .inr ⟨fun h => hk (tabok1.1 h).1, rfl⟩⟩
set_option maxHeartbeats 4000000 in
set_option maxRecDepth 100000 in
theorem read_unset {M : Nat} {p : Int} {c : CAt} {w : World} (hm : w.cell? ⟨M, 1, none⟩ = some (.int .i64 p)) (hc : LinesIn w c.v c.ls) (hl : c.ls.length ≤ 1048576) (hw : c.what = 4) : Calls Tryz.prog 165 #[.pointer (some ⟨M, 0, none⟩), .agg #[.int .i64 c.what, .string c.kind, .string c.name, .string c.key, c.v]] w fun e w' => TabPost p c w e w' := by
 obtain ⟨what, ck, cn, cy, cv, cl⟩ := c
 have hc0 : LinesIn w cv cl := hc
 clear hc
 have hl0 : cl.length ≤ 1048576 := hl
 clear hl
 obtain ⟨la, lc, rfl⟩ := hc0.1.form
 have hw0 : what = 4 := hw
 clear hw
 subst hw0
 have b0 : Below w.heap.size w ((w.alloc (.cells #[.int .i64 4, .string ck, .string cn, .string cy, .slice la cl.length lc] 131)).alloc (.cells #[.string ck, .string cn] 124)) := ((Below.refl w.heap.size w).alloc (Nat.le_refl _) _).alloc (by simp) _
 have hz := two_boxes (w := w) (cs := #[.int .i64 4, .string ck, .string cn, .string cy, .slice la cl.length lc]) (ds := #[.string ck, .string cn]) (T := 131) (U := 124)
 have q0 := hz.1 0
 have q1 := hz.1 1
 have q2 := hz.1 2
 have q3 := hz.1 3
 have q4 := hz.1 4
 have r0 := hz.2 0
 have r1 := hz.2 1
 have p0 := one_box (w := w) (cs := #[.int .i64 4, .string ck, .string cn, .string cy, .slice la cl.length lc]) (T := 131) 1
 have p1 := one_box (w := w) (cs := #[.int .i64 4, .string ck, .string cn, .string cy, .slice la cl.length lc]) (T := 131) 2
 have hml := World.block_lt_of_cell? w _ hm
 have m1 := (b0.cell hml).trans hm
 simp only [List.getElem?_toArray, List.getElem?_cons_zero, List.getElem?_cons_succ] at q0 q1 q2 q3 q4 r0 r1 p0 p1
 have HLW := fun rk => linesWithKey_any rk (hc0.below b0) hl0
 have HCI := hid_in (hc0.below b0)
 clear hz hc0
 generalize hnl : cl.length = nl at *
 have enl := hid_in hnl
 clear hnl
 go_enter Tryz.func165, Tryz.ntmps165
 clear HLW
 by_cases hn : nl = 0
 ·have hcl : cl = [] := List.length_eq_zero_iff.1 (enl.out.trans hn)
  have HN := hid_in hcl
  clear hcl
  subst hn
  go_wp2_with (go_at_call 222; refine (need_true M _).mono ?_; rintro e w2 ⟨rfl, rfl⟩)
  refine bodyPost_ret (v := .iface 225 (.agg #[.string ck, .string cn, .string cy])) (by simp [results, Tryz.results165, go_sem]) rfl ⟨b0, .inl ⟨tabok4.2 (by rw [HN.out]; rfl), .slice la 0 lc, rfl, HCI.out⟩⟩
 ·have HN := hid_in (show cl ≠ [] from fun e => hn (by rw [← enl.out, e]; rfl))
  have hn1 : (nl == 0) = false := by simpa using hn
  have hn2 : ((nl : Int) == 0) = false := by simpa using hn
  go_wp2_with (go_at_call 222; refine (need_false (p := p) m1).mono ?_; rintro e w2 ⟨rfl, rfl⟩)
  exact ⟨rfl, b0, .inr ⟨fun h => HN.out (List.map_eq_nil_iff.1 (tabok4.1 h)), rfl⟩⟩
end Go.Proofs.YtpdahhnjhggocabGreatDoor
namespace Go.Proofs.YtpdahhnjhggocabGreatDoor
open Go.RowKit
set_option maxHeartbeats 4000000 in
set_option maxRecDepth 100000 in
theorem read_set {M : Nat} {p : Int} {c : CAt} {w : World} (hm : w.cell? ⟨M, 1, none⟩ = some (.int .i64 p)) (hc : LinesIn w c.v c.ls) (hl : c.ls.length ≤ 1048576) (hw : c.what = 3) : Calls Tryz.prog 165 #[.pointer (some ⟨M, 0, none⟩), .agg #[.int .i64 c.what, .string c.kind, .string c.name, .string c.key, c.v]] w fun e w' => TabPost p c w e w' := by
 obtain ⟨what, ck, cn, cy, cv, cl⟩ := c
 have hc0 : LinesIn w cv cl := hc
 clear hc
 have hl0 : cl.length ≤ 1048576 := hl
 clear hl
 obtain ⟨la, lc, rfl⟩ := hc0.1.form
 have hw0 : what = 3 := hw
 clear hw
 subst hw0
 have b0 : Below w.heap.size w ((w.alloc (.cells #[.int .i64 3, .string ck, .string cn, .string cy, .slice la cl.length lc] 131)).alloc (.cells #[.string ck, .string cn] 124)) := ((Below.refl w.heap.size w).alloc (Nat.le_refl _) _).alloc (by simp) _
 have hz := two_boxes (w := w) (cs := #[.int .i64 3, .string ck, .string cn, .string cy, .slice la cl.length lc]) (ds := #[.string ck, .string cn]) (T := 131) (U := 124)
 have q0 := hz.1 0
 have q1 := hz.1 1
 have q2 := hz.1 2
 have q3 := hz.1 3
 have q4 := hz.1 4
 have r0 := hz.2 0
 have r1 := hz.2 1
 have p0 := one_box (w := w) (cs := #[.int .i64 3, .string ck, .string cn, .string cy, .slice la cl.length lc]) (T := 131) 1
 have p1 := one_box (w := w) (cs := #[.int .i64 3, .string ck, .string cn, .string cy, .slice la cl.length lc]) (T := 131) 2
 have hml := World.block_lt_of_cell? w _ hm
 have m1 := (b0.cell hml).trans hm
 simp only [List.getElem?_toArray, List.getElem?_cons_zero, List.getElem?_cons_succ] at q0 q1 q2 q3 q4 r0 r1 p0 p1
 have HLW := fun rk => linesWithKey_any rk (hc0.below b0) hl0
 have HCI := hid_in (hc0.below b0)
 clear hz hc0
 generalize hnl : cl.length = nl at *
 have enl := hid_in hnl
 clear hnl
 go_enter Tryz.func165, Tryz.ntmps165
 have HK0 := hid_in (HLW cy)
 clear HLW
 go_wp2_with (go_at_call 149; refine HK0.out.mono ?_)
 rintro e w2 ⟨v2, rfl, o2, b2⟩
 have m2 := (b2.cell (World.block_lt_of_cell? _ _ m1)).trans m1
 have x3 := (b2.cell (World.block_lt_of_cell? _ _ q3)).trans q3
 have x4 := (b2.cell (World.block_lt_of_cell? _ _ q4)).trans q4
 have y0 := (b2.cell (World.block_lt_of_cell? _ _ r0)).trans r0
 have y1 := (b2.cell (World.block_lt_of_cell? _ _ r1)).trans r1
 have B2 := b0.trans (b2.mono b0.size)
 have HW := hid_in (show LinesIn w2 v2 (withKey cl cy) from ⟨own_has o2, fun y hy => (HCI.out.below b2).2 y (List.mem_filter.1 hy).1⟩)
 have HWL := hid_in (show (withKey cl cy).length ≤ nl from by rw [← enl.out]; exact List.length_filter_le _ _)
 have HWA := hid_in (@withKey_all cl cy)
 have HWM := hid_in (show ∀ y ∈ withKey cl cy, y.key = cy from fun y hy => by
  have := (List.mem_filter.1 hy).2
  exact ba_of (by rw [← ByteArray.toList_eq, ← ByteArray.toList_eq]; exact of_decide_eq_true (by simpa using this)))
 have HWB := hid_in (show (∀ y ∈ cl, y.key = cy) → withKey cl cy = cl from fun h => List.filter_eq_self.2 fun y hy => by rw [h y hy]; exact beq_self_eq_true _)
 obtain ⟨a2, c2, rfl, hfm⟩ := own_form o2
 clear o2 b2 hfm HK0 m1 q0 q1 q2 q3 q4 r0 r1 p0 p1 b0 hm hml
 generalize hnw : (withKey cl cy).length = nw at *
 have ENW := hid_in hnw
 clear hnw
 have hwl := HWL.out
 by_cases h0 : nw = 0
 ·have hb0 : ¬ ((0 : Int) < (nw : Int)) := by omega
  have hd0 : decide (0 < nw) = false := decide_eq_false (by omega)
  have HNO := hid_in (show ¬ TabOk ⟨3, ck, cn, cy, cl.map LAt.plain⟩ from fun h => by
   obtain ⟨h1, h2⟩ := tabok3.1 h
   have h3 := HWB.out (fun y hy => h2 _ (List.mem_map_of_mem hy))
   have h4 := ENW.out
   rw [h3, h0] at h4
   exact h1 (by rw [List.length_eq_zero_iff.1 h4]; rfl))
  clear h0
  go_wp2_with (go_at_call 222; refine (need_false (p := p) m2).mono ?_; rintro e w2 ⟨rfl, rfl⟩)
  exact ⟨rfl, B2, .inr ⟨HNO.out, rfl⟩⟩
 ·have hb0 : ((0 : Int) < (nw : Int)) := by omega
  have hd0 : decide (0 < nw) = true := decide_eq_true (by omega)
  by_cases h1 : nw = nl
  ·have h3 := HWA.out (by rw [enl.out]; exact h1)
   have HOKK := hid_in (show TabOk ⟨3, ck, cn, cy, cl.map LAt.plain⟩ from tabok3.2 ⟨fun e => h0 (by rw [h1, ← enl.out, List.map_eq_nil_iff.1 e]; rfl), fun z hz => by
    obtain ⟨y, hy, rfl⟩ := List.mem_map.1 hz
    exact HWM.out y (by rw [h3]; exact hy)⟩)
   have HW2 := hid_in (show LinesIn w2 (.slice a2 nw c2) cl from by have := HW.out; rw [h3] at this; exact this)
   clear h3 h0
   have hq1 : (nw == nl) = true := by simpa using h1
   have hq2 : ((nw : Int) == (nl : Int)) = true := by rw [h1]; exact beq_self_eq_true _
   clear h1
   go_wp2_with (go_at_call 222; refine (need_true M _).mono ?_; rintro e w2 ⟨rfl, rfl⟩)
   refine bodyPost_ret (v := .iface 223 (.agg #[.string ck, .string cn, .string cy, .slice a2 nw c2])) (by simp [results, Tryz.results165, go_sem]) rfl ⟨B2, .inl ⟨HOKK.out, .slice a2 nw c2, rfl, HW2.out⟩⟩
  ·have HNO := hid_in (show ¬ TabOk ⟨3, ck, cn, cy, cl.map LAt.plain⟩ from fun h => by
    obtain ⟨_, h2⟩ := tabok3.1 h
    have h3 := HWB.out (fun y hy => h2 _ (List.mem_map_of_mem hy))
    have h4 := ENW.out
    rw [h3, enl.out] at h4
    exact h1 h4.symm)
   have hq1 : (nw == nl) = false := by simpa using h1
   have hq2 : ((nw : Int) == (nl : Int)) = false := beq_eq_false_iff_ne.2 (fun e => h1 (by omega))
   go_wp2_with (go_at_call 222; refine (need_false (p := p) m2).mono ?_; rintro e w2 ⟨rfl, rfl⟩)
   exact ⟨rfl, B2, .inr ⟨HNO.out, rfl⟩⟩
theorem read_any {M : Nat} {p : Int} {c : CAt} {w : World} (hm : w.cell? ⟨M, 1, none⟩ = some (.int .i64 p)) (hc : LinesIn w c.v c.ls) (hl : c.ls.length ≤ 1048576) : Calls Tryz.prog 165 #[.pointer (some ⟨M, 0, none⟩), .agg #[.int .i64 c.what, .string c.kind, .string c.name, .string c.key, c.v]] w fun e w' => TabPost p c w e w' := by
 by_cases h1 : c.what = 1
 ·exact read_gone hm hc hl h1
 by_cases h2 : c.what = 2
 ·exact read_new hm hc hl h2
 by_cases h3 : c.what = 3
 ·exact read_set hm hc hl h3
 by_cases h4 : c.what = 4
 ·exact read_unset hm hc hl h4
 exact read_other hm hc hl h1 h2 h3 h4
end Go.Proofs.YtpdahhnjhggocabGreatDoor
