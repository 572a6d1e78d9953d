import Derived.Test.YtpdahhnjhggocabGreatDoorBun43
import Derived.Test.YtpdahhnjhggocabGreatDoorBun42
import Derived.Test.YtpdahhnjhggocabGreatDoorBun40
import Derived.Test.YtpdahhnjhggocabGreatDoorBun38
import Derived.Test.YtpdahhnjhggocabGreatDoorBun31
import Derived.Test.YtpdahhnjhggocabGreatDoorBun30
import Derived.Test.YtpdahhnjhggocabGreatDoorBun27
import Derived.Test.YtpdahhnjhggocabGreatDoorBun24
import Derived.Test.YtpdahhnjhggocabGreatDoorBun20
import Derived.Test.YtpdahhnjhggocabGreatDoorBun18
namespace Go.Proofs.YtpdahhnjhggocabGreatDoor
open Go.RowKit
open Go.Lib (decDigits)
def FaultAt (w : World) : Prop := ∀ k : Nat, k < 12 → w.cell? ⟨1, k, none⟩ = some (.string ⟨(faultT (k : Int)).toArray⟩)
theorem FaultAt.below {w w' : World} (h : FaultAt w) (hb : Below w.heap.size w w') : FaultAt w' := fun k hk => (hb.cell (World.block_lt_of_cell? w _ (h k hk))).trans (h k hk)
end Go.Proofs.YtpdahhnjhggocabGreatDoor
namespace Go.Proofs.YtpdahhnjhggocabGreatDoor
open Go.RowKit
open Go.Lib (decDigits)
end Go.Proofs.YtpdahhnjhggocabGreatDoor
namespace Go.Proofs.YtpdahhnjhggocabGreatDoor
open Go.RowKit
theorem size_toList (t : ByteArray) : t.data.toList.length = t.size := by simp
theorem ok_small {bs : List BAt} (h : SheetOk (bs.map BAt.plain)) : BlocksSmall bs := by
 have hl := h.1
 rw [List.length_map] at hl
 refine ⟨by omega, fun b hb => ?_⟩
 have h1 := h.2.1 b.plain (List.mem_map_of_mem hb)
 have h2 := (name_bare h1.2.1).2
 have h3 := (lines_le h1.2.2).1
 have e : b.plain.lines.length = b.ls.length := List.length_map ..
 rw [size_toList] at h2
 refine ⟨Nat.le_trans h2 (by decide), by omega, fun x hx => ?_⟩
 have h4 := fits_line (h1.2.2.1 x.plain (List.mem_map_of_mem hx))
 exact ⟨Nat.le_trans h4.2.2.2.1 (by decide), fun y hy => Nat.le_trans (h4.2.2.2.2 y hy) (by decide)⟩
end Go.Proofs.YtpdahhnjhggocabGreatDoor
namespace Go.Proofs.YtpdahhnjhggocabGreatDoor
open Go.RowKit
def KeepR (v : Value) (w w' : World) : Prop := ∀ k, k < w.heap.size → v.ownBlock ≠ some k → w'.heap[k]? = w.heap[k]?
theorem KeepR.of_below {v : Value} {w w' : World} (h : Below w.heap.size w w') : KeepR v w w' := fun k hk _ => h.block k hk
theorem KeepR.then {v : Value} {w u u' : World} (h : KeepR v w u) (hz : w.heap.size ≤ u.heap.size) (hb : Below u.heap.size u u') : KeepR v w u' := fun k hk hn => (hb.block k (by omega)).trans (h k hk hn)
theorem KeepR.set {v : Value} {w u : World} (h : KeepR v w u) (q : Nat) (hq : w.heap.size ≤ q) (j : Nat) (x : Value) : KeepR v w (u.setCell ⟨q, j, none⟩ x) := fun k hk hn => by
 rw [Below.heap_setCell _ _ _ _ (show k ≠ q by omega)]; exact h k hk hn
theorem KeepR.grown {v : Value} {w u u' : World} {g : Nat} (h : Below w.heap.size w u) (hv : v.ownBlock = some g) (hg : u.grownBy u' (some g)) : KeepR v w u' := fun k hk hn => (hg.block k (Nat.lt_of_lt_of_le hk h.size) (by rw [← hv]; exact fun e => hn e.symm)).trans (h.block k hk)
def OnePost (B : Nat) (v : Value) (P : Option (List PBlock)) (w : World) (e : Ending) (w' : World) : Prop := Below B w w' ∧ KeepR v w w' ∧ match P with
 | none => ∃ a n c, e = .returned (.tuple #[.agg #[.slice a n c], .bool false])
 | some A => ∃ a n c bs', e = .returned (.tuple #[.agg #[.slice a n c], .bool true]) ∧ bs'.map BAt.plain = A ∧ BRow B w' (.slice a n c) bs'
theorem brow_far {B g : Nat} {W W' : World} {v : Value} {bs : List BAt} (h : BRow B W v bs) (hg : W.grownBy W' (some g)) (hv : v.ownBlock ≠ some g) (hf : ∀ x ∈ bs, LinesFar g x.v x.ls) : BRow B W' v bs := by
 refine ⟨World.ownsRow.kept h.1 hg (.inr hv), fun x hx => ⟨(h.2 x hx).1.far (hf x hx) hg, (h.2 x hx).2⟩⟩
theorem lines_old {w : World} {q : Nat} {v : Value} {ls : List LAt} (h : LinesIn w v ls) (hq : w.heap.size ≤ q) : LinesFar q v ls := ⟨FarV.of_lt h.1 (by decide) hq, fun y hy => FarV.of_lt (h.2 y hy) (by decide) hq⟩
theorem grown_setCell1 (W : World) (g j : Nat) (u : Value) : W.grownBy (W.setCell ⟨g, j, none⟩ u) (some g) := ⟨rfl, rfl, rfl, by simp, fun k _ hk => by rw [Below.heap_setCell _ _ _ _ (by simpa using fun e => hk (by rw [e]))]⟩
set_option maxHeartbeats 16000000 in
set_option maxRecDepth 100000 in
theorem one7_other {B : Nat} {v : Value} {bs : List BAt} {c : CAt} {w : World} (hB : B ≤ w.heap.size) (hr : BRow B w v bs) (hok : SheetOk (bs.map BAt.plain)) (hc : LinesIn w c.v c.ls) (hcf : ∀ q, B ≤ q → LinesFar q c.v c.ls) (hcs : LinesSmall c.ls) (h1 : c.what ≠ 1) (h2 : c.what ≠ 2) (h3 : c.what ≠ 3) (h4 : c.what ≠ 4) : Calls Tryz.prog 96 #[.agg #[v], .agg #[.int .i64 c.what, .string c.kind, .string c.name, .string c.key, c.v]] w fun e w' => OnePost B v (oneS (bs.map BAt.plain) c.plain) w e w' := by
 obtain ⟨what, ck, cn, cy, cv, cl⟩ := c
 have hc : LinesIn w cv cl := hc
 have hcf : ∀ q, B ≤ q → LinesFar q cv cl := hcf
 have hcs : LinesSmall cl := hcs
 obtain ⟨la, lc, rfl⟩ := hc.1.form
 obtain ⟨va, vc, rfl, hvf⟩ := own_form hr.row
 have h1 : what ≠ 1 := h1
 have h2 : what ≠ 2 := h2
 have h3 : what ≠ 3 := h3
 have h4 : what ≠ 4 := h4
 have e1 : (what == 1) = false := by simpa using h1
 have e2 : (what == 2) = false := by simpa using h2
 have e3 : (what == 3) = false := by simpa using h3
 have e4 : (what == 4) = false := by simpa using h4
 obtain ⟨hsz, hy0, hy1, hy2⟩ := alloc3 (w := w) (o1 := (.cells #[.slice va bs.length vc] 24)) (o2 := (.cells #[.int .i64 what, .string ck, .string cn, .string cy, .slice la cl.length lc] 131)) (o3 := (.cells #[.slice none 0 0] 24))
 have b0 : Below w.heap.size w (((w.alloc (.cells #[.slice va bs.length vc] 24)).alloc (.cells #[.int .i64 what, .string ck, .string cn, .string cy, .slice la cl.length lc] 131)).alloc (.cells #[.slice none 0 0] 24)) := (((Below.refl w.heap.size w).alloc (Nat.le_refl _) _).alloc (by simp) _).alloc (by simp; omega) _
 have hlb : bs.length ≤ 60 := by have := hok.1; rw [List.length_map] at this; exact this
 have HF := l3Find_at ck cn (hr.bin.below b0) (by omega)
 unfold HeadAt at HF
 have HR := hid_in (hr.below b0)
 have HC := hid_in (hc.below b0)
 have HCF := hid_in hcf
 have HCS := hid_in hcs
 have HOK := hid_in hok
 have HNG := hid_in (@headAt_neg (bs.map BAt.plain) ck cn)
 have HSM := hid_in (fun h => @headAt_some (bs.map BAt.plain) ck cn h)
 have HOLD := hid_in (show ∀ q, w.heap.size ≤ q → ∀ x ∈ bs, LinesFar q x.v x.ls from fun q hq x hx => lines_old (hr.2 x hx).1 hq)
 obtain ⟨O, hO⟩ : ∃ O, oneS (bs.map BAt.plain) (CAt.plain ⟨what, ck, cn, cy, .slice la cl.length lc, cl⟩) = O := ⟨_, rfl⟩
 have HO := hid_in hO
 rw [hO]
 clear hO hr hc hcf hcs hok
 obtain ⟨P, hP⟩ : ∃ P, bs.map BAt.plain = P := ⟨_, rfl⟩
 rw [hP] at HF HO HNG HSM HOK
 have EP := hid_in hP
 clear hP
 generalize hAT : headAt P ck cn = AT at *
 clear hAT
 generalize hnb : bs.length = nb at *
 have enb := hid_in hnb
 clear hnb
 generalize hnl : cl.length = nl at *
 have enl := hid_in hnl
 clear hnl
 generalize hW0 : ((w.alloc (.cells #[.slice va nb vc] 24)).alloc (.cells #[.int .i64 what, .string ck, .string cn, .string cy, .slice la nl lc] 131)).alloc (.cells #[.slice none 0 0] 24) = W0 at *
 have EW := hid_in hW0
 have HSZ := hid_in hsz
 clear hW0 hsz
 have z0 : BlkAt W0 w.heap.size #[.slice va nb vc] 24 := hy0
 have z1 : BlkAt W0 (w.heap.size + 1) #[.int .i64 what, .string ck, .string cn, .string cy, .slice la nl lc] 131 := hy1
 have z2 : BlkAt W0 (w.heap.size + 2) #[.slice none 0 0] 24 := hy2
 have s0 := cell_of_block z0 0
 have q1 := cell_of_block z1 1
 have q2 := cell_of_block z1 2
 simp only [List.getElem?_toArray, List.getElem?_cons_zero, List.getElem?_cons_succ] at s0 q1 q2
 clear hy0 hy1 hy2
 go_enter Tryz.func96, Tryz.ntmps96
 go_upto_region 1 with fail
 rw [EW.out]
 clear EW
 go_wp2_with (go_at_call 76; refine HF.mono ?_)
 first | rintro e w1 rfl b1 | rintro e w1 ⟨rfl, b1⟩
 have B1 := b0.trans (b1.mono b0.size)
 have hz1 := b1.size
 rw [HSZ.out] at hz1
 have y0 := z0.below b1
 have y1 := z1.below b1
 have y2 := z2.below b1
 have HR1 := hid_in (HR.out.below b1)
 have HC1 := hid_in (HC.out.below b1)
 clear HF z0 z1 z2 s0 q1 q2 b1 b0 HR HC
 have s0 := cell_of_block y0 0
 have q0 := cell_of_block y1 0
 have q1 := cell_of_block y1 1
 have q2 := cell_of_block y1 2
 have q3 := cell_of_block y1 3
 have q4 := cell_of_block y1 4
 simp only [List.getElem?_toArray, List.getElem?_cons_zero, List.getElem?_cons_succ] at s0 q0 q1 q2 q3 q4
 obtain rfl : O = none := by rw [← HO.out]; exact other_none h1 h2 h3 h4
 clear h1 h2 h3 h4
 have r9 : w1.heap[w.heap.size + 1 + 1]? = some (.cells #[.slice none 0 0] 24 (0, 0)) := y2
 have b9 : Below w.heap.size w (w1.setRow (w.heap.size + 2) #[.slice va nb vc]) := ⟨B1.os, B1.tape, B1.output, by rw [setRow_size]; exact B1.size, fun k hk => by rw [setRow_other _ _ _ _ (by omega)]; exact B1.block k hk⟩
 go_wp2_with (with_reducible show wpList _ _ _ (Oper.mk _ (Op.store _ (Operand.tmp 4) _) _ _ _ _ :: _) _ _; refine wpList_store_row rfl 24 _ _ rfl (w.heap.size + 1 + 1) #[.slice va nb vc] ?_ ?_ 24 _ r9 ?_ ?_ ?_ ?_)
 all_goals (first | rfl | kernel_rfl | exact sheet_size | skip)
 have z9 : (w1.setRow (w.heap.size + 2) #[.slice va nb vc]).heap[w.heap.size + 2]? = some (.cells #[.slice va nb vc] 24 (0, 0)) := setRow_heap _ _ _ _ _ _ r9
 have v9 := cell_of_block z9 0
 simp only [List.getElem?_toArray, List.getElem?_cons_zero] at v9
 rw [show w.heap.size + 1 + 1 = w.heap.size + 2 from rfl]
 generalize w1.setRow (w.heap.size + 2) #[.slice va nb vc] = W9 at b9 v9 z9 ⊢
 go_wp2
 exact bodyPost_ret (v := .tuple #[.agg #[.slice va nb vc], .bool false]) (by simp [results, Tryz.results96, go_sem, v9]) rfl ⟨b9.mono hB, KeepR.of_below b9, ⟨_, _, _, rfl⟩⟩
end Go.Proofs.YtpdahhnjhggocabGreatDoor
namespace Go.Proofs.YtpdahhnjhggocabGreatDoor
open Go.RowKit
theorem ba_nil {t : ByteArray} (h : ¬ t = ⟨#[]⟩) : t.toList.isEmpty = false := by
 rw [List.isEmpty_eq_false_iff]
 intro e
 exact h (ba_of (by rw [← ByteArray.toList_eq]; exact e))
theorem split_at {bs : List BAt} {P : List PBlock} {kind name : ByteArray} {j : Nat} {hj : j < P.length} (e : bs.map BAt.plain = P) (hf : P.find? (isHead kind name) = some P[j]) : ∃ D x T, bs = D ++ x :: T ∧ D.length = j ∧ isHead kind name x.plain = true ∧ look P kind name = some x.plain := by
 obtain ⟨D, x, T, eb, hD⟩ := split1 bs j (by rw [← e, List.length_map] at hj; exact hj)
 have hx : P[j] = x.plain := by
  have h1 : P[j]? = some x.plain := by rw [← e, eb, List.getElem?_map, List.getElem?_append_right (by omega), hD, Nat.sub_self]; rfl
  rw [List.getElem?_eq_getElem hj] at h1; exact Option.some.inj h1
 rw [hx] at hf
 exact ⟨D, x, T, eb, hD, List.find?_some hf, hf⟩
set_option maxHeartbeats 16000000 in
set_option maxRecDepth 100000 in
theorem one7_gone {B : Nat} {v : Value} {bs : List BAt} {c : CAt} {w : World} (hB : B ≤ w.heap.size) (hr : BRow B w v bs) (hok : SheetOk (bs.map BAt.plain)) (hc : LinesIn w c.v c.ls) (hcf : ∀ q, B ≤ q → LinesFar q c.v c.ls) (hcs : LinesSmall c.ls) (hw : c.what = 1) : Calls Tryz.prog 96 #[.agg #[v], .agg #[.int .i64 c.what, .string c.kind, .string c.name, .string c.key, c.v]] w fun e w' => OnePost B v (oneS (bs.map BAt.plain) c.plain) w e w' := by
 obtain ⟨what, ck, cn, cy, cv, cl⟩ := c
 have hc : LinesIn w cv cl := hc
 have hcf : ∀ q, B ≤ q → LinesFar q cv cl := hcf
 have hcs : LinesSmall cl := hcs
 obtain ⟨la, lc, rfl⟩ := hc.1.form
 obtain ⟨va, vc, rfl, hvf⟩ := own_form hr.row
 have hw : what = 1 := hw
 subst hw
 obtain ⟨hsz, hy0, hy1, hy2⟩ := alloc3 (w := w) (o1 := (.cells #[.slice va bs.length vc] 24)) (o2 := (.cells #[.int .i64 1, .string ck, .string cn, .string cy, .slice la cl.length lc] 131)) (o3 := (.cells #[.slice none 0 0] 24))
 have b0 : Below w.heap.size w (((w.alloc (.cells #[.slice va bs.length vc] 24)).alloc (.cells #[.int .i64 1, .string ck, .string cn, .string cy, .slice la cl.length lc] 131)).alloc (.cells #[.slice none 0 0] 24)) := (((Below.refl w.heap.size w).alloc (Nat.le_refl _) _).alloc (by simp) _).alloc (by simp; omega) _
 have hlb : bs.length ≤ 60 := by have := hok.1; rw [List.length_map] at this; exact this
 have HF := l3Find_at ck cn (hr.bin.below b0) (by omega)
 unfold HeadAt at HF
 have HR := hid_in (hr.below b0)
 have HC := hid_in (hc.below b0)
 have HCF := hid_in hcf
 have HCS := hid_in hcs
 have HOK := hid_in hok
 have HNG := hid_in (@headAt_neg (bs.map BAt.plain) ck cn)
 have HSM := hid_in (fun h => @headAt_some (bs.map BAt.plain) ck cn h)
 have HOLD := hid_in (show ∀ q, w.heap.size ≤ q → ∀ x ∈ bs, LinesFar q x.v x.ls from fun q hq x hx => lines_old (hr.2 x hx).1 hq)
 obtain ⟨O, hO⟩ : ∃ O, oneS (bs.map BAt.plain) (CAt.plain ⟨1, ck, cn, cy, .slice la cl.length lc, cl⟩) = O := ⟨_, rfl⟩
 have HO := hid_in hO
 rw [hO]
 clear hO hr hc hcf hcs hok
 obtain ⟨P, hP⟩ : ∃ P, bs.map BAt.plain = P := ⟨_, rfl⟩
 rw [hP] at HF HO HNG HSM HOK
 have EP := hid_in hP
 clear hP
 generalize hAT : headAt P ck cn = AT at *
 clear hAT
 generalize hnb : bs.length = nb at *
 have enb := hid_in hnb
 clear hnb
 generalize hnl : cl.length = nl at *
 have enl := hid_in hnl
 clear hnl
 generalize hW0 : ((w.alloc (.cells #[.slice va nb vc] 24)).alloc (.cells #[.int .i64 1, .string ck, .string cn, .string cy, .slice la nl lc] 131)).alloc (.cells #[.slice none 0 0] 24) = W0 at *
 have EW := hid_in hW0
 have HSZ := hid_in hsz
 clear hW0 hsz
 have z0 : BlkAt W0 w.heap.size #[.slice va nb vc] 24 := hy0
 have z1 : BlkAt W0 (w.heap.size + 1) #[.int .i64 1, .string ck, .string cn, .string cy, .slice la nl lc] 131 := hy1
 have z2 : BlkAt W0 (w.heap.size + 2) #[.slice none 0 0] 24 := hy2
 have s0 := cell_of_block z0 0
 have q1 := cell_of_block z1 1
 have q2 := cell_of_block z1 2
 simp only [List.getElem?_toArray, List.getElem?_cons_zero, List.getElem?_cons_succ] at s0 q1 q2
 clear hy0 hy1 hy2
 go_enter Tryz.func96, Tryz.ntmps96
 go_upto_region 1 with fail
 rw [EW.out]
 clear EW
 go_wp2_with (go_at_call 76; refine HF.mono ?_)
 first | rintro e w1 rfl b1 | rintro e w1 ⟨rfl, b1⟩
 have B1 := b0.trans (b1.mono b0.size)
 have hz1 := b1.size
 rw [HSZ.out] at hz1
 have y0 := z0.below b1
 have y1 := z1.below b1
 have y2 := z2.below b1
 have HR1 := hid_in (HR.out.below b1)
 have HC1 := hid_in (HC.out.below b1)
 clear HF z0 z1 z2 s0 q1 q2 b1 b0 HR HC
 have s0 := cell_of_block y0 0
 have q0 := cell_of_block y1 0
 have q1 := cell_of_block y1 1
 have q2 := cell_of_block y1 2
 have q3 := cell_of_block y1 3
 have q4 := cell_of_block y1 4
 simp only [List.getElem?_toArray, List.getElem?_cons_zero, List.getElem?_cons_succ] at s0 q0 q1 q2 q3 q4
 by_cases hneg : AT < 0
 ·obtain rfl : O = none := by rw [← HO.out]; exact gone_none rfl (.inl (HNG.out.1 hneg))
  have r9 : w1.heap[w.heap.size + 1 + 1]? = some (.cells #[.slice none 0 0] 24 (0, 0)) := y2
  have b9 : Below w.heap.size w (w1.setRow (w.heap.size + 2) #[.slice va nb vc]) := ⟨B1.os, B1.tape, B1.output, by rw [setRow_size]; exact B1.size, fun k hk => by rw [setRow_other _ _ _ _ (by omega)]; exact B1.block k hk⟩
  go_wp2_with (with_reducible show wpList _ _ _ (Oper.mk _ (Op.store _ (Operand.tmp 4) _) _ _ _ _ :: _) _ _; refine wpList_store_row rfl 24 _ _ rfl (w.heap.size + 1 + 1) #[.slice va nb vc] ?_ ?_ 24 _ r9 ?_ ?_ ?_ ?_)
  all_goals (first | rfl | kernel_rfl | exact sheet_size | skip)
  have z9 : (w1.setRow (w.heap.size + 2) #[.slice va nb vc]).heap[w.heap.size + 2]? = some (.cells #[.slice va nb vc] 24 (0, 0)) := setRow_heap _ _ _ _ _ _ r9
  have v9 := cell_of_block z9 0
  simp only [List.getElem?_toArray, List.getElem?_cons_zero] at v9
  rw [show w.heap.size + 1 + 1 = w.heap.size + 2 from rfl]
  generalize w1.setRow (w.heap.size + 2) #[.slice va nb vc] = W9 at b9 v9 z9 ⊢
  go_wp2
  exact bodyPost_ret (v := .tuple #[.agg #[.slice va nb vc], .bool false]) (by simp [results, Tryz.results96, go_sem, v9]) rfl ⟨b9.mono hB, KeepR.of_below b9, ⟨_, _, _, rfl⟩⟩
 ·obtain ⟨j, hj, rfl, hfind⟩ := HSM.out (by omega)
  have hj0 : ¬ ((j : Int) < 0) := by omega
  obtain ⟨D, x, T, eb, hD, hhd, hlook⟩ := split_at EP.out hfind
  clear hneg hfind
  by_cases hk : cy = ⟨#[]⟩
  ·subst hk
   by_cases hl : nl = 0
   ·have hcl : cl = [] := List.length_eq_zero_iff.1 (enl.out.trans hl)
    subst hl
    have HSOME := hid_in (show O = some (dropH P ck cn) from by rw [← HO.out]; exact gone_some rfl hlook rfl (by rw [hcl]; rfl))
    have eP : P = D.map BAt.plain ++ x.plain :: T.map BAt.plain := by rw [← EP.out, eb]; simp
    have HOKD := hid_in (show SheetOk ((D ++ T).map BAt.plain) ∧ (D ++ T).map BAt.plain = dropH P ck cn from by
     have h1 := HOK.out
     rw [eP] at h1
     have h2 := sheet_drop h1
     rw [List.map_append]
     exact ⟨h2, by rw [eP, dropH_split h1 hhd]⟩)
    have hbl := HR1.out.bin.1
    have hjb : j < nb := by have := enb.out; rw [← hD, ← this, eb]; simp
    have hcap := hbl.cap
    have hDrow := hid_in (show HasRow w1 (.slice va j vc) j 3 (D.flatMap BAt.cells) from by
     have h2 := (show HasRow w1 (.slice va nb vc) nb 3 (bs.flatMap BAt.cells) from by have := hbl; rw [enb.out] at this; exact this).take j (by omega)
     rw [eb, List.flatMap_append, ← hD, ← rowF_len BAt.cells 3 BAt.len D, List.take_left] at h2
     rw [← hD]; exact h2)
    have hTrow := hid_in (show HasRow w1 (.slice (if vc = j + 1 then va else va.map (fun a => a.add ((j + 1) * 3))) (nb - (j + 1)) (vc - (j + 1))) (nb - (j + 1)) 3 (T.flatMap BAt.cells) from by
     have h2 := (show HasRow w1 (.slice va nb vc) nb 3 (bs.flatMap BAt.cells) from by have := hbl; rw [enb.out] at this; exact this).drop (j + 1) (by omega)
     rw [show bs = (D ++ [x]) ++ T by rw [eb]; simp, List.flatMap_append, show (j + 1) * 3 = ((D ++ [x]).flatMap BAt.cells).length by rw [rowF_len BAt.cells 3 BAt.len]; simp [hD], List.drop_left] at h2
     rw [show ((D ++ [x]).flatMap BAt.cells).length = (j + 1) * 3 by rw [rowF_len BAt.cells 3 BAt.len]; simp [hD]] at h2
     exact h2)
    have hfo : ∀ y ∈ bs, ∃ a n c, y.v = .slice a n c := fun y hy => by obtain ⟨a, c, e⟩ := (HR1.out.2 y hy).1.1.form; exact ⟨a, _, c, e⟩
    have hD1 := hid_in (bcells_one (bs := D) (fun y hy => hfo y (by rw [eb]; simp [hy])))
    have hT1 := hid_in (bcells_one (bs := T) (fun y hy => hfo y (by rw [eb]; simp [hy])))
    obtain ⟨i0, hi, hi0, hi1, hi2⟩ := info_parts infoBlock
    have hTl : T.length = nb - (j + 1) := by have := enb.out; rw [eb] at this; simp at this; omega
    have eTl := hid_in hTl
    have eDl := hid_in hD
    have EB := hid_in eb
    have hvc : nb ≤ vc := by have := hcap.1; have := enb.out; omega
    have m1 : (0 : Int) ≤ (j : Int) := by omega
    have m2 : (j : Int) ≤ (nb : Int) := by omega
    have m3 : (j : Int) ≤ (vc : Int) := by omega
    have m4 : (0 : Int) ≤ (j : Int) + 1 := by omega
    have m5 : (j : Int) + 1 ≤ (nb : Int) := by omega
    have m6 : (nb : Int) ≤ (vc : Int) := by omega
    have m7 : (j : Int) + 1 ≤ (vc : Int) := by omega
    have hwr : IntKind.i64.wrap ((j : Int) + 1) = (j : Int) + 1 := by rw [IntKind.wrap_i64]; omega
    have hwn : ((j : Int) + 1).toNat = j + 1 := by omega
    have t0 : ∀ p : { W : World // W.cell? ⟨w.heap.size, 0, none⟩ = some (.slice va nb vc) }, p.1.cell? ⟨w.heap.size, 0, none⟩ = some (.slice va nb vc) := fun p => p.2
    letI I1 : Inhabited { W : World // W.cell? ⟨w.heap.size, 0, none⟩ = some (.slice va nb vc) } := ⟨⟨w1, s0⟩⟩
    have hKS := hid_in (show ∀ u, Below w1.heap.size w1 u → u.cell? ⟨w.heap.size, 0, none⟩ = some (.slice va nb vc) from fun u hu => (hu.cell (World.block_lt_of_cell? w1 _ s0)).trans s0)
    clear hbl hcap hfo hTl hD eb hlook eP hcl HSM HNG HO
    go_upto_region 7 with fail
    refine wp_region_hold (S := fun W => W.cell? ⟨w.heap.size, 0, none⟩ = some (.slice va nb vc)) 13 14 (by kernel_rfl) rfl ?_
    refine wpHold_mask [false, true, true, true, true, false, true, true, true, true, true, false, false, false] 5 rfl (by kernel_rfl) s0 ?_
    simp only [maskL_t, maskL_f, maskL_n]
    iterate 9 (refine wpReads_step (fun K hK => ?_); go_simp; refine hK _ ?_; clear hK K)
    refine wpReads_nil ?_
    clear t0
    generalize (if vc = j + 1 then va else va.map (fun a => a.add ((j + 1) * 3))) = laT at hTrow ⊢
    refine wpHold_branch (f := 4) (rs := [0]) (by kernel_rfl) (by simp) ?_
    refine AllHold.cons rfl (by decide) (fun K hK => ?_) AllHold.nil
    go_simp
    have bA : Below w1.heap.size w1 (w1.alloc (.cells #[] 64)).drew := ((Below.refl w1.heap.size w1).alloc (Nat.le_refl _) (.cells #[] 64)).drew
    have oA : (w1.alloc (.cells #[] 64)).drew.ownsRow w1.heap.size 64 3 (.slice (some ⟨w1.heap.size, 0, none⟩) 0 0) 0 [] := World.ownsRow_lit (base := w1.heap.size) (e := 64) (size := 3) w1 #[] 0 (Nat.le_refl _) (by decide) rfl
    refine hK.out _ _ (hKS.out _ bA) ?_
    clear hK K
    refine wpHold_branch (f := 3) (rs := [5]) (by kernel_rfl) (by simp) ?_
    refine AllHold.cons rfl (by decide) (fun K hK => ?_) AllHold.nil
    refine step_append_has rfl _ _ 22 rfl w1.heap.size 64 i0 _ 3 56 Tryz.underlying22 hi hi0 hi1 hi2 rfl (by decide) _ 0 _ rfl oA _ j _ rfl (hDrow.out.below bA) hD1.out (by unfold maxLen; omega) (by omega) bA.size ?_
    intro ao5 c5 u5 own5 hg5 _
    simp only [Nat.zero_add] at own5 ⊢
    have b5 := bA.grown hg5 bA.size (fun q hq => by cases hq; exact Nat.le_refl _)
    refine hK.out _ _ (hKS.out _ b5) ?_
    clear hK K oA hg5 bA
    refine wpHold_branch (f := 2) (rs := [11]) (by kernel_rfl) (by simp) ?_
    refine AllHold.cons rfl (by decide) (fun K hK => ?_) AllHold.nil
    have hbase5 : ∀ q, (Value.slice ao5 j c5).ownBlock = some q → w1.heap.size ≤ q := fun q hq => (own5.lt q hq).1
    refine step_append_has rfl _ _ 22 rfl w1.heap.size 64 i0 _ 3 56 Tryz.underlying22 hi hi0 hi1 hi2 rfl (by decide) _ j _ rfl own5 _ (nb - (j + 1)) _ rfl (hTrow.out.below b5) hT1.out (by unfold maxLen; omega) (by omega) b5.size ?_
    intro ao9 c9 u9 own9 hg9 _
    have b9 := b5.grown hg9 b5.size hbase5
    refine hK.out _ _ (hKS.out _ b9) ?_
    clear hK K own5 hg9 hbase5 b5 hDrow hTrow hD1 hT1
    refine wpHold_branch (f := 1) (rs := [12]) (by kernel_rfl) (by simp) ?_
    refine AllHold.cons rfl (by decide) (fun K hK => ?_) AllHold.nil
    go_simp
    refine hK.out _ _ (hKS.out _ b9) ?_
    clear hK K hKS I1
    have z09 := y0.below b9
    have z29 := y2.below b9
    have m0 := cell_of_block z09 0
    have fr2 := frozen_of_block z09 0
    simp only [List.getElem?_toArray, List.getElem?_cons_zero] at m0
    refine wpHold_last (by kernel_rfl) rfl (by kernel_rfl) ?_
    intro K hK
    have O9 := hid_in own9
    have B9 := B1.trans (b9.mono (by omega))
    have h9z := b9.size
    clear own9
    generalize hN9 : j + (nb - (j + 1)) = N9 at *
    have eN9 := hid_in hN9
    clear hN9
    go_simp
    refine hK.out _ _ (NoPanic.normal ?_)
    clear hK K
    have xS := z09.set 0 (.slice ao9 N9 c9)
    simp only [List.setIfInBounds_toArray, List.set_cons_zero] at xS
    have xR := z29.other (q := w.heap.size) 0 (.slice ao9 N9 c9) (by omega)
    have BU := (B9.setCell (p := ⟨w.heap.size, 0, none⟩) (Nat.le_refl _) (.slice ao9 N9 c9)).mono hB
    have hZU : w.heap.size ≤ (u9.setCell ⟨w.heap.size, 0, none⟩ (.slice ao9 N9 c9)).heap.size := by rw [World.size_setCell]; omega
    have KU : KeepR (.slice va nb vc) w (u9.setCell ⟨w.heap.size, 0, none⟩ (.slice ao9 N9 c9)) := (KeepR.of_below B9).set w.heap.size (Nat.le_refl _) 0 (.slice ao9 N9 c9)
    have hBU : B ≤ (u9.setCell ⟨w.heap.size, 0, none⟩ (.slice ao9 N9 c9)).heap.size := by rw [World.size_setCell]; omega
    have hin : ∀ x ∈ D ++ T, x ∈ bs := fun x hx => by rw [EB.out]; rcases List.mem_append.1 hx with hx | hx <;> simp [hx]
    have hN : N9 = (D ++ T).length := by rw [← eN9.out, List.length_append, eDl.out, eTl.out]
    have own9 := own_mono (own_setCell O9.out ⟨w.heap.size, 0, none⟩ (by simp; omega) (.slice ao9 N9 c9)) (show B ≤ w1.heap.size by omega)
    have HBR := hid_in (show BRow B (u9.setCell ⟨w.heap.size, 0, none⟩ (.slice ao9 N9 c9)) (.slice ao9 N9 c9) (D ++ T) from ⟨by rw [← hN, List.flatMap_append]; simpa using own9, fun x hx => ⟨((HR1.out.2 x (hin x hx)).1.below b9).far (HOLD.out _ (Nat.le_refl _) x (hin x hx)) (grown_setCell1 _ _ _ _), fun q hq => HOLD.out q (by have := (O9.out.lt q hq).1; omega) x (hin x hx)⟩⟩)
    have HVO := hid_in (show (Value.slice ao9 N9 c9).ownBlock ≠ some (w.heap.size + 2) from fun e => by have := (O9.out.lt _ e).1; omega)
    have HFR := hid_in (show ∀ x ∈ D ++ T, LinesFar (w.heap.size + 2) x.v x.ls from fun x hx => HOLD.out _ (by omega) x (hin x hx))
    have HSMALL := hid_in (ok_small HOKD.out.1)
    have HRES := hid_in (show ∀ VB, sheetB ((D ++ T).map BAt.plain) = VB → ∀ U, Below B w U → KeepR (.slice va nb vc) w U → BRow B U (.slice ao9 N9 c9) (D ++ T) → OnePost B (.slice va nb vc) O w (.returned (.tuple #[.agg #[.slice ao9 N9 c9], .bool VB])) U from fun VB hVB U hU hKU hb => by
     obtain rfl : VB = true := by rw [← hVB]; exact sheetB_iff.2 HOKD.out.1
     rw [HSOME.out]
     exact ⟨hU, hKU, _, _, _, _, rfl, HOKD.out.2, hb⟩)
    clear hN hin own9 O9 HR1 HOLD HOKD HSOME B9 b9 B1 y0 y1 y2 z09 z29 m0 fr2 q0 q1 q2 q3 q4 s0 HC1 EB
    generalize u9.setCell ⟨w.heap.size, 0, none⟩ (.slice ao9 N9 c9) = U at *
    have sU := cell_of_block xS 0
    simp only [List.getElem?_toArray, List.getElem?_cons_zero] at sU
    have Bd : Below U.heap.size U U.drew := (Below.refl _ _).drew
    have HVV := specValid_any (HBR.out.bin.below Bd) HSMALL.out
    generalize hVB : sheetB ((D ++ T).map BAt.plain) = VB at HVV
    have EVB := hid_in hVB
    clear hVB
    have t0 : ∀ p : { W : World // W.cell? ⟨w.heap.size, 0, none⟩ = some (.slice ao9 N9 c9) }, p.1.cell? ⟨w.heap.size, 0, none⟩ = some (.slice ao9 N9 c9) := fun p => p.2
    letI IU : Inhabited { W : World // W.cell? ⟨w.heap.size, 0, none⟩ = some (.slice ao9 N9 c9) } := ⟨⟨U, sU⟩⟩
    go_upto_region 26 with fail
    refine wp_region_hold (S := fun W => W.cell? ⟨w.heap.size, 0, none⟩ = some (.slice ao9 N9 c9)) 4 5 (by kernel_rfl) rfl ?_
    refine wpHold_mask [true, true, false, false, false] 3 rfl (by kernel_rfl) sU ?_
    simp only [maskL_t, maskL_f, maskL_n]
    iterate 2 (refine wpReads_step (fun K hK => ?_); go_simp; refine hK _ ?_; clear hK K)
    refine wpReads_nil ?_
    clear t0
    refine wpHold_branch (f := 2) (rs := [2]) (by kernel_rfl) (by simp) ?_
    refine AllHold.cons rfl (by decide) (fun K hK => ?_) AllHold.nil
    go_simp
    go_wp2_with (go_at_call 61; refine HVV.mono ?_; first | rintro e u2 rfl c2 | rintro e u2 ⟨rfl, c2⟩)
    have c2' := Bd.trans c2
    have xS := xS.below c2'
    have xR := xR.below c2'
    have HBR2 := hid_in (HBR.out.below c2')
    have BU2 := BU.trans (c2'.mono hBU)
    have KU2 := KU.then hZU c2'
    have sU2 := cell_of_block xS 0
    have rU2 := cell_of_block xR 0
    have fU2 := frozen_of_block xR 0
    simp only [List.getElem?_toArray, List.getElem?_cons_zero] at sU2 rU2
    refine hK.out _ _ sU2 ?_
    clear hK K
    refine wpHold_branch (f := 1) (rs := [3]) (by kernel_rfl) (by simp) ?_
    refine AllHold.cons rfl (by decide) (fun K hK => ?_) AllHold.nil
    go_simp
    have xS3 := xS.other (q := w.heap.size + 2) 0 (.slice ao9 N9 c9) (by omega)
    have xR3 := xR.set 0 (.slice ao9 N9 c9)
    have sU3 := cell_of_block xS3 0
    have v9 := cell_of_block xR3 0
    simp only [List.getElem?_toArray, List.getElem?_cons_zero, List.setIfInBounds_toArray, List.set_cons_zero] at sU3 v9
    have BU3 := below_setCell BU2 ⟨w.heap.size + 2, 0, none⟩ (by show B ≤ w.heap.size + 2; omega) (.slice ao9 N9 c9)
    have KU3 := KU2.set (w.heap.size + 2) (by omega) 0 (.slice ao9 N9 c9)
    have HBR3 := hid_in (brow_far HBR2.out (grown_setCell1 u2 (w.heap.size + 2) 0 (.slice ao9 N9 c9)) HVO.out HFR.out)
    refine hK.out _ _ sU3 ?_
    clear hK K IU
    generalize u2.setCell ⟨w.heap.size + 2, 0, none⟩ (.slice ao9 N9 c9) = U3 at *
    refine wpHold_last (by kernel_rfl) rfl (by kernel_rfl) ?_
    intro K hK
    go_simp
    refine hK.out _ _ (NoPanic.normal ?_)
    clear hK K
    have HPO := hid_in (show OnePost B _ O w (.returned (.tuple #[.agg #[.slice ao9 N9 c9], .bool VB])) U3 from HRES.out VB EVB.out U3 BU3 KU3 HBR3.out)
    go_wp2
    exact bodyPost_ret (v := .tuple #[.agg #[.slice ao9 N9 c9], .bool VB]) (by simp [results, Tryz.results96, go_sem, v9]) rfl HPO.out
   ·have hl0 : ((0 : Int) < (nl : Int)) := by omega
    have hcl : cl ≠ [] := fun e => hl (by rw [← enl.out, e]; rfl)
    obtain rfl : O = none := by rw [← HO.out]; exact gone_none rfl (.inr (.inr (fun e => hcl (List.map_eq_nil_iff.1 e))))
    clear hlook hcl
    have r9 : w1.heap[w.heap.size + 1 + 1]? = some (.cells #[.slice none 0 0] 24 (0, 0)) := y2
    have b9 : Below w.heap.size w (w1.setRow (w.heap.size + 2) #[.slice va nb vc]) := ⟨B1.os, B1.tape, B1.output, by rw [setRow_size]; exact B1.size, fun k hk => by rw [setRow_other _ _ _ _ (by omega)]; exact B1.block k hk⟩
    go_wp2_with (with_reducible show wpList _ _ _ (Oper.mk _ (Op.store _ (Operand.tmp 4) _) _ _ _ _ :: _) _ _; refine wpList_store_row rfl 24 _ _ rfl (w.heap.size + 1 + 1) #[.slice va nb vc] ?_ ?_ 24 _ r9 ?_ ?_ ?_ ?_)
    all_goals (first | rfl | kernel_rfl | exact sheet_size | skip)
    have z9 : (w1.setRow (w.heap.size + 2) #[.slice va nb vc]).heap[w.heap.size + 2]? = some (.cells #[.slice va nb vc] 24 (0, 0)) := setRow_heap _ _ _ _ _ _ r9
    have v9 := cell_of_block z9 0
    simp only [List.getElem?_toArray, List.getElem?_cons_zero] at v9
    rw [show w.heap.size + 1 + 1 = w.heap.size + 2 from rfl]
    generalize w1.setRow (w.heap.size + 2) #[.slice va nb vc] = W9 at b9 v9 z9 ⊢
    go_wp2
    exact bodyPost_ret (v := .tuple #[.agg #[.slice va nb vc], .bool false]) (by simp [results, Tryz.results96, go_sem, v9]) rfl ⟨b9.mono hB, KeepR.of_below b9, ⟨_, _, _, rfl⟩⟩
  ·have hkb := ba_nil hk
   obtain rfl : O = none := by rw [← HO.out]; exact gone_none rfl (.inr (.inl hk))
   clear hlook
   have r9 : w1.heap[w.heap.size + 1 + 1]? = some (.cells #[.slice none 0 0] 24 (0, 0)) := y2
   have b9 : Below w.heap.size w (w1.setRow (w.heap.size + 2) #[.slice va nb vc]) := ⟨B1.os, B1.tape, B1.output, by rw [setRow_size]; exact B1.size, fun k hk => by rw [setRow_other _ _ _ _ (by omega)]; exact B1.block k hk⟩
   go_wp2_with (with_reducible show wpList _ _ _ (Oper.mk _ (Op.store _ (Operand.tmp 4) _) _ _ _ _ :: _) _ _; refine wpList_store_row rfl 24 _ _ rfl (w.heap.size + 1 + 1) #[.slice va nb vc] ?_ ?_ 24 _ r9 ?_ ?_ ?_ ?_)
   all_goals (first | rfl | kernel_rfl | exact sheet_size | skip)
   have z9 : (w1.setRow (w.heap.size + 2) #[.slice va nb vc]).heap[w.heap.size + 2]? = some (.cells #[.slice va nb vc] 24 (0, 0)) := setRow_heap _ _ _ _ _ _ r9
   have v9 := cell_of_block z9 0
   simp only [List.getElem?_toArray, List.getElem?_cons_zero] at v9
   rw [show w.heap.size + 1 + 1 = w.heap.size + 2 from rfl]
   generalize w1.setRow (w.heap.size + 2) #[.slice va nb vc] = W9 at b9 v9 z9 ⊢
   go_wp2
   exact bodyPost_ret (v := .tuple #[.agg #[.slice va nb vc], .bool false]) (by simp [results, Tryz.results96, go_sem, v9]) rfl ⟨b9.mono hB, KeepR.of_below b9, ⟨_, _, _, rfl⟩⟩
end Go.Proofs.YtpdahhnjhggocabGreatDoor
namespace Go.Proofs.YtpdahhnjhggocabGreatDoor
open Go.RowKit
theorem own_farL {Z q : Nat} {W : World} {v : Value} {ls : List LAt} (h : LinesOwn Z W v ls) (hq : q < Z) : LinesFar q v ls := ⟨FarV.above h.row hq, fun y hy => FarV.above (h.words y hy) hq⟩
theorem small_putB {bs D T : List BAt} {x : BAt} (h : BlocksSmall bs) (hb : bs = D ++ T) (hl : bs.length ≤ 60) (hx : x.name.size ≤ 1048576 ∧ LinesSmall x.ls) : BlocksSmall (D ++ x :: T) := by
 subst hb
 refine ⟨by simp at hl ⊢; omega, fun b hb => ?_⟩
 rcases List.mem_append.1 hb with hb | hb
 ·exact h.2 b (by simp [hb])
 ·rcases List.mem_cons.1 hb with rfl | hb
  ·exact hx
  ·exact h.2 b (by simp [hb])
set_option maxHeartbeats 16000000 in
set_option maxRecDepth 100000 in
theorem one7_new {B : Nat} {v : Value} {bs : List BAt} {c : CAt} {w : World} (hB : B ≤ w.heap.size) (hr : BRow B w v bs) (hok : SheetOk (bs.map BAt.plain)) (hc : LinesIn w c.v c.ls) (hcf : ∀ q, B ≤ q → LinesFar q c.v c.ls) (hcs : LinesSmall c.ls) (hw : c.what = 2) (hcn : c.name.size ≤ 1048576) : Calls Tryz.prog 96 #[.agg #[v], .agg #[.int .i64 c.what, .string c.kind, .string c.name, .string c.key, c.v]] w fun e w' => OnePost B v (oneS (bs.map BAt.plain) c.plain) w e w' := by
 obtain ⟨what, ck, cn, cy, cv, cl⟩ := c
 have hc : LinesIn w cv cl := hc
 have hcf : ∀ q, B ≤ q → LinesFar q cv cl := hcf
 have hcs : LinesSmall cl := hcs
 have HCN := hid_in (show cn.size ≤ 1048576 from hcn)
 clear hcn
 obtain ⟨la, lc, rfl⟩ := hc.1.form
 obtain ⟨va, vc, rfl, hvf⟩ := own_form hr.row
 have hw : what = 2 := hw
 subst hw
 obtain ⟨hsz, hy0, hy1, hy2⟩ := alloc3 (w := w) (o1 := (.cells #[.slice va bs.length vc] 24)) (o2 := (.cells #[.int .i64 2, .string ck, .string cn, .string cy, .slice la cl.length lc] 131)) (o3 := (.cells #[.slice none 0 0] 24))
 have b0 : Below w.heap.size w (((w.alloc (.cells #[.slice va bs.length vc] 24)).alloc (.cells #[.int .i64 2, .string ck, .string cn, .string cy, .slice la cl.length lc] 131)).alloc (.cells #[.slice none 0 0] 24)) := (((Below.refl w.heap.size w).alloc (Nat.le_refl _) _).alloc (by simp) _).alloc (by simp; omega) _
 have hlb : bs.length ≤ 60 := by have := hok.1; rw [List.length_map] at this; exact this
 have HF := l3Find_at ck cn (hr.bin.below b0) (by omega)
 unfold HeadAt at HF
 have HR := hid_in (hr.below b0)
 have HC := hid_in (hc.below b0)
 have HCF := hid_in hcf
 have HCS := hid_in hcs
 have HOK := hid_in hok
 have HNG := hid_in (@headAt_neg (bs.map BAt.plain) ck cn)
 have HSM := hid_in (fun h => @headAt_some (bs.map BAt.plain) ck cn h)
 have HOLD := hid_in (show ∀ q, w.heap.size ≤ q → ∀ x ∈ bs, LinesFar q x.v x.ls from fun q hq x hx => lines_old (hr.2 x hx).1 hq)
 obtain ⟨O, hO⟩ : ∃ O, oneS (bs.map BAt.plain) (CAt.plain ⟨2, ck, cn, cy, .slice la cl.length lc, cl⟩) = O := ⟨_, rfl⟩
 have HO := hid_in hO
 rw [hO]
 clear hO hr hc hcf hcs hok
 obtain ⟨P, hP⟩ : ∃ P, bs.map BAt.plain = P := ⟨_, rfl⟩
 rw [hP] at HF HO HNG HSM HOK
 have EP := hid_in hP
 clear hP
 generalize hAT : headAt P ck cn = AT at *
 clear hAT
 generalize hnb : bs.length = nb at *
 have enb := hid_in hnb
 clear hnb
 generalize hnl : cl.length = nl at *
 have enl := hid_in hnl
 clear hnl
 generalize hW0 : ((w.alloc (.cells #[.slice va nb vc] 24)).alloc (.cells #[.int .i64 2, .string ck, .string cn, .string cy, .slice la nl lc] 131)).alloc (.cells #[.slice none 0 0] 24) = W0 at *
 have EW := hid_in hW0
 have HSZ := hid_in hsz
 clear hW0 hsz
 have z0 : BlkAt W0 w.heap.size #[.slice va nb vc] 24 := hy0
 have z1 : BlkAt W0 (w.heap.size + 1) #[.int .i64 2, .string ck, .string cn, .string cy, .slice la nl lc] 131 := hy1
 have z2 : BlkAt W0 (w.heap.size + 2) #[.slice none 0 0] 24 := hy2
 have s0 := cell_of_block z0 0
 have q1 := cell_of_block z1 1
 have q2 := cell_of_block z1 2
 simp only [List.getElem?_toArray, List.getElem?_cons_zero, List.getElem?_cons_succ] at s0 q1 q2
 clear hy0 hy1 hy2
 go_enter Tryz.func96, Tryz.ntmps96
 go_upto_region 1 with fail
 rw [EW.out]
 clear EW
 go_wp2_with (go_at_call 76; refine HF.mono ?_)
 first | rintro e w1 rfl b1 | rintro e w1 ⟨rfl, b1⟩
 have B1 := b0.trans (b1.mono b0.size)
 have hz1 := b1.size
 rw [HSZ.out] at hz1
 have y0 := z0.below b1
 have y1 := z1.below b1
 have y2 := z2.below b1
 have HR1 := hid_in (HR.out.below b1)
 have HC1 := hid_in (HC.out.below b1)
 clear HF z0 z1 z2 s0 q1 q2 b1 b0 HR HC
 have s0 := cell_of_block y0 0
 have q0 := cell_of_block y1 0
 have q1 := cell_of_block y1 1
 have q2 := cell_of_block y1 2
 have q3 := cell_of_block y1 3
 have q4 := cell_of_block y1 4
 simp only [List.getElem?_toArray, List.getElem?_cons_zero, List.getElem?_cons_succ] at s0 q0 q1 q2 q3 q4
 by_cases hneg : AT < 0
 ·have hneg' : ¬ ((0 : Int) ≤ AT) := by omega
  have hlook := HNG.out.1 hneg
  by_cases hk : cy = ⟨#[]⟩
  ·subst hk
   have t0 : ∀ p : { W : World // W.cell? ⟨w.heap.size, 0, none⟩ = some (.slice va nb vc) ∧ W.cell? ⟨w.heap.size + 1, 1, none⟩ = some (.string ck) ∧ W.cell? ⟨w.heap.size + 1, 2, none⟩ = some (.string cn) ∧ W.cell? ⟨w.heap.size + 1, 4, none⟩ = some (.slice la nl lc) }, p.1.cell? ⟨w.heap.size, 0, none⟩ = some (.slice va nb vc) := fun p => p.2.1
   have t1 : ∀ p : { W : World // W.cell? ⟨w.heap.size, 0, none⟩ = some (.slice va nb vc) ∧ W.cell? ⟨w.heap.size + 1, 1, none⟩ = some (.string ck) ∧ W.cell? ⟨w.heap.size + 1, 2, none⟩ = some (.string cn) ∧ W.cell? ⟨w.heap.size + 1, 4, none⟩ = some (.slice la nl lc) }, p.1.cell? ⟨w.heap.size + 1, 1, none⟩ = some (.string ck) := fun p => p.2.2.1
   have t2 : ∀ p : { W : World // W.cell? ⟨w.heap.size, 0, none⟩ = some (.slice va nb vc) ∧ W.cell? ⟨w.heap.size + 1, 1, none⟩ = some (.string ck) ∧ W.cell? ⟨w.heap.size + 1, 2, none⟩ = some (.string cn) ∧ W.cell? ⟨w.heap.size + 1, 4, none⟩ = some (.slice la nl lc) }, p.1.cell? ⟨w.heap.size + 1, 2, none⟩ = some (.string cn) := fun p => p.2.2.2.1
   have t4 : ∀ p : { W : World // W.cell? ⟨w.heap.size, 0, none⟩ = some (.slice va nb vc) ∧ W.cell? ⟨w.heap.size + 1, 1, none⟩ = some (.string ck) ∧ W.cell? ⟨w.heap.size + 1, 2, none⟩ = some (.string cn) ∧ W.cell? ⟨w.heap.size + 1, 4, none⟩ = some (.slice la nl lc) }, p.1.cell? ⟨w.heap.size + 1, 4, none⟩ = some (.slice la nl lc) := fun p => p.2.2.2.2
   letI I1 : Inhabited { W : World // W.cell? ⟨w.heap.size, 0, none⟩ = some (.slice va nb vc) ∧ W.cell? ⟨w.heap.size + 1, 1, none⟩ = some (.string ck) ∧ W.cell? ⟨w.heap.size + 1, 2, none⟩ = some (.string cn) ∧ W.cell? ⟨w.heap.size + 1, 4, none⟩ = some (.slice la nl lc) } := ⟨⟨w1, s0, q1, q2, q4⟩⟩
   have hKS := hid_in (show ∀ u, Below w1.heap.size w1 u → u.cell? ⟨w.heap.size, 0, none⟩ = some (.slice va nb vc) ∧ u.cell? ⟨w.heap.size + 1, 1, none⟩ = some (.string ck) ∧ u.cell? ⟨w.heap.size + 1, 2, none⟩ = some (.string cn) ∧ u.cell? ⟨w.heap.size + 1, 4, none⟩ = some (.slice la nl lc) from fun u hu => ⟨(hu.cell (World.block_lt_of_cell? w1 _ s0)).trans s0, (hu.cell (World.block_lt_of_cell? w1 _ q1)).trans q1, (hu.cell (World.block_lt_of_cell? w1 _ q2)).trans q2, (hu.cell (World.block_lt_of_cell? w1 _ q4)).trans q4⟩)
   have Bd : Below w1.heap.size w1 w1.drew := (Below.refl _ _).drew
   have HL := l3Lines_any (HC1.out.below Bd) HCS.out
   clear HSM HNG hneg
   go_upto_region 11 with fail
   refine wp_region_hold (S := fun W => W.cell? ⟨w.heap.size, 0, none⟩ = some (.slice va nb vc) ∧ W.cell? ⟨w.heap.size + 1, 1, none⟩ = some (.string ck) ∧ W.cell? ⟨w.heap.size + 1, 2, none⟩ = some (.string cn) ∧ W.cell? ⟨w.heap.size + 1, 4, none⟩ = some (.slice la nl lc)) 10 11 (by kernel_rfl) rfl ?_
   refine wpHold_mask [true, true, true, true, true, true, true, false, false, false, false] 4 rfl (by kernel_rfl) ⟨s0, q1, q2, q4⟩ ?_
   simp only [maskL_t, maskL_f, maskL_n]
   iterate 7 (refine wpReads_step (fun K hK => ?_); go_simp; refine hK _ ?_; clear hK K)
   refine wpReads_nil ?_
   clear t0 t1 t2 t4
   refine wpHold_branch (f := 3) (rs := [7]) (by kernel_rfl) (by simp) ?_
   refine AllHold.cons rfl (by decide) (fun K hK => ?_) AllHold.nil
   go_simp
   go_wp2_with (go_at_call 90; refine HL.mono ?_; rintro e u1 ⟨v1, ls1, rfl, hpl, hown, c1⟩)
   have b1 := Bd.trans c1
   refine hK.out _ _ (hKS.out _ b1) ?_
   clear hK K HL c1
   obtain ⟨xa, xc, rfl, -⟩ := own_form hown.row
   have HBK := hid_in (HR1.out.below b1)
   have hzz := b1.size
   have HPB := l3PutBlock_any (x := ⟨ck, cn, .slice xa ls1.length xc, ls1⟩) HBK.out.bin.1 (fun y hy => by obtain ⟨a, c, e⟩ := (HBK.out.2 y hy).1.1.form; exact ⟨a, _, c, e⟩) (by have := enb.out; omega) ⟨_, _, _, rfl⟩
   have HOWN := hid_in hown
   have HPL := hid_in hpl
   clear hown hpl
   simp only at HPB
   generalize hn1 : ls1.length = n1 at *
   have en1 := hid_in hn1
   clear hn1
   refine wpHold_branch (f := 2) (rs := [8]) (by kernel_rfl) (by simp) ?_
   refine AllHold.cons rfl (by decide) (fun K hK => ?_) AllHold.nil
   go_simp
   refine hK.out _ _ (hKS.out _ b1) ?_
   clear hK K
   refine wpHold_branch (f := 1) (rs := [9]) (by kernel_rfl) (by simp) ?_
   refine AllHold.cons rfl (by decide) (fun K hK => ?_) AllHold.nil
   go_simp
   go_wp2_with (go_at_call 46; refine HPB.mono ?_; rintro e u9 ⟨v9, D, T, EB, rfl, hpm, o9, c9⟩)
   have b9 := b1.trans (c9.mono b1.size)
   obtain ⟨ao9, cp9, rfl, -⟩ := own_form o9
   have O9 := hid_in o9
   have PM := hid_in hpm
   have EBH := hid_in EB
   clear o9 hpm EB
   generalize hN9 : (D ++ (⟨ck, cn, .slice xa n1 xc, ls1⟩ : BAt) :: T).length = N9 at *
   have eN9 := hid_in hN9
   clear hN9
   refine hK.out _ _ (hKS.out _ b9) ?_
   clear hK K hKS I1 HPB
   have z09 := y0.below b9
   have z29 := y2.below b9
   have m0 := cell_of_block z09 0
   have fr2 := frozen_of_block z09 0
   simp only [List.getElem?_toArray, List.getElem?_cons_zero] at m0
   refine wpHold_last (by kernel_rfl) rfl (by kernel_rfl) ?_
   intro K hK
   have B9 := B1.trans (b9.mono (by omega))
   have h9z := b9.size
   go_simp
   refine hK.out _ _ (NoPanic.normal ?_)
   clear hK K
   have xS := z09.set 0 (.slice ao9 N9 cp9)
   simp only [List.setIfInBounds_toArray, List.set_cons_zero] at xS
   have xR := z29.other (q := w.heap.size) 0 (.slice ao9 N9 cp9) (by omega)
   have BU := (B9.setCell (p := ⟨w.heap.size, 0, none⟩) (Nat.le_refl _) (.slice ao9 N9 cp9)).mono hB
   have hZU : w.heap.size ≤ (u9.setCell ⟨w.heap.size, 0, none⟩ (.slice ao9 N9 cp9)).heap.size := by rw [World.size_setCell]; omega
   have KU : KeepR (.slice va nb vc) w (u9.setCell ⟨w.heap.size, 0, none⟩ (.slice ao9 N9 cp9)) := (KeepR.of_below B9).set w.heap.size (Nat.le_refl _) 0 (.slice ao9 N9 cp9)
   have hBU : B ≤ (u9.setCell ⟨w.heap.size, 0, none⟩ (.slice ao9 N9 cp9)).heap.size := by rw [World.size_setCell]; omega
   have hcz := c9.size
   have hmem : ∀ y ∈ D ++ (⟨ck, cn, .slice xa n1 xc, ls1⟩ : BAt) :: T, y ∈ bs ∨ y = ⟨ck, cn, .slice xa n1 xc, ls1⟩ := fun y hy => by
    rw [EBH.out]
    rcases List.mem_append.1 hy with hy | hy
    ·exact .inl (by simp [hy])
    ·rcases List.mem_cons.1 hy with rfl | hy
     ·exact .inr rfl
     ·exact .inl (by simp [hy])
   have own9 := own_mono (own_setCell O9.out ⟨w.heap.size, 0, none⟩ (by simp; omega) (.slice ao9 N9 cp9)) (show B ≤ u1.heap.size by omega)
   have HBR := hid_in (show BRow B (u9.setCell ⟨w.heap.size, 0, none⟩ (.slice ao9 N9 cp9)) (.slice ao9 N9 cp9) (D ++ (⟨ck, cn, .slice xa n1 xc, ls1⟩ : BAt) :: T) from ⟨by rw [eN9.out]; exact own9, fun y hy => by
    rcases hmem y hy with hy | rfl
    ·exact ⟨((HR1.out.2 y hy).1.below b9).far (HOLD.out _ (Nat.le_refl _) y hy) (grown_setCell1 _ _ _ _), fun q hq => HOLD.out q (by have := (O9.out.lt q hq).1; omega) y hy⟩
    ·exact ⟨(HOWN.out.lin.below c9).far (own_farL HOWN.out (show w.heap.size < w1.heap.size by omega)) (grown_setCell1 _ _ _ _), fun q hq => lines_old HOWN.out.lin (O9.out.lt q hq).1⟩⟩)
   have HVO := hid_in (show (Value.slice ao9 N9 cp9).ownBlock ≠ some (w.heap.size + 2) from fun e => by have := (O9.out.lt _ e).1; omega)
   have HFR := hid_in (show ∀ y ∈ D ++ (⟨ck, cn, .slice xa n1 xc, ls1⟩ : BAt) :: T, LinesFar (w.heap.size + 2) y.v y.ls from fun y hy => by
    rcases hmem y hy with hy | rfl
    ·exact HOLD.out _ (by omega) y hy
    ·exact own_farL HOWN.out (show w.heap.size + 2 < w1.heap.size by omega))
   have HSMALL := hid_in (small_putB (x := ⟨ck, cn, .slice xa n1 xc, ls1⟩) (ok_small (bs := bs) (by rw [EP.out]; exact HOK.out)) EBH.out (by rw [enb.out]; exact hlb) ⟨HCN.out, HCS.out.same HPL.out⟩)
   have HMP := hid_in (show (D ++ (⟨ck, cn, .slice xa n1 xc, ls1⟩ : BAt) :: T).map BAt.plain = putIn blockLt ⟨ck, cn, cl.map LAt.plain⟩ P from by
    rw [PM.out, ← EP.out, ← HPL.out]; rfl)
   have HRES := hid_in (show ∀ VB, sheetB ((D ++ (⟨ck, cn, .slice xa n1 xc, ls1⟩ : BAt) :: T).map BAt.plain) = VB → ∀ U, Below B w U → KeepR (.slice va nb vc) w U → BRow B U (.slice ao9 N9 cp9) (D ++ (⟨ck, cn, .slice xa n1 xc, ls1⟩ : BAt) :: T) → OnePost B (.slice va nb vc) O w (.returned (.tuple #[.agg #[.slice ao9 N9 cp9], .bool VB])) U from fun VB hVB U hU hKU hb => by
    rw [HMP.out] at hVB
    cases VB
    ·have hno : ¬ SheetOk (putIn blockLt ⟨ck, cn, cl.map LAt.plain⟩ P) := fun h => by rw [sheetB_iff.2 h] at hVB; cases hVB
     rw [← HO.out, new_none (A := P) (c := CAt.plain ⟨2, ck, cn, ⟨#[]⟩, .slice la nl lc, cl⟩) rfl (.inr (.inr hno))]
     exact ⟨hU, hKU, _, _, _, rfl⟩
    ·rw [← HO.out, new_some (A := P) (c := CAt.plain ⟨2, ck, cn, ⟨#[]⟩, .slice la nl lc, cl⟩) rfl hlook rfl (sheetB_iff.1 hVB)]
     exact ⟨hU, hKU, _, _, _, _, rfl, HMP.out, hb⟩)
   clear hmem own9 O9 HR1 HOLD B9 b9 B1 y0 y1 y2 z09 z29 m0 fr2 q0 q1 q2 q3 q4 s0 HC1 PM HMP HO b1 c9 Bd HBK HPL HOWN
   generalize hBSN : D ++ (⟨ck, cn, .slice xa n1 xc, ls1⟩ : BAt) :: T = BSN at *
   clear hBSN
   generalize u9.setCell ⟨w.heap.size, 0, none⟩ (.slice ao9 N9 cp9) = U at *
   have sU := cell_of_block xS 0
   simp only [List.getElem?_toArray, List.getElem?_cons_zero] at sU
   have Bd : Below U.heap.size U U.drew := (Below.refl _ _).drew
   have HVV := specValid_any (HBR.out.bin.below Bd) HSMALL.out
   generalize hVB : sheetB (BSN.map BAt.plain) = VB at HVV
   have EVB := hid_in hVB
   clear hVB
   have t0 : ∀ p : { W : World // W.cell? ⟨w.heap.size, 0, none⟩ = some (.slice ao9 N9 cp9) }, p.1.cell? ⟨w.heap.size, 0, none⟩ = some (.slice ao9 N9 cp9) := fun p => p.2
   letI IU : Inhabited { W : World // W.cell? ⟨w.heap.size, 0, none⟩ = some (.slice ao9 N9 cp9) } := ⟨⟨U, sU⟩⟩
   go_upto_region 26 with fail
   refine wp_region_hold (S := fun W => W.cell? ⟨w.heap.size, 0, none⟩ = some (.slice ao9 N9 cp9)) 4 5 (by kernel_rfl) rfl ?_
   refine wpHold_mask [true, true, false, false, false] 3 rfl (by kernel_rfl) sU ?_
   simp only [maskL_t, maskL_f, maskL_n]
   iterate 2 (refine wpReads_step (fun K hK => ?_); go_simp; refine hK _ ?_; clear hK K)
   refine wpReads_nil ?_
   clear t0
   refine wpHold_branch (f := 2) (rs := [2]) (by kernel_rfl) (by simp) ?_
   refine AllHold.cons rfl (by decide) (fun K hK => ?_) AllHold.nil
   go_simp
   go_wp2_with (go_at_call 61; refine HVV.mono ?_; first | rintro e u2 rfl c2 | rintro e u2 ⟨rfl, c2⟩)
   have c2' := Bd.trans c2
   have xS := xS.below c2'
   have xR := xR.below c2'
   have HBR2 := hid_in (HBR.out.below c2')
   have BU2 := BU.trans (c2'.mono hBU)
   have KU2 := KU.then hZU c2'
   have sU2 := cell_of_block xS 0
   have rU2 := cell_of_block xR 0
   have fU2 := frozen_of_block xR 0
   simp only [List.getElem?_toArray, List.getElem?_cons_zero] at sU2 rU2
   refine hK.out _ _ sU2 ?_
   clear hK K
   refine wpHold_branch (f := 1) (rs := [3]) (by kernel_rfl) (by simp) ?_
   refine AllHold.cons rfl (by decide) (fun K hK => ?_) AllHold.nil
   go_simp
   have xS3 := xS.other (q := w.heap.size + 2) 0 (.slice ao9 N9 cp9) (by omega)
   have xR3 := xR.set 0 (.slice ao9 N9 cp9)
   have sU3 := cell_of_block xS3 0
   have v9 := cell_of_block xR3 0
   simp only [List.getElem?_toArray, List.getElem?_cons_zero, List.setIfInBounds_toArray, List.set_cons_zero] at sU3 v9
   have BU3 := below_setCell BU2 ⟨w.heap.size + 2, 0, none⟩ (by show B ≤ w.heap.size + 2; omega) (.slice ao9 N9 cp9)
   have KU3 := KU2.set (w.heap.size + 2) (by omega) 0 (.slice ao9 N9 cp9)
   have HBR3 := hid_in (brow_far HBR2.out (grown_setCell1 u2 (w.heap.size + 2) 0 (.slice ao9 N9 cp9)) HVO.out HFR.out)
   refine hK.out _ _ sU3 ?_
   clear hK K IU
   generalize u2.setCell ⟨w.heap.size + 2, 0, none⟩ (.slice ao9 N9 cp9) = U3 at *
   refine wpHold_last (by kernel_rfl) rfl (by kernel_rfl) ?_
   intro K hK
   go_simp
   refine hK.out _ _ (NoPanic.normal ?_)
   clear hK K
   have HPO := hid_in (show OnePost B _ O w (.returned (.tuple #[.agg #[.slice ao9 N9 cp9], .bool VB])) U3 from HRES.out VB EVB.out U3 BU3 KU3 HBR3.out)
   go_wp2
   exact bodyPost_ret (v := .tuple #[.agg #[.slice ao9 N9 cp9], .bool VB]) (by simp [results, Tryz.results96, go_sem, v9]) rfl HPO.out
  ·have hkb := ba_nil hk
   obtain rfl : O = none := by rw [← HO.out]; exact new_none rfl (.inr (.inl hk))
   clear hlook
   have r9 : w1.heap[w.heap.size + 1 + 1]? = some (.cells #[.slice none 0 0] 24 (0, 0)) := y2
   have b9 : Below w.heap.size w (w1.setRow (w.heap.size + 2) #[.slice va nb vc]) := ⟨B1.os, B1.tape, B1.output, by rw [setRow_size]; exact B1.size, fun k hk => by rw [setRow_other _ _ _ _ (by omega)]; exact B1.block k hk⟩
   go_wp2_with (with_reducible show wpList _ _ _ (Oper.mk _ (Op.store _ (Operand.tmp 4) _) _ _ _ _ :: _) _ _; refine wpList_store_row rfl 24 _ _ rfl (w.heap.size + 1 + 1) #[.slice va nb vc] ?_ ?_ 24 _ r9 ?_ ?_ ?_ ?_)
   all_goals (first | rfl | kernel_rfl | exact sheet_size | skip)
   have z9 : (w1.setRow (w.heap.size + 2) #[.slice va nb vc]).heap[w.heap.size + 2]? = some (.cells #[.slice va nb vc] 24 (0, 0)) := setRow_heap _ _ _ _ _ _ r9
   have v9 := cell_of_block z9 0
   simp only [List.getElem?_toArray, List.getElem?_cons_zero] at v9
   rw [show w.heap.size + 1 + 1 = w.heap.size + 2 from rfl]
   generalize w1.setRow (w.heap.size + 2) #[.slice va nb vc] = W9 at b9 v9 z9 ⊢
   go_wp2
   exact bodyPost_ret (v := .tuple #[.agg #[.slice va nb vc], .bool false]) (by simp [results, Tryz.results96, go_sem, v9]) rfl ⟨b9.mono hB, KeepR.of_below b9, ⟨_, _, _, rfl⟩⟩
 ·have hneg' : (0 : Int) ≤ AT := by omega
  have hlook : look P ck cn ≠ none := fun e => hneg (HNG.out.2 e)
  obtain rfl : O = none := by rw [← HO.out]; exact new_none rfl (.inl hlook)
  clear hlook
  have r9 : w1.heap[w.heap.size + 1 + 1]? = some (.cells #[.slice none 0 0] 24 (0, 0)) := y2
  have b9 : Below w.heap.size w (w1.setRow (w.heap.size + 2) #[.slice va nb vc]) := ⟨B1.os, B1.tape, B1.output, by rw [setRow_size]; exact B1.size, fun k hk => by rw [setRow_other _ _ _ _ (by omega)]; exact B1.block k hk⟩
  go_wp2_with (with_reducible show wpList _ _ _ (Oper.mk _ (Op.store _ (Operand.tmp 4) _) _ _ _ _ :: _) _ _; refine wpList_store_row rfl 24 _ _ rfl (w.heap.size + 1 + 1) #[.slice va nb vc] ?_ ?_ 24 _ r9 ?_ ?_ ?_ ?_)
  all_goals (first | rfl | kernel_rfl | exact sheet_size | skip)
  have z9 : (w1.setRow (w.heap.size + 2) #[.slice va nb vc]).heap[w.heap.size + 2]? = some (.cells #[.slice va nb vc] 24 (0, 0)) := setRow_heap _ _ _ _ _ _ r9
  have v9 := cell_of_block z9 0
  simp only [List.getElem?_toArray, List.getElem?_cons_zero] at v9
  rw [show w.heap.size + 1 + 1 = w.heap.size + 2 from rfl]
  generalize w1.setRow (w.heap.size + 2) #[.slice va nb vc] = W9 at b9 v9 z9 ⊢
  go_wp2
  exact bodyPost_ret (v := .tuple #[.agg #[.slice va nb vc], .bool false]) (by simp [results, Tryz.results96, go_sem, v9]) rfl ⟨b9.mono hB, KeepR.of_below b9, ⟨_, _, _, rfl⟩⟩
end Go.Proofs.YtpdahhnjhggocabGreatDoor
namespace Go.Proofs.YtpdahhnjhggocabGreatDoor
open Go.RowKit
def Kp7 (w : World) (what : Int) (ck cn cy : ByteArray) (lv sv : Value) (W : World) : Prop := Below w.heap.size w W ∧ BlkAt W w.heap.size #[sv] 24 ∧ BlkAt W (w.heap.size + 1) #[.int .i64 what, .string ck, .string cn, .string cy, lv] 131 ∧ BlkAt W (w.heap.size + 2) #[.slice none 0 0] 24
theorem Kp7.below {w : World} {what : Int} {ck cn cy : ByteArray} {lv sv : Value} {W W' : World} (h : Kp7 w what ck cn cy lv sv W) (hb : Below W.heap.size W W') : Kp7 w what ck cn cy lv sv W' :=
 ⟨h.1.trans (hb.mono h.1.size), h.2.1.below hb, h.2.2.1.below hb, h.2.2.2.below hb⟩
theorem BlkAt.grown {W W' : World} {g Y : Nat} {cs : Array Value} {T : TypeId} (h : BlkAt W g cs T) (hg : W.grownBy W' (some Y)) (hn : g ≠ Y) : BlkAt W' g cs T :=
 (hg.block g (Array.getElem?_eq_some_iff.1 (show W.heap[g]? = _ from h)).1 (by intro e; exact hn (Option.some.inj e))).trans h
theorem Kp7.grown {w : World} {what : Int} {ck cn cy : ByteArray} {lv sv : Value} {W W' : World} {Y : Nat} (h : Kp7 w what ck cn cy lv sv W) (hg : W.grownBy W' (some Y)) (hY : w.heap.size + 3 ≤ Y) : Kp7 w what ck cn cy lv sv W' :=
 ⟨belowGrown h.1 h.1.size (by omega) hg, h.2.1.grown hg (by omega), h.2.2.1.grown hg (by omega), h.2.2.2.grown hg (by omega)⟩
structure S7 (B g : Nat) (w : World) (Y : Nat) (what : Int) (ck cn cy : ByteArray) (lv sv : Value) (cl : List LAt) (bs : List BAt) (xk xn : ByteArray) (v : Value) (ls : List LAt) (W : World) : Prop where
 kp : Kp7 w what ck cn cy lv sv W
 yb : BlkAt W Y #[.string xk, .string xn, v] 64
 yz : w.heap.size + 3 ≤ Y
 row : BRow B W sv bs
 cin : LinesIn W lv cl
 lin : LinesIn W v ls
 far : LinesFar g v ls ∧ LinesFar (w.heap.size + 2) v ls ∧ LinesFar Y v ls
theorem S7.below {B g : Nat} {w : World} {Y : Nat} {what : Int} {ck cn cy : ByteArray} {lv sv : Value} {cl : List LAt} {bs : List BAt} {xk xn : ByteArray} {v : Value} {ls : List LAt} {W W' : World} (h : S7 B g w Y what ck cn cy lv sv cl bs xk xn v ls W) (hb : Below W.heap.size W W') : S7 B g w Y what ck cn cy lv sv cl bs xk xn v ls W' :=
 ⟨h.kp.below hb, h.yb.below hb, h.yz, h.row.below hb, h.cin.below hb, h.lin.below hb, h.far⟩
theorem S7.lay {B g : Nat} {w : World} {Y : Nat} {what : Int} {ck cn cy : ByteArray} {lv sv : Value} {cl : List LAt} {bs : List BAt} {xk xn : ByteArray} {v' : Value} {ls' : List LAt} {W : World} {old : Array Value} (kp : Kp7 w what ck cn cy lv sv W) (yb : BlkAt W Y old 64) (yz : w.heap.size + 3 ≤ Y) (row : BRow B W sv bs) (cin : LinesIn W lv cl)
  (hv : sv.ownBlock ≠ some Y) (hold : ∀ x ∈ bs, LinesFar Y x.v x.ls) (hcf : LinesFar Y lv cl) (hl : LinesIn W v' ls') (hf : LinesFar g v' ls' ∧ LinesFar (w.heap.size + 2) v' ls' ∧ LinesFar Y v' ls') :
  S7 B g w Y what ck cn cy lv sv cl bs xk xn v' ls' (W.setRow Y #[.string xk, .string xn, v']) := by
 have gz := grown_setRow W Y #[.string xk, .string xn, v']
 exact ⟨kp.grown gz yz, setRow_heap _ _ _ _ _ _ yb, yz, brow_far row gz hv hold, cin.far hcf gz, hl.far hf.2.2 gz, hf⟩
theorem without_far {q Z : Nat} {W : World} {xv v0 : Value} {xl : List LAt} {p : LAt → Bool} (ho : W.ownsRow Z 82 2 v0 (xl.filter p).length ((xl.filter p).flatMap LAt.cells)) (hq : q < Z) (hx : LinesFar q xv xl) : LinesFar q v0 (xl.filter p) := ⟨FarV.above ho hq, fun y hy => hx.2 y (List.mem_filter.1 hy).1⟩
theorem without_in {Z : Nat} {W : World} {xv v0 : Value} {xl : List LAt} {p : LAt → Bool} (ho : W.ownsRow Z 82 2 v0 (xl.filter p).length ((xl.filter p).flatMap LAt.cells)) (hx : LinesIn W xv xl) : LinesIn W v0 (xl.filter p) := ⟨own_has ho, fun y hy => hx.2 y (List.mem_filter.1 hy).1⟩
end Go.Proofs.YtpdahhnjhggocabGreatDoor
namespace Go.Proofs.YtpdahhnjhggocabGreatDoor
open Go.RowKit
def LoopS (what : Int) (B g : Nat) (w : World) (Y : Nat) (ck cn cy : ByteArray) (lv sv : Value) (cl : List LAt) (bs : List BAt) (xk xn : ByteArray) (xl : List LAt) (nl : Nat) (i : Value) (W : World) : Prop := ∃ (k : Nat) (a : Option Addr) (n c : Nat) (ls : List LAt), i = .int .i64 (k : Int) ∧ k ≤ nl ∧ ls.map LAt.plain = setL (rulesOf xk) (xl.map LAt.plain) cy ((cl.take k).map LAt.plain) ∧ (∀ y ∈ cl.take k, y.key = cy) ∧ ls.length ≤ xl.length + k ∧ (∀ y ∈ ls, y ∈ xl ∨ y ∈ cl) ∧ S7 B g w Y what ck cn cy lv sv cl bs xk xn (.slice a n c) ls W
theorem without_plain (xl : List LAt) (cy : ByteArray) : (xl.filter (notKey cy)).map LAt.plain = (xl.map LAt.plain).filter (otherK cy) := by
 rw [List.filter_map]; rfl
theorem setL_snoc (R : List Plain) (ls : List PLine) (key : ByteArray) (xs : List PLine) (a : PLine) : setL R ls key (xs ++ [a]) = putIn (lineLt R) a (setL R ls key xs) := by
 unfold setL; rw [List.foldl_append]; rfl
set_option maxHeartbeats 16000000 in
set_option maxRecDepth 100000 in
theorem one7_set {B : Nat} {v : Value} {bs : List BAt} {c : CAt} {w : World} (hB : B ≤ w.heap.size) (hr : BRow B w v bs) (hok : SheetOk (bs.map BAt.plain)) (hc : LinesIn w c.v c.ls) (hcf : ∀ q, B ≤ q → LinesFar q c.v c.ls) (hcs : LinesSmall c.ls) (hw : c.what = 3) (hbud : ∀ b ∈ bs, b.ls.length + c.ls.length ≤ 1048576) : Calls Tryz.prog 96 #[.agg #[v], .agg #[.int .i64 c.what, .string c.kind, .string c.name, .string c.key, c.v]] w fun e w' => OnePost B v (oneS (bs.map BAt.plain) c.plain) w e w' := by
 obtain ⟨what, ck, cn, cy, cv, cl⟩ := c
 have hc : LinesIn w cv cl := hc
 have hcf : ∀ q, B ≤ q → LinesFar q cv cl := hcf
 have hcs : LinesSmall cl := hcs
 have HBUD := hid_in (show ∀ b ∈ bs, b.ls.length + cl.length ≤ 1048576 from hbud)
 clear hbud
 obtain ⟨la, lc, rfl⟩ := hc.1.form
 obtain ⟨va, vc, rfl, hvf⟩ := own_form hr.row
 have hw : what = 3 := hw
 subst hw
 obtain ⟨hsz, hy0, hy1, hy2⟩ := alloc3 (w := w) (o1 := (.cells #[.slice va bs.length vc] 24)) (o2 := (.cells #[.int .i64 3, .string ck, .string cn, .string cy, .slice la cl.length lc] 131)) (o3 := (.cells #[.slice none 0 0] 24))
 have b0 : Below w.heap.size w (((w.alloc (.cells #[.slice va bs.length vc] 24)).alloc (.cells #[.int .i64 3, .string ck, .string cn, .string cy, .slice la cl.length lc] 131)).alloc (.cells #[.slice none 0 0] 24)) := (((Below.refl w.heap.size w).alloc (Nat.le_refl _) _).alloc (by simp) _).alloc (by simp; omega) _
 have hlb : bs.length ≤ 60 := by have := hok.1; rw [List.length_map] at this; exact this
 have HF := l3Find_at ck cn (hr.bin.below b0) (by omega)
 unfold HeadAt at HF
 have HR := hid_in (hr.below b0)
 have HC := hid_in (hc.below b0)
 have HCF := hid_in hcf
 have HCS := hid_in hcs
 have HGL := hid_in (show ∀ g, va = some ⟨g, 0, none⟩ → g < w.heap.size ∧ B ≤ g from fun g e => by subst e; exact ⟨(hr.row.lt g rfl).2, (hr.row.lt g rfl).1⟩)
 have HOK := hid_in hok
 have HNG := hid_in (@headAt_neg (bs.map BAt.plain) ck cn)
 have HSM := hid_in (fun h => @headAt_some (bs.map BAt.plain) ck cn h)
 have HOLD := hid_in (show ∀ q, w.heap.size ≤ q → ∀ x ∈ bs, LinesFar q x.v x.ls from fun q hq x hx => lines_old (hr.2 x hx).1 hq)
 obtain ⟨O, hO⟩ : ∃ O, oneS (bs.map BAt.plain) (CAt.plain ⟨3, ck, cn, cy, .slice la cl.length lc, cl⟩) = O := ⟨_, rfl⟩
 have HO := hid_in hO
 rw [hO]
 clear hO hr hc hcf hcs hok
 obtain ⟨P, hP⟩ : ∃ P, bs.map BAt.plain = P := ⟨_, rfl⟩
 rw [hP] at HF HO HNG HSM HOK
 have EP := hid_in hP
 clear hP
 generalize hAT : headAt P ck cn = AT at *
 clear hAT
 generalize hnb : bs.length = nb at *
 have enb := hid_in hnb
 clear hnb
 generalize hnl : cl.length = nl at *
 have enl := hid_in hnl
 clear hnl
 generalize hW0 : ((w.alloc (.cells #[.slice va nb vc] 24)).alloc (.cells #[.int .i64 3, .string ck, .string cn, .string cy, .slice la nl lc] 131)).alloc (.cells #[.slice none 0 0] 24) = W0 at *
 have EW := hid_in hW0
 have HSZ := hid_in hsz
 clear hW0 hsz
 have z0 : BlkAt W0 w.heap.size #[.slice va nb vc] 24 := hy0
 have z1 : BlkAt W0 (w.heap.size + 1) #[.int .i64 3, .string ck, .string cn, .string cy, .slice la nl lc] 131 := hy1
 have z2 : BlkAt W0 (w.heap.size + 2) #[.slice none 0 0] 24 := hy2
 have s0 := cell_of_block z0 0
 have q1 := cell_of_block z1 1
 have q2 := cell_of_block z1 2
 simp only [List.getElem?_toArray, List.getElem?_cons_zero, List.getElem?_cons_succ] at s0 q1 q2
 clear hy0 hy1 hy2
 go_enter Tryz.func96, Tryz.ntmps96
 go_upto_region 1 with fail
 rw [EW.out]
 clear EW
 go_wp2_with (go_at_call 76; refine HF.mono ?_)
 first | rintro e w1 rfl b1 | rintro e w1 ⟨rfl, b1⟩
 have B1 := b0.trans (b1.mono b0.size)
 have hz1 := b1.size
 rw [HSZ.out] at hz1
 have y0 := z0.below b1
 have y1 := z1.below b1
 have y2 := z2.below b1
 have HR1 := hid_in (HR.out.below b1)
 have HC1 := hid_in (HC.out.below b1)
 clear HF z0 z1 z2 s0 q1 q2 b1 b0 HR HC
 have s0 := cell_of_block y0 0
 have q0 := cell_of_block y1 0
 have q1 := cell_of_block y1 1
 have q2 := cell_of_block y1 2
 have q3 := cell_of_block y1 3
 have q4 := cell_of_block y1 4
 simp only [List.getElem?_toArray, List.getElem?_cons_zero, List.getElem?_cons_succ] at s0 q0 q1 q2 q3 q4
 by_cases hneg : AT < 0
 ·obtain rfl : O = none := by rw [← HO.out]; exact set_none rfl (.inl (HNG.out.1 hneg))
  have r9 : w1.heap[w.heap.size + 1 + 1]? = some (.cells #[.slice none 0 0] 24 (0, 0)) := y2
  have b9 : Below w.heap.size w (w1.setRow (w.heap.size + 2) #[.slice va nb vc]) := ⟨B1.os, B1.tape, B1.output, by rw [setRow_size]; exact B1.size, fun k hk => by rw [setRow_other _ _ _ _ (by omega)]; exact B1.block k hk⟩
  go_wp2_with (with_reducible show wpList _ _ _ (Oper.mk _ (Op.store _ (Operand.tmp 4) _) _ _ _ _ :: _) _ _; refine wpList_store_row rfl 24 _ _ rfl (w.heap.size + 1 + 1) #[.slice va nb vc] ?_ ?_ 24 _ r9 ?_ ?_ ?_ ?_)
  all_goals (first | rfl | kernel_rfl | exact sheet_size | skip)
  have z9 : (w1.setRow (w.heap.size + 2) #[.slice va nb vc]).heap[w.heap.size + 2]? = some (.cells #[.slice va nb vc] 24 (0, 0)) := setRow_heap _ _ _ _ _ _ r9
  have v9 := cell_of_block z9 0
  simp only [List.getElem?_toArray, List.getElem?_cons_zero] at v9
  rw [show w.heap.size + 1 + 1 = w.heap.size + 2 from rfl]
  generalize w1.setRow (w.heap.size + 2) #[.slice va nb vc] = W9 at b9 v9 z9 ⊢
  go_wp2
  exact bodyPost_ret (v := .tuple #[.agg #[.slice va nb vc], .bool false]) (by simp [results, Tryz.results96, go_sem, v9]) rfl ⟨b9.mono hB, KeepR.of_below b9, ⟨_, _, _, rfl⟩⟩
 ·obtain ⟨j, hj, rfl, hfind⟩ := HSM.out (by omega)
  have hj0 : ¬ ((j : Int) < 0) := by omega
  obtain ⟨D, x, T, eb, hD, hhd, hlook⟩ := split_at EP.out hfind
  clear hneg hfind
  by_cases hl : nl = 0
  ·have hcl : cl = [] := List.length_eq_zero_iff.1 (enl.out.trans hl)
   have hl0 : ¬ ((0 : Int) < (nl : Int)) := by omega
   obtain rfl : O = none := by rw [← HO.out]; exact set_none rfl (.inr (.inl (by rw [hcl]; rfl)))
   clear hlook hcl
   have r9 : w1.heap[w.heap.size + 1 + 1]? = some (.cells #[.slice none 0 0] 24 (0, 0)) := y2
   have b9 : Below w.heap.size w (w1.setRow (w.heap.size + 2) #[.slice va nb vc]) := ⟨B1.os, B1.tape, B1.output, by rw [setRow_size]; exact B1.size, fun k hk => by rw [setRow_other _ _ _ _ (by omega)]; exact B1.block k hk⟩
   go_wp2_with (with_reducible show wpList _ _ _ (Oper.mk _ (Op.store _ (Operand.tmp 4) _) _ _ _ _ :: _) _ _; refine wpList_store_row rfl 24 _ _ rfl (w.heap.size + 1 + 1) #[.slice va nb vc] ?_ ?_ 24 _ r9 ?_ ?_ ?_ ?_)
   all_goals (first | rfl | kernel_rfl | exact sheet_size | skip)
   have z9 : (w1.setRow (w.heap.size + 2) #[.slice va nb vc]).heap[w.heap.size + 2]? = some (.cells #[.slice va nb vc] 24 (0, 0)) := setRow_heap _ _ _ _ _ _ r9
   have v9 := cell_of_block z9 0
   simp only [List.getElem?_toArray, List.getElem?_cons_zero] at v9
   rw [show w.heap.size + 1 + 1 = w.heap.size + 2 from rfl]
   generalize w1.setRow (w.heap.size + 2) #[.slice va nb vc] = W9 at b9 v9 z9 ⊢
   go_wp2
   exact bodyPost_ret (v := .tuple #[.agg #[.slice va nb vc], .bool false]) (by simp [results, Tryz.results96, go_sem, v9]) rfl ⟨b9.mono hB, KeepR.of_below b9, ⟨_, _, _, rfl⟩⟩
  ·have hl0 : ((0 : Int) < (nl : Int)) := by omega
   have hld : decide (0 < nl) = true := decide_eq_true (by omega)
   have HCN0 := hid_in (show cl ≠ [] from fun e => hl (by rw [← enl.out, e]; rfl))
   have hjb : j < nb := by have := enb.out; rw [← hD, ← this, eb]; simp
   have hjb' : (j : Int) < (nb : Int) := by omega
   have hj1 : (0 : Int) ≤ (j : Int) := by omega
   obtain ⟨g, rfl⟩ : ∃ g, va = some ⟨g, 0, none⟩ := by
    rcases hvf with e | ⟨g, e⟩
    ·omega
    ·exact ⟨g, e⟩
   clear hvf
   obtain ⟨xk, xn, xv, xl⟩ := x
   have hxin : LinesIn w1 xv xl := (HR1.out.2 ⟨xk, xn, xv, xl⟩ (by rw [eb]; simp)).1
   obtain ⟨xa, xc, rfl⟩ := hxin.1.form
   have HXG := hid_in (show LinesFar g (.slice xa xl.length xc) xl from (HR1.out.2 ⟨xk, xn, .slice xa xl.length xc, xl⟩ (by rw [eb]; simp)).2 g rfl)
   have HXO := hid_in (show ∀ q, w.heap.size ≤ q → LinesFar q (.slice xa xl.length xc) xl from fun q hq => HOLD.out q hq ⟨xk, xn, .slice xa xl.length xc, xl⟩ (by rw [eb]; simp))
   have HXI := hid_in hxin
   clear hxin
   have hgl : g < w.heap.size := (HGL.out g rfl).1
   have HXS := hid_in (show LinesSmall xl from ((ok_small (bs := bs) (by rw [EP.out]; exact HOK.out)).2 ⟨xk, xn, .slice xa xl.length xc, xl⟩ (by rw [eb]; simp)).2)
   obtain ⟨g', off', e', r1, r2, r3⟩ := (show HasRow w1 (.slice (some ⟨g, 0, none⟩) nb vc) nb 3 ((D ++ (⟨xk, xn, .slice xa xl.length xc, xl⟩ : BAt) :: T).flatMap BAt.cells) from by have := HR1.out.bin.1; rw [enb.out, eb] at this; exact this).block
   cases e'
   simp only [Nat.zero_add, hD] at r1 r2 r3
   have EB := hid_in eb
   have ED := hid_in hD
   have HHD := hid_in hhd
   have HLK := hid_in hlook
   clear eb hD hhd hlook
   generalize hnx : xl.length = nx at *
   have enx := hid_in hnx
   clear hnx
   clear HSM HNG
   have u0 := fun p : Gr w1 => gr_cell q0 p
   go_upto_region 16 with fail
   refine wp_region_gr (by kernel_rfl) (by kernel_rfl) ?_
   iterate 4 quiet_step (fail)
   iterate 10 (with_reducible refine quiet_skip ?_ ?_; kernel_rfl; simp only [Act.put, List.setIfInBounds_toArray, List.set_cons_zero, List.set_cons_succ])
   quiet_step (fail)
   refine wpQuiet_nil ?_
   rintro wq ⟨⟨_, bq⟩, rfl⟩
   clear u0
   have HW : ∀ W, Below wq.heap.size wq W → Calls Tryz.prog 160 #[.agg #[.string xk, .string xn, .slice xa nx xc], .string cy] W fun e w' => WithoutPost ⟨xk, xn, .slice xa nx xc, xl⟩ cy W e w' := fun W hb => l7Without_any (b := ⟨xk, xn, .slice xa nx xc, xl⟩) cy (HXI.out.below (bq.trans (hb.mono bq.size))) HXS.out
   have KQ := hid_in (show Kp7 w 3 ck cn cy (.slice la nl lc) (.slice (some ⟨g, 0, none⟩) nb vc) wq from Kp7.below ⟨B1, y0, y1, y2⟩ bq)
   have RQ := hid_in (HR1.out.below bq)
   have CQ := hid_in (HC1.out.below bq)
   have s0q := (bq.cell (World.block_lt_of_cell? w1 _ s0)).trans s0
   have q3q := (bq.cell (World.block_lt_of_cell? w1 _ q3)).trans q3
   have r1q := (bq.cell (World.block_lt_of_cell? w1 _ r1)).trans r1
   have r2q := (bq.cell (World.block_lt_of_cell? w1 _ r2)).trans r2
   have r3q := (bq.cell (World.block_lt_of_cell? w1 _ r3)).trans r3
   have hqz := bq.size
   have hKS := hid_in (show ∀ u, Below wq.heap.size wq u → u.cell? ⟨w.heap.size, 0, none⟩ = some (.slice (some ⟨g, 0, none⟩) nb vc) ∧ u.cell? ⟨w.heap.size + 1, 3, none⟩ = some (.string cy) ∧ u.cell? ⟨g, j * 3, none⟩ = some (.string xk) ∧ u.cell? ⟨g, j * 3 + 1, none⟩ = some (.string xn) ∧ u.cell? ⟨g, j * 3 + 2, none⟩ = some (.slice xa nx xc) from fun u hu => ⟨(hu.cell (World.block_lt_of_cell? wq _ s0q)).trans s0q, (hu.cell (World.block_lt_of_cell? wq _ q3q)).trans q3q, (hu.cell (World.block_lt_of_cell? wq _ r1q)).trans r1q, (hu.cell (World.block_lt_of_cell? wq _ r2q)).trans r2q, (hu.cell (World.block_lt_of_cell? wq _ r3q)).trans r3q⟩)
   have t0 : ∀ p : { W : World // W.cell? ⟨w.heap.size, 0, none⟩ = some (.slice (some ⟨g, 0, none⟩) nb vc) ∧ W.cell? ⟨w.heap.size + 1, 3, none⟩ = some (.string cy) ∧ W.cell? ⟨g, j * 3, none⟩ = some (.string xk) ∧ W.cell? ⟨g, j * 3 + 1, none⟩ = some (.string xn) ∧ W.cell? ⟨g, j * 3 + 2, none⟩ = some (.slice xa nx xc) }, p.1.cell? ⟨w.heap.size, 0, none⟩ = some (.slice (some ⟨g, 0, none⟩) nb vc) := fun p => p.2.1
   have t1 : ∀ p : { W : World // W.cell? ⟨w.heap.size, 0, none⟩ = some (.slice (some ⟨g, 0, none⟩) nb vc) ∧ W.cell? ⟨w.heap.size + 1, 3, none⟩ = some (.string cy) ∧ W.cell? ⟨g, j * 3, none⟩ = some (.string xk) ∧ W.cell? ⟨g, j * 3 + 1, none⟩ = some (.string xn) ∧ W.cell? ⟨g, j * 3 + 2, none⟩ = some (.slice xa nx xc) }, p.1.cell? ⟨w.heap.size + 1, 3, none⟩ = some (.string cy) := fun p => p.2.2.1
   have t2 : ∀ p : { W : World // W.cell? ⟨w.heap.size, 0, none⟩ = some (.slice (some ⟨g, 0, none⟩) nb vc) ∧ W.cell? ⟨w.heap.size + 1, 3, none⟩ = some (.string cy) ∧ W.cell? ⟨g, j * 3, none⟩ = some (.string xk) ∧ W.cell? ⟨g, j * 3 + 1, none⟩ = some (.string xn) ∧ W.cell? ⟨g, j * 3 + 2, none⟩ = some (.slice xa nx xc) }, p.1.cell? ⟨g, j * 3, none⟩ = some (.string xk) := fun p => p.2.2.2.1
   have t3 : ∀ p : { W : World // W.cell? ⟨w.heap.size, 0, none⟩ = some (.slice (some ⟨g, 0, none⟩) nb vc) ∧ W.cell? ⟨w.heap.size + 1, 3, none⟩ = some (.string cy) ∧ W.cell? ⟨g, j * 3, none⟩ = some (.string xk) ∧ W.cell? ⟨g, j * 3 + 1, none⟩ = some (.string xn) ∧ W.cell? ⟨g, j * 3 + 2, none⟩ = some (.slice xa nx xc) }, p.1.cell? ⟨g, j * 3 + 1, none⟩ = some (.string xn) := fun p => p.2.2.2.2.1
   have t4 : ∀ p : { W : World // W.cell? ⟨w.heap.size, 0, none⟩ = some (.slice (some ⟨g, 0, none⟩) nb vc) ∧ W.cell? ⟨w.heap.size + 1, 3, none⟩ = some (.string cy) ∧ W.cell? ⟨g, j * 3, none⟩ = some (.string xk) ∧ W.cell? ⟨g, j * 3 + 1, none⟩ = some (.string xn) ∧ W.cell? ⟨g, j * 3 + 2, none⟩ = some (.slice xa nx xc) }, p.1.cell? ⟨g, j * 3 + 2, none⟩ = some (.slice xa nx xc) := fun p => p.2.2.2.2.2
   letI I1 : Inhabited { W : World // W.cell? ⟨w.heap.size, 0, none⟩ = some (.slice (some ⟨g, 0, none⟩) nb vc) ∧ W.cell? ⟨w.heap.size + 1, 3, none⟩ = some (.string cy) ∧ W.cell? ⟨g, j * 3, none⟩ = some (.string xk) ∧ W.cell? ⟨g, j * 3 + 1, none⟩ = some (.string xn) ∧ W.cell? ⟨g, j * 3 + 2, none⟩ = some (.slice xa nx xc) } := ⟨⟨wq, s0q, q3q, r1q, r2q, r3q⟩⟩
   go_upto_region 18 with fail
   refine wp_region_hold (S := fun W => W.cell? ⟨w.heap.size, 0, none⟩ = some (.slice (some ⟨g, 0, none⟩) nb vc) ∧ W.cell? ⟨w.heap.size + 1, 3, none⟩ = some (.string cy) ∧ W.cell? ⟨g, j * 3, none⟩ = some (.string xk) ∧ W.cell? ⟨g, j * 3 + 1, none⟩ = some (.string xn) ∧ W.cell? ⟨g, j * 3 + 2, none⟩ = some (.slice xa nx xc)) 9 10 (by kernel_rfl) rfl ?_
   refine wpHold_mask [true, true, true, true, true, true, true, false, false, false] 3 rfl (by kernel_rfl) ⟨s0q, q3q, r1q, r2q, r3q⟩ ?_
   simp only [maskL_t, maskL_f, maskL_n]
   iterate 7 (refine wpReads_step (fun K hK => ?_); go_simp; refine hK _ ?_; clear hK K)
   refine wpReads_nil ?_
   clear t0 t1 t2 t3 t4
   refine wpHold_branch (f := 2) (rs := [7, 8]) (by kernel_rfl) (by simp) ?_
   refine AllHold.cons rfl (by decide) (fun K hK => ?wayA) (AllHold.cons rfl (by decide) (fun K hK => ?wayB) AllHold.nil)
   case' wayA =>
    go_simp
    have Bd : Below wq.heap.size wq wq.drew := (Below.refl _ _).drew
    go_wp2_with (go_at_call 160; refine (HW _ Bd).mono ?_; rintro e u1 ⟨a5, n5, c5, rfl, o5, c1⟩)
    have b1 := Bd.trans c1
    refine hK.out _ _ (hKS.out _ b1) ?_
    clear hK K
    have hn5 : n5 = (xl.filter (notKey cy)).length := by obtain ⟨_, _, e, _⟩ := own_form o5; cases e; rfl
    refine wpHold_branch (f := 1) (rs := [8]) (by kernel_rfl) (by simp) ?_
    refine AllHold.cons rfl (by decide) (fun K hK => ?_) AllHold.nil
    have EN5 := hid_in hn5
    have O5 := hid_in o5
    clear hn5 o5
    go_simp
    have bY := (Below.refl u1.heap.size u1).alloc (Nat.le_refl _) (.cells #[.string ⟨#[]⟩, .string ⟨#[]⟩, .slice none 0 0] 64)
    have zY := BlkAt.new u1 #[.string ⟨#[]⟩, .string ⟨#[]⟩, .slice none 0 0] 64
    have b2 := b1.trans (bY.mono b1.size)
    refine hK.out _ _ (hKS.out _ b2) ?_
    clear hK K
    have hz1 := b1.size
    have HFY := hid_in (And.intro (without_far O5.out (show g < wq.drew.heap.size by show g < wq.heap.size; omega) HXG.out) (And.intro (without_far O5.out (show w.heap.size + 2 < wq.drew.heap.size by show w.heap.size + 2 < wq.heap.size; omega) (HXO.out _ (by omega))) (lines_old (without_in (xv := .slice xa nx xc) O5.out (HXI.out.below (bq.trans (b1.mono bq.size)))) (Nat.le_refl u1.heap.size))))
    have HLY := hid_in ((without_in (xv := .slice xa nx xc) O5.out (HXI.out.below (bq.trans (b1.mono bq.size)))).below bY)
    have hYz : w.heap.size + 3 ≤ u1.heap.size := by omega
    have KQ2 := hid_in (KQ.out.below b2)
    have RQ2 := hid_in (RQ.out.below b2)
    have CQ2 := hid_in (CQ.out.below b2)
    generalize hYY : u1.heap.size = Y at *
    clear hYY
    generalize hUY : u1.alloc (.cells #[.string ⟨#[]⟩, .string ⟨#[]⟩, .slice none 0 0] 64) = UY at *
    clear hUY bY c1 b1 Bd O5 HW hKS b2 hqz I1 KQ RQ CQ s0q q3q r1q r2q r3q bq
   case' wayB =>
    go_simp
    have bY : Below wq.heap.size wq (wq.alloc (.cells #[.string ⟨#[]⟩, .string ⟨#[]⟩, .slice none 0 0] 64)).drew := ((Below.refl wq.heap.size wq).alloc (Nat.le_refl _) (.cells #[.string ⟨#[]⟩, .string ⟨#[]⟩, .slice none 0 0] 64)).drew
    have zY0 : BlkAt (wq.alloc (.cells #[.string ⟨#[]⟩, .string ⟨#[]⟩, .slice none 0 0] 64)).drew wq.heap.size #[.string ⟨#[]⟩, .string ⟨#[]⟩, .slice none 0 0] 64 := BlkAt.new wq _ _
    have hsY : (wq.alloc (.cells #[.string ⟨#[]⟩, .string ⟨#[]⟩, .slice none 0 0] 64)).drew.heap.size = wq.heap.size + 1 := by show (wq.alloc _).heap.size = _; simp
    have HSY := hid_in hsY
    clear hsY
    refine hK.out _ _ (hKS.out _ bY) ?_
    clear hK K
    refine wpHold_branch (f := 1) (rs := [7]) (by kernel_rfl) (by simp) ?_
    refine AllHold.cons rfl (by decide) (fun K hK => ?_) AllHold.nil
    go_simp
    go_wp2_with (go_at_call 160; refine (HW _ bY).mono ?_; rintro e UY ⟨a5, n5, c5, rfl, o5, c1⟩)
    have b2 := bY.trans (c1.mono bY.size)
    refine hK.out _ _ (hKS.out _ b2) ?_
    clear hK K
    have hn5 : n5 = (xl.filter (notKey cy)).length := by obtain ⟨_, _, e, _⟩ := own_form o5; cases e; rfl
    have EN5 := hid_in hn5
    have zY := zY0.below c1
    rw [HSY.out] at o5
    have HFY := hid_in (And.intro (without_far o5 (show g < wq.heap.size + 1 by omega) HXG.out) (And.intro (without_far o5 (show w.heap.size + 2 < wq.heap.size + 1 by omega) (HXO.out _ (by omega))) (without_far o5 (show wq.heap.size < wq.heap.size + 1 by omega) (HXO.out wq.heap.size (by omega)))))
    have HLY := hid_in (without_in (xv := .slice xa nx xc) o5 (HXI.out.below (bq.trans (b2.mono bq.size))))
    have hYz : w.heap.size + 3 ≤ wq.heap.size := by omega
    have KQ2 := hid_in (KQ.out.below b2)
    have RQ2 := hid_in (RQ.out.below b2)
    have CQ2 := hid_in (CQ.out.below b2)
    clear hn5 o5 zY0 c1 bY HSY HW hKS b2 hqz I1 KQ RQ CQ s0q q3q r1q r2q r3q bq
    generalize hYY : wq.heap.size = Y at *
    clear hYY
   all_goals
    refine wpHold_last (by kernel_rfl) rfl (by kernel_rfl) ?_
    intro K hK
    rw [if_pos (by rfl)]
    refine wp_store_row 64 _ _ rfl Y #[.string xk, .string xn, .slice a5 n5 c5] rfl rfl 64 _ zY (by kernel_rfl) rfl (by first | rfl | kernel_rfl) ?_
    refine hK.out _ _ (NoPanic.normal ?_)
    clear hK K
    have HS7 := hid_in (S7.lay (B := B) (g := g) (xk := xk) (xn := xn) KQ2.out zY hYz RQ2.out CQ2.out (fun e => by have e3 : g = Y := Option.some.inj e; omega) (fun y hy => HOLD.out Y (by omega) y hy) (HCF.out Y (by omega)) HLY.out HFY.out)
    generalize UY.setRow Y #[.string xk, .string xn, .slice a5 n5 c5] = WX at *
    clear zY KQ2 RQ2 CQ2 HLY HFY y0 y1 y2 s0 q0 q1 q2 q3 q4 r1 r2 r3 HR1 HC1 B1
    go_wp2
    go_loopw [8] (fun i wr => LoopS 3 B g w Y ck cn cy (.slice la nl lc) (.slice (some ⟨g, 0, none⟩) nb vc) cl bs xk xn xl nl i wr) (fun i _ => nl - (intOf i).toNat)
    case atStart =>
     exact ⟨0, a5, n5, c5, xl.filter (notKey cy), rfl, by omega, by rw [without_plain]; rfl, by simp, by have := List.length_filter_le (notKey cy) xl; omega, fun y hy => .inl (List.mem_filter.1 hy).1, HS7.out⟩
    case round =>
     clear HS7
     obtain ⟨k, a, n, c, ls, rfl, hkn, hpl, hks, hlen, hmem, HS⟩ := hrel
     have hnl : nl ≤ 1048576 := by have := HCS.out.1; rw [enl.out] at this; exact this
     by_cases hlt : k < nl
     ·have hlt' : ((k : Int) < (nl : Int)) := by omega
      have hk0 : (0 : Int) ≤ (k : Int) := by omega
      obtain ⟨E, y, F, ecl, hE⟩ := split1 cl k (by rw [enl.out]; exact hlt)
      obtain ⟨yk, yv, yw⟩ := y
      have hyin : LineIn wr ⟨yk, yv, yw⟩ := HS.cin.2 ⟨yk, yv, yw⟩ (by rw [ecl]; simp)
      obtain ⟨ya, yc, eyv⟩ : ∃ ya yc, yv = .slice ya yw.length yc := hyin.form
      subst eyv
      obtain ⟨lg, loff, rfl, d1, d2⟩ := (show HasRow wr (.slice la nl lc) nl 2 ((E ++ (⟨yk, .slice ya yw.length yc, yw⟩ : LAt) :: F).flatMap LAt.cells) from by have := HS.cin.1; rw [enl.out, ecl] at this; exact this).line
      rw [hE] at d1 d2
      have p3 := cell_of_block HS.kp.2.2.1 3
      have p4 := cell_of_block HS.kp.2.2.1 4
      have p0 := cell_of_block HS.kp.2.1 0
      simp only [List.getElem?_toArray, List.getElem?_cons_zero, List.getElem?_cons_succ] at p0 p3 p4
      have HYI := hid_in hyin
      have HSH := hid_in HS
      have HPLH := hid_in hpl
      have HKS := hid_in hks
      have HMM := hid_in hmem
      have ECL := hid_in ecl
      have HEE := hid_in hE
      clear HS hpl hks hmem ecl hE hyin
      generalize hyn : yw.length = yn at *
      have eyn := hid_in hyn
      clear hyn
      have f3 := fun p : Gr wr => gr_cell p3 p
      have f4 := fun p : Gr wr => gr_cell p4 p
      have f5 := fun p : Gr wr => gr_cell d1 p
      by_cases hky : yk = cy
      ·have hkt : (yk.toList == cy.toList) = true := by rw [hky]; exact beq_self_eq_true _
       have HKY := hid_in hky
       clear hky
       go_upto_region 22 with fail
       refine wp_region_gr (by kernel_rfl) (by kernel_rfl) ?_
       iterate 9 quiet_step (fail)
       refine wpQuiet_nil ?_
       rintro wq2 ⟨⟨_, bq2⟩, rfl⟩
       clear f3 f4 f5
       have HQ := hid_in (HSH.out.below bq2)
       have e0 := cell_of_block HQ.out.yb 0
       have e1 := cell_of_block HQ.out.yb 1
       have e2 := cell_of_block HQ.out.yb 2
       have e3 := cell_of_block HQ.out.kp.2.2.1 4
       simp only [List.getElem?_toArray, List.getElem?_cons_zero, List.getElem?_cons_succ] at e0 e1 e2 e3
       have e4 := (bq2.cell (World.block_lt_of_cell? wr _ d1)).trans d1
       have e5 := (bq2.cell (World.block_lt_of_cell? wr _ d2)).trans d2
       have hKT := hid_in (show ∀ u, Below wq2.heap.size wq2 u → u.cell? ⟨Y, 0, none⟩ = some (.string xk) ∧ u.cell? ⟨Y, 1, none⟩ = some (.string xn) ∧ u.cell? ⟨Y, 2, none⟩ = some (.slice a n c) ∧ u.cell? ⟨w.heap.size + 1, 4, none⟩ = some (.slice (some ⟨lg, loff, none⟩) nl lc) ∧ u.cell? ⟨lg, loff + k * 2, none⟩ = some (.string yk) ∧ u.cell? ⟨lg, loff + k * 2 + 1, none⟩ = some (.slice ya yn yc) from fun u hu => ⟨(hu.cell (World.block_lt_of_cell? wq2 _ e0)).trans e0, (hu.cell (World.block_lt_of_cell? wq2 _ e1)).trans e1, (hu.cell (World.block_lt_of_cell? wq2 _ e2)).trans e2, (hu.cell (World.block_lt_of_cell? wq2 _ e3)).trans e3, (hu.cell (World.block_lt_of_cell? wq2 _ e4)).trans e4, (hu.cell (World.block_lt_of_cell? wq2 _ e5)).trans e5⟩)
       have t0 : ∀ p : { W : World // W.cell? ⟨Y, 0, none⟩ = some (.string xk) ∧ W.cell? ⟨Y, 1, none⟩ = some (.string xn) ∧ W.cell? ⟨Y, 2, none⟩ = some (.slice a n c) ∧ W.cell? ⟨w.heap.size + 1, 4, none⟩ = some (.slice (some ⟨lg, loff, none⟩) nl lc) ∧ W.cell? ⟨lg, loff + k * 2, none⟩ = some (.string yk) ∧ W.cell? ⟨lg, loff + k * 2 + 1, none⟩ = some (.slice ya yn yc) }, p.1.cell? ⟨Y, 0, none⟩ = some (.string xk) := fun p => p.2.1
       have t1 : ∀ p : { W : World // W.cell? ⟨Y, 0, none⟩ = some (.string xk) ∧ W.cell? ⟨Y, 1, none⟩ = some (.string xn) ∧ W.cell? ⟨Y, 2, none⟩ = some (.slice a n c) ∧ W.cell? ⟨w.heap.size + 1, 4, none⟩ = some (.slice (some ⟨lg, loff, none⟩) nl lc) ∧ W.cell? ⟨lg, loff + k * 2, none⟩ = some (.string yk) ∧ W.cell? ⟨lg, loff + k * 2 + 1, none⟩ = some (.slice ya yn yc) }, p.1.cell? ⟨Y, 1, none⟩ = some (.string xn) := fun p => p.2.2.1
       have t2 : ∀ p : { W : World // W.cell? ⟨Y, 0, none⟩ = some (.string xk) ∧ W.cell? ⟨Y, 1, none⟩ = some (.string xn) ∧ W.cell? ⟨Y, 2, none⟩ = some (.slice a n c) ∧ W.cell? ⟨w.heap.size + 1, 4, none⟩ = some (.slice (some ⟨lg, loff, none⟩) nl lc) ∧ W.cell? ⟨lg, loff + k * 2, none⟩ = some (.string yk) ∧ W.cell? ⟨lg, loff + k * 2 + 1, none⟩ = some (.slice ya yn yc) }, p.1.cell? ⟨Y, 2, none⟩ = some (.slice a n c) := fun p => p.2.2.2.1
       have t3 : ∀ p : { W : World // W.cell? ⟨Y, 0, none⟩ = some (.string xk) ∧ W.cell? ⟨Y, 1, none⟩ = some (.string xn) ∧ W.cell? ⟨Y, 2, none⟩ = some (.slice a n c) ∧ W.cell? ⟨w.heap.size + 1, 4, none⟩ = some (.slice (some ⟨lg, loff, none⟩) nl lc) ∧ W.cell? ⟨lg, loff + k * 2, none⟩ = some (.string yk) ∧ W.cell? ⟨lg, loff + k * 2 + 1, none⟩ = some (.slice ya yn yc) }, p.1.cell? ⟨w.heap.size + 1, 4, none⟩ = some (.slice (some ⟨lg, loff, none⟩) nl lc) := fun p => p.2.2.2.2.1
       have t4 : ∀ p : { W : World // W.cell? ⟨Y, 0, none⟩ = some (.string xk) ∧ W.cell? ⟨Y, 1, none⟩ = some (.string xn) ∧ W.cell? ⟨Y, 2, none⟩ = some (.slice a n c) ∧ W.cell? ⟨w.heap.size + 1, 4, none⟩ = some (.slice (some ⟨lg, loff, none⟩) nl lc) ∧ W.cell? ⟨lg, loff + k * 2, none⟩ = some (.string yk) ∧ W.cell? ⟨lg, loff + k * 2 + 1, none⟩ = some (.slice ya yn yc) }, p.1.cell? ⟨lg, loff + k * 2, none⟩ = some (.string yk) := fun p => p.2.2.2.2.2.1
       have t5 : ∀ p : { W : World // W.cell? ⟨Y, 0, none⟩ = some (.string xk) ∧ W.cell? ⟨Y, 1, none⟩ = some (.string xn) ∧ W.cell? ⟨Y, 2, none⟩ = some (.slice a n c) ∧ W.cell? ⟨w.heap.size + 1, 4, none⟩ = some (.slice (some ⟨lg, loff, none⟩) nl lc) ∧ W.cell? ⟨lg, loff + k * 2, none⟩ = some (.string yk) ∧ W.cell? ⟨lg, loff + k * 2 + 1, none⟩ = some (.slice ya yn yc) }, p.1.cell? ⟨lg, loff + k * 2 + 1, none⟩ = some (.slice ya yn yc) := fun p => p.2.2.2.2.2.2
       letI I2 : Inhabited { W : World // W.cell? ⟨Y, 0, none⟩ = some (.string xk) ∧ W.cell? ⟨Y, 1, none⟩ = some (.string xn) ∧ W.cell? ⟨Y, 2, none⟩ = some (.slice a n c) ∧ W.cell? ⟨w.heap.size + 1, 4, none⟩ = some (.slice (some ⟨lg, loff, none⟩) nl lc) ∧ W.cell? ⟨lg, loff + k * 2, none⟩ = some (.string yk) ∧ W.cell? ⟨lg, loff + k * 2 + 1, none⟩ = some (.slice ya yn yc) } := ⟨⟨wq2, e0, e1, e2, e3, e4, e5⟩⟩
       have hbx := HBUD.out ⟨xk, xn, .slice xa nx xc, xl⟩ (by rw [EB.out]; simp)
       have HLS := hid_in (show LinesSmall ls from ⟨by have : xl.length + nl ≤ 1048576 := hbx; omega, fun z hz => by
        rcases HMM.out z hz with h | h
        ·exact HXS.out.2 z h
        ·exact HCS.out.2 z h⟩)
       have hycl : (⟨yk, .slice ya yn yc, yw⟩ : LAt) ∈ cl := by rw [ECL.out]; simp
       have HPT : ∀ W, Below wq2.heap.size wq2 W → Calls Tryz.prog 70 #[.agg #[.string xk, .string xn, .slice a n c], .agg #[.string yk, .slice ya yn yc]] W fun e w' => ∃ q m cc, e = .returned (.agg #[.string xk, .string xn, .slice q m cc]) ∧ PutP (rulesOf xk) ls (.slice a n c) ⟨yk, .slice ya yn yc, yw⟩ W (.slice q m cc) w' ∧ Below W.heap.size W w' := fun W hb => putLine_p (kind := xk) (name := xn) (x := ⟨yk, .slice ya yn yc, yw⟩) (HQ.out.lin.below hb) HLS.out (HYI.out.below (bq2.trans (hb.mono bq2.size))) (HCS.out.2 _ hycl).1
       have HYC := hid_in hycl
       clear hycl hbx
       go_upto_region 24 with fail
       refine wp_region_hold (S := fun W => W.cell? ⟨Y, 0, none⟩ = some (.string xk) ∧ W.cell? ⟨Y, 1, none⟩ = some (.string xn) ∧ W.cell? ⟨Y, 2, none⟩ = some (.slice a n c) ∧ W.cell? ⟨w.heap.size + 1, 4, none⟩ = some (.slice (some ⟨lg, loff, none⟩) nl lc) ∧ W.cell? ⟨lg, loff + k * 2, none⟩ = some (.string yk) ∧ W.cell? ⟨lg, loff + k * 2 + 1, none⟩ = some (.slice ya yn yc)) 7 8 (by kernel_rfl) rfl ?_
       refine wpHold_mask [true, true, true, true, true, true, false, false] 2 rfl (by kernel_rfl) ⟨e0, e1, e2, e3, e4, e5⟩ ?_
       simp only [maskL_t, maskL_f, maskL_n]
       iterate 6 (refine wpReads_step (fun K hK => ?_); go_simp; refine hK _ ?_; clear hK K)
       refine wpReads_nil ?_
       clear t0 t1 t2 t3 t4 t5
       refine wpHold_branch (f := 1) (rs := [6]) (by kernel_rfl) (by simp) ?_
       refine AllHold.cons rfl (by decide) (fun K hK => ?_) AllHold.nil
       go_simp
       have Bd2 : Below wq2.heap.size wq2 wq2.drew := (Below.refl _ _).drew
       go_wp2_with (go_at_call 70; refine (HPT _ Bd2).mono ?_; rintro e u2 ⟨qa, qm, qc, rfl, HPP, c2⟩)
       have b2 := Bd2.trans c2
       refine hK.out _ _ (hKT.out _ b2) ?_
       clear hK K HPT hKT I2
       have zY := HQ.out.yb.below b2
       refine wpHold_last (by kernel_rfl) rfl (by kernel_rfl) ?_
       intro K hK
       rw [if_pos (by rfl)]
       refine wp_store_row 64 _ _ rfl Y #[.string xk, .string xn, .slice qa qm qc] rfl rfl 64 _ zY (by kernel_rfl) rfl (by first | rfl | kernel_rfl) ?_
       refine hK.out _ _ (NoPanic.normal ?_)
       clear hK K
       obtain ⟨ls', hp', hl', hm', hin', hf'⟩ := HPP
       have hYl : Y < wq2.heap.size := HQ.out.yb.lt
       have hfy : ∀ q, B ≤ q → FarV q (Value.slice ya yn yc) yw.length := fun q hq => (HCF.out q hq).2 _ HYC.out
       have HN := hid_in (S7.lay (B := B) (g := g) (xk := xk) (xn := xn) (HQ.out.kp.below b2) zY hYz (HQ.out.row.below b2) (HQ.out.cin.below b2) (fun e => by have e3 : g = Y := Option.some.inj e; omega) (fun y hy => HOLD.out Y (by omega) y hy) (HCF.out Y (by omega)) hin' ⟨hf' g (by show g < wq2.heap.size; omega) HQ.out.far.1 (hfy g (HGL.out g rfl).2), hf' (w.heap.size + 2) (by show w.heap.size + 2 < wq2.heap.size; omega) HQ.out.far.2.1 (hfy _ (by omega)), hf' Y (by show Y < wq2.heap.size; omega) HQ.out.far.2.2 (hfy _ (by omega))⟩)
       have htk : cl.take k = E := by rw [ECL.out, ← HEE.out, List.take_left]
       have hts : cl.take (k + 1) = E ++ [⟨yk, .slice ya yn yc, yw⟩] := by rw [ECL.out, ← HEE.out, List.take_append, List.take_of_length_le (by omega), Nat.add_sub_cancel_left]; rfl
       have HLP := hid_in (show LoopS 3 B g w Y ck cn cy (.slice (some ⟨lg, loff, none⟩) nl lc) (.slice (some ⟨g, 0, none⟩) nb vc) cl bs xk xn xl nl (.int .i64 ((k + 1 : Nat) : Int)) (u2.setRow Y #[.string xk, .string xn, .slice qa qm qc]) from ⟨k + 1, qa, qm, qc, ls', rfl, by omega, by rw [hp', HPLH.out, hts, htk, List.map_append, List.map_cons, List.map_nil, setL_snoc], fun z hz => by
        rw [hts] at hz
        rcases List.mem_append.1 hz with hz | hz
        ·exact HKS.out z (by rw [htk]; exact hz)
        ·rw [List.mem_singleton.1 hz]; exact HKY.out, by omega, fun z hz => by
        rcases hm' z hz with rfl | hz
        ·exact .inr HYC.out
        ·exact HMM.out z hz, HN.out⟩)
       clear HN htk hts hfy hYl hp' hl' hm' hin' hf' zY b2 c2 e0 e1 e2 e3 e4 e5 HQ
       generalize u2.setRow Y #[.string xk, .string xn, .slice qa qm qc] = WZ at *
       go_wp2
       go_roundw
       case rel => exact HLP.out
       case measure => simp [intOf]; omega
      ·have hkt : (yk.toList == cy.toList) = false := by rw [beq_eq_false_iff_ne]; exact fun e => hky (ba_of (by rw [← ByteArray.toList_eq, ← ByteArray.toList_eq]; exact e))
       obtain rfl : O = none := by rw [← HO.out]; exact set_none rfl (.inr (.inr (.inl ⟨LAt.plain ⟨yk, .slice ya yn yc, yw⟩, List.mem_map_of_mem (by rw [ECL.out]; simp), hky⟩)))
       clear hky
       go_upto_region 22 with fail
       refine wp_region_gr (by kernel_rfl) (by kernel_rfl) ?_
       iterate 9 quiet_step (fail)
       refine wpQuiet_nil ?_
       rintro wq2 ⟨⟨_, bq2⟩, rfl⟩
       clear f3 f4 f5
       have HQ := HSH.out.below bq2
       have BQ2 := HQ.kp.1
       have zq2 := HQ.kp.2.2.2
       have p0q := (bq2.cell (World.block_lt_of_cell? wr _ p0)).trans p0
       clear HQ p0 p3 p4 d1 d2 hc hcf hkt hlt hlt' hk0 hkn hlen hnl
       have r9 : wq2.heap[w.heap.size + 1 + 1]? = some (.cells #[.slice none 0 0] 24 (0, 0)) := zq2
       have b9 : Below w.heap.size w (wq2.setRow (w.heap.size + 2) #[.slice (some ⟨g, 0, none⟩) nb vc]) := ⟨BQ2.os, BQ2.tape, BQ2.output, by rw [setRow_size]; exact BQ2.size, fun k hk => by rw [setRow_other _ _ _ _ (by omega)]; exact BQ2.block k hk⟩
       go_wp2_with (with_reducible show wpList _ _ _ (Oper.mk _ (Op.store _ (Operand.tmp 4) _) _ _ _ _ :: _) _ _; refine wpList_store_row rfl 24 _ _ rfl (w.heap.size + 1 + 1) #[.slice (some ⟨g, 0, none⟩) nb vc] ?_ ?_ 24 _ r9 ?_ ?_ ?_ ?_)
       ·rfl
       ·rfl
       ·first | rfl | kernel_rfl | exact sheet_size
       ·rfl
       ·first | rfl | kernel_rfl
       have z9 : (wq2.setRow (w.heap.size + 2) #[.slice (some ⟨g, 0, none⟩) nb vc]).heap[w.heap.size + 2]? = some (.cells #[.slice (some ⟨g, 0, none⟩) nb vc] 24 (0, 0)) := setRow_heap _ _ _ _ _ _ r9
       have v9 := cell_of_block z9 0
       simp only [List.getElem?_toArray, List.getElem?_cons_zero] at v9
       rw [show w.heap.size + 1 + 1 = w.heap.size + 2 from rfl]
       generalize wq2.setRow (w.heap.size + 2) #[.slice (some ⟨g, 0, none⟩) nb vc] = W9 at b9 v9 z9 ⊢
       exact bodyPost_ret (v := .tuple #[.agg #[.slice (some ⟨g, 0, none⟩) nb vc], .bool false]) (by simp [results, Tryz.results96, go_sem, v9]) rfl ⟨b9.mono hB, KeepR.of_below b9, ⟨_, _, _, rfl⟩⟩
     ·have hlt' : ¬ ((k : Int) < (nl : Int)) := by omega
      have HPLN := hid_in (show ls.map LAt.plain = setL (rulesOf xk) (xl.map LAt.plain) cy (cl.map LAt.plain) from by rw [hpl, List.take_of_length_le (by have := enl.out; omega)])
      have HKSN := hid_in (show ∀ y ∈ cl, y.key = cy from fun y hy => hks y (by rw [List.take_of_length_le (by have := enl.out; omega)]; exact hy))
      have hbx := HBUD.out ⟨xk, xn, .slice xa nx xc, xl⟩ (by rw [EB.out]; simp)
      have HLS := hid_in (show LinesSmall ls from ⟨by have : xl.length + nl ≤ 1048576 := hbx; omega, fun z hz => by
       rcases hmem z hz with h | h
       ·exact HXS.out.2 z h
       ·exact HCS.out.2 z h⟩)
      clear hbx hpl hks hlen hmem
      have hjn : (D ++ (⟨xk, xn, .slice xa nx xc, xl⟩ : BAt) :: T).length = nb := by rw [← EB.out]; exact enb.out
      have hbr : BRow B wr (.slice (some ⟨g, 0, none⟩) nb vc) (D ++ (⟨xk, xn, .slice xa nx xc, xl⟩ : BAt) :: T) := by rw [← EB.out]; exact HS.row
      have hset := BRow.set (b := ⟨xk, xn, .slice a n c, ls⟩) hbr hjn HS.lin HS.far.1
      have hth := BRow.there hbr hjn
      have hrow := hbr.row
      rw [hjn] at hrow
      rw [ED.out] at hset hth
      have gz : wr.grownBy (((wr.setCell ⟨g, j * 3, none⟩ (.string xk)).setCell ⟨g, j * 3 + 1, none⟩ (.string xn)).setCell ⟨g, j * 3 + 2, none⟩ (.slice a n c)) (some g) := hset.2
      have HBR := hid_in (show BRow B (((wr.setCell ⟨g, j * 3, none⟩ (.string xk)).setCell ⟨g, j * 3 + 1, none⟩ (.string xn)).setCell ⟨g, j * 3 + 2, none⟩ (.slice a n c)) (.slice (some ⟨g, 0, none⟩) nb vc) (D ++ (⟨xk, xn, .slice a n c, ls⟩ : BAt) :: T) from hset.1)
      obtain ⟨v0, k1⟩ := Option.isSome_iff_exists.1 (hth 0 (by omega)).1
      have k2 := (hth 0 (by omega)).2
      have hs0 := (hrow.stored (j * 3) (.string xk)).1
      obtain ⟨v1, k3⟩ := Option.isSome_iff_exists.1 (row_there hs0 (j * 3) 3 (by omega) 1 (by omega)).1
      have k4 := hs0.frozenAt (j * 3 + 1)
      have hs1 := (hs0.stored (j * 3 + 1) (.string xn)).1
      obtain ⟨v2, k5⟩ := Option.isSome_iff_exists.1 (row_there hs1 (j * 3) 3 (by omega) 2 (by omega)).1
      have k6 := hs1.frozenAt (j * 3 + 2)
      rw [Nat.add_zero] at k1 k2
      have p0 := cell_of_block HS.kp.2.1 0
      have p4 := cell_of_block HS.kp.2.2.1 4
      have e0 := cell_of_block HS.yb 0
      have e1 := cell_of_block HS.yb 1
      have e2 := cell_of_block HS.yb 2
      simp only [List.getElem?_toArray, List.getElem?_cons_zero, List.getElem?_cons_succ] at p0 p4 e0 e1 e2
      have hwz := HS.kp.1.size
      have BU := belowGrown (HS.kp.1.mono hB) (by omega) (HGL.out g rfl).2 gz
      have hZU : w.heap.size ≤ (((wr.setCell ⟨g, j * 3, none⟩ (.string xk)).setCell ⟨g, j * 3 + 1, none⟩ (.string xn)).setCell ⟨g, j * 3 + 2, none⟩ (.slice a n c)).heap.size := by simp only [World.size_setCell]; omega
      have KU : KeepR (.slice (some ⟨g, 0, none⟩) nb vc) w (((wr.setCell ⟨g, j * 3, none⟩ (.string xk)).setCell ⟨g, j * 3 + 1, none⟩ (.string xn)).setCell ⟨g, j * 3 + 2, none⟩ (.slice a n c)) := KeepR.grown HS.kp.1 rfl gz
      have hBU : B ≤ (((wr.setCell ⟨g, j * 3, none⟩ (.string xk)).setCell ⟨g, j * 3 + 1, none⟩ (.string xn)).setCell ⟨g, j * 3 + 2, none⟩ (.slice a n c)).heap.size := by simp only [World.size_setCell]; omega
      have yS := HS.kp.2.1.grown gz (by omega)
      have yR := HS.kp.2.2.2.grown gz (by omega)
      have HVO := hid_in (show (Value.slice (some ⟨g, 0, none⟩) nb vc).ownBlock ≠ some (w.heap.size + 2) from fun e => by have e3 : g = w.heap.size + 2 := Option.some.inj e; omega)
      have HFR := hid_in (show ∀ z ∈ D ++ (⟨xk, xn, .slice a n c, ls⟩ : BAt) :: T, LinesFar (w.heap.size + 2) z.v z.ls from fun z hz => by
       rcases List.mem_append.1 hz with hz | hz
       ·exact HOLD.out _ (by omega) z (by rw [EB.out]; simp [hz])
       ·rcases List.mem_cons.1 hz with rfl | hz
        ·exact HS.far.2.1
        ·exact HOLD.out _ (by omega) z (by rw [EB.out]; simp [hz]))
      have HSMALL := hid_in (show BlocksSmall (D ++ (⟨xk, xn, .slice a n c, ls⟩ : BAt) :: T) from by
       have h0 := ok_small (bs := bs) (by rw [EP.out]; exact HOK.out)
       refine ⟨by have := h0.1; rw [EB.out] at this; simpa using this, fun z hz => ?_⟩
       rcases List.mem_append.1 hz with hz | hz
       ·exact h0.2 z (by rw [EB.out]; simp [hz])
       ·rcases List.mem_cons.1 hz with rfl | hz
        ·exact ⟨(h0.2 (⟨xk, xn, .slice xa nx xc, xl⟩ : BAt) (by rw [EB.out]; simp)).1, HLS.out⟩
        ·exact h0.2 z (by rw [EB.out]; simp [hz]))
      have eP : P = D.map BAt.plain ++ (⟨xk, xn, .slice xa nx xc, xl⟩ : BAt).plain :: T.map BAt.plain := by rw [← EP.out, EB.out]; simp
      have HPOK := hid_in (show SheetOk (D.map BAt.plain ++ (⟨xk, xn, .slice xa nx xc, xl⟩ : BAt).plain :: T.map BAt.plain) from by rw [← eP]; exact HOK.out)
      have EPH := hid_in eP
      clear eP
      have HRES := hid_in (show ∀ VB, sheetB ((D ++ (⟨xk, xn, .slice a n c, ls⟩ : BAt) :: T).map BAt.plain) = VB → ∀ U, Below B w U → KeepR (.slice (some ⟨g, 0, none⟩) nb vc) w U → BRow B U (.slice (some ⟨g, 0, none⟩) nb vc) (D ++ (⟨xk, xn, .slice a n c, ls⟩ : BAt) :: T) → OnePost B (.slice (some ⟨g, 0, none⟩) nb vc) O w (.returned (.tuple #[.agg #[(.slice (some ⟨g, 0, none⟩) nb vc)], .bool VB])) U from fun VB hVB U hU hKU hb => by
       have hMP : (D ++ (⟨xk, xn, .slice a n c, ls⟩ : BAt) :: T).map BAt.plain = swapH P ck cn (setL (rulesOf xk) (xl.map LAt.plain) cy (cl.map LAt.plain)) := by
        rw [EPH.out, swapH_split HPOK.out HHD.out, List.map_append, List.map_cons, ← HPLN.out]; rfl
       have hsw : SheetOk ((D ++ (⟨xk, xn, .slice a n c, ls⟩ : BAt) :: T).map BAt.plain) ↔ LinesOk (rulesOf xk) (setL (rulesOf xk) (xl.map LAt.plain) cy (cl.map LAt.plain)) := by
        rw [List.map_append, List.map_cons]
        rw [← HPLN.out]
        exact sheet_swap (b' := BAt.plain (⟨xk, xn, .slice a n c, ls⟩ : BAt)) HPOK.out rfl rfl
       cases VB
       ·have hno : ¬ LinesOk (rulesOf xk) (setL (rulesOf xk) (xl.map LAt.plain) cy (cl.map LAt.plain)) := fun h => by rw [sheetB_iff.2 (hsw.2 h)] at hVB; cases hVB
        rw [← HO.out, set_none (A := P) (c := CAt.plain ⟨3, ck, cn, cy, .slice la nl lc, cl⟩) rfl (.inr (.inr (.inr ⟨_, HLK.out, hno⟩)))]
        exact ⟨hU, hKU, _, _, _, rfl⟩
       ·rw [← HO.out, set_some (A := P) (c := CAt.plain ⟨3, ck, cn, cy, .slice la nl lc, cl⟩) rfl HLK.out (fun e => HCN0.out (List.map_eq_nil_iff.1 e)) (fun z hz => by obtain ⟨y, hy, rfl⟩ := List.mem_map.1 hz; exact HKSN.out y hy) (hsw.1 (sheetB_iff.1 hVB))]
        exact ⟨hU, hKU, _, _, _, _, rfl, hMP, hb⟩)
      clear hset hth hrow hs0 hs1 hbr hjn HS
      go_upto_region 26 with fail
      clear k1 k2 k3 k4 k5 k6 p0 p4 e0 e1 e2 hlt' hkn
      clear HO HOK HLK HHD EPH HPOK HKSN HPLN HOLD HLS HCF EB EP
      generalize hBSN : D ++ (⟨xk, xn, .slice a n c, ls⟩ : BAt) :: T = BSN at *
      clear hBSN
      generalize (((wr.setCell ⟨g, j * 3, none⟩ (.string xk)).setCell ⟨g, j * 3 + 1, none⟩ (.string xn)).setCell ⟨g, j * 3 + 2, none⟩ (.slice a n c)) = U at *
      have sU := cell_of_block yS 0
      simp only [List.getElem?_toArray, List.getElem?_cons_zero] at sU
      have Bd : Below U.heap.size U U.drew := (Below.refl _ _).drew
      have HVV := specValid_any (HBR.out.bin.below Bd) HSMALL.out
      generalize hVB : sheetB (BSN.map BAt.plain) = VB at HVV
      have EVB := hid_in hVB
      clear hVB
      have t0 : ∀ p : { W : World // W.cell? ⟨w.heap.size, 0, none⟩ = some (.slice (some ⟨g, 0, none⟩) nb vc) }, p.1.cell? ⟨w.heap.size, 0, none⟩ = some (.slice (some ⟨g, 0, none⟩) nb vc) := fun p => p.2
      letI IU : Inhabited { W : World // W.cell? ⟨w.heap.size, 0, none⟩ = some (.slice (some ⟨g, 0, none⟩) nb vc) } := ⟨⟨U, sU⟩⟩
      refine wp_region_hold (S := fun W => W.cell? ⟨w.heap.size, 0, none⟩ = some (.slice (some ⟨g, 0, none⟩) nb vc)) 4 5 (by kernel_rfl) rfl ?_
      refine wpHold_mask [true, true, false, false, false] 3 rfl (by kernel_rfl) sU ?_
      simp only [maskL_t, maskL_f, maskL_n]
      iterate 2 (refine wpReads_step (fun K hK => ?_); go_simp; refine hK _ ?_; clear hK K)
      refine wpReads_nil ?_
      clear t0
      refine wpHold_branch (f := 2) (rs := [2]) (by kernel_rfl) (by simp) ?_
      refine AllHold.cons rfl (by decide) (fun K hK => ?_) AllHold.nil
      go_simp
      go_wp2_with (go_at_call 61; refine HVV.mono ?_; first | rintro e u2 rfl c2 | rintro e u2 ⟨rfl, c2⟩)
      have c2' := Bd.trans c2
      have xS := yS.below c2'
      have xR := yR.below c2'
      have HBR2 := hid_in (HBR.out.below c2')
      have BU2 := BU.trans (c2'.mono hBU)
      have KU2 := KU.then hZU c2'
      have sU2 := cell_of_block xS 0
      have rU2 := cell_of_block xR 0
      have fU2 := frozen_of_block xR 0
      simp only [List.getElem?_toArray, List.getElem?_cons_zero] at sU2 rU2
      refine hK.out _ _ sU2 ?_
      clear hK K
      refine wpHold_branch (f := 1) (rs := [3]) (by kernel_rfl) (by simp) ?_
      refine AllHold.cons rfl (by decide) (fun K hK => ?_) AllHold.nil
      go_simp
      have xS3 := xS.other (q := w.heap.size + 2) 0 (.slice (some ⟨g, 0, none⟩) nb vc) (by omega)
      have xR3 := xR.set 0 (.slice (some ⟨g, 0, none⟩) nb vc)
      have sU3 := cell_of_block xS3 0
      have v9 := cell_of_block xR3 0
      simp only [List.getElem?_toArray, List.getElem?_cons_zero, List.setIfInBounds_toArray, List.set_cons_zero] at sU3 v9
      have BU3 := below_setCell BU2 ⟨w.heap.size + 2, 0, none⟩ (by show B ≤ w.heap.size + 2; omega) (.slice (some ⟨g, 0, none⟩) nb vc)
      have KU3 := KU2.set (w.heap.size + 2) (by omega) 0 (.slice (some ⟨g, 0, none⟩) nb vc)
      have HBR3 := hid_in (brow_far HBR2.out (grown_setCell1 u2 (w.heap.size + 2) 0 (.slice (some ⟨g, 0, none⟩) nb vc)) HVO.out HFR.out)
      refine hK.out _ _ sU3 ?_
      clear hK K IU
      generalize u2.setCell ⟨w.heap.size + 2, 0, none⟩ (.slice (some ⟨g, 0, none⟩) nb vc) = U3 at *
      refine wpHold_last (by kernel_rfl) rfl (by kernel_rfl) ?_
      intro K hK
      go_simp
      refine hK.out _ _ (NoPanic.normal ?_)
      clear hK K
      have HPO := hid_in (show OnePost B _ O w (.returned (.tuple #[.agg #[.slice (some ⟨g, 0, none⟩) nb vc], .bool VB])) U3 from HRES.out VB EVB.out U3 BU3 KU3 HBR3.out)
      go_wp2
      exact bodyPost_ret (v := .tuple #[.agg #[.slice (some ⟨g, 0, none⟩) nb vc], .bool VB]) (by simp [results, Tryz.results96, go_sem, v9]) rfl HPO.out
end Go.Proofs.YtpdahhnjhggocabGreatDoor
