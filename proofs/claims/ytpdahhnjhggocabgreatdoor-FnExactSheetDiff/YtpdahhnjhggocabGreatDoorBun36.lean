import Derived.Test.YtpdahhnjhggocabGreatDoorBun35
import Derived.Test.YtpdahhnjhggocabGreatDoorBun28
import Derived.Test.YtpdahhnjhggocabGreatDoorBun25
import Derived.Test.YtpdahhnjhggocabGreatDoorBun17
namespace Go.Proofs.YtpdahhnjhggocabGreatDoor
open Go.RowKit
theorem perm_c1 (y x : MRow) (C6 C5 C4 : List MRow) : (C6 ++ (y :: (C5 ++ (x :: (C4 ++ []))))).Perm (C4 ++ (C6 ++ (y :: (C5 ++ [x])))) := by
  have : C6 ++ (y :: (C5 ++ (x :: (C4 ++ [])))) = (C6 ++ (y :: (C5 ++ [x]))) ++ C4 := by simp
  rw [this]
  exact List.perm_append_comm
theorem perm_c2 (y x : MRow) (C6 C5 : List MRow) : (C6 ++ (y :: (C5 ++ [x]))).Perm (C5 ++ (C6 ++ [y, x])) := by
  have e1 : C6 ++ (y :: (C5 ++ [x])) = ((C6 ++ [y]) ++ C5) ++ [x] := by simp
  have e2 : C5 ++ (C6 ++ [y, x]) = (C5 ++ (C6 ++ [y])) ++ [x] := by simp
  rw [e1, e2]
  exact List.Perm.append_right _ List.perm_append_comm
/-- What marking changes leaves. -/
def MarkCJ (w3 : World) (v : Value) (cs : List CAt) (e : Ending) (w' : World) : Prop := e = .returned (.int .i64 (endC 1 cs : Int)) ∧ LwJ w3 (crows v (markCs 1 cs)) w'
theorem LwJ.markC {w3 W : World} {v : Value} {cs : List CAt} (h : LwJ w3 (crows v cs) W) (hs : ChSmall cs) : Calls Tryz.prog 36 #[v, .int .i64 1] W fun e w' => MarkCJ w3 v cs e w' := by
  refine (markChanges_own (rest := []) (k := 1) h.2.size (by unfold CM; rw [List.append_nil]; exact h.1) hs (Nat.le_refl _) (by decide)).mono ?_
  rintro e w' ⟨he, hm, hb⟩
  exact ⟨he, by unfold CM at hm; rw [List.append_nil] at hm; exact hm, h.2.trans hb⟩
theorem LwJ.heldC {w3 W : World} {v : Value} {cs : List CAt} (h : LwJ w3 (crows v (markCs 1 cs)) W) (hs : ChSmall cs) : Calls Tryz.prog 37 #[v, .int .i64 1] W fun e w' => IntPost (endC 1 cs) W e w' := heldChanges_own (k := 1) h.1 hs (Nat.le_refl _) (by decide)
theorem eqChanges_p {v u : Value} {xs ys : List CAt} {w : World} (h1 : ChangesIn w v xs) (h2 : ChangesIn w u ys) (he : xs.map CAt.plain = ys.map CAt.plain) (hs : ChSmall xs) : Calls Tryz.prog 35 #[v, u] w fun e w' => BoolPost true w e w' := eqChanges_any h1 h2 he hs
theorem diff_small {A B : List PBlock} {cs : List CAt} (h : cs.map CAt.plain = diffS A B) (hs : ∀ c ∈ cs, LinesSmall c.ls) : ChSmall cs := by
  refine ⟨?_, hs⟩
  have h1 := diffS_len A B
  rw [← h, List.length_map] at h1
  omega
/-- Two boxes that hold what they held. -/
def Two (g1 g2 : Nat) (v1 v2 : Value) (W : World) : Prop := W.cell? ⟨g1, 0, none⟩ = some v1 ∧ W.cell? ⟨g2, 0, none⟩ = some v2
theorem Two.below {g1 g2 : Nat} {v1 v2 : Value} {w W : World} (s : Two g1 g2 v1 v2 w) (hb : Below w.heap.size w W) : Two g1 g2 v1 v2 W := ⟨(hb.cell (World.block_lt_of_cell? w _ s.1)).trans s.1, (hb.cell (World.block_lt_of_cell? w _ s.2)).trans s.2⟩
theorem toSheet_d {v : Value} {bs : List BAt} {w W : World} (h : BlocksIn w v bs) (hs : BlocksSmall bs) (hb : Below w.heap.size w W) : Calls Tryz.prog 20 #[.agg #[v]] W fun e w' => ShPost (bs.map BAt.plain) W e w' := toSheet_any (h.below hb) hs
set_option maxHeartbeats 16000000 in
set_option maxRecDepth 100000 in
theorem diffLaw_any {uv ov : Value} {us os : List BAt} {w : World} (h : BlocksIn w uv us) (hw : BlocksWide us) (h' : BlocksIn w ov os) (hw' : BlocksWide os) (hst : StdAt w) : Calls Tryz.prog 9 #[.agg #[uv], .agg #[ov]] w fun e w' => e = .returned (.bool true) ∧ Below w.heap.size w w' := by
  obtain ⟨ua, uc, rfl⟩ := h.1.form
  obtain ⟨oa, oc, rfl⟩ := h'.1.form
  have g0 : Below w.heap.size w ((w.alloc (.cells #[.slice ua us.length uc] 35)).alloc (.cells #[.slice oa os.length oc] 35)) := ((Below.refl _ _).alloc (Nat.le_refl _) _).alloc (by simp) _
  have kk := two_boxes (w := w) (cs := #[.slice ua us.length uc]) (ds := #[.slice oa os.length oc]) (T := 35) (U := 35)
  have k0 := kk.1 0
  have j0 := kk.2 0
  simp only [List.getElem?_toArray, List.getElem?_cons_zero] at k0 j0
  clear kk
  have HZ := szSheet_any (left := 1048576) (h.below g0) hw (Nat.le_refl _)
  have IU := hid_in h
  have IVo := hid_in h'
  have WO := hid_in hw'
  have ST := hid_in hst
  clear h h' hw hw' hst
  generalize hnu : us.length = nu at *
  generalize hno : os.length = no at *
  clear hnu hno
  go_enter Tryz.func9, Tryz.ntmps9
  go_wp2_with (go_at_call 18; refine HZ.mono ?_)
  rintro e w1 ⟨rfl | ⟨r, hr, rfl, hs⟩, b1⟩
  · clear HZ
    go_wp2
    go_ret
    exact ⟨rfl, g0.trans (b1.mono g0.size)⟩
  have hr0 : ¬ ((r : Int) < 0) := by omega
  have k1 := (b1.cell (World.block_lt_of_cell? _ _ k0)).trans k0
  have j1 := (b1.cell (World.block_lt_of_cell? _ _ j0)).trans j0
  have g1 := g0.trans (b1.mono g0.size)
  clear HZ k0 j0 b1 g0
  have HS := hid_in hs
  clear hs
  have HZ := szSheet_any (left := r) (IVo.out.below g1) WO.out hr
  go_wp2_with (go_at_call 18; refine HZ.mono ?_)
  rintro e w2 ⟨rfl | ⟨r2, hr2, rfl, hs2⟩, b2⟩
  · clear HZ
    go_wp2
    go_ret
    exact ⟨rfl, g1.trans (b2.mono g1.size)⟩
  have hr0' : ¬ ((r2 : Int) < 0) := by omega
  have k2 := (b2.cell (World.block_lt_of_cell? _ _ k1)).trans k1
  have j2 := (b2.cell (World.block_lt_of_cell? _ _ j1)).trans j1
  have g2 := g1.trans (b2.mono g1.size)
  clear HZ k1 j1 b2 g1
  have HS2 := hid_in hs2
  have T2 := hid_in (show Two w.heap.size (w.heap.size + 1) (.slice ua nu uc) (.slice oa no oc) w2 from ⟨k2, j2⟩)
  clear hs2 k2 j2
  have t1 : ∀ p : { W : World // Two w.heap.size (w.heap.size + 1) (.slice ua nu uc) (.slice oa no oc) W }, p.1.cell? ⟨w.heap.size, 0, none⟩ = some (.slice ua nu uc) := fun p => p.2.1
  have t2 : ∀ p : { W : World // Two w.heap.size (w.heap.size + 1) (.slice ua nu uc) (.slice oa no oc) W }, p.1.cell? ⟨w.heap.size + 1, 0, none⟩ = some (.slice oa no oc) := fun p => p.2.2
  letI : Inhabited { W : World // Two w.heap.size (w.heap.size + 1) (.slice ua nu uc) (.slice oa no oc) W } := ⟨⟨w2, T2.out⟩⟩
  have Bd : Below w2.heap.size w2 w2.drew := (Below.refl _ _).drew
  have HT1 := toSheet_d IU.out HS.out (g2.trans (Bd.mono g2.size))
  go_upto_region 8 with fail
  refine wp_region_hold (S := Two w.heap.size (w.heap.size + 1) (.slice ua nu uc) (.slice oa no oc)) 5 6 (by kernel_rfl) rfl ?_
  refine wpHold_mask [true, false, true, false, false, false] 4 rfl (by kernel_rfl) (T2.out.below Bd) ?_
  simp only [maskL_t, maskL_f, maskL_n]
  iterate 2 (refine wpReads_step (fun K hK => ?_); go_simp; refine hK _ ?_; clear hK K)
  refine wpReads_nil ?_
  refine wpHold_branch (f := 3) (rs := [1]) (by kernel_rfl) (by simp) ?_
  refine AllHold.cons rfl (by decide) (fun K hK => ?_) AllHold.nil
  go_simp
  go_wp2_with (go_at_call 20; refine HT1.mono ?_; rintro e wa ⟨va, bsa, rfl, hpa, oa1, ba⟩; obtain ⟨aa, ca, rfl, _⟩ := own_form oa1.row)
  have ba' := Bd.trans ba
  have ga := g2.trans (ba'.mono g2.size)
  refine hK.out _ _ (T2.out.below ba') ?_
  clear hK K
  have HT2 := toSheet_d IVo.out HS2.out ga
  refine wpHold_branch (f := 2) (rs := [3]) (by kernel_rfl) (by simp) ?_
  refine AllHold.cons rfl (by decide) (fun K hK => ?_) AllHold.nil
  go_simp
  go_wp2_with (go_at_call 20; refine HT2.mono ?_; rintro e wb ⟨vb, bsb, rfl, hpb, ob1, bb⟩; obtain ⟨ab, cb, rfl, _⟩ := own_form ob1.row)
  have bb' := ba'.trans (bb.mono ba'.size)
  have gb := g2.trans (bb'.mono g2.size)
  refine hK.out _ _ (T2.out.below bb') ?_
  clear hK K
  have HD0 := specDiff_any (oa1.bin.below bb) ob1.bin (HS.out.same hpa) (HS2.out.same hpb)
  rw [hpa, hpb] at HD0
  refine wpHold_branch (f := 1) (rs := [4]) (by kernel_rfl) (by simp) ?_
  refine AllHold.cons rfl (by decide) (fun K hK => ?_) AllHold.nil
  clear hpa hpb oa1 ob1
  generalize bsa.length = na1 at *
  generalize bsb.length = nb1 at *
  go_simp
  go_wp2_with (go_at_call 33; refine HD0.mono ?_; rintro e w3 ⟨v3, cs3, rfl, hp3, hs3, hl3, o3, b3⟩; obtain ⟨a3, c3, rfl, _⟩ := own_form o3.row)
  have b3' := bb'.trans (b3.mono bb'.size)
  have g3' := hid_in (g2.trans (b3'.mono g2.size))
  have T3 := hid_in (T2.out.below b3')
  refine hK.out _ _ T3.out ?_
  clear hK K HD0 HT1 HT2 t1 t2
  have HN := hid_in (show ∀ W, Below w3.heap.size w3 W → ChangesIn W (.slice a3 cs3.length c3) cs3 from fun W hW => o3.cin.below hW)
  have HP3 := hid_in hp3
  clear hp3 hs3 hl3 o3 b3 b3' bb bb' ba ba' ga gb g2 Bd
  generalize cs3.length = n3 at *
  refine wpHold_last (by kernel_rfl) rfl (by kernel_rfl) ?_
  intro K hK
  go_simp
  refine hK.out _ _ (NoPanic.normal ?_)
  clear hK K
  have kU := hid_in T3.out.1
  have kO := hid_in T3.out.2
  have k3 := kU.out
  have HT := toSheet_p (IU.out.below g3'.out) HS.out
  go_wp2_with (go_at_call 20; refine HT.mono ?_)
  rintro e w4 ⟨v4, bs4, rfl, hp4, o4, b4⟩
  obtain ⟨a4, c4, rfl, _⟩ := own_form o4.row
  have J4 := hid_in (LwJ.add (w3 := w3) (L := []) ⟨Mem.nil _ _, Below.refl _ _⟩ o4 b4)
  have HP4 := hid_in hp4
  have j4 := J4.out.old kO.out
  have HT2 := toSheet_p (IVo.out.below (J4.out.from g3'.out)) HS2.out
  clear HT hp4 o4 b4 k3
  generalize bs4.length = n4 at *
  generalize hW4 : w4.alloc (.cells #[.slice a4 n4 c4] 24) = W4 at *
  go_wp2_with (go_at_call 20; (try rw [hW4]); refine HT2.mono ?_)
  clear hW4
  rintro e w5 ⟨v5, bs5, rfl, hp5, o5, b5⟩
  obtain ⟨a5, c5, rfl, _⟩ := own_form o5.row
  have J5 := hid_in (J4.out.add o5 b5)
  have HP5 := hid_in hp5
  have x5 := J5.out.cell (g := w4.heap.size) (v := .slice a4 n4 c4) (by simp)
  have y5 := J5.out.cell (g := w5.heap.size) (v := .slice a5 bs5.length c5) (by simp)
  have HV := implDiff_any J5.out.tail.right.tail.left.bin J5.out.tail.left.bin (HS.out.same HP4.out) (HS2.out.same hp5) (ST.out.below (J5.out.from g3'.out))
  rw [HP4.out, hp5] at HV
  clear HT2 hp5 o5 b5 j4 J4
  generalize bs5.length = n5 at *
  generalize hW5 : w5.alloc (.cells #[.slice a5 n5 c5] 24) = W5 at *
  go_wp2_with (go_at_call 34; (try rw [hW5]); refine HV.mono ?_)
  clear hW5
  rintro e w6 ⟨v6, cs6, rfl, hp6, hs6, hl6, o6, b6⟩
  obtain ⟨a6, c6, rfl, _⟩ := own_form o6.row
  have J6 := hid_in (show LwJ w3 (crows (.slice a6 cs6.length c6) cs6 ++ _) w6 from ⟨Mem.join J5.out.1 o6 b6 J5.out.2.size, J5.out.2.trans (b6.mono J5.out.2.size)⟩)
  have HP6 := hid_in hp6
  have S6 := hid_in (diff_small hp6 hs6)
  have HE := eqChanges_p (ChangesOwn.cin J6.out.left.1) (HN.out _ J6.out.2) (hp6.trans HP3.out.symm) S6.out
  clear HV hp6 hs6 hl6 o6 b6 x5 y5 J5
  generalize cs6.length = n6' at *
  go_wp2_with (go_at_call 35; refine HE.mono ?_)
  rintro e w7 ⟨rfl, b7⟩
  have J7 := hid_in (J6.out.below b7)
  clear HE J6 b7
  have k7 := J7.out.old kU.out
  have m7 := J7.out.cell (g := w4.heap.size) (v := .slice a4 n4 c4) (by simp)
  have HT : ∀ W, Below w7.heap.size w7 W → Calls Tryz.prog 20 #[.agg #[.slice ua nu uc]] W fun e w' => ∃ v' bs', e = .returned (.agg #[v']) ∧ bs'.map BAt.plain = us.map BAt.plain ∧ BlocksOwn W.heap.size w' v' bs' ∧ Below w7.heap.size w7 w' := fun W hW => (toSheet_any (IU.out.below ((J7.out.below hW).from g3'.out)) HS.out).mono fun e w' ⟨v', bs', he, hp, ho, hb⟩ => ⟨v', bs', he, hp, ho, hW.trans (hb.mono hW.size)⟩
  have o7 : BlocksIn w7 (.slice a4 n4 c4) bs4 := J7.out.right.tail.right.tail.left.bin
  have s4 := hid_in (HS.out.same HP4.out)
  have HE2 := hid_in (show ∀ (W : World) v' bs', Below w7.heap.size w7 W → bs'.map BAt.plain = us.map BAt.plain → BlocksIn W v' bs' → Calls Tryz.prog 14 #[.agg #[.slice a4 n4 c4], .agg #[v']] W fun e w' => e = .returned (.bool true) ∧ Below w7.heap.size w7 w' from fun W v' bs' hW hp ho => (eqSheet_any (o7.below hW) ho (HP4.out.trans hp.symm) ⟨s4.out.1, fun x hx => (s4.out.2 x hx).2⟩).mono fun e w' ⟨he, hb⟩ => ⟨he, hW.trans (hb.mono hW.size)⟩)
  have hdr : Below w7.heap.size w7 w7.drew := (Below.refl _ _).drew
  have hl7 := World.block_lt_of_cell? _ _ k7
  have hm7 := World.block_lt_of_cell? _ _ m7
  clear o7
  go_wp2
  go_region_held3 (fun W' => W'.cell? ⟨w.heap.size, 0, none⟩ = some (.slice ua nu uc) ∧ W'.cell? ⟨w4.heap.size, 0, none⟩ = some (.slice a4 n4 c4))
    (first | exact ⟨k7, m7⟩ | exact ⟨(b9.cell hl7).trans k7, (b9.cell hm7).trans m7⟩ | exact ⟨(b8.cell hl7).trans k7, (b8.cell hm7).trans m7⟩)
    (first | (go_at_call 20; refine (HT _ hdr).mono ?_; rintro e w8 ⟨v8, bs8, rfl, hp8, o8, b8⟩; obtain ⟨a8, c8, rfl, _⟩ := own_form o8.row) | (go_at_call 14; refine (HE2.out _ _ bs8 b8 hp8 o8.bin).mono ?_; rintro e w9 ⟨rfl, b9⟩))
  have J9 := hid_in (J7.out.below b9)
  clear HT HE2 J7 k7 m7 hp8 o8 b8 b9 hdr hl7 hm7
  have k9 := J9.out.old kO.out
  have m9 := J9.out.cell (g := w5.heap.size) (v := .slice a5 n5 c5) (by simp)
  have HT : ∀ W, Below w9.heap.size w9 W → Calls Tryz.prog 20 #[.agg #[.slice oa no oc]] W fun e w' => ∃ v' bs', e = .returned (.agg #[v']) ∧ bs'.map BAt.plain = os.map BAt.plain ∧ BlocksOwn W.heap.size w' v' bs' ∧ Below w9.heap.size w9 w' := fun W hW => (toSheet_any (IVo.out.below ((J9.out.below hW).from g3'.out)) HS2.out).mono fun e w' ⟨v', bs', he, hp, ho, hb⟩ => ⟨v', bs', he, hp, ho, hW.trans (hb.mono hW.size)⟩
  have o9 : BlocksIn w9 (.slice a5 n5 c5) bs5 := J9.out.right.tail.left.bin
  have s5 := hid_in (HS2.out.same HP5.out)
  have HE2 := hid_in (show ∀ (W : World) v' bs', Below w9.heap.size w9 W → bs'.map BAt.plain = os.map BAt.plain → BlocksIn W v' bs' → Calls Tryz.prog 14 #[.agg #[.slice a5 n5 c5], .agg #[v']] W fun e w' => e = .returned (.bool true) ∧ Below w9.heap.size w9 w' from fun W v' bs' hW hp ho => (eqSheet_any (o9.below hW) ho (HP5.out.trans hp.symm) ⟨s5.out.1, fun x hx => (s5.out.2 x hx).2⟩).mono fun e w' ⟨he, hb⟩ => ⟨he, hW.trans (hb.mono hW.size)⟩)
  have hdr : Below w9.heap.size w9 w9.drew := (Below.refl _ _).drew
  have hl9 := World.block_lt_of_cell? _ _ k9
  have hm9 := World.block_lt_of_cell? _ _ m9
  clear o9
  go_wp2
  go_region_held3 (fun W' => W'.cell? ⟨w.heap.size + 1, 0, none⟩ = some (.slice oa no oc) ∧ W'.cell? ⟨w5.heap.size, 0, none⟩ = some (.slice a5 n5 c5))
    (first | exact ⟨k9, m9⟩ | exact ⟨(b11.cell hl9).trans k9, (b11.cell hm9).trans m9⟩ | exact ⟨(b10.cell hl9).trans k9, (b10.cell hm9).trans m9⟩)
    (first | (go_at_call 20; refine (HT _ hdr).mono ?_; rintro e w10 ⟨v10, bs10, rfl, hp10, o10, b10⟩; obtain ⟨a10, c10, rfl, _⟩ := own_form o10.row) | (go_at_call 14; refine (HE2.out _ _ bs10 b10 hp10 o10.bin).mono ?_; rintro e w11 ⟨rfl, b11⟩))
  have J11 := hid_in ((J9.out.below b11).perm (perm_c1 _ _ _ _ _))
  clear HT HE2 J9 k9 m9 hp10 o10 b10 b11 hdr hl9 hm9
  have m11 := J11.out.cell (g := w4.heap.size) (v := .slice a4 n4 c4) (by simp)
  have HM := J11.out.mark1 s4.out
  have hk1 := endB_le bs4 1
  have hk2 := endB_fits s4.out
  generalize hkk : endB 1 bs4 = kk at hk1 hk2
  go_wp2_with (go_at_call 16; refine HM.mono ?_)
  rintro e w12 ⟨rfl, J12⟩
  rw [hkk]
  have J12 := hid_in (J12.right.perm (perm_c2 _ _ _ _))
  have m12 := J12.out.cell (g := w5.heap.size) (v := .slice a5 n5 c5) (by simp)
  clear HM J11 m11 hkk
  have HM := J12.out.mark s5.out kk hk1 hk2
  go_wp2_with (go_at_call 16; refine HM.mono ?_)
  rintro e w13 ⟨rfl, J13⟩
  generalize endB kk bs5 = k3
  have hk3 : ¬ ((k3 : Int) < 0) := by omega
  have J13 := hid_in J13.right.left
  have HE := eqChanges_p (ChangesOwn.cin J13.out.1) (HN.out _ J13.out.2) (HP6.out.trans HP3.out.symm) S6.out
  clear HM J12 m12
  go_wp2_with (go_at_call 35; refine HE.mono ?_)
  rintro e w14 ⟨rfl, b14⟩
  have J14 := hid_in (J13.out.below b14)
  clear HE J13 b14 hk3
  have HM := J14.out.markC S6.out
  go_wp2_with (go_at_call 36; refine HM.mono ?_)
  rintro e w15 ⟨rfl, J15⟩
  have J15 := hid_in J15
  have HH := J15.out.heldC S6.out
  have he2 : ¬ ((endC 1 cs6 : Int) < 0) := by omega
  have he3 : ((endC 1 cs6 : Int) != (endC 1 cs6 : Int)) = false := by simp
  clear HM J14
  go_wp2_with (go_at_call 37; refine HH.mono ?_)
  rintro e w16 ⟨rfl, b16⟩
  have J16 := hid_in (J15.out.below b16)
  have g16 := J16.out.from g3'.out
  have T16 := hid_in (show Two w.heap.size (w.heap.size + 1) (.slice ua nu uc) (.slice oa no oc) w16 from ⟨J16.out.old kU.out, J16.out.old kO.out⟩)
  clear HH J15 b16
  have t1 : ∀ p : { W : World // Two w.heap.size (w.heap.size + 1) (.slice ua nu uc) (.slice oa no oc) W }, p.1.cell? ⟨w.heap.size, 0, none⟩ = some (.slice ua nu uc) := fun p => p.2.1
  have t2 : ∀ p : { W : World // Two w.heap.size (w.heap.size + 1) (.slice ua nu uc) (.slice oa no oc) W }, p.1.cell? ⟨w.heap.size + 1, 0, none⟩ = some (.slice oa no oc) := fun p => p.2.2
  have Bd : Below w16.heap.size w16 w16.drew := (Below.refl _ _).drew
  have HT1 := toSheet_d IU.out HS.out (g16.trans (Bd.mono g16.size))
  go_upto_region 31 with fail
  refine wp_region_hold (S := Two w.heap.size (w.heap.size + 1) (.slice ua nu uc) (.slice oa no oc)) 5 6 (by kernel_rfl) rfl ?_
  refine wpHold_mask [true, false, true, false, false, false] 4 rfl (by kernel_rfl) (T16.out.below Bd) ?_
  simp only [maskL_t, maskL_f, maskL_n]
  iterate 2 (refine wpReads_step (fun K hK => ?_); go_simp; refine hK _ ?_; clear hK K)
  refine wpReads_nil ?_
  refine wpHold_branch (f := 3) (rs := [1]) (by kernel_rfl) (by simp) ?_
  refine AllHold.cons rfl (by decide) (fun K hK => ?_) AllHold.nil
  go_simp
  go_wp2_with (go_at_call 20; refine HT1.mono ?_; rintro e wa ⟨va, bsa, rfl, hpa, oa1, ba⟩; obtain ⟨aa, ca, rfl, _⟩ := own_form oa1.row)
  have ba' := Bd.trans ba
  have ga := g16.trans (ba'.mono g16.size)
  refine hK.out _ _ (T16.out.below ba') ?_
  clear hK K
  have HT2 := toSheet_d IVo.out HS2.out ga
  refine wpHold_branch (f := 2) (rs := [3]) (by kernel_rfl) (by simp) ?_
  refine AllHold.cons rfl (by decide) (fun K hK => ?_) AllHold.nil
  go_simp
  go_wp2_with (go_at_call 20; refine HT2.mono ?_; rintro e wb ⟨vb, bsb, rfl, hpb, ob1, bb⟩; obtain ⟨ab, cb, rfl, _⟩ := own_form ob1.row)
  have bb' := ba'.trans (bb.mono ba'.size)
  have gb := g16.trans (bb'.mono g16.size)
  refine hK.out _ _ (T16.out.below bb') ?_
  clear hK K
  have HD0 := implDiff_any (oa1.bin.below bb) ob1.bin (HS.out.same hpa) (HS2.out.same hpb) (ST.out.below gb)
  rw [hpa, hpb] at HD0
  refine wpHold_branch (f := 1) (rs := [4]) (by kernel_rfl) (by simp) ?_
  refine AllHold.cons rfl (by decide) (fun K hK => ?_) AllHold.nil
  clear hpa hpb oa1 ob1
  generalize bsa.length = na1 at *
  generalize bsb.length = nb1 at *
  go_simp
  go_wp2_with (go_at_call 34; refine HD0.mono ?_; rintro e w17 ⟨v17, cs17, rfl, hp17, hs17, hl17, o17, b17⟩; obtain ⟨a17, c17, rfl, _⟩ := own_form o17.row)
  have b17' := bb'.trans (b17.mono bb'.size)
  have J17 := hid_in (J16.out.below b17')
  refine hK.out _ _ (T16.out.below b17') ?_
  clear hK K HD0 HT1 HT2 t1 t2
  have HE := eqChanges_p o17.cin (HN.out _ J17.out.2) (hp17.trans HP3.out.symm) (diff_small hp17 hs17)
  clear hp17 hs17 hl17 o17 b17 b17' bb bb' ba ba' ga gb g16 T16 Bd J16
  generalize cs17.length = n17 at *
  refine wpHold_last (by kernel_rfl) rfl (by kernel_rfl) ?_
  intro K hK
  go_simp
  refine hK.out _ _ (NoPanic.normal ?_)
  clear hK K
  go_wp2_with (go_at_call 35; refine HE.mono ?_)
  rintro e w18 ⟨rfl, b18⟩
  have J18 := hid_in (J17.out.below b18)
  have HH := J18.out.heldC S6.out
  clear HE J17 b18
  go_wp2_with (go_at_call 37; refine HH.mono ?_)
  rintro e w19 ⟨rfl, b19⟩
  have g19 := (J18.out.below b19).from g3'.out
  clear HH J18 b19
  go_wp2
  go_ret
  exact ⟨rfl, g19⟩
end Go.Proofs.YtpdahhnjhggocabGreatDoor
