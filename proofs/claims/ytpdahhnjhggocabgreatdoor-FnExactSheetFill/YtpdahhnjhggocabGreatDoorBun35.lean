import Derived.Test.YtpdahhnjhggocabGreatDoorBun33
import Derived.Test.YtpdahhnjhggocabGreatDoorBun31
import Derived.Test.YtpdahhnjhggocabGreatDoorBun24
namespace Go.Proofs.YtpdahhnjhggocabGreatDoor
open Go.RowKit
theorem specFill_p {v : Value} {bs : List BAt} {w : World} (hbs : BlocksIn w v bs) (hsm : BlocksSmall bs) : Calls Tryz.prog 22 #[.agg #[v]] w fun e w' => ShPost (fillS (bs.map BAt.plain)) w e w' := specFill_any hbs hsm
theorem implFill_p {v : Value} {bs : List BAt} {w : World} (hbs : BlocksIn w v bs) (hsm : BlocksSmall bs) (hst : StdAt w) : Calls Tryz.prog 23 #[.agg #[v]] w fun e w' => ShPost (fillS (bs.map BAt.plain)) w e w' := implFill_any hbs hsm hst
set_option maxHeartbeats 8000000 in
set_option maxRecDepth 100000 in
theorem fillLaw_any {v : Value} {bs : List BAt} {w : World} (h : BlocksIn w v bs) (hw : BlocksWide bs) (hst : StdAt w) : Calls Tryz.prog 5 #[.agg #[v]] w fun e w' => e = .returned (.bool true) ∧ Below w.heap.size w w' := by
  obtain ⟨ao, cap, rfl⟩ := h.1.form
  have g0 : Below w.heap.size w (w.alloc (.cells #[.slice ao bs.length cap] 35)) := (Below.refl _ _).alloc (Nat.le_refl _) _
  have k0 := one_box (w := w) (cs := #[.slice ao bs.length cap]) (T := 35) 0
  simp only [List.getElem?_toArray, List.getElem?_cons_zero] at k0
  have l0 := World.block_lt_of_cell? _ _ k0
  have HZ := szSheet_any (left := 1048576) (h.below g0) hw (Nat.le_refl _)
  go_enter Tryz.func5, Tryz.ntmps5
  go_wp2_with (go_at_call 18; refine HZ.mono ?_)
  rintro e w1 ⟨rfl | ⟨r, hr, rfl, hs⟩, b1⟩
  · clear HZ h hw hst
    go_wp2
    go_ret
    exact ⟨rfl, g0.trans (b1.mono g0.size)⟩
  have hr0 : ¬ ((r : Int) < 0) := by omega
  have k1 := (b1.cell (p := ⟨w.heap.size, 0, none⟩) l0).trans k0
  have g1 := g0.trans (b1.mono g0.size)
  clear HZ k0 b1 g0
  have HT := toSheet_p (h.below g1) hs
  go_wp2_with (go_at_call 20; refine HT.mono ?_)
  rintro e w2 ⟨v2, bs2, rfl, hp2, o2, b2⟩
  have HV := specFill_p o2.bin (hs.same hp2)
  rw [hp2] at HV
  have k2 := (b2.cell (p := ⟨w.heap.size, 0, none⟩) (World.block_lt_of_cell? w1 _ k1)).trans k1
  have g2 := g1.trans (b2.mono g1.size)
  clear HT o2 hp2 k1 b2 g1
  go_wp2_with (go_at_call 22; refine HV.mono ?_)
  rintro e w3 ⟨v3, bs3, rfl, hp3, o3, b3⟩
  have k3 := (b3.cell (p := ⟨w.heap.size, 0, none⟩) (World.block_lt_of_cell? w2 _ k2)).trans k2
  have g3 := g2.trans (b3.mono g2.size)
  have hl3 : w.heap.size < w3.heap.size := World.block_lt_of_cell? w3 _ k3
  obtain ⟨a3, c3, rfl, _⟩ := own_form o3.row
  have x3 : Below w3.heap.size w3 (w3.alloc (.cells #[.slice a3 bs3.length c3] 24)) := (Below.refl _ _).alloc (Nat.le_refl _) _
  have n3 := one_box (w := w3) (cs := #[.slice a3 bs3.length c3]) (T := 24) 0
  simp only [List.getElem?_toArray, List.getElem?_cons_zero] at n3
  have k3a := (x3.cell (p := ⟨w.heap.size, 0, none⟩) hl3).trans k3
  have g3a := g3.trans (x3.mono g3.size)
  have HN3 := hid_in (show ∀ W, Below w3.heap.size w3 W → BlocksIn W (.slice a3 bs3.length c3) bs3 from fun W hW => o3.bin.below hW)
  have hs3 := hid_in (show BlocksSmall bs3 from fillS_small hs hp3)
  have hp3' := hid_in hp3
  clear HV o3 k2 b3 g2 hp3 k3
  generalize bs3.length = nb3 at *
  have HT := toSheet_p (h.below g3a) hs
  have hsW : (w3.alloc (.cells #[.slice a3 nb3 c3] 24)).heap.size = w3.heap.size + 1 := by simp
  generalize hW3 : w3.alloc (.cells #[.slice a3 nb3 c3] 24) = W3 at *
  have hsW' := hid_in hsW
  clear hsW
  go_wp2_with (go_at_call 20; (try rw [hW3]); refine HT.mono ?_)
  clear hW3
  rintro e w4 ⟨v4, bs4, rfl, hp4, o4, b4⟩
  have k4 := (b4.cell (p := ⟨w.heap.size, 0, none⟩) (World.block_lt_of_cell? W3 _ k3a)).trans k3a
  have n4 := (b4.cell (p := ⟨w3.heap.size, 0, none⟩) (World.block_lt_of_cell? W3 _ n3)).trans n3
  obtain ⟨a4, c4, rfl, _⟩ := own_form o4.row
  have x4 : Below w4.heap.size w4 (w4.alloc (.cells #[.slice a4 bs4.length c4] 24)) := (Below.refl _ _).alloc (Nat.le_refl _) _
  have m4 := one_box (w := w4) (cs := #[.slice a4 bs4.length c4]) (T := 24) 0
  simp only [List.getElem?_toArray, List.getElem?_cons_zero] at m4
  have B4 := b4.trans (x4.mono b4.size)
  have k4a := (x4.cell (p := ⟨w.heap.size, 0, none⟩) (World.block_lt_of_cell? w4 _ k4)).trans k4
  have n4a := (x4.cell (p := ⟨w3.heap.size, 0, none⟩) (World.block_lt_of_cell? w4 _ n4)).trans n4
  have g4a := g3a.trans (B4.mono g3a.size)
  have o4a := o4.below x4
  have hs4 := hs.same hp4
  have HV := implFill_p o4a.bin hs4 (hst.below g4a)
  rw [hp4] at HV
  have hp4' := hid_in hp4
  have hs4' := hid_in hs4
  clear HT k3a k4 n3 n4 o4 b4 hp4 x4 hs4
  generalize hnb4 : bs4.length = nb4 at *
  generalize hW4 : w4.alloc (.cells #[.slice a4 nb4 c4] 24) = W4 at *
  have hw4 : w4.heap.size < W4.heap.size := World.block_lt_of_cell? W4 _ m4
  go_wp2_with (go_at_call 23; (try rw [hW4]); refine HV.mono ?_)
  clear hW4
  rintro e w5 ⟨v5, bs5, rfl, hp5, o5, b5⟩
  have k5 := (b5.cell (p := ⟨w.heap.size, 0, none⟩) (World.block_lt_of_cell? W4 _ k4a)).trans k4a
  have n5 := (b5.cell (p := ⟨w3.heap.size, 0, none⟩) (World.block_lt_of_cell? W4 _ n4a)).trans n4a
  have m5 := (b5.cell (p := ⟨w4.heap.size, 0, none⟩) hw4).trans m4
  obtain ⟨a5, c5, rfl, _⟩ := own_form o5.row
  have x5 : Below w5.heap.size w5 (w5.alloc (.cells #[.slice a5 bs5.length c5] 24)) := (Below.refl _ _).alloc (Nat.le_refl _) _
  have q5 := one_box (w := w5) (cs := #[.slice a5 bs5.length c5]) (T := 24) 0
  simp only [List.getElem?_toArray, List.getElem?_cons_zero] at q5
  have k5a := (x5.cell (p := ⟨w.heap.size, 0, none⟩) (World.block_lt_of_cell? w5 _ k5)).trans k5
  have n5a := (x5.cell (p := ⟨w3.heap.size, 0, none⟩) (World.block_lt_of_cell? w5 _ n5)).trans n5
  have m5a := (x5.cell (p := ⟨w4.heap.size, 0, none⟩) (World.block_lt_of_cell? w5 _ m5)).trans m5
  have B5 := (B4.trans (b5.mono B4.size)).trans (x5.mono (Nat.le_trans B4.size b5.size))
  have J5 : Mem W3.heap.size w5 (brows (.slice a5 bs5.length c5) bs5 ++ brows (.slice a4 nb4 c4) bs4) := Mem.join o4a o5 b5 B4.size
  have J5a := Mem.cons (r := ⟨.slice (some ⟨w5.heap.size, 0, none⟩) 1 1, 24, 1, 1, [.slice a5 bs5.length c5]⟩) J5 (box_row w5 (.slice a5 bs5.length c5) 24) x5 (Nat.le_trans B4.size b5.size)
  have J6 := hid_in (Mem.perm J5a (N := brows (.slice a4 nb4 c4) bs4 ++ (⟨.slice (some ⟨w5.heap.size, 0, none⟩) 1 1, 24, 1, 1, [.slice a5 bs5.length c5]⟩ :: brows (.slice a5 bs5.length c5) bs5)) (by rw [← List.cons_append]; exact List.perm_append_comm))
  have hs5 : BlocksSmall bs5 := fillS_small hs hp5
  have hp53 := hid_in (show bs5.map BAt.plain = bs3.map BAt.plain from hp5.trans hp3'.out.symm)
  have HE := eqSheet_p (o5.bin.below x5) (HN3.out _ (x3.trans (B5.mono x3.size))) hp53.out ⟨hs5.1, fun x hx => (hs5.2 x hx).2⟩
  have hs5' := hid_in hs5
  clear HV J5 J5a o5 b5 x5 hp5 k5 n5 m5 k4a n4a m4 hs5 o4a B4
  generalize hnb5 : bs5.length = nb5 at *
  generalize hW5 : w5.alloc (.cells #[.slice a5 nb5 c5] 24) = W5 at *
  have hq5 : w5.heap.size < W5.heap.size := World.block_lt_of_cell? W5 _ q5
  go_wp2_with (go_at_call 14; (try rw [hW5]); refine HE.mono ?_)
  clear hW5
  rintro e w7 ⟨rfl, b7⟩
  have k7 := (b7.cell (p := ⟨w.heap.size, 0, none⟩) (World.block_lt_of_cell? W5 _ k5a)).trans k5a
  have n7 := (b7.cell (p := ⟨w3.heap.size, 0, none⟩) (World.block_lt_of_cell? W5 _ n5a)).trans n5a
  have m7 := (b7.cell (p := ⟨w4.heap.size, 0, none⟩) (World.block_lt_of_cell? W5 _ m5a)).trans m5a
  have B7 := B5.trans (b7.mono B5.size)
  have g7 := g3a.trans (B7.mono g3a.size)
  have J7 := hid_in (Mem.below J6.out b7)
  have HT : ∀ W, Below w7.heap.size w7 W → Calls Tryz.prog 20 #[.agg #[.slice ao bs.length cap]] W fun e w' => ∃ v' bs', e = .returned (.agg #[v']) ∧ bs'.map BAt.plain = bs.map BAt.plain ∧ BlocksOwn W.heap.size w' v' bs' ∧ Below w7.heap.size w7 w' := fun W hW => (toSheet_any (h.below (g7.trans (hW.mono g7.size))) hs).mono fun e w' ⟨v', bs', he, hp, ho, hb⟩ => ⟨v', bs', he, hp, ho, hW.trans (hb.mono hW.size)⟩
  have o7 : BlocksIn w7 (.slice a4 nb4 c4) bs4 := (show BlocksOwn W3.heap.size w7 (.slice a4 nb4 c4) bs4 from J7.out.left).bin
  have HE2 := hid_in (show ∀ (W : World) v' bs', Below w7.heap.size w7 W → bs'.map BAt.plain = bs.map BAt.plain → BlocksIn W v' bs' → Calls Tryz.prog 14 #[.agg #[.slice a4 nb4 c4], .agg #[v']] W fun e w' => e = .returned (.bool true) ∧ Below w7.heap.size w7 w' from fun W v' bs' hW hp ho => (eqSheet_any (o7.below hW) ho (hp4'.out.trans hp.symm) ⟨hs4'.out.1, fun x hx => (hs4'.out.2 x hx).2⟩).mono fun e w' ⟨he, hb⟩ => ⟨he, hW.trans (hb.mono hW.size)⟩)
  have hdr : Below w7.heap.size w7 w7.drew := (Below.refl _ _).drew
  have hl7 := World.block_lt_of_cell? _ _ k7
  have hm7 := World.block_lt_of_cell? _ _ m7
  have hn7 := World.block_lt_of_cell? _ _ n7
  have hin := hid_in h
  have hsm := hid_in hs
  have hst' := hid_in hst
  clear HE k5a n5a m5a h hs hw hst o7 b7 J6 q5 B5
  generalize hnb : bs.length = nb at *
  go_wp2
  go_region_held3 (fun W' => W'.cell? ⟨w.heap.size, 0, none⟩ = some (.slice ao nb cap) ∧ W'.cell? ⟨w4.heap.size, 0, none⟩ = some (.slice a4 nb4 c4))
    (first | exact ⟨k7, m7⟩ | exact ⟨(b9.cell hl7).trans k7, (b9.cell hm7).trans m7⟩ | exact ⟨(b8.cell hl7).trans k7, (b8.cell hm7).trans m7⟩)
    (first | (go_at_call 20; refine (HT _ hdr).mono ?_; rintro e w8 ⟨v8, bs8, rfl, hp8, o8, b8⟩; obtain ⟨a8, c8, rfl, _⟩ := own_form o8.row) | (go_at_call 14; refine (HE2.out _ _ bs8 b8 hp8 o8.bin).mono ?_; rintro e w9 ⟨rfl, b9⟩))
  have k9 := (b9.cell (p := ⟨w.heap.size, 0, none⟩) hl7).trans k7
  have m9 := (b9.cell (p := ⟨w4.heap.size, 0, none⟩) hm7).trans m7
  have n9 := (b9.cell (p := ⟨w3.heap.size, 0, none⟩) hn7).trans n7
  have B9 := B7.trans (b9.mono B7.size)
  have J9 : BM W3.heap.size w9 (.slice a4 nb4 c4) bs4 (⟨.slice (some ⟨w5.heap.size, 0, none⟩) 1 1, 24, 1, 1, [.slice a5 nb5 c5]⟩ :: brows (.slice a5 nb5 c5) bs5) := J7.out.below b9
  have HM := markSheet_p B9.size J9 hs4'.out
  have he1 : ¬ ((endB 1 bs4 : Int) < 0) := by omega
  clear HT HE2 J9 J7 k7 m7 n7 hp8 o8 b8 b9
  go_wp2_with (go_at_call 16; refine HM.mono ?_)
  rintro e w10 ⟨rfl, J10, b10⟩
  have B10 := B9.trans b10
  have J10r : Mem W3.heap.size w10 (⟨.slice (some ⟨w5.heap.size, 0, none⟩) 1 1, 24, 1, 1, [.slice a5 nb5 c5]⟩ :: brows (.slice a5 nb5 c5) bs5) := Mem.right J10
  have q10 := row_box (Mem.head J10r)
  have o10 : BlocksOwn W3.heap.size w10 (.slice a5 nb5 c5) bs5 := J10r.tail
  have HE := eqSheet_p o10.bin (HN3.out _ (x3.trans (B10.mono x3.size))) hp53.out ⟨hs5'.out.1, fun x hx => (hs5'.out.2 x hx).2⟩
  have k10 := (b10.cell (p := ⟨w.heap.size, 0, none⟩) (by show w.heap.size < W3.heap.size; have := hsW'.out; omega)).trans k9
  have n10 := (b10.cell (p := ⟨w3.heap.size, 0, none⟩) (by show w3.heap.size < W3.heap.size; have := hsW'.out; omega)).trans n9
  have J10h := hid_in J10r
  clear HM J10 k9 m9 n9 b10 J10r o10
  go_wp2_with (go_at_call 14; refine HE.mono ?_)
  rintro e w11 ⟨rfl, b11⟩
  have B11 := B10.trans (b11.mono B10.size)
  have k11 := (b11.cell (p := ⟨w.heap.size, 0, none⟩) (World.block_lt_of_cell? w10 _ k10)).trans k10
  have n11 := (b11.cell (p := ⟨w3.heap.size, 0, none⟩) (World.block_lt_of_cell? w10 _ n10)).trans n10
  have q11 := (b11.cell (p := ⟨w5.heap.size, 0, none⟩) (World.block_lt_of_cell? w10 _ q10)).trans q10
  have J11 : BM W3.heap.size w11 (.slice a5 nb5 c5) bs5 [⟨.slice (some ⟨w5.heap.size, 0, none⟩) 1 1, 24, 1, 1, [.slice a5 nb5 c5]⟩] := (Mem.below J10h.out b11).perm (by rw [← List.singleton_append]; exact List.perm_append_comm)
  have HM := markSheet_p B11.size J11 hs5'.out
  have he2 : ¬ ((endB 1 bs5 : Int) < 0) := by omega
  have he3 : ((endB 1 bs5 : Int) != (endB 1 bs5 : Int)) = false := by simp
  clear HE k10 n10 q10 b11 he1 J11 J10h
  go_wp2_with (go_at_call 16; refine HM.mono ?_)
  rintro e w12 ⟨rfl, J12, b12⟩
  have B12 := B11.trans b12
  have k12 := (b12.cell (p := ⟨w.heap.size, 0, none⟩) (by show w.heap.size < W3.heap.size; have := hsW'.out; omega)).trans k11
  have n12 := (b12.cell (p := ⟨w3.heap.size, 0, none⟩) (by show w3.heap.size < W3.heap.size; have := hsW'.out; omega)).trans n11
  have q12 := row_box (Mem.head (Mem.right J12))
  have o12 := hid_in J12.own
  have HH := heldSheet_p o12.out hs5'.out
  clear HM J12 k11 n11 q11 b12
  go_wp2_with (go_at_call 17; refine HH.mono ?_)
  rintro e w13 ⟨rfl, b13⟩
  have B13 := B12.trans (b13.mono B12.size)
  have k13 := (b13.cell (p := ⟨w.heap.size, 0, none⟩) (World.block_lt_of_cell? w12 _ k12)).trans k12
  have n13 := (b13.cell (p := ⟨w3.heap.size, 0, none⟩) (World.block_lt_of_cell? w12 _ n12)).trans n12
  have q13 := (b13.cell (p := ⟨w5.heap.size, 0, none⟩) (World.block_lt_of_cell? w12 _ q12)).trans q12
  have g13 := g3a.trans (B13.mono g3a.size)
  have o13 := hid_in (o12.out.below b13)
  have HT := toSheet_p (hin.out.below g13) hsm.out
  clear HH o12 k12 n12 q12 b13
  go_wp2_with (go_at_call 20; refine HT.mono ?_)
  rintro e w14 ⟨v14, bs14, rfl, hp14, o14, b14⟩
  have g14 := g13.trans (b14.mono g13.size)
  have B14 := B13.trans (b14.mono B13.size)
  have n14 := (b14.cell (p := ⟨w3.heap.size, 0, none⟩) (World.block_lt_of_cell? w13 _ n13)).trans n13
  have q14 := (b14.cell (p := ⟨w5.heap.size, 0, none⟩) (World.block_lt_of_cell? w13 _ q13)).trans q13
  have HV := implFill_p o14.bin (hsm.out.same hp14) (hst'.out.below g14)
  rw [hp14] at HV
  have p14 := hid_in (o13.out.below b14)
  clear HT o13 k13 n13 q13 b14 o14 hp14
  go_wp2_with (go_at_call 23; refine HV.mono ?_)
  rintro e w15 ⟨v15, bs15, rfl, hp15, o15, b15⟩
  have B15 := B14.trans (b15.mono B14.size)
  have hs15 : BlocksSmall bs15 := fillS_small hsm.out hp15
  obtain ⟨a15, c15, rfl, _⟩ := own_form o15.row
  have x15 : Below w15.heap.size w15 (w15.alloc (.cells #[.slice a15 bs15.length c15] 24)) := (Below.refl _ _).alloc (Nat.le_refl _) _
  have z15 := one_box (w := w15) (cs := #[.slice a15 bs15.length c15]) (T := 24) 0
  simp only [List.getElem?_toArray, List.getElem?_cons_zero] at z15
  have n15 := (x15.cell (p := ⟨w3.heap.size, 0, none⟩) (Nat.lt_of_lt_of_le (World.block_lt_of_cell? w14 _ n14) b15.size)).trans ((b15.cell (p := ⟨w3.heap.size, 0, none⟩) (World.block_lt_of_cell? w14 _ n14)).trans n14)
  have q15 := (x15.cell (p := ⟨w5.heap.size, 0, none⟩) (Nat.lt_of_lt_of_le (World.block_lt_of_cell? w14 _ q14) b15.size)).trans ((b15.cell (p := ⟨w5.heap.size, 0, none⟩) (World.block_lt_of_cell? w14 _ q14)).trans q14)
  have B15a := B15.trans (x15.mono B15.size)
  have HE := eqSheet_p (o15.bin.below x15) (HN3.out _ (x3.trans (B15a.mono x3.size))) (hp15.trans hp3'.out.symm) ⟨hs15.1, fun x hx => (hs15.2 x hx).2⟩
  have p15 := hid_in ((p14.out.below b15).below x15)
  clear HV hp15 hs15 o15 b15 p14 n14 q14 x15
  generalize bs15.length = n15' at *
  generalize hW15 : w15.alloc (.cells #[.slice a15 n15' c15] 24) = W15 at *
  go_wp2_with (go_at_call 14; (try rw [hW15]); refine HE.mono ?_)
  clear hW15
  rintro e w16 ⟨rfl, b16⟩
  have B16 := B15a.trans (b16.mono B15a.size)
  have q16 := (b16.cell (p := ⟨w5.heap.size, 0, none⟩) (World.block_lt_of_cell? W15 _ q15)).trans q15
  have HH := heldSheet_p (p15.out.below b16) hs5'.out
  clear HE b16
  go_wp2_with (go_at_call 17; refine HH.mono ?_)
  rintro e w17 ⟨rfl, b17⟩
  have B17 := B16.trans (b17.mono B16.size)
  have g17 := g3a.trans (B17.mono g3a.size)
  go_wp2
  go_ret
  exact ⟨rfl, g17⟩
end Go.Proofs.YtpdahhnjhggocabGreatDoor
