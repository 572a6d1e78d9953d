import Derived.Test.YtpdahhnjhggocabGreatDoorBun37
import Derived.Test.YtpdahhnjhggocabGreatDoorBun31
import Derived.Test.YtpdahhnjhggocabGreatDoorBun29
import Derived.Test.YtpdahhnjhggocabGreatDoorBun21
import Derived.Test.YtpdahhnjhggocabGreatDoorBun18
namespace Go.Proofs.YtpdahhnjhggocabGreatDoor
open Go.RowKit
/-- A box that holds a sheet, as a row. -/
def bx (g : Nat) (v : Value) : MRow := ⟨.slice (some ⟨g, 0, none⟩) 1 1, 24, 1, 1, [v]⟩
/-- What a law has made since w3: rows that lie apart; nothing older has turned. -/
def LwJ (w3 : World) (L : List MRow) (W : World) : Prop := Mem w3.heap.size W L ∧ Below w3.heap.size w3 W
theorem LwJ.below {w3 W W' : World} {L : List MRow} (h : LwJ w3 L W) (hb : Below W.heap.size W W') : LwJ w3 L W' := ⟨Mem.below h.1 hb, h.2.trans (hb.mono h.2.size)⟩
theorem LwJ.add {w3 W w' : World} {L : List MRow} {v : Value} {bs : List BAt} (h : LwJ w3 L W) (ho : BlocksOwn W.heap.size w' v bs) (hb : Below W.heap.size W w') : LwJ w3 (bx w'.heap.size v :: (brows v bs ++ L)) (w'.alloc (.cells #[v] 24)) := by
  have hx := (Below.refl w'.heap.size w').alloc (Nat.le_refl _) (.cells #[v] 24)
  have h1 := h.2.size
  have h2 := hb.size
  exact ⟨Mem.cons (r := bx w'.heap.size v) (Mem.join h.1 ho hb h1) (box_row w' v 24) hx (by omega), (h.2.trans (hb.mono h1)).trans (hx.mono (by omega))⟩
theorem LwJ.cell {w3 W : World} {L : List MRow} {g : Nat} {v : Value} (h : LwJ w3 L W) (hm : bx g v ∈ L) : W.cell? ⟨g, 0, none⟩ = some v := row_box (h.1.1 _ hm)
theorem LwJ.perm {w3 W : World} {L N : List MRow} (h : LwJ w3 L W) (hp : L.Perm N) : LwJ w3 N W := ⟨Mem.perm h.1 hp, h.2⟩
theorem LwJ.own {w3 W : World} {v : Value} {bs : List BAt} {N : List MRow} (h : LwJ w3 (brows v bs ++ N) W) : BlocksOwn w3.heap.size W v bs := Mem.left h.1
theorem LwJ.right {w3 W : World} {L N : List MRow} (h : LwJ w3 (N ++ L) W) : LwJ w3 L W := ⟨Mem.right h.1, h.2⟩
theorem LwJ.left {w3 W : World} {L N : List MRow} (h : LwJ w3 (N ++ L) W) : LwJ w3 N W := ⟨Mem.left h.1, h.2⟩
theorem LwJ.tail {w3 W : World} {L : List MRow} {r : MRow} (h : LwJ w3 (r :: L) W) : LwJ w3 L W := ⟨Mem.tail h.1, h.2⟩
theorem LwJ.old {w3 W : World} {L : List MRow} {p : Addr} {v : Value} (h : LwJ w3 L W) (c : w3.cell? p = some v) : W.cell? p = some v := (h.2.cell (World.block_lt_of_cell? _ _ c)).trans c
theorem LwJ.from {w w3 W : World} {L : List MRow} (h : LwJ w3 L W) (g : Below w.heap.size w w3) : Below w.heap.size w W := g.trans (h.2.mono g.size)
theorem LwJ.bin {w3 W : World} {v : Value} {bs : List BAt} (h : LwJ w3 (brows v bs) W) : BlocksIn W v bs := BlocksOwn.bin (B := w3.heap.size) h.1
theorem perm_one (z y x : MRow) (C6 C5 C4 : List MRow) : (z :: (C6 ++ (y :: (C5 ++ (x :: (C4 ++ [])))))).Perm (C4 ++ (z :: (C6 ++ (y :: (C5 ++ [x]))))) := by
  have : z :: (C6 ++ (y :: (C5 ++ (x :: (C4 ++ []))))) = (z :: (C6 ++ (y :: (C5 ++ [x])))) ++ C4 := by simp
  rw [this]
  exact List.perm_append_comm
theorem perm_two (z y x : MRow) (C6 C5 : List MRow) : (z :: (C6 ++ (y :: (C5 ++ [x])))).Perm (C5 ++ (z :: (C6 ++ [y, x]))) := by
  have e1 : z :: (C6 ++ (y :: (C5 ++ [x]))) = (((z :: C6) ++ [y]) ++ C5) ++ [x] := by simp
  have e2 : C5 ++ (z :: (C6 ++ [y, x])) = (C5 ++ ((z :: C6) ++ [y])) ++ [x] := by simp
  rw [e1, e2]
  exact List.Perm.append_right _ List.perm_append_comm
/-- What marking leaves. -/
def MarkJ (w3 : World) (k : Nat) (v : Value) (bs : List BAt) (N : List MRow) (e : Ending) (w' : World) : Prop := e = .returned (.int .i64 (endB k bs : Int)) ∧ LwJ w3 (brows v (markBs k bs) ++ N) w'
theorem LwJ.mark {w3 W : World} {v : Value} {bs : List BAt} {N : List MRow} (h : LwJ w3 (brows v bs ++ N) W) (hs : BlocksSmall bs) (k : Nat) (h1 : 1 ≤ k) (h2 : k ≤ 2305843009213693952) : Calls Tryz.prog 16 #[.agg #[v], .int .i64 (k : Int)] W fun e w' => MarkJ w3 k v bs N e w' := by
  have h3 := endB_small bs k (fun x hx => (hs.2 x hx).2)
  have h4 := hs.1
  refine (markSheet_own h.2.size h.1 hs.1 (fun x hx => (hs.2 x hx).2.1) h1 (by omega)).mono ?_
  rintro e w' ⟨he, hm, hb⟩
  exact ⟨he, hm, h.2.trans hb⟩
theorem LwJ.mark1 {w3 W : World} {v : Value} {bs : List BAt} {N : List MRow} (h : LwJ w3 (brows v bs ++ N) W) (hs : BlocksSmall bs) : Calls Tryz.prog 16 #[.agg #[v], .int .i64 1] W fun e w' => MarkJ w3 1 v bs N e w' := h.mark hs 1 (Nat.le_refl _) (by decide)
theorem specOver_p {W : World} {v1 v2 : Value} {us os : List BAt} (hs : BlocksSmall us) (hs2 : BlocksSmall os) (h1 : InPost (us.map BAt.plain) v1 W) (h2 : InPost (os.map BAt.plain) v2 W) : Calls Tryz.prog 31 #[.agg #[v1], .agg #[v2]] W fun e w' => ∃ a n c, e = .returned (.agg #[.slice a n c]) ∧ InPost (overS (us.map BAt.plain) (os.map BAt.plain)) (.slice a n c) w' ∧ Below W.heap.size W w' := by
  obtain ⟨b1, p1, o1⟩ := h1
  obtain ⟨b2, p2, o2⟩ := h2
  have H := specOver_any o1.bin o2.bin (hs.same p1) (hs2.same p2)
  rw [p1, p2] at H
  refine H.mono ?_
  rintro e w' ⟨v', bs', rfl, hp, ho, hb⟩
  obtain ⟨a, c, rfl, _⟩ := own_form ho.row
  exact ⟨a, _, c, rfl, ⟨bs', hp, ho.mono (Nat.zero_le _)⟩, hb⟩
theorem implOver_q {W : World} {v1 v2 : Value} {us os : List BAt} (hs : BlocksSmall us) (hs2 : BlocksSmall os) (hst : StdAt W) (h1 : InPost (us.map BAt.plain) v1 W) (h2 : InPost (os.map BAt.plain) v2 W) : Calls Tryz.prog 32 #[.agg #[v1], .agg #[v2]] W fun e w' => ∃ a n c, e = .returned (.agg #[.slice a n c]) ∧ InPost (overS (us.map BAt.plain) (os.map BAt.plain)) (.slice a n c) w' ∧ Below W.heap.size W w' := by
  obtain ⟨b1, p1, o1⟩ := h1
  obtain ⟨b2, p2, o2⟩ := h2
  have H := implOver_any o1.bin o2.bin (hs.same p1) (hs2.same p2) hst
  rw [p1, p2] at H
  refine H.mono ?_
  rintro e w' ⟨v', bs', rfl, hp, ho, hb⟩
  obtain ⟨a, c, rfl, _⟩ := own_form ho.row
  exact ⟨a, _, c, rfl, ⟨bs', hp, ho.mono (Nat.zero_le _)⟩, hb⟩
theorem toSheet_q {W : World} {v : Value} {us : List BAt} (h : BlocksIn W v us) (hs : BlocksSmall us) : Calls Tryz.prog 20 #[.agg #[v]] W fun e w' => ∃ a n c, e = .returned (.agg #[.slice a n c]) ∧ InPost (us.map BAt.plain) (.slice a n c) w' ∧ Below W.heap.size W w' := by
  refine (toSheet_any h hs).mono ?_
  rintro e w' ⟨v', bs', rfl, hp, ho, hb⟩
  obtain ⟨a, c, rfl, _⟩ := own_form ho.row
  exact ⟨a, _, c, rfl, ⟨bs', hp, ho.mono (Nat.zero_le _)⟩, hb⟩
theorem implOver_p {W : World} {v1 v2 : Value} {us os : List BAt} (h1 : BlocksIn W v1 us) (h2 : BlocksIn W v2 os) (hs : BlocksSmall us) (hs2 : BlocksSmall os) (hst : StdAt W) : Calls Tryz.prog 32 #[.agg #[v1], .agg #[v2]] W fun e w' => ShPost (overS (us.map BAt.plain) (os.map BAt.plain)) W e w' := implOver_any h1 h2 hs hs2 hst
set_option maxHeartbeats 16000000 in
set_option maxRecDepth 100000 in
theorem overLaw_any {uv ov : Value} {us os : List BAt} {w : World} (h : BlocksIn w uv us) (hw : BlocksWide us) (h' : BlocksIn w ov os) (hw' : BlocksWide os) (hst : StdAt w) : Calls Tryz.prog 8 #[.agg #[uv], .agg #[ov]] w fun e w' => e = .returned (.bool true) ∧ Below w.heap.size w w' := by
  obtain ⟨ua, uc, rfl⟩ := h.1.form
  obtain ⟨oa, oc, rfl⟩ := h'.1.form
  have g0 : Below w.heap.size w ((w.alloc (.cells #[.slice ua us.length uc] 35)).alloc (.cells #[.slice oa os.length oc] 35)) := ((Below.refl _ _).alloc (Nat.le_refl _) _).alloc (by simp) _
  have kk := two_boxes (w := w) (cs := #[.slice ua us.length uc]) (ds := #[.slice oa os.length oc]) (T := 35) (U := 35)
  have k0 := kk.1 0
  have j0 := kk.2 0
  simp only [List.getElem?_toArray, List.getElem?_cons_zero] at k0 j0
  clear kk
  have HZ := szSheet_any (left := 1048576) (h.below g0) hw (Nat.le_refl _)
  have IU := hid_in h
  have IVo := hid_in h'
  have WO := hid_in hw'
  have ST := hid_in hst
  clear h h' hw hw' hst
  generalize hnu : us.length = nu at *
  generalize hno : os.length = no at *
  clear hnu hno
  go_enter Tryz.func8, Tryz.ntmps8
  go_wp2_with (go_at_call 18; refine HZ.mono ?_)
  rintro e w1 ⟨rfl | ⟨r, hr, rfl, hs⟩, b1⟩
  · clear HZ
    go_wp2
    go_ret
    exact ⟨rfl, g0.trans (b1.mono g0.size)⟩
  have hr0 : ¬ ((r : Int) < 0) := by omega
  have k1 := (b1.cell (World.block_lt_of_cell? _ _ k0)).trans k0
  have j1 := (b1.cell (World.block_lt_of_cell? _ _ j0)).trans j0
  have g1 := g0.trans (b1.mono g0.size)
  clear HZ k0 j0 b1 g0
  have HS := hid_in hs
  clear hs
  have HZ := szSheet_any (left := r) (IVo.out.below g1) WO.out hr
  go_wp2_with (go_at_call 18; refine HZ.mono ?_)
  rintro e w2 ⟨rfl | ⟨r2, hr2, rfl, hs2⟩, b2⟩
  · clear HZ
    go_wp2
    go_ret
    exact ⟨rfl, g1.trans (b2.mono g1.size)⟩
  have hr0' : ¬ ((r2 : Int) < 0) := by omega
  have k2 := (b2.cell (World.block_lt_of_cell? _ _ k1)).trans k1
  have j2 := (b2.cell (World.block_lt_of_cell? _ _ j1)).trans j1
  have g2 := g1.trans (b2.mono g1.size)
  clear HZ k1 j1 b2 g1
  have HS2 := hid_in hs2
  clear hs2
  go_upto_region 8 with fail
  refine regionp8 (U := us.map BAt.plain) (O := os.map BAt.plain) (T := overS (us.map BAt.plain) (os.map BAt.plain)) k2 j2 (fun W hW => toSheet_q (IU.out.below (g2.trans (hW.mono g2.size))) HS.out) (fun W hW => toSheet_q (IVo.out.below (g2.trans (hW.mono g2.size))) HS2.out) (fun W v1 v2 _ h1 h2 => specOver_p HS.out HS2.out h1 h2) (by kernel_rfl) (by kernel_rfl) (by kernel_rfl) ?_
  rintro vv a' g3 na nn nc w3 ha' e5 hg3 n3 P3 b3
  simp only [putS, setS, List.setIfInBounds_toArray, List.set_cons_zero, List.set_cons_succ, e5] at ha'
  subst ha'
  have kU := hid_in ((b3.cell (World.block_lt_of_cell? _ _ k2)).trans k2)
  have kO := hid_in ((b3.cell (World.block_lt_of_cell? _ _ j2)).trans j2)
  have g3' := hid_in (g2.trans (b3.mono g2.size))
  have N3 := hid_in n3
  have k3 := kU.out
  obtain ⟨bs3, hp3, o3⟩ := P3
  have HN := hid_in (show ∀ W, Below w3.heap.size w3 W → BlocksIn W (.slice na nn nc) bs3 from fun W hW => o3.bin.below hW)
  have HP3 := hid_in hp3
  have HT := toSheet_p (IU.out.below g3'.out) HS.out
  clear k2 j2 n3 b3 g2 o3 hp3 e5
  go_wp2_with (go_at_call 20; refine HT.mono ?_)
  rintro e w4 ⟨v4, bs4, rfl, hp4, o4, b4⟩
  obtain ⟨a4, c4, rfl, _⟩ := own_form o4.row
  have J4 := hid_in (LwJ.add (w3 := w3) (L := []) ⟨Mem.nil _ _, Below.refl _ _⟩ o4 b4)
  have HP4 := hid_in hp4
  have j4 := J4.out.old kO.out
  have HT2 := toSheet_p (IVo.out.below (J4.out.from g3'.out)) HS2.out
  clear HT hp4 o4 b4 k3
  generalize bs4.length = n4 at *
  generalize hW4 : w4.alloc (.cells #[.slice a4 n4 c4] 24) = W4 at *
  go_wp2_with (go_at_call 20; (try rw [hW4]); refine HT2.mono ?_)
  clear hW4
  rintro e w5 ⟨v5, bs5, rfl, hp5, o5, b5⟩
  obtain ⟨a5, c5, rfl, _⟩ := own_form o5.row
  have J5 := hid_in (J4.out.add o5 b5)
  have HP5 := hid_in hp5
  have x5 := J5.out.cell (g := w4.heap.size) (v := .slice a4 n4 c4) (by simp)
  have y5 := J5.out.cell (g := w5.heap.size) (v := .slice a5 bs5.length c5) (by simp)
  have HV := implOver_p J5.out.tail.right.tail.left.bin J5.out.tail.left.bin (HS.out.same HP4.out) (HS2.out.same hp5) (ST.out.below (J5.out.from g3'.out))
  rw [HP4.out, hp5] at HV
  clear HT2 hp5 o5 b5 j4 J4
  generalize bs5.length = n5 at *
  generalize hW5 : w5.alloc (.cells #[.slice a5 n5 c5] 24) = W5 at *
  go_wp2_with (go_at_call 32; (try rw [hW5]); refine HV.mono ?_)
  clear hW5
  rintro e w6 ⟨v6, bs6, rfl, hp6, o6, b6⟩
  obtain ⟨a6, c6, rfl, _⟩ := own_form o6.row
  have J6 := hid_in (J5.out.add o6 b6)
  have HP6 := hid_in hp6
  have S6 := hid_in (overS_small HS.out HS2.out hp6)
  have z6 := J6.out.cell (g := w6.heap.size) (v := .slice a6 bs6.length c6) (by simp)
  have n6 := J6.out.old N3.out
  have HE := eqSheet_p J6.out.tail.left.bin (HN.out _ J6.out.2) (hp6.trans HP3.out.symm) ⟨S6.out.1, fun x hx => (S6.out.2 x hx).2⟩
  clear HV hp6 o6 b6 x5 y5 J5
  generalize bs6.length = n6' at *
  generalize hW6 : w6.alloc (.cells #[.slice a6 n6' c6] 24) = W6 at *
  go_wp2_with (go_at_call 14; (try rw [hW6]); refine HE.mono ?_)
  clear hW6
  rintro e w7 ⟨rfl, b7⟩
  have J7 := hid_in (J6.out.below b7)
  clear HE z6 n6 J6 b7
  have k7 := J7.out.old kU.out
  have m7 := J7.out.cell (g := w4.heap.size) (v := .slice a4 n4 c4) (by simp)
  have HT : ∀ W, Below w7.heap.size w7 W → Calls Tryz.prog 20 #[.agg #[.slice ua nu uc]] W fun e w' => ∃ v' bs', e = .returned (.agg #[v']) ∧ bs'.map BAt.plain = us.map BAt.plain ∧ BlocksOwn W.heap.size w' v' bs' ∧ Below w7.heap.size w7 w' := fun W hW => (toSheet_any (IU.out.below ((J7.out.below hW).from g3'.out)) HS.out).mono fun e w' ⟨v', bs', he, hp, ho, hb⟩ => ⟨v', bs', he, hp, ho, hW.trans (hb.mono hW.size)⟩
  have o7 : BlocksIn w7 (.slice a4 n4 c4) bs4 := J7.out.tail.right.tail.right.tail.left.bin
  have s4 := hid_in (HS.out.same HP4.out)
  have HE2 := hid_in (show ∀ (W : World) v' bs', Below w7.heap.size w7 W → bs'.map BAt.plain = us.map BAt.plain → BlocksIn W v' bs' → Calls Tryz.prog 14 #[.agg #[.slice a4 n4 c4], .agg #[v']] W fun e w' => e = .returned (.bool true) ∧ Below w7.heap.size w7 w' from fun W v' bs' hW hp ho => (eqSheet_any (o7.below hW) ho (HP4.out.trans hp.symm) ⟨s4.out.1, fun x hx => (s4.out.2 x hx).2⟩).mono fun e w' ⟨he, hb⟩ => ⟨he, hW.trans (hb.mono hW.size)⟩)
  have hdr : Below w7.heap.size w7 w7.drew := (Below.refl _ _).drew
  have hl7 := World.block_lt_of_cell? _ _ k7
  have hm7 := World.block_lt_of_cell? _ _ m7
  clear o7
  go_wp2
  go_region_held3 (fun W' => W'.cell? ⟨w.heap.size, 0, none⟩ = some (.slice ua nu uc) ∧ W'.cell? ⟨w4.heap.size, 0, none⟩ = some (.slice a4 n4 c4))
    (first | exact ⟨k7, m7⟩ | exact ⟨(b9.cell hl7).trans k7, (b9.cell hm7).trans m7⟩ | exact ⟨(b8.cell hl7).trans k7, (b8.cell hm7).trans m7⟩)
    (first | (go_at_call 20; refine (HT _ hdr).mono ?_; rintro e w8 ⟨v8, bs8, rfl, hp8, o8, b8⟩; obtain ⟨a8, c8, rfl, _⟩ := own_form o8.row) | (go_at_call 14; refine (HE2.out _ _ bs8 b8 hp8 o8.bin).mono ?_; rintro e w9 ⟨rfl, b9⟩))
  have J9 := hid_in (J7.out.below b9)
  clear HT HE2 J7 k7 m7 hp8 o8 b8 b9 hdr hl7 hm7
  have k9 := J9.out.old kO.out
  have m9 := J9.out.cell (g := w5.heap.size) (v := .slice a5 n5 c5) (by simp)
  have HT : ∀ W, Below w9.heap.size w9 W → Calls Tryz.prog 20 #[.agg #[.slice oa no oc]] W fun e w' => ∃ v' bs', e = .returned (.agg #[v']) ∧ bs'.map BAt.plain = os.map BAt.plain ∧ BlocksOwn W.heap.size w' v' bs' ∧ Below w9.heap.size w9 w' := fun W hW => (toSheet_any (IVo.out.below ((J9.out.below hW).from g3'.out)) HS2.out).mono fun e w' ⟨v', bs', he, hp, ho, hb⟩ => ⟨v', bs', he, hp, ho, hW.trans (hb.mono hW.size)⟩
  have o9 : BlocksIn w9 (.slice a5 n5 c5) bs5 := J9.out.tail.right.tail.left.bin
  have s5 := hid_in (HS2.out.same HP5.out)
  have HE2 := hid_in (show ∀ (W : World) v' bs', Below w9.heap.size w9 W → bs'.map BAt.plain = os.map BAt.plain → BlocksIn W v' bs' → Calls Tryz.prog 14 #[.agg #[.slice a5 n5 c5], .agg #[v']] W fun e w' => e = .returned (.bool true) ∧ Below w9.heap.size w9 w' from fun W v' bs' hW hp ho => (eqSheet_any (o9.below hW) ho (HP5.out.trans hp.symm) ⟨s5.out.1, fun x hx => (s5.out.2 x hx).2⟩).mono fun e w' ⟨he, hb⟩ => ⟨he, hW.trans (hb.mono hW.size)⟩)
  have hdr : Below w9.heap.size w9 w9.drew := (Below.refl _ _).drew
  have hl9 := World.block_lt_of_cell? _ _ k9
  have hm9 := World.block_lt_of_cell? _ _ m9
  clear o9
  go_wp2
  go_region_held3 (fun W' => W'.cell? ⟨w.heap.size + 1, 0, none⟩ = some (.slice oa no oc) ∧ W'.cell? ⟨w5.heap.size, 0, none⟩ = some (.slice a5 n5 c5))
    (first | exact ⟨k9, m9⟩ | exact ⟨(b11.cell hl9).trans k9, (b11.cell hm9).trans m9⟩ | exact ⟨(b10.cell hl9).trans k9, (b10.cell hm9).trans m9⟩)
    (first | (go_at_call 20; refine (HT _ hdr).mono ?_; rintro e w10 ⟨v10, bs10, rfl, hp10, o10, b10⟩; obtain ⟨a10, c10, rfl, _⟩ := own_form o10.row) | (go_at_call 14; refine (HE2.out _ _ bs10 b10 hp10 o10.bin).mono ?_; rintro e w11 ⟨rfl, b11⟩))
  have J11 := hid_in ((J9.out.below b11).perm (perm_one _ _ _ _ _ _))
  clear HT HE2 J9 k9 m9 hp10 o10 b10 b11 hdr hl9 hm9
  have m11 := J11.out.cell (g := w4.heap.size) (v := .slice a4 n4 c4) (by simp)
  have HM := J11.out.mark1 s4.out
  have hk1 := endB_le bs4 1
  have hk2 := endB_fits s4.out
  generalize hkk : endB 1 bs4 = kk at hk1 hk2
  go_wp2_with (go_at_call 16; refine HM.mono ?_)
  rintro e w12 ⟨rfl, J12⟩
  rw [hkk]
  have J12 := hid_in (J12.right.perm (perm_two _ _ _ _ _))
  have m12 := J12.out.cell (g := w5.heap.size) (v := .slice a5 n5 c5) (by simp)
  clear HM J11 m11 hkk
  have HM := J12.out.mark s5.out kk hk1 hk2
  go_wp2_with (go_at_call 16; refine HM.mono ?_)
  rintro e w13 ⟨rfl, J13⟩
  generalize endB kk bs5 = k3
  have hk3 : ¬ ((k3 : Int) < 0) := by omega
  have J13 := hid_in J13.right
  have z13 := J13.out.cell (g := w6.heap.size) (v := .slice a6 n6' c6) (by simp)
  have n13 := J13.out.old N3.out
  have HE := eqSheet_p J13.out.tail.left.bin (HN.out _ J13.out.2) (HP6.out.trans HP3.out.symm) ⟨S6.out.1, fun x hx => (S6.out.2 x hx).2⟩
  clear HM J12 m12
  go_wp2_with (go_at_call 14; refine HE.mono ?_)
  rintro e w14 ⟨rfl, b14⟩
  have J14 := hid_in (((J13.out.below b14).left (N := _ :: brows _ _) : LwJ w3 (bx w6.heap.size (.slice a6 n6' c6) :: brows (.slice a6 n6' c6) bs6) w14).perm (List.perm_append_comm (l₁ := [_])))
  have z14 := J14.out.cell (g := w6.heap.size) (v := .slice a6 n6' c6) (by simp)
  clear HE J13 z13 n13 b14 hk3
  have HM := J14.out.mark1 S6.out
  go_wp2_with (go_at_call 16; refine HM.mono ?_)
  rintro e w15 ⟨rfl, J15⟩
  have J15 := hid_in J15
  have z15 := J15.out.cell (g := w6.heap.size) (v := .slice a6 n6' c6) (by simp)
  have HH := heldSheet_p J15.out.own S6.out
  have he2 : ¬ ((endB 1 bs6 : Int) < 0) := by omega
  have he3 : ((endB 1 bs6 : Int) != (endB 1 bs6 : Int)) = false := by simp
  clear HM J14 z14
  go_wp2_with (go_at_call 17; refine HH.mono ?_)
  rintro e w16 ⟨rfl, b16⟩
  have J16 := hid_in (J15.out.below b16)
  have k16 := J16.out.old kU.out
  have j16 := J16.out.old kO.out
  have g16 := J16.out.from g3'.out
  clear HH J15 z15 b16
  go_upto_region 31 with fail
  refine regionp31 (U := us.map BAt.plain) (O := os.map BAt.plain) (T := overS (us.map BAt.plain) (os.map BAt.plain)) k16 j16 (fun W hW => toSheet_q (IU.out.below (g16.trans (hW.mono g16.size))) HS.out) (fun W hW => toSheet_q (IVo.out.below (g16.trans (hW.mono g16.size))) HS2.out) (fun W v1 v2 hW h1 h2 => implOver_q HS.out HS2.out (ST.out.below (g16.trans (hW.mono g16.size))) h1 h2) (by kernel_rfl) (by kernel_rfl) (by kernel_rfl) ?_
  rintro vv2 a' g17 ha hn hc w17 ha' e5 hg17 h17 P17 b17
  simp only [putS, setS, List.setIfInBounds_toArray, List.set_cons_zero, List.set_cons_succ, e5] at ha'
  subst ha'
  obtain ⟨bs17, hp17, o17⟩ := P17
  have J17 := hid_in (J16.out.below b17)
  have n17 := J17.out.old N3.out
  have s17 := overS_small HS.out HS2.out hp17
  have HE := eqSheet_p o17.bin (HN.out _ J17.out.2) (hp17.trans HP3.out.symm) ⟨s17.1, fun x hx => (s17.2 x hx).2⟩
  clear k16 j16 g16 J16 b17 o17 hp17 s17 hg17 e5
  go_wp2_with (go_at_call 14; refine HE.mono ?_)
  rintro e w18 ⟨rfl, b18⟩
  have J18 := hid_in (J17.out.below b18)
  have z18 := J18.out.cell (g := w6.heap.size) (v := .slice a6 n6' c6) (by simp)
  have HH := heldSheet_p J18.out.own S6.out
  clear HE J17 n17 h17 b18
  go_wp2_with (go_at_call 17; refine HH.mono ?_)
  rintro e w19 ⟨rfl, b19⟩
  have g19 := (J18.out.below b19).from g3'.out
  clear HH J18 z18 b19
  go_wp2
  go_ret
  exact ⟨rfl, g19⟩
end Go.Proofs.YtpdahhnjhggocabGreatDoor
