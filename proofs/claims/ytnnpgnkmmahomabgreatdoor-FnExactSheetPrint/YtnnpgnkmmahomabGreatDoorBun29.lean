import Derived.Test.YtnnpgnkmmahomabGreatDoorBun28
import Derived.Test.YtnnpgnkmmahomabGreatDoorBun26
import Derived.Test.YtnnpgnkmmahomabGreatDoorBun23
import Derived.Test.YtnnpgnkmmahomabGreatDoorBun19
namespace Go.Proofs.YtnnpgnkmmahomabGreatDoor
open Go.RowKit
set_option maxHeartbeats 4000000 in
set_option maxRecDepth 100000 in
theorem printLaw_any {v : Value} {bs : List BAt} {w : World} (h : BlocksIn w v bs) (hw : BlocksWide bs) (hst : StdAt w) : Calls Tryz.prog 4 #[.agg #[v]] w fun e w' => e = .returned (.bool true) ∧ Below w.heap.size w w' := by
  obtain ⟨ao, cap, rfl⟩ := h.1.form
  have g0 : Below w.heap.size w (w.alloc (.cells #[.slice ao bs.length cap] 35)) := (Below.refl _ _).alloc (Nat.le_refl _) _
  have k0 := one_box (w := w) (cs := #[.slice ao bs.length cap]) (T := 35) 0
  simp only [List.getElem?_toArray, List.getElem?_cons_zero] at k0
  have l0 := World.block_lt_of_cell? _ _ k0
  have HZ := szSheet_any (left := 1048576) (h.below g0) hw (Nat.le_refl _)
  go_enter Tryz.func4, Tryz.ntmps4
  go_wp2_with (go_at_call 15; refine HZ.mono ?_)
  rintro e w1 ⟨rfl | ⟨r, hr, rfl, hs⟩, b1⟩
  · clear HZ h hw hst
    go_wp2
    go_ret
    exact ⟨rfl, g0.trans (b1.mono g0.size)⟩
  have hr0 : ¬ ((r : Int) < 0) := by omega
  have k1 := (b1.cell (p := ⟨w.heap.size, 0, none⟩) l0).trans k0
  have g1 := g0.trans (b1.mono g0.size)
  clear HZ
  have HT := toSheet_any (h.below g1) hs
  go_wp2_with (go_at_call 17; refine HT.mono ?_)
  rintro e w2 ⟨v2, bs2, rfl, hp2, o2, b2⟩
  have HV := specPrint_any o2.bin (hs.same hp2)
  rw [hp2] at HV
  have k2 := (b2.cell (p := ⟨w.heap.size, 0, none⟩) (World.block_lt_of_cell? w1 _ k1)).trans k1
  have g2 := g1.trans (b2.mono g1.size)
  clear HT o2 hp2
  go_wp2_with (go_at_call 16; refine HV.mono ?_)
  rintro e w3 ⟨rfl, b3⟩
  have k3 := (b3.cell (p := ⟨w.heap.size, 0, none⟩) (World.block_lt_of_cell? w2 _ k2)).trans k2
  have g3 := g2.trans (b3.mono g2.size)
  clear HV
  have HT := toSheet_any (h.below g3) hs
  go_wp2_with (go_at_call 17; refine HT.mono ?_)
  rintro e w4 ⟨v4, bs4, rfl, hp4, o4, b4⟩
  have k4 := (b4.cell (p := ⟨w.heap.size, 0, none⟩) (World.block_lt_of_cell? w3 _ k3)).trans k3
  have g4 := g3.trans (b4.mono g3.size)
  clear HT
  obtain ⟨a4, c4, rfl, _⟩ := own_form o4.row
  have g5' : Below w4.heap.size w4 (w4.alloc (.cells #[.slice a4 bs4.length c4] 24)) := (Below.refl _ _).alloc (Nat.le_refl _) _
  have g5 := g4.trans (g5'.mono g4.size)
  have k5 := (g5'.cell (p := ⟨w.heap.size, 0, none⟩) (World.block_lt_of_cell? w4 _ k4)).trans k4
  have m5 := one_box (w := w4) (cs := #[.slice a4 bs4.length c4]) (T := 24) 0
  simp only [List.getElem?_toArray, List.getElem?_cons_zero] at m5
  have o5 := o4.bin.below g5'
  have hs4 := hs.same hp4
  have HV := implPrint_any o5 hs4 (hst.below g5)
  rw [hp4] at HV
  have hl5 := World.block_lt_of_cell? _ _ k5
  have hl5' := World.block_lt_of_cell? _ _ m5
  generalize hsb : (⟨(printL (bs.map BAt.plain)).toArray⟩ : ByteArray) = SB at *
  have hne : (SB.toList == SB.toList) = true := by simp
  go_wp2_with (go_at_call 18; refine HV.mono ?_)
  rintro e w6 ⟨rfl, b6⟩
  have k6 := (b6.cell (p := ⟨w.heap.size, 0, none⟩) hl5).trans k5
  have m6 := (b6.cell (p := ⟨w4.heap.size, 0, none⟩) hl5').trans m5
  have g6 := g5.trans (b6.mono g5.size)
  have o6 := o5.below b6
  have HT : ∀ W, Below w6.heap.size w6 W → Calls Tryz.prog 17 #[.agg #[.slice ao bs.length cap]] W fun e w' => ∃ v' bs', e = .returned (.agg #[v']) ∧ bs'.map BAt.plain = bs.map BAt.plain ∧ BlocksOwn W.heap.size w' v' bs' ∧ Below w6.heap.size w6 w' := fun W hW => (toSheet_any (h.below (g6.trans (hW.mono g6.size))) hs).mono fun e w' ⟨v', bs', he, hp, ho, hb⟩ => ⟨v', bs', he, hp, ho, hW.trans (hb.mono hW.size)⟩
  have HE := hid_in (show ∀ (W : World) v' bs', Below w6.heap.size w6 W → bs'.map BAt.plain = bs.map BAt.plain → BlocksIn W v' bs' → Calls Tryz.prog 11 #[.agg #[.slice a4 bs4.length c4], .agg #[v']] W fun e w' => e = .returned (.bool true) ∧ Below w6.heap.size w6 w' from fun W v' bs' hW hp ho => (eqSheet_any (o6.below hW) ho (hp4.trans hp.symm) ⟨hs4.1, fun x hx => (hs4.2 x hx).2⟩).mono fun e w' ⟨he, hb⟩ => ⟨he, hW.trans (hb.mono hW.size)⟩)
  have hdr : Below w6.heap.size w6 w6.drew := (Below.refl _ _).drew
  have hl6 := World.block_lt_of_cell? _ _ k6
  have hm6 := World.block_lt_of_cell? _ _ m6
  clear HV h hw hst hs hs4 o4 o5 o6 hp4 k0 k1 k2 k3 k4 k5 m5 hsb b1 b2 b3 b4 b6 g0 g1 g2 g3 g4 g5 g5'
  generalize bs.length = nb at *
  generalize bs4.length = nb4 at *
  go_wp2
  go_region_held3 (fun W' => W'.cell? ⟨w.heap.size, 0, none⟩ = some (.slice ao nb cap) ∧ W'.cell? ⟨w4.heap.size, 0, none⟩ = some (.slice a4 nb4 c4))
    (first | exact ⟨k6, m6⟩ | exact ⟨(b8.cell hl6).trans k6, (b8.cell hm6).trans m6⟩ | exact ⟨(b7.cell hl6).trans k6, (b7.cell hm6).trans m6⟩)
    (first | (go_at_call 17; refine (HT _ hdr).mono ?_; rintro e w7 ⟨v7, bs7, rfl, hp7, o7, b7⟩; obtain ⟨a7, c7, rfl, _⟩ := own_form o7.row) | (go_at_call 11; refine (HE.out _ _ bs7 b7 hp7 o7.bin).mono ?_; rintro e w8 ⟨rfl, b8⟩))
  all_goals
    go_wp2
    go_ret
    exact ⟨rfl, g6.trans (b8.mono g6.size)⟩
end Go.Proofs.YtnnpgnkmmahomabGreatDoor
