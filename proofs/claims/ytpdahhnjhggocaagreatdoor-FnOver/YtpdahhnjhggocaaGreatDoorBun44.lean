import Derived.Test.YtpdahhnjhggocaaGreatDoorBun43
import Derived.Test.YtpdahhnjhggocaaGreatDoorBun16
namespace Go.Proofs.YtpdahhnjhggocaaGreatDoor
open Go.RowKit
def DrawnTwo (w : World) (e : Ending) (w' : World) : Prop := ∃ a n c b m d TA TB, e = .returned (.tuple #[.agg #[.slice a n c], .agg #[.slice b m d]]) ∧ (InP TA (.slice a n c) w' ∧ InP TB (.slice b m d) w') ∧ Below w.heap.size w w'
structure FoS (w : World) (TA TB TC : List PBlock) (A B C : Nat) (av bv cv : Value) (W : World) : Prop where
  bw : Below w.heap.size w W
  ca : W.cell? ⟨A, 0, none⟩ = some av
  cb : W.cell? ⟨B, 0, none⟩ = some bv
  cc : W.cell? ⟨C, 0, none⟩ = some cv
  ia : InP TA av W
  ib : InP TB bv W
  ic : InP TC cv W
  st : StdAt W
theorem FoS.below {w : World} {TA TB TC : List PBlock} {A B C : Nat} {av bv cv : Value} {W W' : World} (h : FoS w TA TB TC A B C av bv cv W) (hb : Below W.heap.size W W') : FoS w TA TB TC A B C av bv cv W' :=
  ⟨h.bw.trans (hb.mono h.bw.size), (hb.cell (World.block_lt_of_cell? _ _ h.ca)).trans h.ca, (hb.cell (World.block_lt_of_cell? _ _ h.cb)).trans h.cb, (hb.cell (World.block_lt_of_cell? _ _ h.cc)).trans h.cc, h.ia.below hb, h.ib.below hb, h.ic.below hb, h.st.below hb⟩
theorem boxes2 (w : World) (x y : Value) : Below w.heap.size w ((w.alloc (.cells #[x] 25)).alloc (.cells #[y] 25)) ∧ ((w.alloc (.cells #[x] 25)).alloc (.cells #[y] 25)).cell? ⟨w.heap.size, 0, none⟩ = some x ∧ ((w.alloc (.cells #[x] 25)).alloc (.cells #[y] 25)).cell? ⟨w.heap.size + 1, 0, none⟩ = some y := by
  have b0 := (Below.refl w.heap.size w).alloc (Nat.le_refl _) (.cells #[x] 25)
  have b1 := (Below.refl (w.alloc (.cells #[x] 25)).heap.size (w.alloc (.cells #[x] 25))).alloc (Nat.le_refl _) (.cells #[y] 25)
  have z0 := alloc_here w (.cells #[x] 25)
  have z1 := alloc_here (w.alloc (.cells #[x] 25)) (.cells #[y] 25)
  have y0 := cell_of_block ((b1.block w.heap.size (by simp)).trans z0) 0
  have y1 := cell_of_block z1 0
  simp only [List.getElem?_toArray, List.getElem?_cons_zero, World.size_alloc] at y0 y1
  exact ⟨b0.trans (b1.mono b0.size), y0, y1⟩
theorem InP.few {T : List PBlock} {a : Option Addr} {n c : Nat} {W : World} (h : InP T (.slice a n c) W) : n ≤ 1048576 := by
  rw [h.len]
  obtain ⟨bs, rfl, _, h3⟩ := h
  rw [List.length_map]; exact h3.1
set_option maxHeartbeats 16000000 in
set_option maxRecDepth 100000 in
theorem fnOver_any (a b : Option Addr) (len cap len2 cap2 : Nat) (w : World) (hlen : len ≤ 9223372036854775807) (hlen2 : len2 ≤ 9223372036854775807) (hst : StdAt w) (HD1 : len ≤ 1048576 → Calls Tryz.prog 10 #[.slice a len cap] w fun e w' => DrawnTwo w e w') (HD2 : len2 ≤ 1048576 → ∀ W, Below w.heap.size w W → Calls Tryz.prog 10 #[.slice b len2 cap2] W fun e w' => DrawnTwo W e w') :
    Calls Tryz.prog 7 #[.slice a len cap, .slice b len2 cap2] w fun e w' => e = .returned (.bool true) ∧ Below w.heap.size w w' := by
  by_cases hs : len ≤ 1048576
  · have hs' : ¬ (1048576 : Int) < (len : Int) := by omega
    by_cases hs2 : len2 ≤ 1048576
    · have hs2' : ¬ (1048576 : Int) < (len2 : Int) := by omega
      have HDA := HD1 hs
      have HDB := HD2 hs2
      clear HD1 HD2
      go_enter Tryz.func7, Tryz.ntmps7
      go_wp2_with (go_at_call 10; refine HDA.mono ?_)
      rintro e w1 ⟨sa, sn, sc, sb, sm, sd, TA, TB, rfl, ⟨hia, hib⟩, b1⟩
      obtain ⟨x1, cA, cB⟩ := boxes2 w1 (.slice sa sn sc) (.slice sb sm sd)
      have g1 := b1.trans (x1.mono b1.size)
      have HD3 := HDB _ g1
      have IA := hid_in (hia.below x1)
      have IB := hid_in (hib.below x1)
      have HST := hid_in hst
      clear HDA HDB hia hib x1 hst
      have hW1z : ((w1.alloc (.cells #[.slice sa sn sc] 25)).alloc (.cells #[.slice sb sm sd] 25)).heap.size = w1.heap.size + 2 := by simp
      generalize hW1 : (w1.alloc (.cells #[.slice sa sn sc] 25)).alloc (.cells #[.slice sb sm sd] 25) = W1 at *
      go_wp2_with (go_at_call 10; (try rw [hW1]); refine HD3.mono ?_)
      rintro e w2 ⟨ta, tn, tc, tb, tm, td, TC, TD, rfl, ⟨hic, _⟩, b2⟩
      obtain ⟨x2, cC, _⟩ := boxes2 w2 (.slice ta tn tc) (.slice tb tm td)
      have g2 := b2.trans (x2.mono b2.size)
      have FS : FoS w TA TB TC w1.heap.size (w1.heap.size + 1) w2.heap.size (.slice sa sn sc) (.slice sb sm sd) (.slice ta tn tc) ((w2.alloc (.cells #[.slice ta tn tc] 25)).alloc (.cells #[.slice tb tm td] 25)) :=
        ⟨g1.trans (g2.mono g1.size), (g2.cell (World.block_lt_of_cell? _ _ cA)).trans cA, (g2.cell (World.block_lt_of_cell? _ _ cB)).trans cB, cC, IA.out.below g2, IB.out.below g2, hic.below x2, HST.out.below (g1.trans (g2.mono g1.size))⟩
      have FSH := hid_in FS
      clear HD3 cA cB cC IA IB HST hic x2 g2 g1 b1 b2 hW1 hW1z FS
      generalize hA : w1.heap.size = A at *
      generalize hW2 : (w2.alloc (.cells #[.slice ta tn tc] 25)).alloc (.cells #[.slice tb tm td] 25) = W2 at *
      have eW2 := hid_in hW2
      clear hA hW2
      have cA := FSH.out.ca
      have HV := specValid_i FSH.out.ia
      go_upto_region 5 with fail
      rw [eW2.out]
      cases hvA : sheetB TA
      · rw [hvA] at HV
        go_wp2_with (go_at_call 14; (try rw [eW2.out]); refine HV.mono ?_)
        first | rintro e w3 rfl b3 | rintro e w3 ⟨rfl, b3⟩
        have FS3 := hid_in (FSH.out.below b3)
        clear HV FSH b3
        go_upto_region 6 with fail
        clear cA
        refine regionq6 FS3.out.ca FS3.out.ia FS3.out.cb FS3.out.ib FS3.out.st (by kernel_rfl) (by kernel_rfl) (by kernel_rfl) ?_
        intro v a' W9 ha' hv hb
        simp only [putS, setS, List.setIfInBounds_toArray, List.set_cons_zero, List.set_cons_succ, hv] at ha'
        subst ha'
        have HO := hid_in (FS3.out.bw.trans (hb.mono FS3.out.bw.size))
        clear FS3 hb
        go_wp2
        go_ret
        exact ⟨rfl, HO.out⟩
      · rw [hvA] at HV
        go_wp2_with (go_at_call 14; (try rw [eW2.out]); refine HV.mono ?_)
        first | rintro e w3 rfl b3 | rintro e w3 ⟨rfl, b3⟩
        have FS3 := hid_in (FSH.out.below b3)
        have cB := FS3.out.cb
        have HVB := specValid_i FS3.out.ib
        clear HV FSH b3 cA
        cases hvB : sheetB TB
        · rw [hvB] at HVB
          go_wp2_with (go_at_call 14; refine HVB.mono ?_)
          first | rintro e w4 rfl b4 | rintro e w4 ⟨rfl, b4⟩
          have FS4 := hid_in (FS3.out.below b4)
          clear HVB FS3 b4
          go_upto_region 6 with fail
          clear cB
          refine regionq6 FS4.out.ca FS4.out.ia FS4.out.cb FS4.out.ib FS4.out.st (by kernel_rfl) (by kernel_rfl) (by kernel_rfl) ?_
          intro v a' W9 ha' hv hb
          simp only [putS, setS, List.setIfInBounds_toArray, List.set_cons_zero, List.set_cons_succ, hv] at ha'
          subst ha'
          have HO := hid_in (FS4.out.bw.trans (hb.mono FS4.out.bw.size))
          clear FS4 hb
          go_wp2
          go_ret
          exact ⟨rfl, HO.out⟩
        · rw [hvB] at HVB
          go_wp2_with (go_at_call 14; refine HVB.mono ?_)
          first | rintro e w4 rfl b4 | rintro e w4 ⟨rfl, b4⟩
          have FS4 := hid_in (FS3.out.below b4)
          have cC := FS4.out.cc
          have HVC := specValid_i FS4.out.ic
          clear HVB FS3 b4 cB
          cases hvC : sheetB TC
          · rw [hvC] at HVC
            go_wp2_with (go_at_call 14; refine HVC.mono ?_)
            first | rintro e w5 rfl b5 | rintro e w5 ⟨rfl, b5⟩
            have FS5 := hid_in (FS4.out.below b5)
            clear HVC FS4 b5
            go_upto_region 6 with fail
            clear cC
            refine regionq6 FS5.out.ca FS5.out.ia FS5.out.cb FS5.out.ib FS5.out.st (by kernel_rfl) (by kernel_rfl) (by kernel_rfl) ?_
            intro v a' W9 ha' hv hb
            simp only [putS, setS, List.setIfInBounds_toArray, List.set_cons_zero, List.set_cons_succ, hv] at ha'
            subst ha'
            have HO := hid_in (FS5.out.bw.trans (hb.mono FS5.out.bw.size))
            clear FS5 hb
            go_wp2
            go_ret
            exact ⟨rfl, HO.out⟩
          · rw [hvC] at HVC
            go_wp2_with (go_at_call 14; refine HVC.mono ?_)
            first | rintro e w5 rfl b5 | rintro e w5 ⟨rfl, b5⟩
            have FS5 := hid_in (FS4.out.below b5)
            have cA := FS5.out.ca
            have cB := FS5.out.cb
            have cC5 := FS5.out.cc
            have fA := FS5.out.ia.few
            have fB := FS5.out.ib.few
            have fC := FS5.out.ic.few
            have e1 : (sn : Int) ≤ 1048576 := by omega
            have e2 : (sm : Int) ≤ 1048576 := by omega
            have e3 : (tn : Int) ≤ 1048576 := by omega
            clear HVC FS4 b5 cC
            by_cases hl : sn + sm + tn ≤ 60
            · have hl' : ¬ (60 : Int) < (sn : Int) + (sm : Int) + (tn : Int) := by omega
              have oA := sheetB_iff.1 hvA
              have oB := sheetB_iff.1 hvB
              have oC := sheetB_iff.1 hvC
              have hlen3 : TA.length + TB.length + TC.length ≤ 60 := by rw [← FS5.out.ia.len, ← FS5.out.ib.len, ← FS5.out.ic.len]; exact hl
              have H3 := hid_in (over_three oA oB oC hlen3)
              have HO := implOver_i FS5.out.st FS5.out.ia FS5.out.ib
              clear oA oB oC hlen3
              go_wp2_with (go_at_call 11; refine HO.mono ?_)
              rintro e w6 ⟨ma, mn, mc, rfl, IM, b6⟩
              obtain ⟨x6, cM, cN⟩ := boxes2 w6 (.slice ma mn mc) (.slice none 0 0)
              have FS6 := hid_in ((FS5.out.below b6).below x6)
              have IM6 := hid_in (IM.below x6)
              clear HO FS5 IM b6 x6 cA cB cC5
              go_upto_region 9 with fail
              generalize hM : w6.heap.size = M at *
              generalize hW6 : (w6.alloc (.cells #[.slice ma mn mc] 25)).alloc (.cells #[.slice none 0 0] 25) = W6 at *
              refine regionq9 cM IM6.out FS6.out.ca FS6.out.ia FS6.out.cb FS6.out.ib cN (InP.nil _) FS6.out.st H3.out.1 H3.out.2.1 H3.out.2.2.1 H3.out.2.2.2.1 (by kernel_rfl) (by kernel_rfl) (by kernel_rfl) (by kernel_rfl) (by kernel_rfl) ?_
              intro v a' W7 ha' hv hb
              simp only [putS, setS, List.setIfInBounds_toArray, List.set_cons_zero, List.set_cons_succ, hv] at ha'
              subst ha'
              have FS7 := hid_in (FS6.out.below hb)
              have IM7 := hid_in (IM6.out.below hb)
              have cM7 := (hb.cell (World.block_lt_of_cell? _ _ cM)).trans cM
              clear FS6 IM6 cM cN hb
              go_upto_region 11 with fail
              refine regionq11 cM7 IM7.out FS7.out.cc FS7.out.ic FS7.out.ca FS7.out.ia FS7.out.cb FS7.out.ib FS7.out.st H3.out.2.2.2.2 (by kernel_rfl) (by kernel_rfl) (by kernel_rfl) (by kernel_rfl) (by kernel_rfl) ?_
              intro v2 a' W9 ha' hv2 hb
              simp only [putS, setS, List.setIfInBounds_toArray, List.set_cons_zero, List.set_cons_succ, hv2] at ha'
              subst ha'
              have HO := hid_in (FS7.out.bw.trans (hb.mono FS7.out.bw.size))
              clear FS7 hb
              go_wp2
              go_ret
              exact ⟨rfl, HO.out⟩
            · have hl' : (60 : Int) < (sn : Int) + (sm : Int) + (tn : Int) := by omega
              go_upto_region 6 with fail
              clear cA cB cC5
              refine regionq6 FS5.out.ca FS5.out.ia FS5.out.cb FS5.out.ib FS5.out.st (by kernel_rfl) (by kernel_rfl) (by kernel_rfl) ?_
              intro v a' W9 ha' hv hb
              simp only [putS, setS, List.setIfInBounds_toArray, List.set_cons_zero, List.set_cons_succ, hv] at ha'
              subst ha'
              have HO := hid_in (FS5.out.bw.trans (hb.mono FS5.out.bw.size))
              clear FS5 hb
              go_wp2
              go_ret
              exact ⟨rfl, HO.out⟩
    · have hs2' : (1048576 : Int) < (len2 : Int) := by omega
      clear HD1 HD2
      go_enter Tryz.func7, Tryz.ntmps7
      go_wp2
      go_ret
      exact ⟨rfl, Below.refl _ _⟩
  · have hs' : (1048576 : Int) < (len : Int) := by omega
    clear HD1 HD2
    go_enter Tryz.func7, Tryz.ntmps7
    go_wp2
    go_ret
    exact ⟨rfl, Below.refl _ _⟩
end Go.Proofs.YtpdahhnjhggocaaGreatDoor
