import Derived.Test.YtpdahhnjhggocaaGreatDoorBun42
import Derived.Test.YtpdahhnjhggocaaGreatDoorBun41
import Derived.Test.YtpdahhnjhggocaaGreatDoorBun32
import Derived.Test.YtpdahhnjhggocaaGreatDoorBun25
import Derived.Test.YtpdahhnjhggocaaGreatDoorBun23
import Derived.Test.YtpdahhnjhggocaaGreatDoorBun22
import Derived.WideMake
import Derived.WideLaws
namespace Go.Proofs.YtpdahhnjhggocaaGreatDoor
open Go.RowKit
def OvRel (w2 : World) (us os : List BAt) (cv : Value) (nt : Nat) (i : Value) (wr : World) : Prop := ∃ (j : Nat) (bs : List BAt), i = .int .i64 (j : Int) ∧ j ≤ nt ∧ OvL w2 us os cv j bs wr
theorem blocks_one {w : World} {v : Value} {bs : List BAt} (h : BlocksIn w v bs) : ∀ y ∈ bs.flatMap BAt.cells, y.oneCell' = true := by
  intro y hy
  obtain ⟨b, hb, hy⟩ := List.mem_flatMap.1 hy
  obtain ⟨a, c, e⟩ := (h.2 b hb).1.form
  simp only [BAt.cells, List.mem_cons, List.not_mem_nil, or_false] at hy
  rcases hy with rfl | rfl | rfl
  · rfl
  · rfl
  · rw [e]; rfl
set_option maxHeartbeats 16000000 in
set_option maxRecDepth 100000 in
theorem implOver_any {uv ov : Value} {us os : List BAt} {w : World} (hu : BlocksIn w uv us) (ho : BlocksIn w ov os) (hsu : BlocksSmall us) (hso : BlocksSmall os) (hst : StdAt w) : Calls Tryz.prog 11 #[.agg #[uv], .agg #[ov]] w fun e w' => ∃ v' bs', e = .returned (.agg #[v']) ∧ bs'.map BAt.plain = overS (us.map BAt.plain) (os.map BAt.plain) ∧ BlocksOwn w.heap.size w' v' bs' ∧ Below w.heap.size w w' := by
  obtain ⟨ua, uc, rfl⟩ := hu.1.form
  obtain ⟨oa, oc, rfl⟩ := ho.1.form
  have a3 := alloc3 (w := w) (o1 := .cells #[.slice ua us.length uc] 25) (o2 := .cells #[.slice oa os.length oc] 25) (o3 := .cells #[.slice none 0 0] 25)
  have b3 : Below w.heap.size w (((w.alloc (.cells #[.slice ua us.length uc] 25)).alloc (.cells #[.slice oa os.length oc] 25)).alloc (.cells #[.slice none 0 0] 25)) := (((Below.refl _ _).alloc (Nat.le_refl _) _).alloc (by simp) _).alloc (by simp; omega) _
  have HV := implValid_any (hu.below b3) hsu (hst.below b3)
  have HU := hid_in hu
  have HO := hid_in ho
  have HSU := hid_in hsu
  have HSO := hid_in hso
  have HST := hid_in hst
  clear hu ho hsu hso hst
  generalize hnu : us.length = nu at *
  generalize hno : os.length = no at *
  have ENU := hid_in hnu
  have ENO := hid_in hno
  clear hnu hno
  obtain ⟨s3, hub, hob, hrb⟩ := a3
  have cu := cell_of_block hub 0
  have co := cell_of_block hob 0
  simp only [List.getElem?_toArray, List.getElem?_cons_zero] at cu co
  generalize hW3 : ((w.alloc (.cells #[.slice ua nu uc] 25)).alloc (.cells #[.slice oa no oc] 25)).alloc (.cells #[.slice none 0 0] 25) = W3 at *
  go_enter Tryz.func11, Tryz.ntmps11
  go_wp2_with (go_at_call 19; (try rw [hW3]); refine HV.mono ?_)
  first | rintro e w1 rfl b1 | rintro e w1 ⟨rfl, b1⟩
  have hz1 := b1.size
  have g1 := b3.trans (b1.mono b3.size)
  have ub1 := (b1.block w.heap.size (by omega)).trans hub
  have ob1 := (b1.block (w.heap.size + 1) (by omega)).trans hob
  have rb1 := (b1.block (w.heap.size + 2) (by omega)).trans hrb
  have co1 := cell_of_block ob1 0
  simp only [List.getElem?_toArray, List.getElem?_cons_zero] at co1
  clear HV cu co hub hob hrb hW3 b3 b1
  cases hUK : sheetB (us.map BAt.plain)
  · have HG := hid_in (show ([] : List BAt).map BAt.plain = overS (us.map BAt.plain) (os.map BAt.plain) from (over_not (.inl hUK)).symm)
    clear hUK
    have b5 : Below w.heap.size w (w1.setRow (w.heap.size + 2) #[.slice none 0 0]) := ⟨g1.os, g1.tape, g1.output, by rw [setRow_size]; exact g1.size, fun k hk => by rw [setRow_other _ _ _ _ (by omega)]; exact g1.block k hk⟩
    go_wp2_with (with_reducible show wpList _ _ _ (Oper.mk _ (Op.store _ (Operand.tmp 4) _) _ _ _ _ :: _) _ _; refine wpList_store_row rfl 25 _ _ rfl (w.heap.size + 2) #[.slice none 0 0] ?_ ?_ 25 _ rb1 ?_ ?_ ?_ ?_)
    all_goals (first | rfl | kernel_rfl | exact sheet_size | skip)
    have z5 : (w1.setRow (w.heap.size + 2) #[.slice none 0 0]).heap[w.heap.size + 2]? = some (.cells #[.slice none 0 0] 25 (0, 0)) := setRow_heap _ _ _ _ _ _ rb1
    have y0 := cell_of_block z5 0
    simp only [List.getElem?_toArray, List.getElem?_cons_zero] at y0
    generalize w1.setRow (w.heap.size + 2) #[.slice none 0 0] = W at b5 y0 z5 ⊢
    exact bodyPost_ret (v := .agg #[.slice none 0 0]) (by simp [results, Tryz.results11, go_sem, y0]) rfl ⟨_, [], rfl, HG.out, blocks_none _ _, b5⟩
  · have HUK := hid_in hUK
    clear hUK
    have HV2 := implValid_any (HO.out.below g1) HSO.out (HST.out.below g1)
    go_wp2_with (go_at_call 19; (try rw [ENO.out]); refine HV2.mono ?_)
    first | rintro e w2 rfl b2 | rintro e w2 ⟨rfl, b2⟩
    have hz2 := b2.size
    have g2 := g1.trans (b2.mono g1.size)
    have ub2 := (b2.block w.heap.size (by omega)).trans ub1
    have ob2 := (b2.block (w.heap.size + 1) (by omega)).trans ob1
    have rb2 := (b2.block (w.heap.size + 2) (by omega)).trans rb1
    clear HV2 ub1 ob1 rb1 co1 b2
    cases hOK : sheetB (os.map BAt.plain)
    · have HG := hid_in (show ([] : List BAt).map BAt.plain = overS (us.map BAt.plain) (os.map BAt.plain) from (over_not (.inr hOK)).symm)
      clear hOK
      have b5 : Below w.heap.size w (w2.setRow (w.heap.size + 2) #[.slice none 0 0]) := ⟨g2.os, g2.tape, g2.output, by rw [setRow_size]; exact g2.size, fun k hk => by rw [setRow_other _ _ _ _ (by omega)]; exact g2.block k hk⟩
      go_wp2_with (with_reducible show wpList _ _ _ (Oper.mk _ (Op.store _ (Operand.tmp 4) _) _ _ _ _ :: _) _ _; refine wpList_store_row rfl 25 _ _ rfl (w.heap.size + 2) #[.slice none 0 0] ?_ ?_ 25 _ rb2 ?_ ?_ ?_ ?_)
      all_goals (first | rfl | kernel_rfl | exact sheet_size | skip)
      have z5 : (w2.setRow (w.heap.size + 2) #[.slice none 0 0]).heap[w.heap.size + 2]? = some (.cells #[.slice none 0 0] 25 (0, 0)) := setRow_heap _ _ _ _ _ _ rb2
      have y0 := cell_of_block z5 0
      simp only [List.getElem?_toArray, List.getElem?_cons_zero] at y0
      generalize w2.setRow (w.heap.size + 2) #[.slice none 0 0] = W at b5 y0 z5 ⊢
      exact bodyPost_ret (v := .agg #[.slice none 0 0]) (by simp [results, Tryz.results11, go_sem, y0]) rfl ⟨_, [], rfl, HG.out, blocks_none _ _, b5⟩
    · have HOK := hid_in hOK
      clear hOK
      have oku := hid_in (sheetB_iff.1 HUK.out)
      have oko := hid_in (sheetB_iff.1 HOK.out)
      have hnu : nu ≤ 60 := by rw [← ENU.out, ← List.length_map (f := BAt.plain)]; exact oku.out.1
      have hno : no ≤ 60 := by rw [← ENO.out, ← List.length_map (f := BAt.plain)]; exact oko.out.1
      have hmm := run_makeMap_plain (P := Tryz.prog) w2 70
      have x1 := (Below.refl w2.heap.size w2).alloc (Nat.le_refl _) (.map #[] 0)
      have x2 := x1.alloc (by simp) (.cells #[.slice ua nu uc, .slice oa no oc] 23)
      have m1 := alloc_here w2 (.map #[] 0)
      have cU1 := cell_of_block ((x1.block _ (by omega)).trans ub2) 0
      have cO1 := cell_of_block ((x1.block _ (by omega)).trans ob2) 0
      simp only [List.getElem?_toArray, List.getElem?_cons_zero] at cU1 cO1
      have hcb := alloc_here (w2.alloc (.map #[] 0)) (.cells #[.slice ua nu uc, .slice oa no oc] 23)
      have g4 := g2.trans (x2.mono g2.size)
      have HC := concatB_any hcb ((HU.out.below g4).1) ((HO.out.below g4).1) (blocks_one HU.out) (blocks_one HO.out) (by rw [ENU.out, ENO.out]; omega)
      rw [ENU.out, ENO.out, World.size_alloc] at HC
      have m2 := (Below.heap_alloc (w2.alloc (.map #[] 0)) (.cells #[.slice ua nu uc, .slice oa no oc] 23) w2.heap.size (by simp)).trans m1
      have HX2 := hid_in x2
      have HM2 := hid_in m2
      clear x1 x2 m1 m2 hcb g4
      go_wp2_with (go_at_call 46; refine HC.mono ?_)
      rintro e w5 ⟨cv, rfl, hr5, b5⟩
      have s4 : ((w2.alloc (.map #[] 0)).alloc (.cells #[.slice ua nu uc, .slice oa no oc] 23)).heap.size = w2.heap.size + 2 := by simp
      rw [s4] at hr5 b5
      obtain ⟨ca, cc, rfl, _⟩ := own_form hr5
      have x5 := hid_in (HX2.out.trans (b5.mono (by omega)))
      have HL0 := hid_in (show OvL w2 us os (.slice ca (nu + no) cc) 0 [] w5 from ⟨⟨x5.out, (b5.block w2.heap.size (by omega)).trans HM2.out, Mem.nil _ _, by simp, by simp, Nat.le_refl _⟩, by rw [ENU.out, ENO.out, List.flatMap_append]; exact own_mono hr5 (by omega), .inl ⟨Nat.zero_le _, laid_start _ _⟩⟩)
      clear HC hr5 b5 s4 HX2 HM2 x5 hmm cU1 cO1
      go_wp2
      go_loopw [26] (fun i wr => OvRel w2 us os (.slice ca (nu + no) cc) (nu + no) i wr) (fun i _ => nu + no - (intOf i).toNat)
      case atStart => exact ⟨0, [], rfl, by omega, HL0.out⟩
      case round =>
        obtain ⟨j, bs, rfl, hj, hL⟩ := hrel
        clear HL0
        have bw := hL.1.bw
        have hzw := bw.size
        by_cases hlt : j < nu + no
        · obtain ⟨D, x, T, e0, hD⟩ := split1 (us ++ os) j (by rw [List.length_append, ENU.out, ENO.out]; exact hlt)
          have hx : (us ++ os)[j]? = some x := by rw [e0, ← hD]; simp
          have HSTEP := hid_in (OvL.step (HU.out.below g2) (HO.out.below g2) HSU.out HSO.out oku.out oko.out hL hx)
          have hrow := own_has hL.2.1
          rw [e0] at hrow
          obtain ⟨g, off, rfl, d1, d2, d3⟩ := hrow.block
          rw [hD] at d1 d2 d3
          have hxv : ∃ xa xm xc, x.v = .slice xa xm xc := by
            rcases List.mem_append.1 (List.mem_of_getElem? hx) with hm | hm
            · obtain ⟨xa, xc, e⟩ := (HU.out.2 x hm).1.form
              exact ⟨_, _, _, e⟩
            · obtain ⟨xa, xc, e⟩ := (HO.out.2 x hm).1.form
              exact ⟨_, _, _, e⟩
          obtain ⟨xk, xn, xv, xl⟩ := x
          obtain ⟨xa, xm, xc, e9⟩ := hxv
          dsimp only at e9 d1 d2 d3
          subst e9
          have hmp := hid_in hL.1.mp
          have q1 : ¬ ((j : Int) < 0) := by omega
          clear hL hrow e0 hD hx
          go_wp2_with (go_at_call 47; refine (headOf_any _ _ _ _ _ _).mono ?_)
          first | rintro e w6 rfl b6 | rintro e w6 ⟨rfl, b6⟩
          have x6 := (Below.refl wr.heap.size wr).alloc (Nat.le_refl _) (.cells #[.string xk, .string xn, .slice xa xm xc] 46)
          have b7 := (Below.refl w6.heap.size w6).alloc (Nat.le_refl _) (.cells #[.string xk, .string xn] 73)
          have hz6 := b6.size
          rw [World.size_alloc] at hz6
          have b8 : Below wr.heap.size wr (w6.alloc (.cells #[.string xk, .string xn] 73)) := (x6.trans (b6.mono (by omega))).trans (b7.mono (by omega))
          have zR := (b7.block wr.heap.size (by omega)).trans ((b6.block wr.heap.size (by omega)).trans (alloc_here wr (.cells #[.string xk, .string xn, .slice xa xm xc] 46)))
          have zH := alloc_here w6 (.cells #[.string xk, .string xn] 73)
          have zM := (b8.block w2.heap.size (Array.getElem?_eq_some_iff.1 hmp.out).1).trans hmp.out
          have ZR := hid_in zR
          have ZH := hid_in zH
          have ZM := hid_in zM
          have B8 := hid_in b8
          clear zR zH zM b8 b7 b6 x6 d1 d2 d3 hmp
          go_upto_region 8 with fail
          have s8 := B8.out.size
          refine regionM8 (LayIs ⟨xk, xn, .slice xa xm xc, xl⟩ (found xk xn bs)) ZM.out ZH.out ZR.out (fun W hb => HSTEP.out.1 W (B8.out.trans (hb.mono s8))) (by kernel_rfl) (by kernel_rfl) (by kernel_rfl) (by kernel_rfl) ?_
          rintro v2 a' q m cc2 ls W1 W2 ha' hb1 hlay hb2
          simp only [putS, setS, List.setIfInBounds_toArray, List.set_cons_zero, List.set_cons_succ] at ha'
          subst ha'
          have HN := hid_in (HSTEP.out.2 (.slice q m cc2) ls W1 W2 (B8.out.trans (hb1.mono s8)) hlay hb2)
          clear HSTEP hlay hb1 hb2 ZR ZH ZM B8
          go_wp2
          go_roundw
          case rel => exact ⟨j + 1, _, by go_num, by omega, HN.out⟩
          case measure => simp [intOf]; omega
        · have ej : j = us.length + os.length := by rw [ENU.out, ENO.out]; omega
          have ej2 : j = nu + no := by omega
          have HPM := hid_in (OvL.perm oku.out oko.out (ej ▸ hL))
          have HI := hid_in hL.1
          have hmp := hL.1.mp
          unfold mObj at hmp
          have hlm := run_len_map (P := Tryz.prog) (w := wr) 70 3 w2.heap.size _ _ (by kernel_rfl) hmp
          have hes : (bs.mapIdx mEnt).toArray.size = bs.length := by simp
          rw [hes] at hlm
          clear hes hmp hL ej
          subst ej2
          have rbr := (bw.block (w.heap.size + 2) (by omega)).trans rb2
          have gw := g2.trans (bw.mono g2.size)
          by_cases h60 : bs.length ≤ 60
          · have q2 : ¬ ((60 : Int) < (bs.length : Int)) := by omega
            have xv := (Below.refl wr.heap.size wr).alloc (Nat.le_refl _) (.cells #[.map (some w2.heap.size)] 70)
            have HS := sorted_any wr.heap.size w2.heap.size bs (by omega) (fun b hb => by
              obtain ⟨xa, xc, e⟩ := (HI.out.blockIn hb).lin.1.form
              exact ⟨_, _, _, e⟩) (wr.alloc (.cells #[.map (some w2.heap.size)] 70)) (by simp) ((xv.block _ (Array.getElem?_eq_some_iff.1 HI.out.mp).1).trans HI.out.mp)
            have HXV := hid_in xv
            clear xv
            go_wp2_with (first | (go_at_call 50; refine (values_any _ _).mono ?_; first | rintro e w6 rfl rfl | rintro e w6 ⟨rfl, rfl⟩) | (go_at_call 49; refine HS.mono ?_))
            rintro e w7 ⟨v7, xs, rfl, p1, ⟨p2, p3⟩, b7⟩
            have b8 := HXV.out.trans (b7.mono (by simp))
            have HW := hid_in (HI.out.own b8 p1 (own_mono p2 (by simp)))
            have HE := hid_in (over_sorted (xs := xs) oku.out oko.out (by rw [← HPM.out.length_eq, List.length_map]; exact h60) ((p1.map BAt.plain).trans HPM.out) p3)
            have hz8 := b8.size
            have rb7 := (b8.block (w.heap.size + 2) (by omega)).trans rbr
            have g7 := gw.trans (b8.mono gw.size)
            obtain ⟨va, vc, rfl, _⟩ := own_form HW.out.row
            clear HS p1 p2 p3 b7 b8 HXV HI HPM hlm rbr
            generalize xs.length = nx at *
            go_wp2_with (with_reducible show wpList _ _ _ (Oper.mk _ (Op.store _ (Operand.tmp 4) _) _ _ _ _ :: _) _ _; refine wpList_store_row rfl 25 _ _ rfl (w.heap.size + 2) #[.slice va nx vc] ?_ ?_ 25 _ rb7 ?_ ?_ ?_ ?_)
            all_goals (first | rfl | kernel_rfl | exact sheet_size | skip)
            have z5 : (w7.setRow (w.heap.size + 2) #[.slice va nx vc]).heap[w.heap.size + 2]? = some (.cells #[.slice va nx vc] 25 (0, 0)) := setRow_heap _ _ _ _ _ _ rb7
            have b5 : Below w.heap.size w (w7.setRow (w.heap.size + 2) #[.slice va nx vc]) := ⟨g7.os, g7.tape, g7.output, by rw [setRow_size]; exact g7.size, fun k hk => by rw [setRow_other _ _ _ _ (by omega)]; exact g7.block k hk⟩
            have o5 := (HW.out.setRow (w.heap.size + 2) (by omega) #[.slice va nx vc]).mono (show w.heap.size ≤ w2.heap.size + 1 by omega)
            have y0 := cell_of_block z5 0
            simp only [List.getElem?_toArray, List.getElem?_cons_zero] at y0
            generalize w7.setRow (w.heap.size + 2) #[.slice va nx vc] = W at b5 y0 z5 o5 ⊢
            exact bodyPost_ret (v := .agg #[.slice va nx vc]) (by simp [results, Tryz.results11, go_sem, y0]) rfl ⟨_, xs, rfl, HE.out, o5, b5⟩
          · have q2 : ((60 : Int) < (bs.length : Int)) := by omega
            have HG := hid_in (show ([] : List BAt).map BAt.plain = overS (us.map BAt.plain) (os.map BAt.plain) from (over_many (by rw [← HPM.out.length_eq, List.length_map]; omega)).symm)
            have b5 : Below w.heap.size w (wr.setRow (w.heap.size + 2) #[.slice none 0 0]) := ⟨gw.os, gw.tape, gw.output, by rw [setRow_size]; exact gw.size, fun k hk => by rw [setRow_other _ _ _ _ (by omega)]; exact gw.block k hk⟩
            go_wp2_with (with_reducible show wpList _ _ _ (Oper.mk _ (Op.store _ (Operand.tmp 4) _) _ _ _ _ :: _) _ _; refine wpList_store_row rfl 25 _ _ rfl (w.heap.size + 2) #[.slice none 0 0] ?_ ?_ 25 _ rbr ?_ ?_ ?_ ?_)
            all_goals (first | rfl | kernel_rfl | exact sheet_size | skip)
            have z5 : (wr.setRow (w.heap.size + 2) #[.slice none 0 0]).heap[w.heap.size + 2]? = some (.cells #[.slice none 0 0] 25 (0, 0)) := setRow_heap _ _ _ _ _ _ rbr
            have y0 := cell_of_block z5 0
            simp only [List.getElem?_toArray, List.getElem?_cons_zero] at y0
            generalize wr.setRow (w.heap.size + 2) #[.slice none 0 0] = W at b5 y0 z5 ⊢
            exact bodyPost_ret (v := .agg #[.slice none 0 0]) (by simp [results, Tryz.results11, go_sem, y0]) rfl ⟨_, [], rfl, HG.out, blocks_none _ _, b5⟩
end Go.Proofs.YtpdahhnjhggocaaGreatDoor
namespace Go.Proofs.YtpdahhnjhggocaaGreatDoor
open Go.RowKit
def InP (T : List PBlock) (v : Value) (W : World) : Prop := ∃ bs, bs.map BAt.plain = T ∧ BlocksIn W v bs ∧ BlocksSmall bs
theorem InP.below {T : List PBlock} {v : Value} {W W' : World} (h : InP T v W) (hb : Below W.heap.size W W') : InP T v W' := by
  obtain ⟨bs, h1, h2, h3⟩ := h
  exact ⟨bs, h1, h2.below hb, h3⟩
theorem InP.len {T : List PBlock} {a : Option Addr} {n c : Nat} {W : World} (h : InP T (.slice a n c) W) : n = T.length := by
  obtain ⟨bs, rfl, h2, _⟩ := h
  obtain ⟨a', c', e⟩ := h2.1.form
  cases e
  rw [List.length_map]
theorem InP.form {T : List PBlock} {v : Value} {W : World} (h : InP T v W) : ∃ a c, v = .slice a T.length c := by
  obtain ⟨bs, rfl, h2, _⟩ := h
  obtain ⟨a', c', e⟩ := h2.1.form
  exact ⟨a', c', by rw [e, List.length_map]⟩
theorem InP.nil (W : World) : InP [] (.slice none 0 0) W := ⟨[], rfl, ⟨⟨rfl, none, 0, rfl, ⟨Nat.le_refl _, Nat.zero_le _⟩, .inl rfl⟩, by simp⟩, by simp [BlocksSmall]⟩
def ShAns (T : List PBlock) (w : World) (e : Ending) (w' : World) : Prop := ∃ a n c, e = .returned (.agg #[.slice a n c]) ∧ InP T (.slice a n c) w' ∧ Below w.heap.size w w'
theorem implOver_i {W : World} {v1 v2 : Value} {U O : List PBlock} (hst : StdAt W) (h1 : InP U v1 W) (h2 : InP O v2 W) : Calls Tryz.prog 11 #[.agg #[v1], .agg #[v2]] W fun e w' => ShAns (overS U O) W e w' := by
  obtain ⟨b1, rfl, i1, s1⟩ := h1
  obtain ⟨b2, rfl, i2, s2⟩ := h2
  refine (implOver_any i1 i2 s1 s2 hst).mono ?_
  rintro e w' ⟨v', bs', rfl, hp, ho, hb⟩
  obtain ⟨a, c, rfl, _⟩ := own_form ho.row
  exact ⟨a, _, c, rfl, ⟨bs', hp, ho.bin, overS_small s1 s2 hp⟩, hb⟩
theorem specOver_i {W : World} {v1 v2 : Value} {U O : List PBlock} (h1 : InP U v1 W) (h2 : InP O v2 W) : Calls Tryz.prog 13 #[.agg #[v1], .agg #[v2]] W fun e w' => ShAns (overS U O) W e w' := by
  obtain ⟨b1, rfl, i1, s1⟩ := h1
  obtain ⟨b2, rfl, i2, s2⟩ := h2
  refine (specOver_any i1 i2 s1 s2).mono ?_
  rintro e w' ⟨v', bs', rfl, hp, ho, hb⟩
  obtain ⟨a, c, rfl, _⟩ := own_form ho.row
  exact ⟨a, _, c, rfl, ⟨bs', hp, ho.bin, overS_small s1 s2 hp⟩, hb⟩
theorem wSheet_i {W : World} {v1 v2 : Value} {T U : List PBlock} (h1 : InP T v1 W) (h2 : InP U v2 W) (e : T = U) : Calls Tryz.prog 12 #[.agg #[v1], .agg #[v2]] W fun e w' => e = .returned (.bool true) ∧ Below W.heap.size W w' := by
  obtain ⟨b1, rfl, i1, s1⟩ := h1
  obtain ⟨b2, rfl, i2, s2⟩ := h2
  have := wSheet_g i1 i2 s1
  rw [eqB_true e] at this
  exact this
theorem specValid_i {W : World} {v : Value} {T : List PBlock} (h : InP T v W) : Calls Tryz.prog 14 #[.agg #[v]] W fun e w' => e = .returned (.bool (sheetB T)) ∧ Below W.heap.size W w' := by
  obtain ⟨bs, rfl, i, s⟩ := h
  exact specValid_any i s
end Go.Proofs.YtpdahhnjhggocaaGreatDoor
namespace Go.Proofs.YtpdahhnjhggocaaGreatDoor
open Go.RowKit
def opq6_0 : Oper := { dst := some 56, op := Op.load 25 (Operand.tmp 5), type := 25, pos := "laws.go:202", after := #[], guard := none }
def opq6_1 : Oper := { dst := some 57, op := Op.load 25 (Operand.tmp 6), type := 25, pos := "laws.go:202", after := #[], guard := none }
def opq6_2 : Oper := { dst := some 58, op := Op.call { callee := Callee.value (Operand.func 11), args := #[Operand.tmp 56, Operand.tmp 57], argTypes := #[25, 25] }, type := 25, pos := "laws.go:202", after := #[{ on := 0, ground := Ground.data }, { on := 1, ground := Ground.data }], guard := none }
def opq6_3 : Oper := { dst := some 59, op := Op.field 25 (Operand.tmp 58) 0, type := 23, pos := "laws.go:202", after := #[{ on := 2, ground := Ground.data }], guard := none }
def opq6_4 : Oper := { dst := some 60, op := Op.call { callee := Callee.builtin Builtin.len, args := #[Operand.tmp 59], argTypes := #[23] }, type := 3, pos := "laws.go:202", after := #[{ on := 3, ground := Ground.data }], guard := none }
def opq6_5 : Oper := { dst := some 61, op := Op.load 25 (Operand.tmp 5), type := 25, pos := "laws.go:202", after := #[], guard := none }
def opq6_6 : Oper := { dst := some 62, op := Op.load 25 (Operand.tmp 6), type := 25, pos := "laws.go:202", after := #[], guard := none }
def opq6_7 : Oper := { dst := some 63, op := Op.call { callee := Callee.value (Operand.func 13), args := #[Operand.tmp 61, Operand.tmp 62], argTypes := #[25, 25] }, type := 25, pos := "laws.go:202", after := #[{ on := 5, ground := Ground.data }, { on := 6, ground := Ground.data }, { on := 2, ground := Ground.chain }], guard := none }
def opq6_8 : Oper := { dst := some 64, op := Op.field 25 (Operand.tmp 63) 0, type := 23, pos := "laws.go:202", after := #[{ on := 7, ground := Ground.data }], guard := none }
def opq6_9 : Oper := { dst := some 65, op := Op.call { callee := Callee.builtin Builtin.len, args := #[Operand.tmp 64], argTypes := #[23] }, type := 3, pos := "laws.go:202", after := #[{ on := 8, ground := Ground.data }], guard := none }
def opq6_10 : Oper := { dst := some 66, op := Op.binOp BinOp.eql 3 (Operand.tmp 60) (Operand.tmp 65) 3, type := 4, pos := "laws.go:202", after := #[{ on := 4, ground := Ground.data }, { on := 9, ground := Ground.data }], guard := none }
def opq6_11 : Oper := { dst := some 4, op := Op.assign (Operand.tmp 66), type := 4, pos := "laws.go:202", after := #[{ on := 10, ground := Ground.data }, { on := 7, ground := Ground.chain }, { on := 0, ground := Ground.phase }, { on := 1, ground := Ground.phase }, { on := 2, ground := Ground.phase }, { on := 3, ground := Ground.phase }, { on := 4, ground := Ground.phase }, { on := 5, ground := Ground.phase }, { on := 6, ground := Ground.phase }, { on := 7, ground := Ground.phase }, { on := 8, ground := Ground.phase }, { on := 9, ground := Ground.phase }, { on := 10, ground := Ground.phase }], guard := none }
def opsq6 : List Oper := [opq6_0, opq6_1, opq6_2, opq6_3, opq6_4, opq6_5, opq6_6, opq6_7, opq6_8, opq6_9, opq6_10, opq6_11]
def Oq6F (TA TB : List PBlock) (j : Nat) (x : Value) (W : World) : Prop := match j with
  | 0 => ∃ a n c, x = .agg #[.slice a n c] ∧ InP TA (.slice a n c) W
  | 1 => ∃ a n c, x = .agg #[.slice a n c] ∧ InP TB (.slice a n c) W
  | 2 => ∃ a n c, x = .agg #[.slice a n c] ∧ InP (overS TA TB) (.slice a n c) W
  | 3 => ∃ a n c, x = .slice a n c ∧ n = ((overS TA TB)).length
  | 4 => x = .int .i64 ((((overS TA TB)).length : Nat) : Int)
  | 5 => ∃ a n c, x = .agg #[.slice a n c] ∧ InP TA (.slice a n c) W
  | 6 => ∃ a n c, x = .agg #[.slice a n c] ∧ InP TB (.slice a n c) W
  | 7 => ∃ a n c, x = .agg #[.slice a n c] ∧ InP (overS TA TB) (.slice a n c) W
  | 8 => ∃ a n c, x = .slice a n c ∧ n = ((overS TA TB)).length
  | 9 => x = .int .i64 ((((overS TA TB)).length : Nat) : Int)
  | 10 => x = .bool true
  | 11 => x = .bool true
  | _ => True
set_option maxHeartbeats 2000000 in
set_option maxRecDepth 10000 in
theorem Oq6F.keep {TA TB : List PBlock} {W W' : World} (hb : Below W.heap.size W W') (j : Nat) (x : Value) (h : Oq6F TA TB j x W) : Oq6F TA TB j x W' := by
  unfold Oq6F at *
  split at h
  · obtain ⟨a, n, c, e, h⟩ := h; exact ⟨a, n, c, e, h.below hb⟩
  · obtain ⟨a, n, c, e, h⟩ := h; exact ⟨a, n, c, e, h.below hb⟩
  · obtain ⟨a, n, c, e, h⟩ := h; exact ⟨a, n, c, e, h.below hb⟩
  · exact h
  · exact h
  · obtain ⟨a, n, c, e, h⟩ := h; exact ⟨a, n, c, e, h.below hb⟩
  · obtain ⟨a, n, c, e, h⟩ := h; exact ⟨a, n, c, e, h.below hb⟩
  · obtain ⟨a, n, c, e, h⟩ := h; exact ⟨a, n, c, e, h.below hb⟩
  · exact h
  · exact h
  · exact h
  · exact h
  · trivial
set_option maxHeartbeats 2000000 in
set_option maxRecDepth 10000 in
theorem regionq6 {Q : Exit → Act → World → Prop} {a : Act} {W0 : World} {TA TB : List PBlock} {gA nA kA gB nB kB : Nat} {aA aB : Option Addr} (cA : W0.cell? ⟨gA, 0, none⟩ = some (.slice aA nA kA)) (IA : InP TA (.slice aA nA kA) W0) (cB : W0.cell? ⟨gB, 0, none⟩ = some (.slice aB nB kB)) (IB : InP TB (.slice aB nB kB) W0) (hst : StdAt W0) (hs5 : a.eval (.tmp 5) = .pointer (some ⟨gA, 0, none⟩)) (hs6 : a.eval (.tmp 6) = .pointer (some ⟨gB, 0, none⟩)) (hsz : a.tmps.size = 118)
    (hQ : ∀ v a' W2, a' = putS a [56, 57, 58, 59, 60, 61, 62, 63, 64, 65, 66, 4] v → v 11 = .bool true → Below W0.heap.size W0 W2 → Q .normal a' W2) : (Code.region 6 opsq6.toArray true).wp Tryz.prog Q a W0 := by
  have hnd : ([56, 57, 58, 59, 60, 61, 62, 63, 64, 65, 66, 4] : List Nat).Nodup := by decide
  refine wp_region_invE0 [56, 57, 58, 59, 60, 61, 62, 63, 64, 65, 66, 4] (Oq6F TA TB) (fun _ W => Below W0.heap.size W0 W) 12 [0, 1, 2, 3, 4, 5, 6, 7, 8, 9, 10, 11] (by kernel_rfl) rfl (by decide) (by kernel_rfl) ?h1 (Below.refl _ _).drew ?hall (fun v w' L hL hF hG => NoPanic.normal (hQ v _ w' rfl (hF 11) hG))
  case h1 =>
    intro i x W hi
    unfold Oq6F
    split <;> first | omega | trivial
  refine AllInv.consQ (o := opq6_0) [] (by kernel_rfl) (by decide) (by kernel_rfl) rfl ?o0 (AllInv.consQ (o := opq6_1) [] (by kernel_rfl) (by decide) (by kernel_rfl) rfl ?o1 (AllInv.consQ (o := opq6_2) [0, 1] (by kernel_rfl) (by decide) (by kernel_rfl) rfl ?o2 (AllInv.consQ (o := opq6_3) [2] (by kernel_rfl) (by decide) (by kernel_rfl) rfl ?o3 (AllInv.consQ (o := opq6_4) [3] (by kernel_rfl) (by decide) (by kernel_rfl) rfl ?o4 (AllInv.consQ (o := opq6_5) [] (by kernel_rfl) (by decide) (by kernel_rfl) rfl ?o5 (AllInv.consQ (o := opq6_6) [] (by kernel_rfl) (by decide) (by kernel_rfl) rfl ?o6 (AllInv.consQ (o := opq6_7) [5, 6, 2] (by kernel_rfl) (by decide) (by kernel_rfl) rfl ?o7 (AllInv.consQ (o := opq6_8) [7] (by kernel_rfl) (by decide) (by kernel_rfl) rfl ?o8 (AllInv.consQ (o := opq6_9) [8] (by kernel_rfl) (by decide) (by kernel_rfl) rfl ?o9 (AllInv.consQ (o := opq6_10) [4, 9] (by kernel_rfl) (by decide) (by kernel_rfl) rfl ?o10 (AllInv.consQ (o := opq6_11) [10, 7, 0, 1, 2, 3, 4, 5, 6, 7, 8, 9, 10] (by kernel_rfl) (by decide) (by kernel_rfl) rfl ?o11 (AllInv.nil))))))))))))
  case o0 =>
    rintro Q' L _ W h0L hpre ⟨v, rfl, hv, hb⟩ K hK
    have k1 := (hb.cell (World.block_lt_of_cell? _ _ cA)).trans cA
    have r5 := (eval_out (v := v) (show 5 ∉ ([56, 57, 58, 59, 60, 61, 62, 63, 64, 65, 66, 4] : List Nat) by decide)).trans hs5
    have he : execOp (putS a [56, 57, 58, 59, 60, 61, 62, 63, 64, 65, 66, 4] v).eval opq6_0 = execOp (Act.eval ⟨#[undef], []⟩) ⟨some 0, .load 25 (.const (.pointer (some ⟨gA, 0, none⟩))), 0, "", #[], none⟩ := by simp only [execOp, eval_const, opq6_0, r5]
    refine Lid.mk ?_
    unfold Oper.wp
    rw [he]
    clear he
    go_simp
    exact hK.out _ _ (InvG.nextL (W := W) hv 0 (.agg #[.slice aA nA kA]) (put_in 0 hnd rfl) (fun _ _ _ h => h) ⟨_, _, _, rfl, IA.below hb⟩ hb)
  case o1 =>
    rintro Q' L _ W h0L hpre ⟨v, rfl, hv, hb⟩ K hK
    have k1 := (hb.cell (World.block_lt_of_cell? _ _ cB)).trans cB
    have r6 := (eval_out (v := v) (show 6 ∉ ([56, 57, 58, 59, 60, 61, 62, 63, 64, 65, 66, 4] : List Nat) by decide)).trans hs6
    have he : execOp (putS a [56, 57, 58, 59, 60, 61, 62, 63, 64, 65, 66, 4] v).eval opq6_1 = execOp (Act.eval ⟨#[undef], []⟩) ⟨some 0, .load 25 (.const (.pointer (some ⟨gB, 0, none⟩))), 0, "", #[], none⟩ := by simp only [execOp, eval_const, opq6_1, r6]
    refine Lid.mk ?_
    unfold Oper.wp
    rw [he]
    clear he
    go_simp
    exact hK.out _ _ (InvG.nextL (W := W) hv 1 (.agg #[.slice aB nB kB]) (put_in 1 hnd rfl) (fun _ _ _ h => h) ⟨_, _, _, rfl, IB.below hb⟩ hb)
  case o2 =>
    rintro Q' L _ W h0L hpre ⟨v, rfl, hv, hb⟩ K hK
    obtain ⟨q1, m1, c1, e1, h1⟩ := hv 0 (hpre 0 (by simp))
    obtain ⟨q2, m2, c2, e2, h2⟩ := hv 1 (hpre 1 (by simp))
    have r56 : (putS a [56, 57, 58, 59, 60, 61, 62, 63, 64, 65, 66, 4] v).eval (.tmp 56) = _ := (eval_in 0 hnd rfl (by omega)).trans e1
    have r57 : (putS a [56, 57, 58, 59, 60, 61, 62, 63, 64, 65, 66, 4] v).eval (.tmp 57) = _ := (eval_in 1 hnd rfl (by omega)).trans e2
    have HPW := implOver_i (hst.below hb) h1 h2
    have he : execOp (putS a [56, 57, 58, 59, 60, 61, 62, 63, 64, 65, 66, 4] v).eval opq6_2 = execOp (Act.eval ⟨#[undef], []⟩) ⟨some 0, .call { callee := .value (.func 11), args := #[.const (.agg #[.slice q1 m1 c1]), .const (.agg #[.slice q2 m2 c2])], argTypes := #[25, 25] }, 0, "", #[], none⟩ := by simp only [execOp, eval_const, opq6_2, resolve, eval_func, List.map_toArray, List.map_cons, List.map_nil, r56, r57]
    refine Lid.mk ?_
    unfold Oper.wp
    rw [he]
    clear he
    go_simp
    refine HPW.mono ?_
    rintro e W' ⟨q, m, cc, rfl, hP, b'⟩
    exact hK.out _ _ (InvG.nextL (W := W) hv 2 (.agg #[.slice q m cc]) (put_in 2 hnd rfl) (fun j y _ h => Oq6F.keep b' j y h) ⟨q, m, cc, rfl, hP⟩ (hb.trans (b'.mono hb.size)))
  case o3 =>
    rintro Q' L _ W h0L hpre ⟨v, rfl, hv, hb⟩ K hK
    obtain ⟨q1, m1, c1, e1, h1⟩ := hv 2 (hpre 2 (by simp))
    have r58 : (putS a [56, 57, 58, 59, 60, 61, 62, 63, 64, 65, 66, 4] v).eval (.tmp 58) = _ := (eval_in 2 hnd rfl (by omega)).trans e1
    have hf : (Instr.field 25 (.agg #[.slice q1 m1 c1]) 0).run Tryz.prog W = .ok (.slice q1 m1 c1) W := by kernel_rfl
    have he : execOp (putS a [56, 57, 58, 59, 60, 61, 62, 63, 64, 65, 66, 4] v).eval opq6_3 = execOp (Act.eval ⟨#[undef], []⟩) ⟨some 0, .field 25 (.const (.agg #[.slice q1 m1 c1])) 0, 0, "", #[], none⟩ := by simp only [execOp, eval_const, opq6_3, r58]
    refine Lid.mk ?_
    unfold Oper.wp
    rw [he]
    clear he
    go_simp
    exact hK.out _ _ (InvG.nextL (W := W) hv 3 (.slice q1 m1 c1) (put_in 3 hnd rfl) (fun _ _ _ h => h) ⟨q1, m1, c1, rfl, h1.len⟩ hb)
  case o4 =>
    rintro Q' L _ W h0L hpre ⟨v, rfl, hv, hb⟩ K hK
    obtain ⟨q1, m1, c1, e1, l1⟩ := hv 3 (hpre 3 (by simp))
    have r59 : (putS a [56, 57, 58, 59, 60, 61, 62, 63, 64, 65, 66, 4] v).eval (.tmp 59) = _ := (eval_in 3 hnd rfl (by omega)).trans e1
    refine Lid.mk ?_
    unfold Oper.wp
    simp only [execOp, opq6_4, resolve, List.map_toArray, List.map_cons, List.map_nil, r59]
    go_simp
    exact hK.out _ _ (InvG.nextL (W := W) hv 4 (.int .i64 ((((overS TA TB)).length : Nat) : Int)) (put_in 4 hnd rfl) (fun _ _ _ h => h) rfl hb)
  case o5 =>
    rintro Q' L _ W h0L hpre ⟨v, rfl, hv, hb⟩ K hK
    have k1 := (hb.cell (World.block_lt_of_cell? _ _ cA)).trans cA
    have r5 := (eval_out (v := v) (show 5 ∉ ([56, 57, 58, 59, 60, 61, 62, 63, 64, 65, 66, 4] : List Nat) by decide)).trans hs5
    have he : execOp (putS a [56, 57, 58, 59, 60, 61, 62, 63, 64, 65, 66, 4] v).eval opq6_5 = execOp (Act.eval ⟨#[undef], []⟩) ⟨some 0, .load 25 (.const (.pointer (some ⟨gA, 0, none⟩))), 0, "", #[], none⟩ := by simp only [execOp, eval_const, opq6_5, r5]
    refine Lid.mk ?_
    unfold Oper.wp
    rw [he]
    clear he
    go_simp
    exact hK.out _ _ (InvG.nextL (W := W) hv 5 (.agg #[.slice aA nA kA]) (put_in 5 hnd rfl) (fun _ _ _ h => h) ⟨_, _, _, rfl, IA.below hb⟩ hb)
  case o6 =>
    rintro Q' L _ W h0L hpre ⟨v, rfl, hv, hb⟩ K hK
    have k1 := (hb.cell (World.block_lt_of_cell? _ _ cB)).trans cB
    have r6 := (eval_out (v := v) (show 6 ∉ ([56, 57, 58, 59, 60, 61, 62, 63, 64, 65, 66, 4] : List Nat) by decide)).trans hs6
    have he : execOp (putS a [56, 57, 58, 59, 60, 61, 62, 63, 64, 65, 66, 4] v).eval opq6_6 = execOp (Act.eval ⟨#[undef], []⟩) ⟨some 0, .load 25 (.const (.pointer (some ⟨gB, 0, none⟩))), 0, "", #[], none⟩ := by simp only [execOp, eval_const, opq6_6, r6]
    refine Lid.mk ?_
    unfold Oper.wp
    rw [he]
    clear he
    go_simp
    exact hK.out _ _ (InvG.nextL (W := W) hv 6 (.agg #[.slice aB nB kB]) (put_in 6 hnd rfl) (fun _ _ _ h => h) ⟨_, _, _, rfl, IB.below hb⟩ hb)
  case o7 =>
    rintro Q' L _ W h0L hpre ⟨v, rfl, hv, hb⟩ K hK
    obtain ⟨q1, m1, c1, e1, h1⟩ := hv 5 (hpre 5 (by simp))
    obtain ⟨q2, m2, c2, e2, h2⟩ := hv 6 (hpre 6 (by simp))
    have r61 : (putS a [56, 57, 58, 59, 60, 61, 62, 63, 64, 65, 66, 4] v).eval (.tmp 61) = _ := (eval_in 5 hnd rfl (by omega)).trans e1
    have r62 : (putS a [56, 57, 58, 59, 60, 61, 62, 63, 64, 65, 66, 4] v).eval (.tmp 62) = _ := (eval_in 6 hnd rfl (by omega)).trans e2
    have HPW := specOver_i h1 h2
    have he : execOp (putS a [56, 57, 58, 59, 60, 61, 62, 63, 64, 65, 66, 4] v).eval opq6_7 = execOp (Act.eval ⟨#[undef], []⟩) ⟨some 0, .call { callee := .value (.func 13), args := #[.const (.agg #[.slice q1 m1 c1]), .const (.agg #[.slice q2 m2 c2])], argTypes := #[25, 25] }, 0, "", #[], none⟩ := by simp only [execOp, eval_const, opq6_7, resolve, eval_func, List.map_toArray, List.map_cons, List.map_nil, r61, r62]
    refine Lid.mk ?_
    unfold Oper.wp
    rw [he]
    clear he
    go_simp
    refine HPW.mono ?_
    rintro e W' ⟨q, m, cc, rfl, hP, b'⟩
    exact hK.out _ _ (InvG.nextL (W := W) hv 7 (.agg #[.slice q m cc]) (put_in 7 hnd rfl) (fun j y _ h => Oq6F.keep b' j y h) ⟨q, m, cc, rfl, hP⟩ (hb.trans (b'.mono hb.size)))
  case o8 =>
    rintro Q' L _ W h0L hpre ⟨v, rfl, hv, hb⟩ K hK
    obtain ⟨q1, m1, c1, e1, h1⟩ := hv 7 (hpre 7 (by simp))
    have r63 : (putS a [56, 57, 58, 59, 60, 61, 62, 63, 64, 65, 66, 4] v).eval (.tmp 63) = _ := (eval_in 7 hnd rfl (by omega)).trans e1
    have hf : (Instr.field 25 (.agg #[.slice q1 m1 c1]) 0).run Tryz.prog W = .ok (.slice q1 m1 c1) W := by kernel_rfl
    have he : execOp (putS a [56, 57, 58, 59, 60, 61, 62, 63, 64, 65, 66, 4] v).eval opq6_8 = execOp (Act.eval ⟨#[undef], []⟩) ⟨some 0, .field 25 (.const (.agg #[.slice q1 m1 c1])) 0, 0, "", #[], none⟩ := by simp only [execOp, eval_const, opq6_8, r63]
    refine Lid.mk ?_
    unfold Oper.wp
    rw [he]
    clear he
    go_simp
    exact hK.out _ _ (InvG.nextL (W := W) hv 8 (.slice q1 m1 c1) (put_in 8 hnd rfl) (fun _ _ _ h => h) ⟨q1, m1, c1, rfl, h1.len⟩ hb)
  case o9 =>
    rintro Q' L _ W h0L hpre ⟨v, rfl, hv, hb⟩ K hK
    obtain ⟨q1, m1, c1, e1, l1⟩ := hv 8 (hpre 8 (by simp))
    have r64 : (putS a [56, 57, 58, 59, 60, 61, 62, 63, 64, 65, 66, 4] v).eval (.tmp 64) = _ := (eval_in 8 hnd rfl (by omega)).trans e1
    refine Lid.mk ?_
    unfold Oper.wp
    simp only [execOp, opq6_9, resolve, List.map_toArray, List.map_cons, List.map_nil, r64]
    go_simp
    exact hK.out _ _ (InvG.nextL (W := W) hv 9 (.int .i64 ((((overS TA TB)).length : Nat) : Int)) (put_in 9 hnd rfl) (fun _ _ _ h => h) rfl hb)
  case o10 =>
    rintro Q' L _ W h0L hpre ⟨v, rfl, hv, hb⟩ K hK
    have r60 : (putS a [56, 57, 58, 59, 60, 61, 62, 63, 64, 65, 66, 4] v).eval (.tmp 60) = _ := (eval_in 4 hnd rfl (by omega)).trans (hv 4 (hpre 4 (by simp)))
    have r65 : (putS a [56, 57, 58, 59, 60, 61, 62, 63, 64, 65, 66, 4] v).eval (.tmp 65) = _ := (eval_in 9 hnd rfl (by omega)).trans (hv 9 (hpre 9 (by simp)))
    refine Lid.mk ?_
    unfold Oper.wp
    simp only [execOp, opq6_10, r60, r65]
    go_simp
    exact hK.out _ _ (InvG.nextL (W := W) hv 10 (.bool true) (put_in 10 hnd rfl) (fun _ _ _ h => h) rfl hb)
  case o11 =>
    rintro Q' L _ W h0L hpre ⟨v, rfl, hv, hb⟩ K hK
    have r66 : (putS a [56, 57, 58, 59, 60, 61, 62, 63, 64, 65, 66, 4] v).eval (.tmp 66) = _ := (eval_in 10 hnd rfl (by omega)).trans (hv 10 (hpre 10 (by simp)))
    have he : execOp (putS a [56, 57, 58, 59, 60, 61, 62, 63, 64, 65, 66, 4] v).eval opq6_11 = execOp (Act.eval ⟨#[undef], []⟩) ⟨some 0, .assign (.const (.bool true)), 0, "", #[], none⟩ := by simp only [execOp, eval_const, opq6_11, r66]
    refine Lid.mk ?_
    unfold Oper.wp
    rw [he]
    clear he
    go_simp
    exact hK.out _ _ (InvG.nextL (W := W) hv 11 (.bool true) (put_in 11 hnd rfl) (fun _ _ _ h => h) rfl hb)
def opq9_0 : Oper := { dst := some 71, op := Op.load 25 (Operand.tmp 9), type := 25, pos := "laws.go:206", after := #[], guard := none }
def opq9_1 : Oper := { dst := some 72, op := Op.load 25 (Operand.tmp 5), type := 25, pos := "laws.go:206", after := #[], guard := none }
def opq9_2 : Oper := { dst := some 73, op := Op.load 25 (Operand.tmp 6), type := 25, pos := "laws.go:206", after := #[], guard := none }
def opq9_3 : Oper := { dst := some 74, op := Op.call { callee := Callee.value (Operand.func 13), args := #[Operand.tmp 72, Operand.tmp 73], argTypes := #[25, 25] }, type := 25, pos := "laws.go:206", after := #[{ on := 1, ground := Ground.data }, { on := 2, ground := Ground.data }], guard := none }
def opq9_4 : Oper := { dst := some 75, op := Op.call { callee := Callee.value (Operand.func 12), args := #[Operand.tmp 71, Operand.tmp 74], argTypes := #[25, 25] }, type := 4, pos := "laws.go:206", after := #[{ on := 0, ground := Ground.data }, { on := 3, ground := Ground.data }, { on := 3, ground := Ground.chain }], guard := none }
def opq9_5 : Oper := { dst := some 76, op := Op.unOp UnOp.not 4 (Operand.tmp 75), type := 4, pos := "laws.go:206", after := #[{ on := 4, ground := Ground.data }], guard := none }
def opq9_6 : Oper := { dst := some 77, op := Op.move (Operand.tmp 76), type := 4, pos := "laws.go:206", after := #[{ on := 5, ground := Ground.data }, { on := 4, ground := Ground.chain }], guard := none }
def opq9_7 : Oper := { dst := some 78, op := Op.load 25 (Operand.tmp 9), type := 25, pos := "laws.go:206", after := #[{ on := 6, ground := Ground.guard }], guard := some (6, false) }
def opq9_8 : Oper := { dst := some 79, op := Op.load 25 (Operand.tmp 6), type := 25, pos := "laws.go:206", after := #[{ on := 6, ground := Ground.guard }], guard := some (6, false) }
def opq9_9 : Oper := { dst := some 80, op := Op.call { callee := Callee.value (Operand.func 11), args := #[Operand.tmp 78, Operand.tmp 79], argTypes := #[25, 25] }, type := 25, pos := "laws.go:206", after := #[{ on := 7, ground := Ground.data }, { on := 8, ground := Ground.data }, { on := 6, ground := Ground.chain }, { on := 6, ground := Ground.guard }], guard := some (6, false) }
def opq9_10 : Oper := { dst := some 81, op := Op.load 25 (Operand.tmp 9), type := 25, pos := "laws.go:206", after := #[{ on := 6, ground := Ground.guard }], guard := some (6, false) }
def opq9_11 : Oper := { dst := some 82, op := Op.call { callee := Callee.value (Operand.func 12), args := #[Operand.tmp 80, Operand.tmp 81], argTypes := #[25, 25] }, type := 4, pos := "laws.go:206", after := #[{ on := 9, ground := Ground.data }, { on := 10, ground := Ground.data }, { on := 9, ground := Ground.chain }, { on := 6, ground := Ground.guard }], guard := some (6, false) }
def opq9_12 : Oper := { dst := some 83, op := Op.unOp UnOp.not 4 (Operand.tmp 82), type := 4, pos := "laws.go:206", after := #[{ on := 11, ground := Ground.data }, { on := 6, ground := Ground.guard }], guard := some (6, false) }
def opq9_13 : Oper := { dst := some 84, op := Op.pick (Operand.tmp 77) (Operand.const (Value.bool true)) (Operand.tmp 83), type := 4, pos := "laws.go:206", after := #[{ on := 6, ground := Ground.data }, { on := 12, ground := Ground.data }], guard := none }
def opq9_14 : Oper := { dst := some 85, op := Op.move (Operand.tmp 84), type := 4, pos := "laws.go:206", after := #[{ on := 13, ground := Ground.data }, { on := 11, ground := Ground.chain }], guard := none }
def opq9_15 : Oper := { dst := some 86, op := Op.load 25 (Operand.tmp 10), type := 25, pos := "laws.go:206", after := #[{ on := 14, ground := Ground.guard }], guard := some (14, false) }
def opq9_16 : Oper := { dst := some 87, op := Op.load 25 (Operand.tmp 5), type := 25, pos := "laws.go:206", after := #[{ on := 14, ground := Ground.guard }], guard := some (14, false) }
def opq9_17 : Oper := { dst := some 88, op := Op.call { callee := Callee.value (Operand.func 11), args := #[Operand.tmp 86, Operand.tmp 87], argTypes := #[25, 25] }, type := 25, pos := "laws.go:206", after := #[{ on := 15, ground := Ground.data }, { on := 16, ground := Ground.data }, { on := 14, ground := Ground.chain }, { on := 14, ground := Ground.guard }], guard := some (14, false) }
def opq9_18 : Oper := { dst := some 89, op := Op.load 25 (Operand.tmp 5), type := 25, pos := "laws.go:206", after := #[{ on := 14, ground := Ground.guard }], guard := some (14, false) }
def opq9_19 : Oper := { dst := some 90, op := Op.call { callee := Callee.value (Operand.func 12), args := #[Operand.tmp 88, Operand.tmp 89], argTypes := #[25, 25] }, type := 4, pos := "laws.go:206", after := #[{ on := 17, ground := Ground.data }, { on := 18, ground := Ground.data }, { on := 17, ground := Ground.chain }, { on := 14, ground := Ground.guard }], guard := some (14, false) }
def opq9_20 : Oper := { dst := some 91, op := Op.unOp UnOp.not 4 (Operand.tmp 90), type := 4, pos := "laws.go:206", after := #[{ on := 19, ground := Ground.data }, { on := 14, ground := Ground.guard }], guard := some (14, false) }
def opq9_21 : Oper := { dst := some 92, op := Op.pick (Operand.tmp 85) (Operand.const (Value.bool true)) (Operand.tmp 91), type := 4, pos := "laws.go:206", after := #[{ on := 14, ground := Ground.data }, { on := 20, ground := Ground.data }], guard := none }
def opq9_22 : Oper := { dst := some 93, op := Op.move (Operand.tmp 92), type := 4, pos := "laws.go:206", after := #[{ on := 21, ground := Ground.data }, { on := 19, ground := Ground.chain }], guard := none }
def opq9_23 : Oper := { dst := some 94, op := Op.load 25 (Operand.tmp 5), type := 25, pos := "laws.go:206", after := #[{ on := 22, ground := Ground.guard }], guard := some (22, false) }
def opq9_24 : Oper := { dst := some 95, op := Op.load 25 (Operand.tmp 10), type := 25, pos := "laws.go:206", after := #[{ on := 22, ground := Ground.guard }], guard := some (22, false) }
def opq9_25 : Oper := { dst := some 96, op := Op.call { callee := Callee.value (Operand.func 11), args := #[Operand.tmp 94, Operand.tmp 95], argTypes := #[25, 25] }, type := 25, pos := "laws.go:206", after := #[{ on := 23, ground := Ground.data }, { on := 24, ground := Ground.data }, { on := 22, ground := Ground.chain }, { on := 22, ground := Ground.guard }], guard := some (22, false) }
def opq9_26 : Oper := { dst := some 97, op := Op.load 25 (Operand.tmp 5), type := 25, pos := "laws.go:206", after := #[{ on := 22, ground := Ground.guard }], guard := some (22, false) }
def opq9_27 : Oper := { dst := some 98, op := Op.call { callee := Callee.value (Operand.func 12), args := #[Operand.tmp 96, Operand.tmp 97], argTypes := #[25, 25] }, type := 4, pos := "laws.go:206", after := #[{ on := 25, ground := Ground.data }, { on := 26, ground := Ground.data }, { on := 25, ground := Ground.chain }, { on := 22, ground := Ground.guard }], guard := some (22, false) }
def opq9_28 : Oper := { dst := some 99, op := Op.unOp UnOp.not 4 (Operand.tmp 98), type := 4, pos := "laws.go:206", after := #[{ on := 27, ground := Ground.data }, { on := 22, ground := Ground.guard }], guard := some (22, false) }
def opq9_29 : Oper := { dst := some 100, op := Op.pick (Operand.tmp 93) (Operand.const (Value.bool true)) (Operand.tmp 99), type := 4, pos := "laws.go:206", after := #[{ on := 22, ground := Ground.data }, { on := 28, ground := Ground.data }], guard := none }
def opq9_30 : Oper := { dst := some 101, op := Op.move (Operand.tmp 100), type := 4, pos := "laws.go:206", after := #[{ on := 29, ground := Ground.data }, { on := 27, ground := Ground.chain }], guard := none }
def opq9_31 : Oper := { dst := some 102, op := Op.load 25 (Operand.tmp 5), type := 25, pos := "laws.go:206", after := #[{ on := 30, ground := Ground.guard }], guard := some (30, false) }
def opq9_32 : Oper := { dst := some 103, op := Op.load 25 (Operand.tmp 5), type := 25, pos := "laws.go:206", after := #[{ on := 30, ground := Ground.guard }], guard := some (30, false) }
def opq9_33 : Oper := { dst := some 104, op := Op.call { callee := Callee.value (Operand.func 11), args := #[Operand.tmp 102, Operand.tmp 103], argTypes := #[25, 25] }, type := 25, pos := "laws.go:206", after := #[{ on := 31, ground := Ground.data }, { on := 32, ground := Ground.data }, { on := 30, ground := Ground.chain }, { on := 30, ground := Ground.guard }], guard := some (30, false) }
def opq9_34 : Oper := { dst := some 105, op := Op.load 25 (Operand.tmp 5), type := 25, pos := "laws.go:206", after := #[{ on := 30, ground := Ground.guard }], guard := some (30, false) }
def opq9_35 : Oper := { dst := some 106, op := Op.call { callee := Callee.value (Operand.func 12), args := #[Operand.tmp 104, Operand.tmp 105], argTypes := #[25, 25] }, type := 4, pos := "laws.go:206", after := #[{ on := 33, ground := Ground.data }, { on := 34, ground := Ground.data }, { on := 33, ground := Ground.chain }, { on := 30, ground := Ground.guard }], guard := some (30, false) }
def opq9_36 : Oper := { dst := some 107, op := Op.unOp UnOp.not 4 (Operand.tmp 106), type := 4, pos := "laws.go:206", after := #[{ on := 35, ground := Ground.data }, { on := 30, ground := Ground.guard }], guard := some (30, false) }
def opq9_37 : Oper := { dst := some 108, op := Op.pick (Operand.tmp 101) (Operand.const (Value.bool true)) (Operand.tmp 107), type := 4, pos := "laws.go:206", after := #[{ on := 30, ground := Ground.data }, { on := 36, ground := Ground.data }], guard := none }
def opsq9 : List Oper := [opq9_0, opq9_1, opq9_2, opq9_3, opq9_4, opq9_5, opq9_6, opq9_7, opq9_8, opq9_9, opq9_10, opq9_11, opq9_12, opq9_13, opq9_14, opq9_15, opq9_16, opq9_17, opq9_18, opq9_19, opq9_20, opq9_21, opq9_22, opq9_23, opq9_24, opq9_25, opq9_26, opq9_27, opq9_28, opq9_29, opq9_30, opq9_31, opq9_32, opq9_33, opq9_34, opq9_35, opq9_36, opq9_37]
def Oq9F (TA TB : List PBlock) (j : Nat) (x : Value) (W : World) : Prop := match j with
  | 0 => ∃ a n c, x = .agg #[.slice a n c] ∧ InP (overS TA TB) (.slice a n c) W
  | 1 => ∃ a n c, x = .agg #[.slice a n c] ∧ InP TA (.slice a n c) W
  | 2 => ∃ a n c, x = .agg #[.slice a n c] ∧ InP TB (.slice a n c) W
  | 3 => ∃ a n c, x = .agg #[.slice a n c] ∧ InP (overS TA TB) (.slice a n c) W
  | 4 => x = .bool true
  | 5 => x = .bool false
  | 6 => x = .bool false
  | 7 => ∃ a n c, x = .agg #[.slice a n c] ∧ InP (overS TA TB) (.slice a n c) W
  | 8 => ∃ a n c, x = .agg #[.slice a n c] ∧ InP TB (.slice a n c) W
  | 9 => ∃ a n c, x = .agg #[.slice a n c] ∧ InP (overS (overS TA TB) TB) (.slice a n c) W
  | 10 => ∃ a n c, x = .agg #[.slice a n c] ∧ InP (overS TA TB) (.slice a n c) W
  | 11 => x = .bool true
  | 12 => x = .bool false
  | 13 => x = .bool false
  | 14 => x = .bool false
  | 15 => ∃ a n c, x = .agg #[.slice a n c] ∧ InP [] (.slice a n c) W
  | 16 => ∃ a n c, x = .agg #[.slice a n c] ∧ InP TA (.slice a n c) W
  | 17 => ∃ a n c, x = .agg #[.slice a n c] ∧ InP (overS [] TA) (.slice a n c) W
  | 18 => ∃ a n c, x = .agg #[.slice a n c] ∧ InP TA (.slice a n c) W
  | 19 => x = .bool true
  | 20 => x = .bool false
  | 21 => x = .bool false
  | 22 => x = .bool false
  | 23 => ∃ a n c, x = .agg #[.slice a n c] ∧ InP TA (.slice a n c) W
  | 24 => ∃ a n c, x = .agg #[.slice a n c] ∧ InP [] (.slice a n c) W
  | 25 => ∃ a n c, x = .agg #[.slice a n c] ∧ InP (overS TA []) (.slice a n c) W
  | 26 => ∃ a n c, x = .agg #[.slice a n c] ∧ InP TA (.slice a n c) W
  | 27 => x = .bool true
  | 28 => x = .bool false
  | 29 => x = .bool false
  | 30 => x = .bool false
  | 31 => ∃ a n c, x = .agg #[.slice a n c] ∧ InP TA (.slice a n c) W
  | 32 => ∃ a n c, x = .agg #[.slice a n c] ∧ InP TA (.slice a n c) W
  | 33 => ∃ a n c, x = .agg #[.slice a n c] ∧ InP (overS TA TA) (.slice a n c) W
  | 34 => ∃ a n c, x = .agg #[.slice a n c] ∧ InP TA (.slice a n c) W
  | 35 => x = .bool true
  | 36 => x = .bool false
  | 37 => x = .bool false
  | _ => True
set_option maxHeartbeats 2000000 in
set_option maxRecDepth 10000 in
theorem Oq9F.keep {TA TB : List PBlock} {W W' : World} (hb : Below W.heap.size W W') (j : Nat) (x : Value) (h : Oq9F TA TB j x W) : Oq9F TA TB j x W' := by
  unfold Oq9F at *
  split at h
  · obtain ⟨a, n, c, e, h⟩ := h; exact ⟨a, n, c, e, h.below hb⟩
  · obtain ⟨a, n, c, e, h⟩ := h; exact ⟨a, n, c, e, h.below hb⟩
  · obtain ⟨a, n, c, e, h⟩ := h; exact ⟨a, n, c, e, h.below hb⟩
  · obtain ⟨a, n, c, e, h⟩ := h; exact ⟨a, n, c, e, h.below hb⟩
  · exact h
  · exact h
  · exact h
  · obtain ⟨a, n, c, e, h⟩ := h; exact ⟨a, n, c, e, h.below hb⟩
  · obtain ⟨a, n, c, e, h⟩ := h; exact ⟨a, n, c, e, h.below hb⟩
  · obtain ⟨a, n, c, e, h⟩ := h; exact ⟨a, n, c, e, h.below hb⟩
  · obtain ⟨a, n, c, e, h⟩ := h; exact ⟨a, n, c, e, h.below hb⟩
  · exact h
  · exact h
  · exact h
  · exact h
  · obtain ⟨a, n, c, e, h⟩ := h; exact ⟨a, n, c, e, h.below hb⟩
  · obtain ⟨a, n, c, e, h⟩ := h; exact ⟨a, n, c, e, h.below hb⟩
  · obtain ⟨a, n, c, e, h⟩ := h; exact ⟨a, n, c, e, h.below hb⟩
  · obtain ⟨a, n, c, e, h⟩ := h; exact ⟨a, n, c, e, h.below hb⟩
  · exact h
  · exact h
  · exact h
  · exact h
  · obtain ⟨a, n, c, e, h⟩ := h; exact ⟨a, n, c, e, h.below hb⟩
  · obtain ⟨a, n, c, e, h⟩ := h; exact ⟨a, n, c, e, h.below hb⟩
  · obtain ⟨a, n, c, e, h⟩ := h; exact ⟨a, n, c, e, h.below hb⟩
  · obtain ⟨a, n, c, e, h⟩ := h; exact ⟨a, n, c, e, h.below hb⟩
  · exact h
  · exact h
  · exact h
  · exact h
  · obtain ⟨a, n, c, e, h⟩ := h; exact ⟨a, n, c, e, h.below hb⟩
  · obtain ⟨a, n, c, e, h⟩ := h; exact ⟨a, n, c, e, h.below hb⟩
  · obtain ⟨a, n, c, e, h⟩ := h; exact ⟨a, n, c, e, h.below hb⟩
  · obtain ⟨a, n, c, e, h⟩ := h; exact ⟨a, n, c, e, h.below hb⟩
  · exact h
  · exact h
  · exact h
  · trivial
set_option maxHeartbeats 2000000 in
set_option maxRecDepth 10000 in
theorem regionq9 {Q : Exit → Act → World → Prop} {a : Act} {W0 : World} {TA TB : List PBlock} {gM nM kM gA nA kA gB nB kB gN nN kN : Nat} {aM aA aB aN : Option Addr} (cM : W0.cell? ⟨gM, 0, none⟩ = some (.slice aM nM kM)) (IM : InP (overS TA TB) (.slice aM nM kM) W0) (cA : W0.cell? ⟨gA, 0, none⟩ = some (.slice aA nA kA)) (IA : InP TA (.slice aA nA kA) W0) (cB : W0.cell? ⟨gB, 0, none⟩ = some (.slice aB nB kB)) (IB : InP TB (.slice aB nB kB) W0) (cN : W0.cell? ⟨gN, 0, none⟩ = some (.slice aN nN kN)) (IN : InP [] (.slice aN nN kN) W0) (hst : StdAt W0) (E1 : overS (overS TA TB) TB = overS TA TB) (E2 : overS [] TA = TA) (E3 : overS TA [] = TA) (E4 : overS TA TA = TA) (hs9 : a.eval (.tmp 9) = .pointer (some ⟨gM, 0, none⟩)) (hs5 : a.eval (.tmp 5) = .pointer (some ⟨gA, 0, none⟩)) (hs6 : a.eval (.tmp 6) = .pointer (some ⟨gB, 0, none⟩)) (hs10 : a.eval (.tmp 10) = .pointer (some ⟨gN, 0, none⟩)) (hsz : a.tmps.size = 118)
    (hQ : ∀ v a' W2, a' = putS a [71, 72, 73, 74, 75, 76, 77, 78, 79, 80, 81, 82, 83, 84, 85, 86, 87, 88, 89, 90, 91, 92, 93, 94, 95, 96, 97, 98, 99, 100, 101, 102, 103, 104, 105, 106, 107, 108] v → v 37 = .bool false → Below W0.heap.size W0 W2 → Q .normal a' W2) : (Code.region 9 opsq9.toArray true).wp Tryz.prog Q a W0 := by
  have hnd : ([71, 72, 73, 74, 75, 76, 77, 78, 79, 80, 81, 82, 83, 84, 85, 86, 87, 88, 89, 90, 91, 92, 93, 94, 95, 96, 97, 98, 99, 100, 101, 102, 103, 104, 105, 106, 107, 108] : List Nat).Nodup := by decide
  refine wp_region_invE0 [71, 72, 73, 74, 75, 76, 77, 78, 79, 80, 81, 82, 83, 84, 85, 86, 87, 88, 89, 90, 91, 92, 93, 94, 95, 96, 97, 98, 99, 100, 101, 102, 103, 104, 105, 106, 107, 108] (Oq9F TA TB) (fun _ W => Below W0.heap.size W0 W) 38 [0, 1, 2, 3, 4, 5, 6, 7, 8, 9, 10, 11, 12, 13, 14, 15, 16, 17, 18, 19, 20, 21, 22, 23, 24, 25, 26, 27, 28, 29, 30, 31, 32, 33, 34, 35, 36, 37] (by kernel_rfl) rfl (by decide) (by kernel_rfl) ?h1 (Below.refl _ _).drew ?hall (fun v w' L hL hF hG => NoPanic.normal (hQ v _ w' rfl (hF 37) hG))
  case h1 =>
    intro i x W hi
    unfold Oq9F
    split <;> first | omega | trivial
  refine AllInv.consQ (o := opq9_0) [] (by kernel_rfl) (by decide) (by kernel_rfl) rfl ?o0 (AllInv.consQ (o := opq9_1) [] (by kernel_rfl) (by decide) (by kernel_rfl) rfl ?o1 (AllInv.consQ (o := opq9_2) [] (by kernel_rfl) (by decide) (by kernel_rfl) rfl ?o2 (AllInv.consQ (o := opq9_3) [1, 2] (by kernel_rfl) (by decide) (by kernel_rfl) rfl ?o3 (AllInv.consQ (o := opq9_4) [0, 3, 3] (by kernel_rfl) (by decide) (by kernel_rfl) rfl ?o4 (AllInv.consQ (o := opq9_5) [4] (by kernel_rfl) (by decide) (by kernel_rfl) rfl ?o5 (AllInv.consQ (o := opq9_6) [5, 4] (by kernel_rfl) (by decide) (by kernel_rfl) rfl ?o6 (AllInv.consG (o := opq9_7) (ok := opq9_6) [6] (by kernel_rfl) (by decide) (by kernel_rfl) 6 77 false rfl (by kernel_rfl) rfl ?g7 ?o7 (AllInv.consG (o := opq9_8) (ok := opq9_6) [6] (by kernel_rfl) (by decide) (by kernel_rfl) 6 77 false rfl (by kernel_rfl) rfl ?g8 ?o8 (AllInv.consG (o := opq9_9) (ok := opq9_6) [7, 8, 6, 6] (by kernel_rfl) (by decide) (by kernel_rfl) 6 77 false rfl (by kernel_rfl) rfl ?g9 ?o9 (AllInv.consG (o := opq9_10) (ok := opq9_6) [6] (by kernel_rfl) (by decide) (by kernel_rfl) 6 77 false rfl (by kernel_rfl) rfl ?g10 ?o10 (AllInv.consG (o := opq9_11) (ok := opq9_6) [9, 10, 9, 6] (by kernel_rfl) (by decide) (by kernel_rfl) 6 77 false rfl (by kernel_rfl) rfl ?g11 ?o11 (AllInv.consG (o := opq9_12) (ok := opq9_6) [11, 6] (by kernel_rfl) (by decide) (by kernel_rfl) 6 77 false rfl (by kernel_rfl) rfl ?g12 ?o12 (AllInv.consQ (o := opq9_13) [6, 12] (by kernel_rfl) (by decide) (by kernel_rfl) rfl ?o13 (AllInv.consQ (o := opq9_14) [13, 11] (by kernel_rfl) (by decide) (by kernel_rfl) rfl ?o14 (AllInv.consG (o := opq9_15) (ok := opq9_14) [14] (by kernel_rfl) (by decide) (by kernel_rfl) 14 85 false rfl (by kernel_rfl) rfl ?g15 ?o15 (AllInv.consG (o := opq9_16) (ok := opq9_14) [14] (by kernel_rfl) (by decide) (by kernel_rfl) 14 85 false rfl (by kernel_rfl) rfl ?g16 ?o16 (AllInv.consG (o := opq9_17) (ok := opq9_14) [15, 16, 14, 14] (by kernel_rfl) (by decide) (by kernel_rfl) 14 85 false rfl (by kernel_rfl) rfl ?g17 ?o17 (AllInv.consG (o := opq9_18) (ok := opq9_14) [14] (by kernel_rfl) (by decide) (by kernel_rfl) 14 85 false rfl (by kernel_rfl) rfl ?g18 ?o18 (AllInv.consG (o := opq9_19) (ok := opq9_14) [17, 18, 17, 14] (by kernel_rfl) (by decide) (by kernel_rfl) 14 85 false rfl (by kernel_rfl) rfl ?g19 ?o19 (AllInv.consG (o := opq9_20) (ok := opq9_14) [19, 14] (by kernel_rfl) (by decide) (by kernel_rfl) 14 85 false rfl (by kernel_rfl) rfl ?g20 ?o20 (AllInv.consQ (o := opq9_21) [14, 20] (by kernel_rfl) (by decide) (by kernel_rfl) rfl ?o21 (AllInv.consQ (o := opq9_22) [21, 19] (by kernel_rfl) (by decide) (by kernel_rfl) rfl ?o22 (AllInv.consG (o := opq9_23) (ok := opq9_22) [22] (by kernel_rfl) (by decide) (by kernel_rfl) 22 93 false rfl (by kernel_rfl) rfl ?g23 ?o23 (AllInv.consG (o := opq9_24) (ok := opq9_22) [22] (by kernel_rfl) (by decide) (by kernel_rfl) 22 93 false rfl (by kernel_rfl) rfl ?g24 ?o24 (AllInv.consG (o := opq9_25) (ok := opq9_22) [23, 24, 22, 22] (by kernel_rfl) (by decide) (by kernel_rfl) 22 93 false rfl (by kernel_rfl) rfl ?g25 ?o25 (AllInv.consG (o := opq9_26) (ok := opq9_22) [22] (by kernel_rfl) (by decide) (by kernel_rfl) 22 93 false rfl (by kernel_rfl) rfl ?g26 ?o26 (AllInv.consG (o := opq9_27) (ok := opq9_22) [25, 26, 25, 22] (by kernel_rfl) (by decide) (by kernel_rfl) 22 93 false rfl (by kernel_rfl) rfl ?g27 ?o27 (AllInv.consG (o := opq9_28) (ok := opq9_22) [27, 22] (by kernel_rfl) (by decide) (by kernel_rfl) 22 93 false rfl (by kernel_rfl) rfl ?g28 ?o28 (AllInv.consQ (o := opq9_29) [22, 28] (by kernel_rfl) (by decide) (by kernel_rfl) rfl ?o29 (AllInv.consQ (o := opq9_30) [29, 27] (by kernel_rfl) (by decide) (by kernel_rfl) rfl ?o30 (AllInv.consG (o := opq9_31) (ok := opq9_30) [30] (by kernel_rfl) (by decide) (by kernel_rfl) 30 101 false rfl (by kernel_rfl) rfl ?g31 ?o31 (AllInv.consG (o := opq9_32) (ok := opq9_30) [30] (by kernel_rfl) (by decide) (by kernel_rfl) 30 101 false rfl (by kernel_rfl) rfl ?g32 ?o32 (AllInv.consG (o := opq9_33) (ok := opq9_30) [31, 32, 30, 30] (by kernel_rfl) (by decide) (by kernel_rfl) 30 101 false rfl (by kernel_rfl) rfl ?g33 ?o33 (AllInv.consG (o := opq9_34) (ok := opq9_30) [30] (by kernel_rfl) (by decide) (by kernel_rfl) 30 101 false rfl (by kernel_rfl) rfl ?g34 ?o34 (AllInv.consG (o := opq9_35) (ok := opq9_30) [33, 34, 33, 30] (by kernel_rfl) (by decide) (by kernel_rfl) 30 101 false rfl (by kernel_rfl) rfl ?g35 ?o35 (AllInv.consG (o := opq9_36) (ok := opq9_30) [35, 30] (by kernel_rfl) (by decide) (by kernel_rfl) 30 101 false rfl (by kernel_rfl) rfl ?g36 ?o36 (AllInv.consQ (o := opq9_37) [30, 36] (by kernel_rfl) (by decide) (by kernel_rfl) rfl ?o37 (AllInv.nil))))))))))))))))))))))))))))))))))))))
  case g7 =>
    rintro L _ W hpre ⟨v, rfl, hv, hb⟩
    exact (eval_in 6 hnd rfl (by omega)).trans (hv 6 (hpre 6 (by simp)))
  case g8 =>
    rintro L _ W hpre ⟨v, rfl, hv, hb⟩
    exact (eval_in 6 hnd rfl (by omega)).trans (hv 6 (hpre 6 (by simp)))
  case g9 =>
    rintro L _ W hpre ⟨v, rfl, hv, hb⟩
    exact (eval_in 6 hnd rfl (by omega)).trans (hv 6 (hpre 6 (by simp)))
  case g10 =>
    rintro L _ W hpre ⟨v, rfl, hv, hb⟩
    exact (eval_in 6 hnd rfl (by omega)).trans (hv 6 (hpre 6 (by simp)))
  case g11 =>
    rintro L _ W hpre ⟨v, rfl, hv, hb⟩
    exact (eval_in 6 hnd rfl (by omega)).trans (hv 6 (hpre 6 (by simp)))
  case g12 =>
    rintro L _ W hpre ⟨v, rfl, hv, hb⟩
    exact (eval_in 6 hnd rfl (by omega)).trans (hv 6 (hpre 6 (by simp)))
  case g15 =>
    rintro L _ W hpre ⟨v, rfl, hv, hb⟩
    exact (eval_in 14 hnd rfl (by omega)).trans (hv 14 (hpre 14 (by simp)))
  case g16 =>
    rintro L _ W hpre ⟨v, rfl, hv, hb⟩
    exact (eval_in 14 hnd rfl (by omega)).trans (hv 14 (hpre 14 (by simp)))
  case g17 =>
    rintro L _ W hpre ⟨v, rfl, hv, hb⟩
    exact (eval_in 14 hnd rfl (by omega)).trans (hv 14 (hpre 14 (by simp)))
  case g18 =>
    rintro L _ W hpre ⟨v, rfl, hv, hb⟩
    exact (eval_in 14 hnd rfl (by omega)).trans (hv 14 (hpre 14 (by simp)))
  case g19 =>
    rintro L _ W hpre ⟨v, rfl, hv, hb⟩
    exact (eval_in 14 hnd rfl (by omega)).trans (hv 14 (hpre 14 (by simp)))
  case g20 =>
    rintro L _ W hpre ⟨v, rfl, hv, hb⟩
    exact (eval_in 14 hnd rfl (by omega)).trans (hv 14 (hpre 14 (by simp)))
  case g23 =>
    rintro L _ W hpre ⟨v, rfl, hv, hb⟩
    exact (eval_in 22 hnd rfl (by omega)).trans (hv 22 (hpre 22 (by simp)))
  case g24 =>
    rintro L _ W hpre ⟨v, rfl, hv, hb⟩
    exact (eval_in 22 hnd rfl (by omega)).trans (hv 22 (hpre 22 (by simp)))
  case g25 =>
    rintro L _ W hpre ⟨v, rfl, hv, hb⟩
    exact (eval_in 22 hnd rfl (by omega)).trans (hv 22 (hpre 22 (by simp)))
  case g26 =>
    rintro L _ W hpre ⟨v, rfl, hv, hb⟩
    exact (eval_in 22 hnd rfl (by omega)).trans (hv 22 (hpre 22 (by simp)))
  case g27 =>
    rintro L _ W hpre ⟨v, rfl, hv, hb⟩
    exact (eval_in 22 hnd rfl (by omega)).trans (hv 22 (hpre 22 (by simp)))
  case g28 =>
    rintro L _ W hpre ⟨v, rfl, hv, hb⟩
    exact (eval_in 22 hnd rfl (by omega)).trans (hv 22 (hpre 22 (by simp)))
  case g31 =>
    rintro L _ W hpre ⟨v, rfl, hv, hb⟩
    exact (eval_in 30 hnd rfl (by omega)).trans (hv 30 (hpre 30 (by simp)))
  case g32 =>
    rintro L _ W hpre ⟨v, rfl, hv, hb⟩
    exact (eval_in 30 hnd rfl (by omega)).trans (hv 30 (hpre 30 (by simp)))
  case g33 =>
    rintro L _ W hpre ⟨v, rfl, hv, hb⟩
    exact (eval_in 30 hnd rfl (by omega)).trans (hv 30 (hpre 30 (by simp)))
  case g34 =>
    rintro L _ W hpre ⟨v, rfl, hv, hb⟩
    exact (eval_in 30 hnd rfl (by omega)).trans (hv 30 (hpre 30 (by simp)))
  case g35 =>
    rintro L _ W hpre ⟨v, rfl, hv, hb⟩
    exact (eval_in 30 hnd rfl (by omega)).trans (hv 30 (hpre 30 (by simp)))
  case g36 =>
    rintro L _ W hpre ⟨v, rfl, hv, hb⟩
    exact (eval_in 30 hnd rfl (by omega)).trans (hv 30 (hpre 30 (by simp)))
  case o0 =>
    rintro Q' L _ W h0L hpre ⟨v, rfl, hv, hb⟩ K hK
    have k1 := (hb.cell (World.block_lt_of_cell? _ _ cM)).trans cM
    have r9 := (eval_out (v := v) (show 9 ∉ ([71, 72, 73, 74, 75, 76, 77, 78, 79, 80, 81, 82, 83, 84, 85, 86, 87, 88, 89, 90, 91, 92, 93, 94, 95, 96, 97, 98, 99, 100, 101, 102, 103, 104, 105, 106, 107, 108] : List Nat) by decide)).trans hs9
    have he : execOp (putS a [71, 72, 73, 74, 75, 76, 77, 78, 79, 80, 81, 82, 83, 84, 85, 86, 87, 88, 89, 90, 91, 92, 93, 94, 95, 96, 97, 98, 99, 100, 101, 102, 103, 104, 105, 106, 107, 108] v).eval opq9_0 = execOp (Act.eval ⟨#[undef], []⟩) ⟨some 0, .load 25 (.const (.pointer (some ⟨gM, 0, none⟩))), 0, "", #[], none⟩ := by simp only [execOp, eval_const, opq9_0, r9]
    refine Lid.mk ?_
    unfold Oper.wp
    rw [he]
    clear he
    go_simp
    exact hK.out _ _ (InvG.nextL (W := W) hv 0 (.agg #[.slice aM nM kM]) (put_in 0 hnd rfl) (fun _ _ _ h => h) ⟨_, _, _, rfl, IM.below hb⟩ hb)
  case o1 =>
    rintro Q' L _ W h0L hpre ⟨v, rfl, hv, hb⟩ K hK
    have k1 := (hb.cell (World.block_lt_of_cell? _ _ cA)).trans cA
    have r5 := (eval_out (v := v) (show 5 ∉ ([71, 72, 73, 74, 75, 76, 77, 78, 79, 80, 81, 82, 83, 84, 85, 86, 87, 88, 89, 90, 91, 92, 93, 94, 95, 96, 97, 98, 99, 100, 101, 102, 103, 104, 105, 106, 107, 108] : List Nat) by decide)).trans hs5
    have he : execOp (putS a [71, 72, 73, 74, 75, 76, 77, 78, 79, 80, 81, 82, 83, 84, 85, 86, 87, 88, 89, 90, 91, 92, 93, 94, 95, 96, 97, 98, 99, 100, 101, 102, 103, 104, 105, 106, 107, 108] v).eval opq9_1 = execOp (Act.eval ⟨#[undef], []⟩) ⟨some 0, .load 25 (.const (.pointer (some ⟨gA, 0, none⟩))), 0, "", #[], none⟩ := by simp only [execOp, eval_const, opq9_1, r5]
    refine Lid.mk ?_
    unfold Oper.wp
    rw [he]
    clear he
    go_simp
    exact hK.out _ _ (InvG.nextL (W := W) hv 1 (.agg #[.slice aA nA kA]) (put_in 1 hnd rfl) (fun _ _ _ h => h) ⟨_, _, _, rfl, IA.below hb⟩ hb)
  case o2 =>
    rintro Q' L _ W h0L hpre ⟨v, rfl, hv, hb⟩ K hK
    have k1 := (hb.cell (World.block_lt_of_cell? _ _ cB)).trans cB
    have r6 := (eval_out (v := v) (show 6 ∉ ([71, 72, 73, 74, 75, 76, 77, 78, 79, 80, 81, 82, 83, 84, 85, 86, 87, 88, 89, 90, 91, 92, 93, 94, 95, 96, 97, 98, 99, 100, 101, 102, 103, 104, 105, 106, 107, 108] : List Nat) by decide)).trans hs6
    have he : execOp (putS a [71, 72, 73, 74, 75, 76, 77, 78, 79, 80, 81, 82, 83, 84, 85, 86, 87, 88, 89, 90, 91, 92, 93, 94, 95, 96, 97, 98, 99, 100, 101, 102, 103, 104, 105, 106, 107, 108] v).eval opq9_2 = execOp (Act.eval ⟨#[undef], []⟩) ⟨some 0, .load 25 (.const (.pointer (some ⟨gB, 0, none⟩))), 0, "", #[], none⟩ := by simp only [execOp, eval_const, opq9_2, r6]
    refine Lid.mk ?_
    unfold Oper.wp
    rw [he]
    clear he
    go_simp
    exact hK.out _ _ (InvG.nextL (W := W) hv 2 (.agg #[.slice aB nB kB]) (put_in 2 hnd rfl) (fun _ _ _ h => h) ⟨_, _, _, rfl, IB.below hb⟩ hb)
  case o3 =>
    rintro Q' L _ W h0L hpre ⟨v, rfl, hv, hb⟩ K hK
    obtain ⟨q1, m1, c1, e1, h1⟩ := hv 1 (hpre 1 (by simp))
    obtain ⟨q2, m2, c2, e2, h2⟩ := hv 2 (hpre 2 (by simp))
    have r72 : (putS a [71, 72, 73, 74, 75, 76, 77, 78, 79, 80, 81, 82, 83, 84, 85, 86, 87, 88, 89, 90, 91, 92, 93, 94, 95, 96, 97, 98, 99, 100, 101, 102, 103, 104, 105, 106, 107, 108] v).eval (.tmp 72) = _ := (eval_in 1 hnd rfl (by omega)).trans e1
    have r73 : (putS a [71, 72, 73, 74, 75, 76, 77, 78, 79, 80, 81, 82, 83, 84, 85, 86, 87, 88, 89, 90, 91, 92, 93, 94, 95, 96, 97, 98, 99, 100, 101, 102, 103, 104, 105, 106, 107, 108] v).eval (.tmp 73) = _ := (eval_in 2 hnd rfl (by omega)).trans e2
    have HPW := specOver_i h1 h2
    have he : execOp (putS a [71, 72, 73, 74, 75, 76, 77, 78, 79, 80, 81, 82, 83, 84, 85, 86, 87, 88, 89, 90, 91, 92, 93, 94, 95, 96, 97, 98, 99, 100, 101, 102, 103, 104, 105, 106, 107, 108] v).eval opq9_3 = execOp (Act.eval ⟨#[undef], []⟩) ⟨some 0, .call { callee := .value (.func 13), args := #[.const (.agg #[.slice q1 m1 c1]), .const (.agg #[.slice q2 m2 c2])], argTypes := #[25, 25] }, 0, "", #[], none⟩ := by simp only [execOp, eval_const, opq9_3, resolve, eval_func, List.map_toArray, List.map_cons, List.map_nil, r72, r73]
    refine Lid.mk ?_
    unfold Oper.wp
    rw [he]
    clear he
    go_simp
    refine HPW.mono ?_
    rintro e W' ⟨q, m, cc, rfl, hP, b'⟩
    exact hK.out _ _ (InvG.nextL (W := W) hv 3 (.agg #[.slice q m cc]) (put_in 3 hnd rfl) (fun j y _ h => Oq9F.keep b' j y h) ⟨q, m, cc, rfl, hP⟩ (hb.trans (b'.mono hb.size)))
  case o4 =>
    rintro Q' L _ W h0L hpre ⟨v, rfl, hv, hb⟩ K hK
    obtain ⟨q1, m1, c1, e1, h1⟩ := hv 0 (hpre 0 (by simp))
    obtain ⟨q2, m2, c2, e2, h2⟩ := hv 3 (hpre 3 (by simp))
    have r71 : (putS a [71, 72, 73, 74, 75, 76, 77, 78, 79, 80, 81, 82, 83, 84, 85, 86, 87, 88, 89, 90, 91, 92, 93, 94, 95, 96, 97, 98, 99, 100, 101, 102, 103, 104, 105, 106, 107, 108] v).eval (.tmp 71) = _ := (eval_in 0 hnd rfl (by omega)).trans e1
    have r74 : (putS a [71, 72, 73, 74, 75, 76, 77, 78, 79, 80, 81, 82, 83, 84, 85, 86, 87, 88, 89, 90, 91, 92, 93, 94, 95, 96, 97, 98, 99, 100, 101, 102, 103, 104, 105, 106, 107, 108] v).eval (.tmp 74) = _ := (eval_in 3 hnd rfl (by omega)).trans e2
    have HPW := wSheet_i h1 h2 rfl
    have he : execOp (putS a [71, 72, 73, 74, 75, 76, 77, 78, 79, 80, 81, 82, 83, 84, 85, 86, 87, 88, 89, 90, 91, 92, 93, 94, 95, 96, 97, 98, 99, 100, 101, 102, 103, 104, 105, 106, 107, 108] v).eval opq9_4 = execOp (Act.eval ⟨#[undef], []⟩) ⟨some 0, .call { callee := .value (.func 12), args := #[.const (.agg #[.slice q1 m1 c1]), .const (.agg #[.slice q2 m2 c2])], argTypes := #[25, 25] }, 0, "", #[], none⟩ := by simp only [execOp, eval_const, opq9_4, resolve, eval_func, List.map_toArray, List.map_cons, List.map_nil, r71, r74]
    refine Lid.mk ?_
    unfold Oper.wp
    rw [he]
    clear he
    go_simp
    refine HPW.mono ?_
    rintro e W' ⟨rfl, b'⟩
    exact hK.out _ _ (InvG.nextL (W := W) hv 4 (.bool true) (put_in 4 hnd rfl) (fun j y _ h => Oq9F.keep b' j y h) rfl (hb.trans (b'.mono hb.size)))
  case o5 =>
    rintro Q' L _ W h0L hpre ⟨v, rfl, hv, hb⟩ K hK
    have r75 : (putS a [71, 72, 73, 74, 75, 76, 77, 78, 79, 80, 81, 82, 83, 84, 85, 86, 87, 88, 89, 90, 91, 92, 93, 94, 95, 96, 97, 98, 99, 100, 101, 102, 103, 104, 105, 106, 107, 108] v).eval (.tmp 75) = _ := (eval_in 4 hnd rfl (by omega)).trans (hv 4 (hpre 4 (by simp)))
    have he : execOp (putS a [71, 72, 73, 74, 75, 76, 77, 78, 79, 80, 81, 82, 83, 84, 85, 86, 87, 88, 89, 90, 91, 92, 93, 94, 95, 96, 97, 98, 99, 100, 101, 102, 103, 104, 105, 106, 107, 108] v).eval opq9_5 = execOp (Act.eval ⟨#[undef], []⟩) ⟨some 0, .unOp .not 4 (.const (.bool true)), 0, "", #[], none⟩ := by simp only [execOp, eval_const, opq9_5, r75]
    refine Lid.mk ?_
    unfold Oper.wp
    rw [he]
    clear he
    go_simp
    exact hK.out _ _ (InvG.nextL (W := W) hv 5 (.bool false) (put_in 5 hnd rfl) (fun _ _ _ h => h) rfl hb)
  case o6 =>
    rintro Q' L _ W h0L hpre ⟨v, rfl, hv, hb⟩ K hK
    have r76 : (putS a [71, 72, 73, 74, 75, 76, 77, 78, 79, 80, 81, 82, 83, 84, 85, 86, 87, 88, 89, 90, 91, 92, 93, 94, 95, 96, 97, 98, 99, 100, 101, 102, 103, 104, 105, 106, 107, 108] v).eval (.tmp 76) = _ := (eval_in 5 hnd rfl (by omega)).trans (hv 5 (hpre 5 (by simp)))
    have he : execOp (putS a [71, 72, 73, 74, 75, 76, 77, 78, 79, 80, 81, 82, 83, 84, 85, 86, 87, 88, 89, 90, 91, 92, 93, 94, 95, 96, 97, 98, 99, 100, 101, 102, 103, 104, 105, 106, 107, 108] v).eval opq9_6 = execOp (Act.eval ⟨#[undef], []⟩) ⟨some 0, .move (.const (.bool false)), 0, "", #[], none⟩ := by simp only [execOp, eval_const, opq9_6, r76]
    refine Lid.mk ?_
    unfold Oper.wp
    rw [he]
    clear he
    go_simp
    exact hK.out _ _ (InvG.nextL (W := W) hv 6 (.bool false) (put_in 6 hnd rfl) (fun _ _ _ h => h) rfl hb)
  case o7 =>
    rintro Q' L _ W h0L hpre ⟨v, rfl, hv, hb⟩ K hK
    have k1 := (hb.cell (World.block_lt_of_cell? _ _ cM)).trans cM
    have r9 := (eval_out (v := v) (show 9 ∉ ([71, 72, 73, 74, 75, 76, 77, 78, 79, 80, 81, 82, 83, 84, 85, 86, 87, 88, 89, 90, 91, 92, 93, 94, 95, 96, 97, 98, 99, 100, 101, 102, 103, 104, 105, 106, 107, 108] : List Nat) by decide)).trans hs9
    have he : execOp (putS a [71, 72, 73, 74, 75, 76, 77, 78, 79, 80, 81, 82, 83, 84, 85, 86, 87, 88, 89, 90, 91, 92, 93, 94, 95, 96, 97, 98, 99, 100, 101, 102, 103, 104, 105, 106, 107, 108] v).eval opq9_7 = execOp (Act.eval ⟨#[undef], []⟩) ⟨some 0, .load 25 (.const (.pointer (some ⟨gM, 0, none⟩))), 0, "", #[], none⟩ := by simp only [execOp, eval_const, opq9_7, r9]
    refine Lid.mk ?_
    unfold Oper.wp
    rw [he]
    clear he
    go_simp
    exact hK.out _ _ (InvG.nextL (W := W) hv 7 (.agg #[.slice aM nM kM]) (put_in 7 hnd rfl) (fun _ _ _ h => h) ⟨_, _, _, rfl, IM.below hb⟩ hb)
  case o8 =>
    rintro Q' L _ W h0L hpre ⟨v, rfl, hv, hb⟩ K hK
    have k1 := (hb.cell (World.block_lt_of_cell? _ _ cB)).trans cB
    have r6 := (eval_out (v := v) (show 6 ∉ ([71, 72, 73, 74, 75, 76, 77, 78, 79, 80, 81, 82, 83, 84, 85, 86, 87, 88, 89, 90, 91, 92, 93, 94, 95, 96, 97, 98, 99, 100, 101, 102, 103, 104, 105, 106, 107, 108] : List Nat) by decide)).trans hs6
    have he : execOp (putS a [71, 72, 73, 74, 75, 76, 77, 78, 79, 80, 81, 82, 83, 84, 85, 86, 87, 88, 89, 90, 91, 92, 93, 94, 95, 96, 97, 98, 99, 100, 101, 102, 103, 104, 105, 106, 107, 108] v).eval opq9_8 = execOp (Act.eval ⟨#[undef], []⟩) ⟨some 0, .load 25 (.const (.pointer (some ⟨gB, 0, none⟩))), 0, "", #[], none⟩ := by simp only [execOp, eval_const, opq9_8, r6]
    refine Lid.mk ?_
    unfold Oper.wp
    rw [he]
    clear he
    go_simp
    exact hK.out _ _ (InvG.nextL (W := W) hv 8 (.agg #[.slice aB nB kB]) (put_in 8 hnd rfl) (fun _ _ _ h => h) ⟨_, _, _, rfl, IB.below hb⟩ hb)
  case o9 =>
    rintro Q' L _ W h0L hpre ⟨v, rfl, hv, hb⟩ K hK
    obtain ⟨q1, m1, c1, e1, h1⟩ := hv 7 (hpre 7 (by simp))
    obtain ⟨q2, m2, c2, e2, h2⟩ := hv 8 (hpre 8 (by simp))
    have r78 : (putS a [71, 72, 73, 74, 75, 76, 77, 78, 79, 80, 81, 82, 83, 84, 85, 86, 87, 88, 89, 90, 91, 92, 93, 94, 95, 96, 97, 98, 99, 100, 101, 102, 103, 104, 105, 106, 107, 108] v).eval (.tmp 78) = _ := (eval_in 7 hnd rfl (by omega)).trans e1
    have r79 : (putS a [71, 72, 73, 74, 75, 76, 77, 78, 79, 80, 81, 82, 83, 84, 85, 86, 87, 88, 89, 90, 91, 92, 93, 94, 95, 96, 97, 98, 99, 100, 101, 102, 103, 104, 105, 106, 107, 108] v).eval (.tmp 79) = _ := (eval_in 8 hnd rfl (by omega)).trans e2
    have HPW := implOver_i (hst.below hb) h1 h2
    have he : execOp (putS a [71, 72, 73, 74, 75, 76, 77, 78, 79, 80, 81, 82, 83, 84, 85, 86, 87, 88, 89, 90, 91, 92, 93, 94, 95, 96, 97, 98, 99, 100, 101, 102, 103, 104, 105, 106, 107, 108] v).eval opq9_9 = execOp (Act.eval ⟨#[undef], []⟩) ⟨some 0, .call { callee := .value (.func 11), args := #[.const (.agg #[.slice q1 m1 c1]), .const (.agg #[.slice q2 m2 c2])], argTypes := #[25, 25] }, 0, "", #[], none⟩ := by simp only [execOp, eval_const, opq9_9, resolve, eval_func, List.map_toArray, List.map_cons, List.map_nil, r78, r79]
    refine Lid.mk ?_
    unfold Oper.wp
    rw [he]
    clear he
    go_simp
    refine HPW.mono ?_
    rintro e W' ⟨q, m, cc, rfl, hP, b'⟩
    exact hK.out _ _ (InvG.nextL (W := W) hv 9 (.agg #[.slice q m cc]) (put_in 9 hnd rfl) (fun j y _ h => Oq9F.keep b' j y h) ⟨q, m, cc, rfl, hP⟩ (hb.trans (b'.mono hb.size)))
  case o10 =>
    rintro Q' L _ W h0L hpre ⟨v, rfl, hv, hb⟩ K hK
    have k1 := (hb.cell (World.block_lt_of_cell? _ _ cM)).trans cM
    have r9 := (eval_out (v := v) (show 9 ∉ ([71, 72, 73, 74, 75, 76, 77, 78, 79, 80, 81, 82, 83, 84, 85, 86, 87, 88, 89, 90, 91, 92, 93, 94, 95, 96, 97, 98, 99, 100, 101, 102, 103, 104, 105, 106, 107, 108] : List Nat) by decide)).trans hs9
    have he : execOp (putS a [71, 72, 73, 74, 75, 76, 77, 78, 79, 80, 81, 82, 83, 84, 85, 86, 87, 88, 89, 90, 91, 92, 93, 94, 95, 96, 97, 98, 99, 100, 101, 102, 103, 104, 105, 106, 107, 108] v).eval opq9_10 = execOp (Act.eval ⟨#[undef], []⟩) ⟨some 0, .load 25 (.const (.pointer (some ⟨gM, 0, none⟩))), 0, "", #[], none⟩ := by simp only [execOp, eval_const, opq9_10, r9]
    refine Lid.mk ?_
    unfold Oper.wp
    rw [he]
    clear he
    go_simp
    exact hK.out _ _ (InvG.nextL (W := W) hv 10 (.agg #[.slice aM nM kM]) (put_in 10 hnd rfl) (fun _ _ _ h => h) ⟨_, _, _, rfl, IM.below hb⟩ hb)
  case o11 =>
    rintro Q' L _ W h0L hpre ⟨v, rfl, hv, hb⟩ K hK
    obtain ⟨q1, m1, c1, e1, h1⟩ := hv 9 (hpre 9 (by simp))
    obtain ⟨q2, m2, c2, e2, h2⟩ := hv 10 (hpre 10 (by simp))
    have r80 : (putS a [71, 72, 73, 74, 75, 76, 77, 78, 79, 80, 81, 82, 83, 84, 85, 86, 87, 88, 89, 90, 91, 92, 93, 94, 95, 96, 97, 98, 99, 100, 101, 102, 103, 104, 105, 106, 107, 108] v).eval (.tmp 80) = _ := (eval_in 9 hnd rfl (by omega)).trans e1
    have r81 : (putS a [71, 72, 73, 74, 75, 76, 77, 78, 79, 80, 81, 82, 83, 84, 85, 86, 87, 88, 89, 90, 91, 92, 93, 94, 95, 96, 97, 98, 99, 100, 101, 102, 103, 104, 105, 106, 107, 108] v).eval (.tmp 81) = _ := (eval_in 10 hnd rfl (by omega)).trans e2
    have HPW := wSheet_i h1 h2 E1
    have he : execOp (putS a [71, 72, 73, 74, 75, 76, 77, 78, 79, 80, 81, 82, 83, 84, 85, 86, 87, 88, 89, 90, 91, 92, 93, 94, 95, 96, 97, 98, 99, 100, 101, 102, 103, 104, 105, 106, 107, 108] v).eval opq9_11 = execOp (Act.eval ⟨#[undef], []⟩) ⟨some 0, .call { callee := .value (.func 12), args := #[.const (.agg #[.slice q1 m1 c1]), .const (.agg #[.slice q2 m2 c2])], argTypes := #[25, 25] }, 0, "", #[], none⟩ := by simp only [execOp, eval_const, opq9_11, resolve, eval_func, List.map_toArray, List.map_cons, List.map_nil, r80, r81]
    refine Lid.mk ?_
    unfold Oper.wp
    rw [he]
    clear he
    go_simp
    refine HPW.mono ?_
    rintro e W' ⟨rfl, b'⟩
    exact hK.out _ _ (InvG.nextL (W := W) hv 11 (.bool true) (put_in 11 hnd rfl) (fun j y _ h => Oq9F.keep b' j y h) rfl (hb.trans (b'.mono hb.size)))
  case o12 =>
    rintro Q' L _ W h0L hpre ⟨v, rfl, hv, hb⟩ K hK
    have r82 : (putS a [71, 72, 73, 74, 75, 76, 77, 78, 79, 80, 81, 82, 83, 84, 85, 86, 87, 88, 89, 90, 91, 92, 93, 94, 95, 96, 97, 98, 99, 100, 101, 102, 103, 104, 105, 106, 107, 108] v).eval (.tmp 82) = _ := (eval_in 11 hnd rfl (by omega)).trans (hv 11 (hpre 11 (by simp)))
    have he : execOp (putS a [71, 72, 73, 74, 75, 76, 77, 78, 79, 80, 81, 82, 83, 84, 85, 86, 87, 88, 89, 90, 91, 92, 93, 94, 95, 96, 97, 98, 99, 100, 101, 102, 103, 104, 105, 106, 107, 108] v).eval opq9_12 = execOp (Act.eval ⟨#[undef], []⟩) ⟨some 0, .unOp .not 4 (.const (.bool true)), 0, "", #[], none⟩ := by simp only [execOp, eval_const, opq9_12, r82]
    refine Lid.mk ?_
    unfold Oper.wp
    rw [he]
    clear he
    go_simp
    exact hK.out _ _ (InvG.nextL (W := W) hv 12 (.bool false) (put_in 12 hnd rfl) (fun _ _ _ h => h) rfl hb)
  case o13 =>
    rintro Q' L _ W h0L hpre ⟨v, rfl, hv, hb⟩ K hK
    have r77 : (putS a [71, 72, 73, 74, 75, 76, 77, 78, 79, 80, 81, 82, 83, 84, 85, 86, 87, 88, 89, 90, 91, 92, 93, 94, 95, 96, 97, 98, 99, 100, 101, 102, 103, 104, 105, 106, 107, 108] v).eval (.tmp 77) = _ := (eval_in 6 hnd rfl (by omega)).trans (hv 6 (hpre 6 (by simp)))
    have r83 : (putS a [71, 72, 73, 74, 75, 76, 77, 78, 79, 80, 81, 82, 83, 84, 85, 86, 87, 88, 89, 90, 91, 92, 93, 94, 95, 96, 97, 98, 99, 100, 101, 102, 103, 104, 105, 106, 107, 108] v).eval (.tmp 83) = _ := (eval_in 12 hnd rfl (by omega)).trans (hv 12 (hpre 12 (by simp)))
    have he : execOp (putS a [71, 72, 73, 74, 75, 76, 77, 78, 79, 80, 81, 82, 83, 84, 85, 86, 87, 88, 89, 90, 91, 92, 93, 94, 95, 96, 97, 98, 99, 100, 101, 102, 103, 104, 105, 106, 107, 108] v).eval opq9_13 = execOp (Act.eval ⟨#[undef], []⟩) ⟨some 0, .pick (.const (.bool false)) (.const (.bool true)) (.const (.bool false)), 0, "", #[], none⟩ := by simp only [execOp, eval_const, opq9_13, r77, r83]
    refine Lid.mk ?_
    unfold Oper.wp
    rw [he]
    clear he
    go_simp
    exact hK.out _ _ (InvG.nextL (W := W) hv 13 (.bool false) (put_in 13 hnd rfl) (fun _ _ _ h => h) rfl hb)
  case o14 =>
    rintro Q' L _ W h0L hpre ⟨v, rfl, hv, hb⟩ K hK
    have r84 : (putS a [71, 72, 73, 74, 75, 76, 77, 78, 79, 80, 81, 82, 83, 84, 85, 86, 87, 88, 89, 90, 91, 92, 93, 94, 95, 96, 97, 98, 99, 100, 101, 102, 103, 104, 105, 106, 107, 108] v).eval (.tmp 84) = _ := (eval_in 13 hnd rfl (by omega)).trans (hv 13 (hpre 13 (by simp)))
    have he : execOp (putS a [71, 72, 73, 74, 75, 76, 77, 78, 79, 80, 81, 82, 83, 84, 85, 86, 87, 88, 89, 90, 91, 92, 93, 94, 95, 96, 97, 98, 99, 100, 101, 102, 103, 104, 105, 106, 107, 108] v).eval opq9_14 = execOp (Act.eval ⟨#[undef], []⟩) ⟨some 0, .move (.const (.bool false)), 0, "", #[], none⟩ := by simp only [execOp, eval_const, opq9_14, r84]
    refine Lid.mk ?_
    unfold Oper.wp
    rw [he]
    clear he
    go_simp
    exact hK.out _ _ (InvG.nextL (W := W) hv 14 (.bool false) (put_in 14 hnd rfl) (fun _ _ _ h => h) rfl hb)
  case o15 =>
    rintro Q' L _ W h0L hpre ⟨v, rfl, hv, hb⟩ K hK
    have k1 := (hb.cell (World.block_lt_of_cell? _ _ cN)).trans cN
    have r10 := (eval_out (v := v) (show 10 ∉ ([71, 72, 73, 74, 75, 76, 77, 78, 79, 80, 81, 82, 83, 84, 85, 86, 87, 88, 89, 90, 91, 92, 93, 94, 95, 96, 97, 98, 99, 100, 101, 102, 103, 104, 105, 106, 107, 108] : List Nat) by decide)).trans hs10
    have he : execOp (putS a [71, 72, 73, 74, 75, 76, 77, 78, 79, 80, 81, 82, 83, 84, 85, 86, 87, 88, 89, 90, 91, 92, 93, 94, 95, 96, 97, 98, 99, 100, 101, 102, 103, 104, 105, 106, 107, 108] v).eval opq9_15 = execOp (Act.eval ⟨#[undef], []⟩) ⟨some 0, .load 25 (.const (.pointer (some ⟨gN, 0, none⟩))), 0, "", #[], none⟩ := by simp only [execOp, eval_const, opq9_15, r10]
    refine Lid.mk ?_
    unfold Oper.wp
    rw [he]
    clear he
    go_simp
    exact hK.out _ _ (InvG.nextL (W := W) hv 15 (.agg #[.slice aN nN kN]) (put_in 15 hnd rfl) (fun _ _ _ h => h) ⟨_, _, _, rfl, IN.below hb⟩ hb)
  case o16 =>
    rintro Q' L _ W h0L hpre ⟨v, rfl, hv, hb⟩ K hK
    have k1 := (hb.cell (World.block_lt_of_cell? _ _ cA)).trans cA
    have r5 := (eval_out (v := v) (show 5 ∉ ([71, 72, 73, 74, 75, 76, 77, 78, 79, 80, 81, 82, 83, 84, 85, 86, 87, 88, 89, 90, 91, 92, 93, 94, 95, 96, 97, 98, 99, 100, 101, 102, 103, 104, 105, 106, 107, 108] : List Nat) by decide)).trans hs5
    have he : execOp (putS a [71, 72, 73, 74, 75, 76, 77, 78, 79, 80, 81, 82, 83, 84, 85, 86, 87, 88, 89, 90, 91, 92, 93, 94, 95, 96, 97, 98, 99, 100, 101, 102, 103, 104, 105, 106, 107, 108] v).eval opq9_16 = execOp (Act.eval ⟨#[undef], []⟩) ⟨some 0, .load 25 (.const (.pointer (some ⟨gA, 0, none⟩))), 0, "", #[], none⟩ := by simp only [execOp, eval_const, opq9_16, r5]
    refine Lid.mk ?_
    unfold Oper.wp
    rw [he]
    clear he
    go_simp
    exact hK.out _ _ (InvG.nextL (W := W) hv 16 (.agg #[.slice aA nA kA]) (put_in 16 hnd rfl) (fun _ _ _ h => h) ⟨_, _, _, rfl, IA.below hb⟩ hb)
  case o17 =>
    rintro Q' L _ W h0L hpre ⟨v, rfl, hv, hb⟩ K hK
    obtain ⟨q1, m1, c1, e1, h1⟩ := hv 15 (hpre 15 (by simp))
    obtain ⟨q2, m2, c2, e2, h2⟩ := hv 16 (hpre 16 (by simp))
    have r86 : (putS a [71, 72, 73, 74, 75, 76, 77, 78, 79, 80, 81, 82, 83, 84, 85, 86, 87, 88, 89, 90, 91, 92, 93, 94, 95, 96, 97, 98, 99, 100, 101, 102, 103, 104, 105, 106, 107, 108] v).eval (.tmp 86) = _ := (eval_in 15 hnd rfl (by omega)).trans e1
    have r87 : (putS a [71, 72, 73, 74, 75, 76, 77, 78, 79, 80, 81, 82, 83, 84, 85, 86, 87, 88, 89, 90, 91, 92, 93, 94, 95, 96, 97, 98, 99, 100, 101, 102, 103, 104, 105, 106, 107, 108] v).eval (.tmp 87) = _ := (eval_in 16 hnd rfl (by omega)).trans e2
    have HPW := implOver_i (hst.below hb) h1 h2
    have he : execOp (putS a [71, 72, 73, 74, 75, 76, 77, 78, 79, 80, 81, 82, 83, 84, 85, 86, 87, 88, 89, 90, 91, 92, 93, 94, 95, 96, 97, 98, 99, 100, 101, 102, 103, 104, 105, 106, 107, 108] v).eval opq9_17 = execOp (Act.eval ⟨#[undef], []⟩) ⟨some 0, .call { callee := .value (.func 11), args := #[.const (.agg #[.slice q1 m1 c1]), .const (.agg #[.slice q2 m2 c2])], argTypes := #[25, 25] }, 0, "", #[], none⟩ := by simp only [execOp, eval_const, opq9_17, resolve, eval_func, List.map_toArray, List.map_cons, List.map_nil, r86, r87]
    refine Lid.mk ?_
    unfold Oper.wp
    rw [he]
    clear he
    go_simp
    refine HPW.mono ?_
    rintro e W' ⟨q, m, cc, rfl, hP, b'⟩
    exact hK.out _ _ (InvG.nextL (W := W) hv 17 (.agg #[.slice q m cc]) (put_in 17 hnd rfl) (fun j y _ h => Oq9F.keep b' j y h) ⟨q, m, cc, rfl, hP⟩ (hb.trans (b'.mono hb.size)))
  case o18 =>
    rintro Q' L _ W h0L hpre ⟨v, rfl, hv, hb⟩ K hK
    have k1 := (hb.cell (World.block_lt_of_cell? _ _ cA)).trans cA
    have r5 := (eval_out (v := v) (show 5 ∉ ([71, 72, 73, 74, 75, 76, 77, 78, 79, 80, 81, 82, 83, 84, 85, 86, 87, 88, 89, 90, 91, 92, 93, 94, 95, 96, 97, 98, 99, 100, 101, 102, 103, 104, 105, 106, 107, 108] : List Nat) by decide)).trans hs5
    have he : execOp (putS a [71, 72, 73, 74, 75, 76, 77, 78, 79, 80, 81, 82, 83, 84, 85, 86, 87, 88, 89, 90, 91, 92, 93, 94, 95, 96, 97, 98, 99, 100, 101, 102, 103, 104, 105, 106, 107, 108] v).eval opq9_18 = execOp (Act.eval ⟨#[undef], []⟩) ⟨some 0, .load 25 (.const (.pointer (some ⟨gA, 0, none⟩))), 0, "", #[], none⟩ := by simp only [execOp, eval_const, opq9_18, r5]
    refine Lid.mk ?_
    unfold Oper.wp
    rw [he]
    clear he
    go_simp
    exact hK.out _ _ (InvG.nextL (W := W) hv 18 (.agg #[.slice aA nA kA]) (put_in 18 hnd rfl) (fun _ _ _ h => h) ⟨_, _, _, rfl, IA.below hb⟩ hb)
  case o19 =>
    rintro Q' L _ W h0L hpre ⟨v, rfl, hv, hb⟩ K hK
    obtain ⟨q1, m1, c1, e1, h1⟩ := hv 17 (hpre 17 (by simp))
    obtain ⟨q2, m2, c2, e2, h2⟩ := hv 18 (hpre 18 (by simp))
    have r88 : (putS a [71, 72, 73, 74, 75, 76, 77, 78, 79, 80, 81, 82, 83, 84, 85, 86, 87, 88, 89, 90, 91, 92, 93, 94, 95, 96, 97, 98, 99, 100, 101, 102, 103, 104, 105, 106, 107, 108] v).eval (.tmp 88) = _ := (eval_in 17 hnd rfl (by omega)).trans e1
    have r89 : (putS a [71, 72, 73, 74, 75, 76, 77, 78, 79, 80, 81, 82, 83, 84, 85, 86, 87, 88, 89, 90, 91, 92, 93, 94, 95, 96, 97, 98, 99, 100, 101, 102, 103, 104, 105, 106, 107, 108] v).eval (.tmp 89) = _ := (eval_in 18 hnd rfl (by omega)).trans e2
    have HPW := wSheet_i h1 h2 E2
    have he : execOp (putS a [71, 72, 73, 74, 75, 76, 77, 78, 79, 80, 81, 82, 83, 84, 85, 86, 87, 88, 89, 90, 91, 92, 93, 94, 95, 96, 97, 98, 99, 100, 101, 102, 103, 104, 105, 106, 107, 108] v).eval opq9_19 = execOp (Act.eval ⟨#[undef], []⟩) ⟨some 0, .call { callee := .value (.func 12), args := #[.const (.agg #[.slice q1 m1 c1]), .const (.agg #[.slice q2 m2 c2])], argTypes := #[25, 25] }, 0, "", #[], none⟩ := by simp only [execOp, eval_const, opq9_19, resolve, eval_func, List.map_toArray, List.map_cons, List.map_nil, r88, r89]
    refine Lid.mk ?_
    unfold Oper.wp
    rw [he]
    clear he
    go_simp
    refine HPW.mono ?_
    rintro e W' ⟨rfl, b'⟩
    exact hK.out _ _ (InvG.nextL (W := W) hv 19 (.bool true) (put_in 19 hnd rfl) (fun j y _ h => Oq9F.keep b' j y h) rfl (hb.trans (b'.mono hb.size)))
  case o20 =>
    rintro Q' L _ W h0L hpre ⟨v, rfl, hv, hb⟩ K hK
    have r90 : (putS a [71, 72, 73, 74, 75, 76, 77, 78, 79, 80, 81, 82, 83, 84, 85, 86, 87, 88, 89, 90, 91, 92, 93, 94, 95, 96, 97, 98, 99, 100, 101, 102, 103, 104, 105, 106, 107, 108] v).eval (.tmp 90) = _ := (eval_in 19 hnd rfl (by omega)).trans (hv 19 (hpre 19 (by simp)))
    have he : execOp (putS a [71, 72, 73, 74, 75, 76, 77, 78, 79, 80, 81, 82, 83, 84, 85, 86, 87, 88, 89, 90, 91, 92, 93, 94, 95, 96, 97, 98, 99, 100, 101, 102, 103, 104, 105, 106, 107, 108] v).eval opq9_20 = execOp (Act.eval ⟨#[undef], []⟩) ⟨some 0, .unOp .not 4 (.const (.bool true)), 0, "", #[], none⟩ := by simp only [execOp, eval_const, opq9_20, r90]
    refine Lid.mk ?_
    unfold Oper.wp
    rw [he]
    clear he
    go_simp
    exact hK.out _ _ (InvG.nextL (W := W) hv 20 (.bool false) (put_in 20 hnd rfl) (fun _ _ _ h => h) rfl hb)
  case o21 =>
    rintro Q' L _ W h0L hpre ⟨v, rfl, hv, hb⟩ K hK
    have r85 : (putS a [71, 72, 73, 74, 75, 76, 77, 78, 79, 80, 81, 82, 83, 84, 85, 86, 87, 88, 89, 90, 91, 92, 93, 94, 95, 96, 97, 98, 99, 100, 101, 102, 103, 104, 105, 106, 107, 108] v).eval (.tmp 85) = _ := (eval_in 14 hnd rfl (by omega)).trans (hv 14 (hpre 14 (by simp)))
    have r91 : (putS a [71, 72, 73, 74, 75, 76, 77, 78, 79, 80, 81, 82, 83, 84, 85, 86, 87, 88, 89, 90, 91, 92, 93, 94, 95, 96, 97, 98, 99, 100, 101, 102, 103, 104, 105, 106, 107, 108] v).eval (.tmp 91) = _ := (eval_in 20 hnd rfl (by omega)).trans (hv 20 (hpre 20 (by simp)))
    have he : execOp (putS a [71, 72, 73, 74, 75, 76, 77, 78, 79, 80, 81, 82, 83, 84, 85, 86, 87, 88, 89, 90, 91, 92, 93, 94, 95, 96, 97, 98, 99, 100, 101, 102, 103, 104, 105, 106, 107, 108] v).eval opq9_21 = execOp (Act.eval ⟨#[undef], []⟩) ⟨some 0, .pick (.const (.bool false)) (.const (.bool true)) (.const (.bool false)), 0, "", #[], none⟩ := by simp only [execOp, eval_const, opq9_21, r85, r91]
    refine Lid.mk ?_
    unfold Oper.wp
    rw [he]
    clear he
    go_simp
    exact hK.out _ _ (InvG.nextL (W := W) hv 21 (.bool false) (put_in 21 hnd rfl) (fun _ _ _ h => h) rfl hb)
  case o22 =>
    rintro Q' L _ W h0L hpre ⟨v, rfl, hv, hb⟩ K hK
    have r92 : (putS a [71, 72, 73, 74, 75, 76, 77, 78, 79, 80, 81, 82, 83, 84, 85, 86, 87, 88, 89, 90, 91, 92, 93, 94, 95, 96, 97, 98, 99, 100, 101, 102, 103, 104, 105, 106, 107, 108] v).eval (.tmp 92) = _ := (eval_in 21 hnd rfl (by omega)).trans (hv 21 (hpre 21 (by simp)))
    have he : execOp (putS a [71, 72, 73, 74, 75, 76, 77, 78, 79, 80, 81, 82, 83, 84, 85, 86, 87, 88, 89, 90, 91, 92, 93, 94, 95, 96, 97, 98, 99, 100, 101, 102, 103, 104, 105, 106, 107, 108] v).eval opq9_22 = execOp (Act.eval ⟨#[undef], []⟩) ⟨some 0, .move (.const (.bool false)), 0, "", #[], none⟩ := by simp only [execOp, eval_const, opq9_22, r92]
    refine Lid.mk ?_
    unfold Oper.wp
    rw [he]
    clear he
    go_simp
    exact hK.out _ _ (InvG.nextL (W := W) hv 22 (.bool false) (put_in 22 hnd rfl) (fun _ _ _ h => h) rfl hb)
  case o23 =>
    rintro Q' L _ W h0L hpre ⟨v, rfl, hv, hb⟩ K hK
    have k1 := (hb.cell (World.block_lt_of_cell? _ _ cA)).trans cA
    have r5 := (eval_out (v := v) (show 5 ∉ ([71, 72, 73, 74, 75, 76, 77, 78, 79, 80, 81, 82, 83, 84, 85, 86, 87, 88, 89, 90, 91, 92, 93, 94, 95, 96, 97, 98, 99, 100, 101, 102, 103, 104, 105, 106, 107, 108] : List Nat) by decide)).trans hs5
    have he : execOp (putS a [71, 72, 73, 74, 75, 76, 77, 78, 79, 80, 81, 82, 83, 84, 85, 86, 87, 88, 89, 90, 91, 92, 93, 94, 95, 96, 97, 98, 99, 100, 101, 102, 103, 104, 105, 106, 107, 108] v).eval opq9_23 = execOp (Act.eval ⟨#[undef], []⟩) ⟨some 0, .load 25 (.const (.pointer (some ⟨gA, 0, none⟩))), 0, "", #[], none⟩ := by simp only [execOp, eval_const, opq9_23, r5]
    refine Lid.mk ?_
    unfold Oper.wp
    rw [he]
    clear he
    go_simp
    exact hK.out _ _ (InvG.nextL (W := W) hv 23 (.agg #[.slice aA nA kA]) (put_in 23 hnd rfl) (fun _ _ _ h => h) ⟨_, _, _, rfl, IA.below hb⟩ hb)
  case o24 =>
    rintro Q' L _ W h0L hpre ⟨v, rfl, hv, hb⟩ K hK
    have k1 := (hb.cell (World.block_lt_of_cell? _ _ cN)).trans cN
    have r10 := (eval_out (v := v) (show 10 ∉ ([71, 72, 73, 74, 75, 76, 77, 78, 79, 80, 81, 82, 83, 84, 85, 86, 87, 88, 89, 90, 91, 92, 93, 94, 95, 96, 97, 98, 99, 100, 101, 102, 103, 104, 105, 106, 107, 108] : List Nat) by decide)).trans hs10
    have he : execOp (putS a [71, 72, 73, 74, 75, 76, 77, 78, 79, 80, 81, 82, 83, 84, 85, 86, 87, 88, 89, 90, 91, 92, 93, 94, 95, 96, 97, 98, 99, 100, 101, 102, 103, 104, 105, 106, 107, 108] v).eval opq9_24 = execOp (Act.eval ⟨#[undef], []⟩) ⟨some 0, .load 25 (.const (.pointer (some ⟨gN, 0, none⟩))), 0, "", #[], none⟩ := by simp only [execOp, eval_const, opq9_24, r10]
    refine Lid.mk ?_
    unfold Oper.wp
    rw [he]
    clear he
    go_simp
    exact hK.out _ _ (InvG.nextL (W := W) hv 24 (.agg #[.slice aN nN kN]) (put_in 24 hnd rfl) (fun _ _ _ h => h) ⟨_, _, _, rfl, IN.below hb⟩ hb)
  case o25 =>
    rintro Q' L _ W h0L hpre ⟨v, rfl, hv, hb⟩ K hK
    obtain ⟨q1, m1, c1, e1, h1⟩ := hv 23 (hpre 23 (by simp))
    obtain ⟨q2, m2, c2, e2, h2⟩ := hv 24 (hpre 24 (by simp))
    have r94 : (putS a [71, 72, 73, 74, 75, 76, 77, 78, 79, 80, 81, 82, 83, 84, 85, 86, 87, 88, 89, 90, 91, 92, 93, 94, 95, 96, 97, 98, 99, 100, 101, 102, 103, 104, 105, 106, 107, 108] v).eval (.tmp 94) = _ := (eval_in 23 hnd rfl (by omega)).trans e1
    have r95 : (putS a [71, 72, 73, 74, 75, 76, 77, 78, 79, 80, 81, 82, 83, 84, 85, 86, 87, 88, 89, 90, 91, 92, 93, 94, 95, 96, 97, 98, 99, 100, 101, 102, 103, 104, 105, 106, 107, 108] v).eval (.tmp 95) = _ := (eval_in 24 hnd rfl (by omega)).trans e2
    have HPW := implOver_i (hst.below hb) h1 h2
    have he : execOp (putS a [71, 72, 73, 74, 75, 76, 77, 78, 79, 80, 81, 82, 83, 84, 85, 86, 87, 88, 89, 90, 91, 92, 93, 94, 95, 96, 97, 98, 99, 100, 101, 102, 103, 104, 105, 106, 107, 108] v).eval opq9_25 = execOp (Act.eval ⟨#[undef], []⟩) ⟨some 0, .call { callee := .value (.func 11), args := #[.const (.agg #[.slice q1 m1 c1]), .const (.agg #[.slice q2 m2 c2])], argTypes := #[25, 25] }, 0, "", #[], none⟩ := by simp only [execOp, eval_const, opq9_25, resolve, eval_func, List.map_toArray, List.map_cons, List.map_nil, r94, r95]
    refine Lid.mk ?_
    unfold Oper.wp
    rw [he]
    clear he
    go_simp
    refine HPW.mono ?_
    rintro e W' ⟨q, m, cc, rfl, hP, b'⟩
    exact hK.out _ _ (InvG.nextL (W := W) hv 25 (.agg #[.slice q m cc]) (put_in 25 hnd rfl) (fun j y _ h => Oq9F.keep b' j y h) ⟨q, m, cc, rfl, hP⟩ (hb.trans (b'.mono hb.size)))
  case o26 =>
    rintro Q' L _ W h0L hpre ⟨v, rfl, hv, hb⟩ K hK
    have k1 := (hb.cell (World.block_lt_of_cell? _ _ cA)).trans cA
    have r5 := (eval_out (v := v) (show 5 ∉ ([71, 72, 73, 74, 75, 76, 77, 78, 79, 80, 81, 82, 83, 84, 85, 86, 87, 88, 89, 90, 91, 92, 93, 94, 95, 96, 97, 98, 99, 100, 101, 102, 103, 104, 105, 106, 107, 108] : List Nat) by decide)).trans hs5
    have he : execOp (putS a [71, 72, 73, 74, 75, 76, 77, 78, 79, 80, 81, 82, 83, 84, 85, 86, 87, 88, 89, 90, 91, 92, 93, 94, 95, 96, 97, 98, 99, 100, 101, 102, 103, 104, 105, 106, 107, 108] v).eval opq9_26 = execOp (Act.eval ⟨#[undef], []⟩) ⟨some 0, .load 25 (.const (.pointer (some ⟨gA, 0, none⟩))), 0, "", #[], none⟩ := by simp only [execOp, eval_const, opq9_26, r5]
    refine Lid.mk ?_
    unfold Oper.wp
    rw [he]
    clear he
    go_simp
    exact hK.out _ _ (InvG.nextL (W := W) hv 26 (.agg #[.slice aA nA kA]) (put_in 26 hnd rfl) (fun _ _ _ h => h) ⟨_, _, _, rfl, IA.below hb⟩ hb)
  case o27 =>
    rintro Q' L _ W h0L hpre ⟨v, rfl, hv, hb⟩ K hK
    obtain ⟨q1, m1, c1, e1, h1⟩ := hv 25 (hpre 25 (by simp))
    obtain ⟨q2, m2, c2, e2, h2⟩ := hv 26 (hpre 26 (by simp))
    have r96 : (putS a [71, 72, 73, 74, 75, 76, 77, 78, 79, 80, 81, 82, 83, 84, 85, 86, 87, 88, 89, 90, 91, 92, 93, 94, 95, 96, 97, 98, 99, 100, 101, 102, 103, 104, 105, 106, 107, 108] v).eval (.tmp 96) = _ := (eval_in 25 hnd rfl (by omega)).trans e1
    have r97 : (putS a [71, 72, 73, 74, 75, 76, 77, 78, 79, 80, 81, 82, 83, 84, 85, 86, 87, 88, 89, 90, 91, 92, 93, 94, 95, 96, 97, 98, 99, 100, 101, 102, 103, 104, 105, 106, 107, 108] v).eval (.tmp 97) = _ := (eval_in 26 hnd rfl (by omega)).trans e2
    have HPW := wSheet_i h1 h2 E3
    have he : execOp (putS a [71, 72, 73, 74, 75, 76, 77, 78, 79, 80, 81, 82, 83, 84, 85, 86, 87, 88, 89, 90, 91, 92, 93, 94, 95, 96, 97, 98, 99, 100, 101, 102, 103, 104, 105, 106, 107, 108] v).eval opq9_27 = execOp (Act.eval ⟨#[undef], []⟩) ⟨some 0, .call { callee := .value (.func 12), args := #[.const (.agg #[.slice q1 m1 c1]), .const (.agg #[.slice q2 m2 c2])], argTypes := #[25, 25] }, 0, "", #[], none⟩ := by simp only [execOp, eval_const, opq9_27, resolve, eval_func, List.map_toArray, List.map_cons, List.map_nil, r96, r97]
    refine Lid.mk ?_
    unfold Oper.wp
    rw [he]
    clear he
    go_simp
    refine HPW.mono ?_
    rintro e W' ⟨rfl, b'⟩
    exact hK.out _ _ (InvG.nextL (W := W) hv 27 (.bool true) (put_in 27 hnd rfl) (fun j y _ h => Oq9F.keep b' j y h) rfl (hb.trans (b'.mono hb.size)))
  case o28 =>
    rintro Q' L _ W h0L hpre ⟨v, rfl, hv, hb⟩ K hK
    have r98 : (putS a [71, 72, 73, 74, 75, 76, 77, 78, 79, 80, 81, 82, 83, 84, 85, 86, 87, 88, 89, 90, 91, 92, 93, 94, 95, 96, 97, 98, 99, 100, 101, 102, 103, 104, 105, 106, 107, 108] v).eval (.tmp 98) = _ := (eval_in 27 hnd rfl (by omega)).trans (hv 27 (hpre 27 (by simp)))
    have he : execOp (putS a [71, 72, 73, 74, 75, 76, 77, 78, 79, 80, 81, 82, 83, 84, 85, 86, 87, 88, 89, 90, 91, 92, 93, 94, 95, 96, 97, 98, 99, 100, 101, 102, 103, 104, 105, 106, 107, 108] v).eval opq9_28 = execOp (Act.eval ⟨#[undef], []⟩) ⟨some 0, .unOp .not 4 (.const (.bool true)), 0, "", #[], none⟩ := by simp only [execOp, eval_const, opq9_28, r98]
    refine Lid.mk ?_
    unfold Oper.wp
    rw [he]
    clear he
    go_simp
    exact hK.out _ _ (InvG.nextL (W := W) hv 28 (.bool false) (put_in 28 hnd rfl) (fun _ _ _ h => h) rfl hb)
  case o29 =>
    rintro Q' L _ W h0L hpre ⟨v, rfl, hv, hb⟩ K hK
    have r93 : (putS a [71, 72, 73, 74, 75, 76, 77, 78, 79, 80, 81, 82, 83, 84, 85, 86, 87, 88, 89, 90, 91, 92, 93, 94, 95, 96, 97, 98, 99, 100, 101, 102, 103, 104, 105, 106, 107, 108] v).eval (.tmp 93) = _ := (eval_in 22 hnd rfl (by omega)).trans (hv 22 (hpre 22 (by simp)))
    have r99 : (putS a [71, 72, 73, 74, 75, 76, 77, 78, 79, 80, 81, 82, 83, 84, 85, 86, 87, 88, 89, 90, 91, 92, 93, 94, 95, 96, 97, 98, 99, 100, 101, 102, 103, 104, 105, 106, 107, 108] v).eval (.tmp 99) = _ := (eval_in 28 hnd rfl (by omega)).trans (hv 28 (hpre 28 (by simp)))
    have he : execOp (putS a [71, 72, 73, 74, 75, 76, 77, 78, 79, 80, 81, 82, 83, 84, 85, 86, 87, 88, 89, 90, 91, 92, 93, 94, 95, 96, 97, 98, 99, 100, 101, 102, 103, 104, 105, 106, 107, 108] v).eval opq9_29 = execOp (Act.eval ⟨#[undef], []⟩) ⟨some 0, .pick (.const (.bool false)) (.const (.bool true)) (.const (.bool false)), 0, "", #[], none⟩ := by simp only [execOp, eval_const, opq9_29, r93, r99]
    refine Lid.mk ?_
    unfold Oper.wp
    rw [he]
    clear he
    go_simp
    exact hK.out _ _ (InvG.nextL (W := W) hv 29 (.bool false) (put_in 29 hnd rfl) (fun _ _ _ h => h) rfl hb)
  case o30 =>
    rintro Q' L _ W h0L hpre ⟨v, rfl, hv, hb⟩ K hK
    have r100 : (putS a [71, 72, 73, 74, 75, 76, 77, 78, 79, 80, 81, 82, 83, 84, 85, 86, 87, 88, 89, 90, 91, 92, 93, 94, 95, 96, 97, 98, 99, 100, 101, 102, 103, 104, 105, 106, 107, 108] v).eval (.tmp 100) = _ := (eval_in 29 hnd rfl (by omega)).trans (hv 29 (hpre 29 (by simp)))
    have he : execOp (putS a [71, 72, 73, 74, 75, 76, 77, 78, 79, 80, 81, 82, 83, 84, 85, 86, 87, 88, 89, 90, 91, 92, 93, 94, 95, 96, 97, 98, 99, 100, 101, 102, 103, 104, 105, 106, 107, 108] v).eval opq9_30 = execOp (Act.eval ⟨#[undef], []⟩) ⟨some 0, .move (.const (.bool false)), 0, "", #[], none⟩ := by simp only [execOp, eval_const, opq9_30, r100]
    refine Lid.mk ?_
    unfold Oper.wp
    rw [he]
    clear he
    go_simp
    exact hK.out _ _ (InvG.nextL (W := W) hv 30 (.bool false) (put_in 30 hnd rfl) (fun _ _ _ h => h) rfl hb)
  case o31 =>
    rintro Q' L _ W h0L hpre ⟨v, rfl, hv, hb⟩ K hK
    have k1 := (hb.cell (World.block_lt_of_cell? _ _ cA)).trans cA
    have r5 := (eval_out (v := v) (show 5 ∉ ([71, 72, 73, 74, 75, 76, 77, 78, 79, 80, 81, 82, 83, 84, 85, 86, 87, 88, 89, 90, 91, 92, 93, 94, 95, 96, 97, 98, 99, 100, 101, 102, 103, 104, 105, 106, 107, 108] : List Nat) by decide)).trans hs5
    have he : execOp (putS a [71, 72, 73, 74, 75, 76, 77, 78, 79, 80, 81, 82, 83, 84, 85, 86, 87, 88, 89, 90, 91, 92, 93, 94, 95, 96, 97, 98, 99, 100, 101, 102, 103, 104, 105, 106, 107, 108] v).eval opq9_31 = execOp (Act.eval ⟨#[undef], []⟩) ⟨some 0, .load 25 (.const (.pointer (some ⟨gA, 0, none⟩))), 0, "", #[], none⟩ := by simp only [execOp, eval_const, opq9_31, r5]
    refine Lid.mk ?_
    unfold Oper.wp
    rw [he]
    clear he
    go_simp
    exact hK.out _ _ (InvG.nextL (W := W) hv 31 (.agg #[.slice aA nA kA]) (put_in 31 hnd rfl) (fun _ _ _ h => h) ⟨_, _, _, rfl, IA.below hb⟩ hb)
  case o32 =>
    rintro Q' L _ W h0L hpre ⟨v, rfl, hv, hb⟩ K hK
    have k1 := (hb.cell (World.block_lt_of_cell? _ _ cA)).trans cA
    have r5 := (eval_out (v := v) (show 5 ∉ ([71, 72, 73, 74, 75, 76, 77, 78, 79, 80, 81, 82, 83, 84, 85, 86, 87, 88, 89, 90, 91, 92, 93, 94, 95, 96, 97, 98, 99, 100, 101, 102, 103, 104, 105, 106, 107, 108] : List Nat) by decide)).trans hs5
    have he : execOp (putS a [71, 72, 73, 74, 75, 76, 77, 78, 79, 80, 81, 82, 83, 84, 85, 86, 87, 88, 89, 90, 91, 92, 93, 94, 95, 96, 97, 98, 99, 100, 101, 102, 103, 104, 105, 106, 107, 108] v).eval opq9_32 = execOp (Act.eval ⟨#[undef], []⟩) ⟨some 0, .load 25 (.const (.pointer (some ⟨gA, 0, none⟩))), 0, "", #[], none⟩ := by simp only [execOp, eval_const, opq9_32, r5]
    refine Lid.mk ?_
    unfold Oper.wp
    rw [he]
    clear he
    go_simp
    exact hK.out _ _ (InvG.nextL (W := W) hv 32 (.agg #[.slice aA nA kA]) (put_in 32 hnd rfl) (fun _ _ _ h => h) ⟨_, _, _, rfl, IA.below hb⟩ hb)
  case o33 =>
    rintro Q' L _ W h0L hpre ⟨v, rfl, hv, hb⟩ K hK
    obtain ⟨q1, m1, c1, e1, h1⟩ := hv 31 (hpre 31 (by simp))
    obtain ⟨q2, m2, c2, e2, h2⟩ := hv 32 (hpre 32 (by simp))
    have r102 : (putS a [71, 72, 73, 74, 75, 76, 77, 78, 79, 80, 81, 82, 83, 84, 85, 86, 87, 88, 89, 90, 91, 92, 93, 94, 95, 96, 97, 98, 99, 100, 101, 102, 103, 104, 105, 106, 107, 108] v).eval (.tmp 102) = _ := (eval_in 31 hnd rfl (by omega)).trans e1
    have r103 : (putS a [71, 72, 73, 74, 75, 76, 77, 78, 79, 80, 81, 82, 83, 84, 85, 86, 87, 88, 89, 90, 91, 92, 93, 94, 95, 96, 97, 98, 99, 100, 101, 102, 103, 104, 105, 106, 107, 108] v).eval (.tmp 103) = _ := (eval_in 32 hnd rfl (by omega)).trans e2
    have HPW := implOver_i (hst.below hb) h1 h2
    have he : execOp (putS a [71, 72, 73, 74, 75, 76, 77, 78, 79, 80, 81, 82, 83, 84, 85, 86, 87, 88, 89, 90, 91, 92, 93, 94, 95, 96, 97, 98, 99, 100, 101, 102, 103, 104, 105, 106, 107, 108] v).eval opq9_33 = execOp (Act.eval ⟨#[undef], []⟩) ⟨some 0, .call { callee := .value (.func 11), args := #[.const (.agg #[.slice q1 m1 c1]), .const (.agg #[.slice q2 m2 c2])], argTypes := #[25, 25] }, 0, "", #[], none⟩ := by simp only [execOp, eval_const, opq9_33, resolve, eval_func, List.map_toArray, List.map_cons, List.map_nil, r102, r103]
    refine Lid.mk ?_
    unfold Oper.wp
    rw [he]
    clear he
    go_simp
    refine HPW.mono ?_
    rintro e W' ⟨q, m, cc, rfl, hP, b'⟩
    exact hK.out _ _ (InvG.nextL (W := W) hv 33 (.agg #[.slice q m cc]) (put_in 33 hnd rfl) (fun j y _ h => Oq9F.keep b' j y h) ⟨q, m, cc, rfl, hP⟩ (hb.trans (b'.mono hb.size)))
  case o34 =>
    rintro Q' L _ W h0L hpre ⟨v, rfl, hv, hb⟩ K hK
    have k1 := (hb.cell (World.block_lt_of_cell? _ _ cA)).trans cA
    have r5 := (eval_out (v := v) (show 5 ∉ ([71, 72, 73, 74, 75, 76, 77, 78, 79, 80, 81, 82, 83, 84, 85, 86, 87, 88, 89, 90, 91, 92, 93, 94, 95, 96, 97, 98, 99, 100, 101, 102, 103, 104, 105, 106, 107, 108] : List Nat) by decide)).trans hs5
    have he : execOp (putS a [71, 72, 73, 74, 75, 76, 77, 78, 79, 80, 81, 82, 83, 84, 85, 86, 87, 88, 89, 90, 91, 92, 93, 94, 95, 96, 97, 98, 99, 100, 101, 102, 103, 104, 105, 106, 107, 108] v).eval opq9_34 = execOp (Act.eval ⟨#[undef], []⟩) ⟨some 0, .load 25 (.const (.pointer (some ⟨gA, 0, none⟩))), 0, "", #[], none⟩ := by simp only [execOp, eval_const, opq9_34, r5]
    refine Lid.mk ?_
    unfold Oper.wp
    rw [he]
    clear he
    go_simp
    exact hK.out _ _ (InvG.nextL (W := W) hv 34 (.agg #[.slice aA nA kA]) (put_in 34 hnd rfl) (fun _ _ _ h => h) ⟨_, _, _, rfl, IA.below hb⟩ hb)
  case o35 =>
    rintro Q' L _ W h0L hpre ⟨v, rfl, hv, hb⟩ K hK
    obtain ⟨q1, m1, c1, e1, h1⟩ := hv 33 (hpre 33 (by simp))
    obtain ⟨q2, m2, c2, e2, h2⟩ := hv 34 (hpre 34 (by simp))
    have r104 : (putS a [71, 72, 73, 74, 75, 76, 77, 78, 79, 80, 81, 82, 83, 84, 85, 86, 87, 88, 89, 90, 91, 92, 93, 94, 95, 96, 97, 98, 99, 100, 101, 102, 103, 104, 105, 106, 107, 108] v).eval (.tmp 104) = _ := (eval_in 33 hnd rfl (by omega)).trans e1
    have r105 : (putS a [71, 72, 73, 74, 75, 76, 77, 78, 79, 80, 81, 82, 83, 84, 85, 86, 87, 88, 89, 90, 91, 92, 93, 94, 95, 96, 97, 98, 99, 100, 101, 102, 103, 104, 105, 106, 107, 108] v).eval (.tmp 105) = _ := (eval_in 34 hnd rfl (by omega)).trans e2
    have HPW := wSheet_i h1 h2 E4
    have he : execOp (putS a [71, 72, 73, 74, 75, 76, 77, 78, 79, 80, 81, 82, 83, 84, 85, 86, 87, 88, 89, 90, 91, 92, 93, 94, 95, 96, 97, 98, 99, 100, 101, 102, 103, 104, 105, 106, 107, 108] v).eval opq9_35 = execOp (Act.eval ⟨#[undef], []⟩) ⟨some 0, .call { callee := .value (.func 12), args := #[.const (.agg #[.slice q1 m1 c1]), .const (.agg #[.slice q2 m2 c2])], argTypes := #[25, 25] }, 0, "", #[], none⟩ := by simp only [execOp, eval_const, opq9_35, resolve, eval_func, List.map_toArray, List.map_cons, List.map_nil, r104, r105]
    refine Lid.mk ?_
    unfold Oper.wp
    rw [he]
    clear he
    go_simp
    refine HPW.mono ?_
    rintro e W' ⟨rfl, b'⟩
    exact hK.out _ _ (InvG.nextL (W := W) hv 35 (.bool true) (put_in 35 hnd rfl) (fun j y _ h => Oq9F.keep b' j y h) rfl (hb.trans (b'.mono hb.size)))
  case o36 =>
    rintro Q' L _ W h0L hpre ⟨v, rfl, hv, hb⟩ K hK
    have r106 : (putS a [71, 72, 73, 74, 75, 76, 77, 78, 79, 80, 81, 82, 83, 84, 85, 86, 87, 88, 89, 90, 91, 92, 93, 94, 95, 96, 97, 98, 99, 100, 101, 102, 103, 104, 105, 106, 107, 108] v).eval (.tmp 106) = _ := (eval_in 35 hnd rfl (by omega)).trans (hv 35 (hpre 35 (by simp)))
    have he : execOp (putS a [71, 72, 73, 74, 75, 76, 77, 78, 79, 80, 81, 82, 83, 84, 85, 86, 87, 88, 89, 90, 91, 92, 93, 94, 95, 96, 97, 98, 99, 100, 101, 102, 103, 104, 105, 106, 107, 108] v).eval opq9_36 = execOp (Act.eval ⟨#[undef], []⟩) ⟨some 0, .unOp .not 4 (.const (.bool true)), 0, "", #[], none⟩ := by simp only [execOp, eval_const, opq9_36, r106]
    refine Lid.mk ?_
    unfold Oper.wp
    rw [he]
    clear he
    go_simp
    exact hK.out _ _ (InvG.nextL (W := W) hv 36 (.bool false) (put_in 36 hnd rfl) (fun _ _ _ h => h) rfl hb)
  case o37 =>
    rintro Q' L _ W h0L hpre ⟨v, rfl, hv, hb⟩ K hK
    have r101 : (putS a [71, 72, 73, 74, 75, 76, 77, 78, 79, 80, 81, 82, 83, 84, 85, 86, 87, 88, 89, 90, 91, 92, 93, 94, 95, 96, 97, 98, 99, 100, 101, 102, 103, 104, 105, 106, 107, 108] v).eval (.tmp 101) = _ := (eval_in 30 hnd rfl (by omega)).trans (hv 30 (hpre 30 (by simp)))
    have r107 : (putS a [71, 72, 73, 74, 75, 76, 77, 78, 79, 80, 81, 82, 83, 84, 85, 86, 87, 88, 89, 90, 91, 92, 93, 94, 95, 96, 97, 98, 99, 100, 101, 102, 103, 104, 105, 106, 107, 108] v).eval (.tmp 107) = _ := (eval_in 36 hnd rfl (by omega)).trans (hv 36 (hpre 36 (by simp)))
    have he : execOp (putS a [71, 72, 73, 74, 75, 76, 77, 78, 79, 80, 81, 82, 83, 84, 85, 86, 87, 88, 89, 90, 91, 92, 93, 94, 95, 96, 97, 98, 99, 100, 101, 102, 103, 104, 105, 106, 107, 108] v).eval opq9_37 = execOp (Act.eval ⟨#[undef], []⟩) ⟨some 0, .pick (.const (.bool false)) (.const (.bool true)) (.const (.bool false)), 0, "", #[], none⟩ := by simp only [execOp, eval_const, opq9_37, r101, r107]
    refine Lid.mk ?_
    unfold Oper.wp
    rw [he]
    clear he
    go_simp
    exact hK.out _ _ (InvG.nextL (W := W) hv 37 (.bool false) (put_in 37 hnd rfl) (fun _ _ _ h => h) rfl hb)
def opq11_0 : Oper := { dst := some 109, op := Op.load 25 (Operand.tmp 9), type := 25, pos := "laws.go:209", after := #[], guard := none }
def opq11_1 : Oper := { dst := some 110, op := Op.load 25 (Operand.tmp 7), type := 25, pos := "laws.go:209", after := #[], guard := none }
def opq11_2 : Oper := { dst := some 111, op := Op.call { callee := Callee.value (Operand.func 11), args := #[Operand.tmp 109, Operand.tmp 110], argTypes := #[25, 25] }, type := 25, pos := "laws.go:209", after := #[{ on := 0, ground := Ground.data }, { on := 1, ground := Ground.data }], guard := none }
def opq11_3 : Oper := { dst := some 112, op := Op.load 25 (Operand.tmp 5), type := 25, pos := "laws.go:209", after := #[], guard := none }
def opq11_4 : Oper := { dst := some 113, op := Op.load 25 (Operand.tmp 6), type := 25, pos := "laws.go:209", after := #[], guard := none }
def opq11_5 : Oper := { dst := some 114, op := Op.load 25 (Operand.tmp 7), type := 25, pos := "laws.go:209", after := #[], guard := none }
def opq11_6 : Oper := { dst := some 115, op := Op.call { callee := Callee.value (Operand.func 11), args := #[Operand.tmp 113, Operand.tmp 114], argTypes := #[25, 25] }, type := 25, pos := "laws.go:209", after := #[{ on := 4, ground := Ground.data }, { on := 5, ground := Ground.data }, { on := 2, ground := Ground.chain }], guard := none }
def opq11_7 : Oper := { dst := some 116, op := Op.call { callee := Callee.value (Operand.func 11), args := #[Operand.tmp 112, Operand.tmp 115], argTypes := #[25, 25] }, type := 25, pos := "laws.go:209", after := #[{ on := 3, ground := Ground.data }, { on := 6, ground := Ground.data }, { on := 6, ground := Ground.chain }], guard := none }
def opq11_8 : Oper := { dst := some 117, op := Op.call { callee := Callee.value (Operand.func 12), args := #[Operand.tmp 111, Operand.tmp 116], argTypes := #[25, 25] }, type := 4, pos := "laws.go:209", after := #[{ on := 2, ground := Ground.data }, { on := 7, ground := Ground.data }, { on := 7, ground := Ground.chain }], guard := none }
def opq11_9 : Oper := { dst := some 4, op := Op.assign (Operand.tmp 117), type := 4, pos := "laws.go:209", after := #[{ on := 8, ground := Ground.data }, { on := 8, ground := Ground.chain }, { on := 0, ground := Ground.phase }, { on := 1, ground := Ground.phase }, { on := 2, ground := Ground.phase }, { on := 3, ground := Ground.phase }, { on := 4, ground := Ground.phase }, { on := 5, ground := Ground.phase }, { on := 6, ground := Ground.phase }, { on := 7, ground := Ground.phase }, { on := 8, ground := Ground.phase }], guard := none }
def opsq11 : List Oper := [opq11_0, opq11_1, opq11_2, opq11_3, opq11_4, opq11_5, opq11_6, opq11_7, opq11_8, opq11_9]
def Oq11F (TA TB TC : List PBlock) (j : Nat) (x : Value) (W : World) : Prop := match j with
  | 0 => ∃ a n c, x = .agg #[.slice a n c] ∧ InP (overS TA TB) (.slice a n c) W
  | 1 => ∃ a n c, x = .agg #[.slice a n c] ∧ InP TC (.slice a n c) W
  | 2 => ∃ a n c, x = .agg #[.slice a n c] ∧ InP (overS (overS TA TB) TC) (.slice a n c) W
  | 3 => ∃ a n c, x = .agg #[.slice a n c] ∧ InP TA (.slice a n c) W
  | 4 => ∃ a n c, x = .agg #[.slice a n c] ∧ InP TB (.slice a n c) W
  | 5 => ∃ a n c, x = .agg #[.slice a n c] ∧ InP TC (.slice a n c) W
  | 6 => ∃ a n c, x = .agg #[.slice a n c] ∧ InP (overS TB TC) (.slice a n c) W
  | 7 => ∃ a n c, x = .agg #[.slice a n c] ∧ InP (overS TA (overS TB TC)) (.slice a n c) W
  | 8 => x = .bool true
  | 9 => x = .bool true
  | _ => True
set_option maxHeartbeats 2000000 in
set_option maxRecDepth 10000 in
theorem Oq11F.keep {TA TB TC : List PBlock} {W W' : World} (hb : Below W.heap.size W W') (j : Nat) (x : Value) (h : Oq11F TA TB TC j x W) : Oq11F TA TB TC j x W' := by
  unfold Oq11F at *
  split at h
  · obtain ⟨a, n, c, e, h⟩ := h; exact ⟨a, n, c, e, h.below hb⟩
  · obtain ⟨a, n, c, e, h⟩ := h; exact ⟨a, n, c, e, h.below hb⟩
  · obtain ⟨a, n, c, e, h⟩ := h; exact ⟨a, n, c, e, h.below hb⟩
  · obtain ⟨a, n, c, e, h⟩ := h; exact ⟨a, n, c, e, h.below hb⟩
  · obtain ⟨a, n, c, e, h⟩ := h; exact ⟨a, n, c, e, h.below hb⟩
  · obtain ⟨a, n, c, e, h⟩ := h; exact ⟨a, n, c, e, h.below hb⟩
  · obtain ⟨a, n, c, e, h⟩ := h; exact ⟨a, n, c, e, h.below hb⟩
  · obtain ⟨a, n, c, e, h⟩ := h; exact ⟨a, n, c, e, h.below hb⟩
  · exact h
  · exact h
  · trivial
set_option maxHeartbeats 2000000 in
set_option maxRecDepth 10000 in
theorem regionq11 {Q : Exit → Act → World → Prop} {a : Act} {W0 : World} {TA TB TC : List PBlock} {gM nM kM gC nC kC gA nA kA gB nB kB : Nat} {aM aC aA aB : Option Addr} (cM : W0.cell? ⟨gM, 0, none⟩ = some (.slice aM nM kM)) (IM : InP (overS TA TB) (.slice aM nM kM) W0) (cC : W0.cell? ⟨gC, 0, none⟩ = some (.slice aC nC kC)) (IC : InP TC (.slice aC nC kC) W0) (cA : W0.cell? ⟨gA, 0, none⟩ = some (.slice aA nA kA)) (IA : InP TA (.slice aA nA kA) W0) (cB : W0.cell? ⟨gB, 0, none⟩ = some (.slice aB nB kB)) (IB : InP TB (.slice aB nB kB) W0) (hst : StdAt W0) (E1 : overS (overS TA TB) TC = overS TA (overS TB TC)) (hs9 : a.eval (.tmp 9) = .pointer (some ⟨gM, 0, none⟩)) (hs7 : a.eval (.tmp 7) = .pointer (some ⟨gC, 0, none⟩)) (hs5 : a.eval (.tmp 5) = .pointer (some ⟨gA, 0, none⟩)) (hs6 : a.eval (.tmp 6) = .pointer (some ⟨gB, 0, none⟩)) (hsz : a.tmps.size = 118)
    (hQ : ∀ v a' W2, a' = putS a [109, 110, 111, 112, 113, 114, 115, 116, 117, 4] v → v 9 = .bool true → Below W0.heap.size W0 W2 → Q .normal a' W2) : (Code.region 11 opsq11.toArray true).wp Tryz.prog Q a W0 := by
  have hnd : ([109, 110, 111, 112, 113, 114, 115, 116, 117, 4] : List Nat).Nodup := by decide
  refine wp_region_invE0 [109, 110, 111, 112, 113, 114, 115, 116, 117, 4] (Oq11F TA TB TC) (fun _ W => Below W0.heap.size W0 W) 10 [0, 1, 2, 3, 4, 5, 6, 7, 8, 9] (by kernel_rfl) rfl (by decide) (by kernel_rfl) ?h1 (Below.refl _ _).drew ?hall (fun v w' L hL hF hG => NoPanic.normal (hQ v _ w' rfl (hF 9) hG))
  case h1 =>
    intro i x W hi
    unfold Oq11F
    split <;> first | omega | trivial
  refine AllInv.consQ (o := opq11_0) [] (by kernel_rfl) (by decide) (by kernel_rfl) rfl ?o0 (AllInv.consQ (o := opq11_1) [] (by kernel_rfl) (by decide) (by kernel_rfl) rfl ?o1 (AllInv.consQ (o := opq11_2) [0, 1] (by kernel_rfl) (by decide) (by kernel_rfl) rfl ?o2 (AllInv.consQ (o := opq11_3) [] (by kernel_rfl) (by decide) (by kernel_rfl) rfl ?o3 (AllInv.consQ (o := opq11_4) [] (by kernel_rfl) (by decide) (by kernel_rfl) rfl ?o4 (AllInv.consQ (o := opq11_5) [] (by kernel_rfl) (by decide) (by kernel_rfl) rfl ?o5 (AllInv.consQ (o := opq11_6) [4, 5, 2] (by kernel_rfl) (by decide) (by kernel_rfl) rfl ?o6 (AllInv.consQ (o := opq11_7) [3, 6, 6] (by kernel_rfl) (by decide) (by kernel_rfl) rfl ?o7 (AllInv.consQ (o := opq11_8) [2, 7, 7] (by kernel_rfl) (by decide) (by kernel_rfl) rfl ?o8 (AllInv.consQ (o := opq11_9) [8, 8, 0, 1, 2, 3, 4, 5, 6, 7, 8] (by kernel_rfl) (by decide) (by kernel_rfl) rfl ?o9 (AllInv.nil))))))))))
  case o0 =>
    rintro Q' L _ W h0L hpre ⟨v, rfl, hv, hb⟩ K hK
    have k1 := (hb.cell (World.block_lt_of_cell? _ _ cM)).trans cM
    have r9 := (eval_out (v := v) (show 9 ∉ ([109, 110, 111, 112, 113, 114, 115, 116, 117, 4] : List Nat) by decide)).trans hs9
    have he : execOp (putS a [109, 110, 111, 112, 113, 114, 115, 116, 117, 4] v).eval opq11_0 = execOp (Act.eval ⟨#[undef], []⟩) ⟨some 0, .load 25 (.const (.pointer (some ⟨gM, 0, none⟩))), 0, "", #[], none⟩ := by simp only [execOp, eval_const, opq11_0, r9]
    refine Lid.mk ?_
    unfold Oper.wp
    rw [he]
    clear he
    go_simp
    exact hK.out _ _ (InvG.nextL (W := W) hv 0 (.agg #[.slice aM nM kM]) (put_in 0 hnd rfl) (fun _ _ _ h => h) ⟨_, _, _, rfl, IM.below hb⟩ hb)
  case o1 =>
    rintro Q' L _ W h0L hpre ⟨v, rfl, hv, hb⟩ K hK
    have k1 := (hb.cell (World.block_lt_of_cell? _ _ cC)).trans cC
    have r7 := (eval_out (v := v) (show 7 ∉ ([109, 110, 111, 112, 113, 114, 115, 116, 117, 4] : List Nat) by decide)).trans hs7
    have he : execOp (putS a [109, 110, 111, 112, 113, 114, 115, 116, 117, 4] v).eval opq11_1 = execOp (Act.eval ⟨#[undef], []⟩) ⟨some 0, .load 25 (.const (.pointer (some ⟨gC, 0, none⟩))), 0, "", #[], none⟩ := by simp only [execOp, eval_const, opq11_1, r7]
    refine Lid.mk ?_
    unfold Oper.wp
    rw [he]
    clear he
    go_simp
    exact hK.out _ _ (InvG.nextL (W := W) hv 1 (.agg #[.slice aC nC kC]) (put_in 1 hnd rfl) (fun _ _ _ h => h) ⟨_, _, _, rfl, IC.below hb⟩ hb)
  case o2 =>
    rintro Q' L _ W h0L hpre ⟨v, rfl, hv, hb⟩ K hK
    obtain ⟨q1, m1, c1, e1, h1⟩ := hv 0 (hpre 0 (by simp))
    obtain ⟨q2, m2, c2, e2, h2⟩ := hv 1 (hpre 1 (by simp))
    have r109 : (putS a [109, 110, 111, 112, 113, 114, 115, 116, 117, 4] v).eval (.tmp 109) = _ := (eval_in 0 hnd rfl (by omega)).trans e1
    have r110 : (putS a [109, 110, 111, 112, 113, 114, 115, 116, 117, 4] v).eval (.tmp 110) = _ := (eval_in 1 hnd rfl (by omega)).trans e2
    have HPW := implOver_i (hst.below hb) h1 h2
    have he : execOp (putS a [109, 110, 111, 112, 113, 114, 115, 116, 117, 4] v).eval opq11_2 = execOp (Act.eval ⟨#[undef], []⟩) ⟨some 0, .call { callee := .value (.func 11), args := #[.const (.agg #[.slice q1 m1 c1]), .const (.agg #[.slice q2 m2 c2])], argTypes := #[25, 25] }, 0, "", #[], none⟩ := by simp only [execOp, eval_const, opq11_2, resolve, eval_func, List.map_toArray, List.map_cons, List.map_nil, r109, r110]
    refine Lid.mk ?_
    unfold Oper.wp
    rw [he]
    clear he
    go_simp
    refine HPW.mono ?_
    rintro e W' ⟨q, m, cc, rfl, hP, b'⟩
    exact hK.out _ _ (InvG.nextL (W := W) hv 2 (.agg #[.slice q m cc]) (put_in 2 hnd rfl) (fun j y _ h => Oq11F.keep b' j y h) ⟨q, m, cc, rfl, hP⟩ (hb.trans (b'.mono hb.size)))
  case o3 =>
    rintro Q' L _ W h0L hpre ⟨v, rfl, hv, hb⟩ K hK
    have k1 := (hb.cell (World.block_lt_of_cell? _ _ cA)).trans cA
    have r5 := (eval_out (v := v) (show 5 ∉ ([109, 110, 111, 112, 113, 114, 115, 116, 117, 4] : List Nat) by decide)).trans hs5
    have he : execOp (putS a [109, 110, 111, 112, 113, 114, 115, 116, 117, 4] v).eval opq11_3 = execOp (Act.eval ⟨#[undef], []⟩) ⟨some 0, .load 25 (.const (.pointer (some ⟨gA, 0, none⟩))), 0, "", #[], none⟩ := by simp only [execOp, eval_const, opq11_3, r5]
    refine Lid.mk ?_
    unfold Oper.wp
    rw [he]
    clear he
    go_simp
    exact hK.out _ _ (InvG.nextL (W := W) hv 3 (.agg #[.slice aA nA kA]) (put_in 3 hnd rfl) (fun _ _ _ h => h) ⟨_, _, _, rfl, IA.below hb⟩ hb)
  case o4 =>
    rintro Q' L _ W h0L hpre ⟨v, rfl, hv, hb⟩ K hK
    have k1 := (hb.cell (World.block_lt_of_cell? _ _ cB)).trans cB
    have r6 := (eval_out (v := v) (show 6 ∉ ([109, 110, 111, 112, 113, 114, 115, 116, 117, 4] : List Nat) by decide)).trans hs6
    have he : execOp (putS a [109, 110, 111, 112, 113, 114, 115, 116, 117, 4] v).eval opq11_4 = execOp (Act.eval ⟨#[undef], []⟩) ⟨some 0, .load 25 (.const (.pointer (some ⟨gB, 0, none⟩))), 0, "", #[], none⟩ := by simp only [execOp, eval_const, opq11_4, r6]
    refine Lid.mk ?_
    unfold Oper.wp
    rw [he]
    clear he
    go_simp
    exact hK.out _ _ (InvG.nextL (W := W) hv 4 (.agg #[.slice aB nB kB]) (put_in 4 hnd rfl) (fun _ _ _ h => h) ⟨_, _, _, rfl, IB.below hb⟩ hb)
  case o5 =>
    rintro Q' L _ W h0L hpre ⟨v, rfl, hv, hb⟩ K hK
    have k1 := (hb.cell (World.block_lt_of_cell? _ _ cC)).trans cC
    have r7 := (eval_out (v := v) (show 7 ∉ ([109, 110, 111, 112, 113, 114, 115, 116, 117, 4] : List Nat) by decide)).trans hs7
    have he : execOp (putS a [109, 110, 111, 112, 113, 114, 115, 116, 117, 4] v).eval opq11_5 = execOp (Act.eval ⟨#[undef], []⟩) ⟨some 0, .load 25 (.const (.pointer (some ⟨gC, 0, none⟩))), 0, "", #[], none⟩ := by simp only [execOp, eval_const, opq11_5, r7]
    refine Lid.mk ?_
    unfold Oper.wp
    rw [he]
    clear he
    go_simp
    exact hK.out _ _ (InvG.nextL (W := W) hv 5 (.agg #[.slice aC nC kC]) (put_in 5 hnd rfl) (fun _ _ _ h => h) ⟨_, _, _, rfl, IC.below hb⟩ hb)
  case o6 =>
    rintro Q' L _ W h0L hpre ⟨v, rfl, hv, hb⟩ K hK
    obtain ⟨q1, m1, c1, e1, h1⟩ := hv 4 (hpre 4 (by simp))
    obtain ⟨q2, m2, c2, e2, h2⟩ := hv 5 (hpre 5 (by simp))
    have r113 : (putS a [109, 110, 111, 112, 113, 114, 115, 116, 117, 4] v).eval (.tmp 113) = _ := (eval_in 4 hnd rfl (by omega)).trans e1
    have r114 : (putS a [109, 110, 111, 112, 113, 114, 115, 116, 117, 4] v).eval (.tmp 114) = _ := (eval_in 5 hnd rfl (by omega)).trans e2
    have HPW := implOver_i (hst.below hb) h1 h2
    have he : execOp (putS a [109, 110, 111, 112, 113, 114, 115, 116, 117, 4] v).eval opq11_6 = execOp (Act.eval ⟨#[undef], []⟩) ⟨some 0, .call { callee := .value (.func 11), args := #[.const (.agg #[.slice q1 m1 c1]), .const (.agg #[.slice q2 m2 c2])], argTypes := #[25, 25] }, 0, "", #[], none⟩ := by simp only [execOp, eval_const, opq11_6, resolve, eval_func, List.map_toArray, List.map_cons, List.map_nil, r113, r114]
    refine Lid.mk ?_
    unfold Oper.wp
    rw [he]
    clear he
    go_simp
    refine HPW.mono ?_
    rintro e W' ⟨q, m, cc, rfl, hP, b'⟩
    exact hK.out _ _ (InvG.nextL (W := W) hv 6 (.agg #[.slice q m cc]) (put_in 6 hnd rfl) (fun j y _ h => Oq11F.keep b' j y h) ⟨q, m, cc, rfl, hP⟩ (hb.trans (b'.mono hb.size)))
  case o7 =>
    rintro Q' L _ W h0L hpre ⟨v, rfl, hv, hb⟩ K hK
    obtain ⟨q1, m1, c1, e1, h1⟩ := hv 3 (hpre 3 (by simp))
    obtain ⟨q2, m2, c2, e2, h2⟩ := hv 6 (hpre 6 (by simp))
    have r112 : (putS a [109, 110, 111, 112, 113, 114, 115, 116, 117, 4] v).eval (.tmp 112) = _ := (eval_in 3 hnd rfl (by omega)).trans e1
    have r115 : (putS a [109, 110, 111, 112, 113, 114, 115, 116, 117, 4] v).eval (.tmp 115) = _ := (eval_in 6 hnd rfl (by omega)).trans e2
    have HPW := implOver_i (hst.below hb) h1 h2
    have he : execOp (putS a [109, 110, 111, 112, 113, 114, 115, 116, 117, 4] v).eval opq11_7 = execOp (Act.eval ⟨#[undef], []⟩) ⟨some 0, .call { callee := .value (.func 11), args := #[.const (.agg #[.slice q1 m1 c1]), .const (.agg #[.slice q2 m2 c2])], argTypes := #[25, 25] }, 0, "", #[], none⟩ := by simp only [execOp, eval_const, opq11_7, resolve, eval_func, List.map_toArray, List.map_cons, List.map_nil, r112, r115]
    refine Lid.mk ?_
    unfold Oper.wp
    rw [he]
    clear he
    go_simp
    refine HPW.mono ?_
    rintro e W' ⟨q, m, cc, rfl, hP, b'⟩
    exact hK.out _ _ (InvG.nextL (W := W) hv 7 (.agg #[.slice q m cc]) (put_in 7 hnd rfl) (fun j y _ h => Oq11F.keep b' j y h) ⟨q, m, cc, rfl, hP⟩ (hb.trans (b'.mono hb.size)))
  case o8 =>
    rintro Q' L _ W h0L hpre ⟨v, rfl, hv, hb⟩ K hK
    obtain ⟨q1, m1, c1, e1, h1⟩ := hv 2 (hpre 2 (by simp))
    obtain ⟨q2, m2, c2, e2, h2⟩ := hv 7 (hpre 7 (by simp))
    have r111 : (putS a [109, 110, 111, 112, 113, 114, 115, 116, 117, 4] v).eval (.tmp 111) = _ := (eval_in 2 hnd rfl (by omega)).trans e1
    have r116 : (putS a [109, 110, 111, 112, 113, 114, 115, 116, 117, 4] v).eval (.tmp 116) = _ := (eval_in 7 hnd rfl (by omega)).trans e2
    have HPW := wSheet_i h1 h2 E1
    have he : execOp (putS a [109, 110, 111, 112, 113, 114, 115, 116, 117, 4] v).eval opq11_8 = execOp (Act.eval ⟨#[undef], []⟩) ⟨some 0, .call { callee := .value (.func 12), args := #[.const (.agg #[.slice q1 m1 c1]), .const (.agg #[.slice q2 m2 c2])], argTypes := #[25, 25] }, 0, "", #[], none⟩ := by simp only [execOp, eval_const, opq11_8, resolve, eval_func, List.map_toArray, List.map_cons, List.map_nil, r111, r116]
    refine Lid.mk ?_
    unfold Oper.wp
    rw [he]
    clear he
    go_simp
    refine HPW.mono ?_
    rintro e W' ⟨rfl, b'⟩
    exact hK.out _ _ (InvG.nextL (W := W) hv 8 (.bool true) (put_in 8 hnd rfl) (fun j y _ h => Oq11F.keep b' j y h) rfl (hb.trans (b'.mono hb.size)))
  case o9 =>
    rintro Q' L _ W h0L hpre ⟨v, rfl, hv, hb⟩ K hK
    have r117 : (putS a [109, 110, 111, 112, 113, 114, 115, 116, 117, 4] v).eval (.tmp 117) = _ := (eval_in 8 hnd rfl (by omega)).trans (hv 8 (hpre 8 (by simp)))
    have he : execOp (putS a [109, 110, 111, 112, 113, 114, 115, 116, 117, 4] v).eval opq11_9 = execOp (Act.eval ⟨#[undef], []⟩) ⟨some 0, .assign (.const (.bool true)), 0, "", #[], none⟩ := by simp only [execOp, eval_const, opq11_9, r117]
    refine Lid.mk ?_
    unfold Oper.wp
    rw [he]
    clear he
    go_simp
    exact hK.out _ _ (InvG.nextL (W := W) hv 9 (.bool true) (put_in 9 hnd rfl) (fun _ _ _ h => h) rfl hb)
end Go.Proofs.YtpdahhnjhggocaaGreatDoor
