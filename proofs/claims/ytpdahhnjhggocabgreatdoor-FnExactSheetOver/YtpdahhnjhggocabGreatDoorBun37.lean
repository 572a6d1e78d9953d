import Derived.Test.YtpdahhnjhggocabGreatDoorBun36
import Derived.Test.YtpdahhnjhggocabGreatDoorBun35
import Derived.Test.YtpdahhnjhggocabGreatDoorBun18
import Derived.WideMake
import Derived.WideLaws
namespace Go.Proofs.YtpdahhnjhggocabGreatDoor
open Go.RowKit
def OvRel (w2 : World) (us os : List BAt) (cv : Value) (nt : Nat) (i : Value) (wr : World) : Prop := ∃ (j : Nat) (bs : List BAt), i = .int .i64 (j : Int) ∧ j ≤ nt ∧ OvL w2 us os cv j bs wr
theorem blocks_one {w : World} {v : Value} {bs : List BAt} (h : BlocksIn w v bs) : ∀ y ∈ bs.flatMap BAt.cells, y.oneCell' = true := by
  intro y hy
  obtain ⟨b, hb, hy⟩ := List.mem_flatMap.1 hy
  obtain ⟨a, c, e⟩ := (h.2 b hb).1.form
  simp only [BAt.cells, List.mem_cons, List.not_mem_nil, or_false] at hy
  rcases hy with rfl | rfl | rfl
  · rfl
  · rfl
  · rw [e]; rfl
set_option maxHeartbeats 16000000 in
set_option maxRecDepth 100000 in
theorem implOver_any {uv ov : Value} {us os : List BAt} {w : World} (hu : BlocksIn w uv us) (ho : BlocksIn w ov os) (hsu : BlocksSmall us) (hso : BlocksSmall os) (hst : StdAt w) : Calls Tryz.prog 32 #[.agg #[uv], .agg #[ov]] w fun e w' => ∃ v' bs', e = .returned (.agg #[v']) ∧ bs'.map BAt.plain = overS (us.map BAt.plain) (os.map BAt.plain) ∧ BlocksOwn w.heap.size w' v' bs' ∧ Below w.heap.size w w' := by
  obtain ⟨ua, uc, rfl⟩ := hu.1.form
  obtain ⟨oa, oc, rfl⟩ := ho.1.form
  have a3 := alloc3 (w := w) (o1 := .cells #[.slice ua us.length uc] 24) (o2 := .cells #[.slice oa os.length oc] 24) (o3 := .cells #[.slice none 0 0] 24)
  have b3 : Below w.heap.size w (((w.alloc (.cells #[.slice ua us.length uc] 24)).alloc (.cells #[.slice oa os.length oc] 24)).alloc (.cells #[.slice none 0 0] 24)) := (((Below.refl _ _).alloc (Nat.le_refl _) _).alloc (by simp) _).alloc (by simp; omega) _
  have HV := implValid_any (hu.below b3) hsu (hst.below b3)
  have HU := hid_in hu
  have HO := hid_in ho
  have HSU := hid_in hsu
  have HSO := hid_in hso
  have HST := hid_in hst
  clear hu ho hsu hso hst
  generalize hnu : us.length = nu at *
  generalize hno : os.length = no at *
  have ENU := hid_in hnu
  have ENO := hid_in hno
  clear hnu hno
  obtain ⟨s3, hub, hob, hrb⟩ := a3
  have cu := cell_of_block hub 0
  have co := cell_of_block hob 0
  simp only [List.getElem?_toArray, List.getElem?_cons_zero] at cu co
  generalize hW3 : ((w.alloc (.cells #[.slice ua nu uc] 24)).alloc (.cells #[.slice oa no oc] 24)).alloc (.cells #[.slice none 0 0] 24) = W3 at *
  go_enter Tryz.func32, Tryz.ntmps32
  go_wp2_with (go_at_call 64; (try rw [hW3]); refine HV.mono ?_)
  first | rintro e w1 rfl b1 | rintro e w1 ⟨rfl, b1⟩
  have hz1 := b1.size
  have g1 := b3.trans (b1.mono b3.size)
  have ub1 := (b1.block w.heap.size (by omega)).trans hub
  have ob1 := (b1.block (w.heap.size + 1) (by omega)).trans hob
  have rb1 := (b1.block (w.heap.size + 2) (by omega)).trans hrb
  have co1 := cell_of_block ob1 0
  simp only [List.getElem?_toArray, List.getElem?_cons_zero] at co1
  clear HV cu co hub hob hrb hW3 b3 b1
  cases hUK : sheetB (us.map BAt.plain)
  · have HG := hid_in (show ([] : List BAt).map BAt.plain = overS (us.map BAt.plain) (os.map BAt.plain) from (over_not (.inl hUK)).symm)
    clear hUK
    have b5 : Below w.heap.size w (w1.setRow (w.heap.size + 2) #[.slice none 0 0]) := ⟨g1.os, g1.tape, g1.output, by rw [setRow_size]; exact g1.size, fun k hk => by rw [setRow_other _ _ _ _ (by omega)]; exact g1.block k hk⟩
    go_wp2_with (with_reducible show wpList _ _ _ (Oper.mk _ (Op.store _ (Operand.tmp 4) _) _ _ _ _ :: _) _ _; refine wpList_store_row rfl 24 _ _ rfl (w.heap.size + 2) #[.slice none 0 0] ?_ ?_ 24 _ rb1 ?_ ?_ ?_ ?_)
    all_goals (first | rfl | kernel_rfl | exact sheet_size | skip)
    have z5 : (w1.setRow (w.heap.size + 2) #[.slice none 0 0]).heap[w.heap.size + 2]? = some (.cells #[.slice none 0 0] 24 (0, 0)) := setRow_heap _ _ _ _ _ _ rb1
    have y0 := cell_of_block z5 0
    simp only [List.getElem?_toArray, List.getElem?_cons_zero] at y0
    generalize w1.setRow (w.heap.size + 2) #[.slice none 0 0] = W at b5 y0 z5 ⊢
    exact bodyPost_ret (v := .agg #[.slice none 0 0]) (by simp [results, Tryz.results32, go_sem, y0]) rfl ⟨_, [], rfl, HG.out, blocks_none _ _, b5⟩
  · have HUK := hid_in hUK
    clear hUK
    have HV2 := implValid_any (HO.out.below g1) HSO.out (HST.out.below g1)
    go_wp2_with (go_at_call 64; (try rw [ENO.out]); refine HV2.mono ?_)
    first | rintro e w2 rfl b2 | rintro e w2 ⟨rfl, b2⟩
    have hz2 := b2.size
    have g2 := g1.trans (b2.mono g1.size)
    have ub2 := (b2.block w.heap.size (by omega)).trans ub1
    have ob2 := (b2.block (w.heap.size + 1) (by omega)).trans ob1
    have rb2 := (b2.block (w.heap.size + 2) (by omega)).trans rb1
    clear HV2 ub1 ob1 rb1 co1 b2
    cases hOK : sheetB (os.map BAt.plain)
    · have HG := hid_in (show ([] : List BAt).map BAt.plain = overS (us.map BAt.plain) (os.map BAt.plain) from (over_not (.inr hOK)).symm)
      clear hOK
      have b5 : Below w.heap.size w (w2.setRow (w.heap.size + 2) #[.slice none 0 0]) := ⟨g2.os, g2.tape, g2.output, by rw [setRow_size]; exact g2.size, fun k hk => by rw [setRow_other _ _ _ _ (by omega)]; exact g2.block k hk⟩
      go_wp2_with (with_reducible show wpList _ _ _ (Oper.mk _ (Op.store _ (Operand.tmp 4) _) _ _ _ _ :: _) _ _; refine wpList_store_row rfl 24 _ _ rfl (w.heap.size + 2) #[.slice none 0 0] ?_ ?_ 24 _ rb2 ?_ ?_ ?_ ?_)
      all_goals (first | rfl | kernel_rfl | exact sheet_size | skip)
      have z5 : (w2.setRow (w.heap.size + 2) #[.slice none 0 0]).heap[w.heap.size + 2]? = some (.cells #[.slice none 0 0] 24 (0, 0)) := setRow_heap _ _ _ _ _ _ rb2
      have y0 := cell_of_block z5 0
      simp only [List.getElem?_toArray, List.getElem?_cons_zero] at y0
      generalize w2.setRow (w.heap.size + 2) #[.slice none 0 0] = W at b5 y0 z5 ⊢
      exact bodyPost_ret (v := .agg #[.slice none 0 0]) (by simp [results, Tryz.results32, go_sem, y0]) rfl ⟨_, [], rfl, HG.out, blocks_none _ _, b5⟩
    · have HOK := hid_in hOK
      clear hOK
      have oku := hid_in (sheetB_iff.1 HUK.out)
      have oko := hid_in (sheetB_iff.1 HOK.out)
      have hnu : nu ≤ 60 := by rw [← ENU.out, ← List.length_map (f := BAt.plain)]; exact oku.out.1
      have hno : no ≤ 60 := by rw [← ENO.out, ← List.length_map (f := BAt.plain)]; exact oko.out.1
      have hmm := run_makeMap_plain (P := Tryz.prog) w2 121
      have x1 := (Below.refl w2.heap.size w2).alloc (Nat.le_refl _) (.map #[] 0)
      have x2 := x1.alloc (by simp) (.cells #[.slice ua nu uc, .slice oa no oc] 22)
      have m1 := alloc_here w2 (.map #[] 0)
      have cU1 := cell_of_block ((x1.block _ (by omega)).trans ub2) 0
      have cO1 := cell_of_block ((x1.block _ (by omega)).trans ob2) 0
      simp only [List.getElem?_toArray, List.getElem?_cons_zero] at cU1 cO1
      have hcb := alloc_here (w2.alloc (.map #[] 0)) (.cells #[.slice ua nu uc, .slice oa no oc] 22)
      have g4 := g2.trans (x2.mono g2.size)
      have HC := concatB_any hcb ((HU.out.below g4).1) ((HO.out.below g4).1) (blocks_one HU.out) (blocks_one HO.out) (by rw [ENU.out, ENO.out]; omega)
      rw [ENU.out, ENO.out, World.size_alloc] at HC
      have m2 := (Below.heap_alloc (w2.alloc (.map #[] 0)) (.cells #[.slice ua nu uc, .slice oa no oc] 22) w2.heap.size (by simp)).trans m1
      have HX2 := hid_in x2
      have HM2 := hid_in m2
      clear x1 x2 m1 m2 hcb g4
      go_wp2_with (go_at_call 85; refine HC.mono ?_)
      rintro e w5 ⟨cv, rfl, hr5, b5⟩
      have s4 : ((w2.alloc (.map #[] 0)).alloc (.cells #[.slice ua nu uc, .slice oa no oc] 22)).heap.size = w2.heap.size + 2 := by simp
      rw [s4] at hr5 b5
      obtain ⟨ca, cc, rfl, _⟩ := own_form hr5
      have x5 := hid_in (HX2.out.trans (b5.mono (by omega)))
      have HL0 := hid_in (show OvL w2 us os (.slice ca (nu + no) cc) 0 [] w5 from ⟨⟨x5.out, (b5.block w2.heap.size (by omega)).trans HM2.out, Mem.nil _ _, by simp, by simp, Nat.le_refl _⟩, by rw [ENU.out, ENO.out, List.flatMap_append]; exact own_mono hr5 (by omega), .inl ⟨Nat.zero_le _, laid_start _ _⟩⟩)
      clear HC hr5 b5 s4 HX2 HM2 x5 hmm cU1 cO1
      go_wp2
      go_loopw [26] (fun i wr => OvRel w2 us os (.slice ca (nu + no) cc) (nu + no) i wr) (fun i _ => nu + no - (intOf i).toNat)
      case atStart => exact ⟨0, [], rfl, by omega, HL0.out⟩
      case round =>
        obtain ⟨j, bs, rfl, hj, hL⟩ := hrel
        clear HL0
        have bw := hL.1.bw
        have hzw := bw.size
        by_cases hlt : j < nu + no
        · obtain ⟨D, x, T, e0, hD⟩ := split1 (us ++ os) j (by rw [List.length_append, ENU.out, ENO.out]; exact hlt)
          have hx : (us ++ os)[j]? = some x := by rw [e0, ← hD]; simp
          have HSTEP := hid_in (OvL.step (HU.out.below g2) (HO.out.below g2) HSU.out HSO.out oku.out oko.out hL hx)
          have hrow := own_has hL.2.1
          rw [e0] at hrow
          obtain ⟨g, off, rfl, d1, d2, d3⟩ := hrow.block
          rw [hD] at d1 d2 d3
          have hxv : ∃ xa xm xc, x.v = .slice xa xm xc := by
            rcases List.mem_append.1 (List.mem_of_getElem? hx) with hm | hm
            · obtain ⟨xa, xc, e⟩ := (HU.out.2 x hm).1.form
              exact ⟨_, _, _, e⟩
            · obtain ⟨xa, xc, e⟩ := (HO.out.2 x hm).1.form
              exact ⟨_, _, _, e⟩
          obtain ⟨xk, xn, xv, xl⟩ := x
          obtain ⟨xa, xm, xc, e9⟩ := hxv
          dsimp only at e9 d1 d2 d3
          subst e9
          have hmp := hid_in hL.1.mp
          have q1 : ¬ ((j : Int) < 0) := by omega
          clear hL hrow e0 hD hx
          go_wp2_with (go_at_call 86; refine (headOf_any _ _ _ _ _ _).mono ?_)
          first | rintro e w6 rfl b6 | rintro e w6 ⟨rfl, b6⟩
          have x6 := (Below.refl wr.heap.size wr).alloc (Nat.le_refl _) (.cells #[.string xk, .string xn, .slice xa xm xc] 64)
          have b7 := (Below.refl w6.heap.size w6).alloc (Nat.le_refl _) (.cells #[.string xk, .string xn] 124)
          have hz6 := b6.size
          rw [World.size_alloc] at hz6
          have b8 : Below wr.heap.size wr (w6.alloc (.cells #[.string xk, .string xn] 124)) := (x6.trans (b6.mono (by omega))).trans (b7.mono (by omega))
          have zR := (b7.block wr.heap.size (by omega)).trans ((b6.block wr.heap.size (by omega)).trans (alloc_here wr (.cells #[.string xk, .string xn, .slice xa xm xc] 64)))
          have zH := alloc_here w6 (.cells #[.string xk, .string xn] 124)
          have zM := (b8.block w2.heap.size (Array.getElem?_eq_some_iff.1 hmp.out).1).trans hmp.out
          have ZR := hid_in zR
          have ZH := hid_in zH
          have ZM := hid_in zM
          have B8 := hid_in b8
          clear zR zH zM b8 b7 b6 x6 d1 d2 d3 hmp
          go_upto_region 8 with fail
          have s8 := B8.out.size
          refine regionM8 (LayIs ⟨xk, xn, .slice xa xm xc, xl⟩ (found xk xn bs)) ZM.out ZH.out ZR.out (fun W hb => HSTEP.out.1 W (B8.out.trans (hb.mono s8))) (by kernel_rfl) (by kernel_rfl) (by kernel_rfl) (by kernel_rfl) ?_
          rintro v2 a' q m cc2 ls W1 W2 ha' hb1 hlay hb2
          simp only [putS, setS, List.setIfInBounds_toArray, List.set_cons_zero, List.set_cons_succ] at ha'
          subst ha'
          have HN := hid_in (HSTEP.out.2 (.slice q m cc2) ls W1 W2 (B8.out.trans (hb1.mono s8)) hlay hb2)
          clear HSTEP hlay hb1 hb2 ZR ZH ZM B8
          go_wp2
          go_roundw
          case rel => exact ⟨j + 1, _, by go_num, by omega, HN.out⟩
          case measure => simp [intOf]; omega
        · have ej : j = us.length + os.length := by rw [ENU.out, ENO.out]; omega
          have ej2 : j = nu + no := by omega
          have HPM := hid_in (OvL.perm oku.out oko.out (ej ▸ hL))
          have HI := hid_in hL.1
          have hmp := hL.1.mp
          unfold mObj at hmp
          have hlm := run_len_map (P := Tryz.prog) (w := wr) 121 3 w2.heap.size _ _ (by kernel_rfl) hmp
          have hes : (bs.mapIdx mEnt).toArray.size = bs.length := by simp
          rw [hes] at hlm
          clear hes hmp hL ej
          subst ej2
          have rbr := (bw.block (w.heap.size + 2) (by omega)).trans rb2
          have gw := g2.trans (bw.mono g2.size)
          by_cases h60 : bs.length ≤ 60
          · have q2 : ¬ ((60 : Int) < (bs.length : Int)) := by omega
            have xv := (Below.refl wr.heap.size wr).alloc (Nat.le_refl _) (.cells #[.map (some w2.heap.size)] 121)
            have HS := sorted_any wr.heap.size w2.heap.size bs (by omega) (fun b hb => by
              obtain ⟨xa, xc, e⟩ := (HI.out.blockIn hb).lin.1.form
              exact ⟨_, _, _, e⟩) (wr.alloc (.cells #[.map (some w2.heap.size)] 121)) (by simp) ((xv.block _ (Array.getElem?_eq_some_iff.1 HI.out.mp).1).trans HI.out.mp)
            have HXV := hid_in xv
            clear xv
            go_wp2_with (first | (go_at_call 89; refine (values_any _ _).mono ?_; first | rintro e w6 rfl rfl | rintro e w6 ⟨rfl, rfl⟩) | (go_at_call 88; refine HS.mono ?_))
            rintro e w7 ⟨v7, xs, rfl, p1, ⟨p2, p3⟩, b7⟩
            have b8 := HXV.out.trans (b7.mono (by simp))
            have HW := hid_in (HI.out.own b8 p1 (own_mono p2 (by simp)))
            have HE := hid_in (over_sorted (xs := xs) oku.out oko.out (by rw [← HPM.out.length_eq, List.length_map]; exact h60) ((p1.map BAt.plain).trans HPM.out) p3)
            have hz8 := b8.size
            have rb7 := (b8.block (w.heap.size + 2) (by omega)).trans rbr
            have g7 := gw.trans (b8.mono gw.size)
            obtain ⟨va, vc, rfl, _⟩ := own_form HW.out.row
            clear HS p1 p2 p3 b7 b8 HXV HI HPM hlm rbr
            generalize xs.length = nx at *
            go_wp2_with (with_reducible show wpList _ _ _ (Oper.mk _ (Op.store _ (Operand.tmp 4) _) _ _ _ _ :: _) _ _; refine wpList_store_row rfl 24 _ _ rfl (w.heap.size + 2) #[.slice va nx vc] ?_ ?_ 24 _ rb7 ?_ ?_ ?_ ?_)
            all_goals (first | rfl | kernel_rfl | exact sheet_size | skip)
            have z5 : (w7.setRow (w.heap.size + 2) #[.slice va nx vc]).heap[w.heap.size + 2]? = some (.cells #[.slice va nx vc] 24 (0, 0)) := setRow_heap _ _ _ _ _ _ rb7
            have b5 : Below w.heap.size w (w7.setRow (w.heap.size + 2) #[.slice va nx vc]) := ⟨g7.os, g7.tape, g7.output, by rw [setRow_size]; exact g7.size, fun k hk => by rw [setRow_other _ _ _ _ (by omega)]; exact g7.block k hk⟩
            have o5 := (HW.out.setRow (w.heap.size + 2) (by omega) #[.slice va nx vc]).mono (show w.heap.size ≤ w2.heap.size + 1 by omega)
            have y0 := cell_of_block z5 0
            simp only [List.getElem?_toArray, List.getElem?_cons_zero] at y0
            generalize w7.setRow (w.heap.size + 2) #[.slice va nx vc] = W at b5 y0 z5 o5 ⊢
            exact bodyPost_ret (v := .agg #[.slice va nx vc]) (by simp [results, Tryz.results32, go_sem, y0]) rfl ⟨_, xs, rfl, HE.out, o5, b5⟩
          · have q2 : ((60 : Int) < (bs.length : Int)) := by omega
            have HG := hid_in (show ([] : List BAt).map BAt.plain = overS (us.map BAt.plain) (os.map BAt.plain) from (over_many (by rw [← HPM.out.length_eq, List.length_map]; omega)).symm)
            have b5 : Below w.heap.size w (wr.setRow (w.heap.size + 2) #[.slice none 0 0]) := ⟨gw.os, gw.tape, gw.output, by rw [setRow_size]; exact gw.size, fun k hk => by rw [setRow_other _ _ _ _ (by omega)]; exact gw.block k hk⟩
            go_wp2_with (with_reducible show wpList _ _ _ (Oper.mk _ (Op.store _ (Operand.tmp 4) _) _ _ _ _ :: _) _ _; refine wpList_store_row rfl 24 _ _ rfl (w.heap.size + 2) #[.slice none 0 0] ?_ ?_ 24 _ rbr ?_ ?_ ?_ ?_)
            all_goals (first | rfl | kernel_rfl | exact sheet_size | skip)
            have z5 : (wr.setRow (w.heap.size + 2) #[.slice none 0 0]).heap[w.heap.size + 2]? = some (.cells #[.slice none 0 0] 24 (0, 0)) := setRow_heap _ _ _ _ _ _ rbr
            have y0 := cell_of_block z5 0
            simp only [List.getElem?_toArray, List.getElem?_cons_zero] at y0
            generalize wr.setRow (w.heap.size + 2) #[.slice none 0 0] = W at b5 y0 z5 ⊢
            exact bodyPost_ret (v := .agg #[.slice none 0 0]) (by simp [results, Tryz.results32, go_sem, y0]) rfl ⟨_, [], rfl, HG.out, blocks_none _ _, b5⟩
end Go.Proofs.YtpdahhnjhggocabGreatDoor
