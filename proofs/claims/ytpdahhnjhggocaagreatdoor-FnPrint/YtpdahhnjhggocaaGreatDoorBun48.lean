import Derived.Test.YtpdahhnjhggocaaGreatDoorBun47
import Derived.Test.YtpdahhnjhggocaaGreatDoorBun43
import Derived.Test.YtpdahhnjhggocaaGreatDoorBun40
import Derived.Test.YtpdahhnjhggocaaGreatDoorBun29
namespace Go.Proofs.YtpdahhnjhggocaaGreatDoor
open Go.RowKit
theorem parse_printL (P : List PBlock) : ∃ Q, parseT (printL P) = .good Q ∧ (printL P ≠ [] → normBs Q = P) ∧ (printL P).length ≤ 20000 := by
  by_cases h : sheetB P = false ∨ tooLongL (sheetL P)
  · refine ⟨[], ?_, fun hne => absurd (if_pos h) hne, ?_⟩
    · rw [show printL P = [] from if_pos h]
      have h0 : ¬ tooLongL [] := by unfold tooLongL; rw [textLines_nil]; simp
      rw [parseT_go h0, textLines_nil]; rfl
    · rw [show printL P = [] from if_pos h]; simp
  · have hok : SheetOk P := sheetB_iff.1 (by cases hb : sheetB P with | false => exact absurd (.inl hb) h | true => rfl)
    have hl : ¬ tooLongL (sheetL P) := fun e => h (.inr e)
    have e : printL P = sheetL P := if_neg h
    rw [e]
    refine ⟨P, parse_print hok hl, fun _ => normBs_id hok, ?_⟩
    unfold tooLongL at hl
    omega
def DrawnOne (w : World) (e : Ending) (w' : World) : Prop := ∃ a n c bs, e = .returned (.agg #[.slice a n c]) ∧ (BlocksIn w' (.slice a n c) bs ∧ BlocksSmall bs) ∧ Below w.heap.size w w'
theorem boxesPn (w : World) (x : Value) : Below w.heap.size w ((w.alloc (.cells #[x] 25)).alloc (.cells #[.int .i64 0, .int .i64 0] 38)) ∧ ((w.alloc (.cells #[x] 25)).alloc (.cells #[.int .i64 0, .int .i64 0] 38)).cell? ⟨w.heap.size, 0, none⟩ = some x ∧ ((w.alloc (.cells #[x] 25)).alloc (.cells #[.int .i64 0, .int .i64 0] 38)).cell? ⟨w.heap.size + 1, 1, none⟩ = some (.int .i64 0) := by
  have b0 := (Below.refl w.heap.size w).alloc (Nat.le_refl _) (.cells #[x] 25)
  have b1 := (Below.refl (w.alloc (.cells #[x] 25)).heap.size (w.alloc (.cells #[x] 25))).alloc (Nat.le_refl _) (.cells #[.int .i64 0, .int .i64 0] 38)
  have z0 := alloc_here w (.cells #[x] 25)
  have z1 := alloc_here (w.alloc (.cells #[x] 25)) (.cells #[.int .i64 0, .int .i64 0] 38)
  have y0 := cell_of_block ((b1.block w.heap.size (by simp)).trans z0) 0
  have y1 := cell_of_block z1 1
  simp only [List.getElem?_toArray, List.getElem?_cons_zero, List.getElem?_cons_succ, World.size_alloc] at y0 y1
  exact ⟨b0.trans (b1.mono b0.size), y0, y1⟩
set_option maxHeartbeats 8000000 in
set_option maxRecDepth 100000 in
theorem fnPrint_any (a : Option Addr) (len cap : Nat) (w : World) (hlen : len ≤ 9223372036854775807) (hst : StdAt w) (HDP : len ≤ 1048576 → Calls Tryz.prog 24 #[.slice a len cap] w fun e w' => DrawnOne w e w') :
    Calls Tryz.prog 5 #[.slice a len cap] w fun e w' => e = .returned (.bool true) ∧ Below w.heap.size w w' := by
  by_cases hs : len ≤ 1048576
  · have hs' : ¬ (1048576 : Int) < (len : Int) := by omega
    have HD := HDP hs
    clear HDP
    go_enter Tryz.func5, Tryz.ntmps5
    go_wp2_with (go_at_call 24; refine HD.mono ?_)
    rintro e w1 ⟨sa, sn, sc, bs, rfl, ⟨hin, hsm⟩, b1⟩
    clear HD
    have x1 := (Below.refl w1.heap.size w1).alloc (Nat.le_refl _) (.cells #[.slice sa sn sc] 25)
    have c1 := one_box (w := w1) (cs := #[.slice sa sn sc]) (T := 25) 0
    simp only [List.getElem?_toArray, List.getElem?_cons_zero] at c1
    have g1 := b1.trans (x1.mono b1.size)
    have HP := implPrint_any (hin.below x1) hsm (hst.below g1)
    obtain ⟨P, eP⟩ : ∃ P, bs.map BAt.plain = P := ⟨_, rfl⟩
    obtain ⟨Q, hQ, hN, hpl⟩ := parse_printL P
    rw [eP] at HP
    have IN1 := hid_in (hin.below x1)
    have SM := hid_in hsm
    have EP := hid_in eP
    have HST := hid_in (hst.below g1)
    have G1 := hid_in g1
    have HQH := hid_in hQ
    have HNH := hid_in hN
    clear hin hsm eP hst x1 g1 b1 hQ hN
    generalize hT : printL P = t at *
    generalize hW1 : w1.alloc (.cells #[.slice sa sn sc] 25) = W1 at *
    have hsz : (⟨t.toArray⟩ : ByteArray).size ≤ 1048576 := by show t.toArray.size ≤ 1048576; rw [List.size_toArray]; omega
    go_wp2_with (go_at_call 20; (try rw [hW1]); refine HP.mono ?_)
    first | rintro e w2 rfl b2 | rintro e w2 ⟨rfl, b2⟩
    have u1 := fun p : Gr w2 => gr_cell ((b2.cell (World.block_lt_of_cell? _ _ c1)).trans c1) p
    have HSP : ∀ p : Gr w2, Calls Tryz.prog 25 #[.agg #[.slice sa sn sc]] p.u fun e w' => e = .returned (.string ⟨t.toArray⟩) ∧ Below p.u.heap.size p.u w' := fun p => by
      have := specPrint_any ((IN1.out.below b2).below p.h) SM.out
      rw [EP.out, hT] at this
      exact this
    have HIV : ∀ p : Gr w2, Calls Tryz.prog 19 #[.agg #[.slice sa sn sc]] p.u fun e w' => e = .returned (.bool (sheetB P)) ∧ Below p.u.heap.size p.u w' := fun p => by
      have := implValid_any ((IN1.out.below b2).below p.h) SM.out ((HST.out.below b2).below p.h)
      rw [EP.out] at this
      exact this
    have HSV : ∀ p : Gr w2, Calls Tryz.prog 14 #[.agg #[.slice sa sn sc]] p.u fun e w' => e = .returned (.bool (sheetB P)) ∧ Below p.u.heap.size p.u w' := fun p => by
      have := specValid_any ((IN1.out.below b2).below p.h) SM.out
      rw [EP.out] at this
      exact this
    generalize hvB : sheetB P = vb at *
    have B2 := hid_in b2
    have ET := hid_in hT
    clear HP hW1 hvB hT b2
    go_upto_region 5 with fail
    refine wp_region_gr (by kernel_rfl) (by kernel_rfl) ?_
    iterate 2 quiet_step (fail)
    quiet_step ((go_at_call 25; refine gr_of (HSP _)))
    iterate 3 quiet_step (fail)
    quiet_step ((go_at_call 19; refine gr_of (HIV _)))
    quiet_step (fail)
    quiet_step ((go_at_call 14; refine gr_of (HSV _)))
    iterate 2 quiet_step (fail)
    refine wpQuiet_nil ?_
    rintro wq ⟨⟨_, bq⟩, rfl⟩
    have Bq := B2.out.trans (bq.mono B2.out.size)
    have Gq := G1.out.trans (Bq.mono G1.out.size)
    have HG := implParse_good ⟨t.toArray⟩ (w := wq) (bs := Q) hsz (HST.out.below Bq) (by simpa using HQH.out)
    have cq : wq.cell? ⟨w1.heap.size, 0, none⟩ = some (.slice sa sn sc) := u1 ⟨wq, bq⟩
    have INq := hid_in (IN1.out.below Bq)
    have GQ := hid_in Gq
    clear HSP HIV HSV u1 IN1 HST B2 bq Bq Gq
    go_wp2_with (go_at_call 21; refine HG.mono ?_)
    rintro e w5 ⟨ta, tn, tc, gs, rfl, hpg, hmg, hsg, hlg, b5⟩
    obtain ⟨x5, cT, cF⟩ := boxesPn w5 (.slice ta tn tc)
    have B5 := hid_in (b5.trans (x5.mono b5.size))
    have cS := (B5.out.cell (World.block_lt_of_cell? _ _ cq)).trans cq
    have hin5 := (grows_in hmg).below x5
    have HW := wSheet_g hin5 (INq.out.below B5.out) (gat_small (by omega) hsg)
    have HO := hid_in (GQ.out.trans (B5.out.mono GQ.out.size))
    rw [show (gs.map GAt.b).map BAt.plain = plainG gs from rfl, EP.out, hpg] at HW
    clear HG hmg hsg hlg b5 x5 hin5 INq GQ B5 hpg cq
    by_cases h0 : t = []
    · subst h0
      clear HW
      go_wp2
      go_ret
      exact ⟨rfl, HO.out⟩
    · have hne : t.isEmpty = false := by cases t with | nil => exact absurd rfl h0 | cons _ _ => rfl
      rw [eqB_true (HNH.out h0)] at HW
      go_wp2_with (go_at_call 12; refine HW.mono ?_)
      first | rintro e w6 rfl b6 | rintro e w6 ⟨rfl, b6⟩
      have HO2 := hid_in (HO.out.trans (b6.mono HO.out.size))
      clear HW b6 HO
      go_wp2
      go_ret
      exact ⟨rfl, HO2.out⟩
  · have hs' : (1048576 : Int) < (len : Int) := by omega
    clear HDP
    go_enter Tryz.func5, Tryz.ntmps5
    go_wp2
    go_ret
    exact ⟨rfl, Below.refl _ _⟩
end Go.Proofs.YtpdahhnjhggocaaGreatDoor
