import Derived.Test.YtpdahhnjhggocaaGreatDoorBun42
import Derived.Test.YtpdahhnjhggocaaGreatDoorBun41
import Derived.Deep.CutBlock
namespace Go.Proofs.YtpdahhnjhggocaaGreatDoor
open Go.RowKit
theorem zero_has (w : World) : HasRow w (.slice none 0 0) 0 2 [] := ⟨rfl, none, 0, rfl, ⟨Nat.le_refl _, Nat.zero_le _⟩, .inl rfl⟩
theorem zero_sheet {w4 w : World} {B p k kk d : Nat} (hr : Rd B w4 p kk) (hk : kk ≤ k + d) (hw : w.grownBy w4 (some p)) (hp : p < w.heap.size) (hs : w.heap.size + 2 ≤ w4.heap.size) (cs : Array Value) : Spoilt d B p k w (.returned (.agg #[.slice (some ⟨w4.heap.size, 0, none⟩) 1 1])) ((w4.alloc (.cells #[.string ⟨#[]⟩, .string ⟨#[]⟩, .slice none 0 0] 46)).setRow (w.heap.size + 1) cs) := by
  have gs := grown_setRow (w4.alloc (.cells #[.string ⟨#[]⟩, .string ⟨#[]⟩, .slice none 0 0] 46)) (w.heap.size + 1) cs
  have xA := (Below.refl w4.heap.size w4).alloc (Nat.le_refl _) (.cells #[.string ⟨#[]⟩, .string ⟨#[]⟩, .slice none 0 0] 46)
  have hrow := lit_has w4 #[.string ⟨#[]⟩, .string ⟨#[]⟩, .slice none 0 0] 46 3 rfl
  refine ⟨_, 1, 1, [⟨⟨#[]⟩, ⟨#[]⟩, .slice none 0 0, []⟩], kk, rfl, hk, ?_, ⟨?_, ?_, ?_, ?_, fun i hi hne => ?_⟩, ⟨?_, ?_⟩, ⟨⟨by simp, ?_⟩, by simp⟩, fun q hq => ⟨?_, ?_⟩⟩
  · exact Kept.rd (hr.below xA) (Kept.of_grown (S := [w.heap.size + 1]) gs (fun q hq => by cases hq; simp)) (fun i hi => by rw [List.mem_singleton.1 hi]; omega)
  · exact gs.os.trans (xA.os.trans hw.os)
  · exact gs.tape.trans (xA.tape.trans hw.tape)
  · exact gs.output.trans (xA.output.trans hw.output)
  · have := gs.size; have := xA.size; omega
  · rw [gs.block i (by have := xA.size; omega) (by intro e; cases e; omega), xA.block i (by omega)]
    exact hw.block i hi hne
  · exact HasRow.far hrow (.inr fun b off m c e => by cases e; show w4.heap.size ≠ w.heap.size + 1; omega) gs
  · intro b hb
    rw [List.mem_singleton.1 hb]
    exact ⟨zero_has _, by intro x hx; cases hx⟩
  · intro b hb
    rw [List.mem_singleton.1 hb]
    exact ⟨by decide, by simp, by intro x hx; cases hx⟩
  · exact .inr fun b off m c e => by cases e; show w4.heap.size ≠ q; omega
  · intro x hx
    rw [List.mem_singleton.1 hx]
    exact ⟨.inl rfl, by intro y hy; cases hy⟩
theorem BlocksOwn.apart {B q : Nat} {w : World} {v : Value} {bs : List BAt} (h : BlocksOwn B w v bs) (hq : w.heap.size ≤ q) : BlocksFar q v bs :=
  ⟨FarV.of_own h.row (fun e => by have := (h.row.lt q e).2; omega), fun x hx => ⟨FarV.of_own (h.lines x hx).row (fun e => by have := ((h.lines x hx).row.lt q e).2; omega), fun y hy => FarV.of_own ((h.lines x hx).words y hy) (fun e => by have := (((h.lines x hx).words y hy).lt q e).2; omega)⟩⟩
theorem small3 (u : ByteArray) (h : u ∈ ([⟨#[]⟩, ⟨#[65]⟩, ⟨#[122, 122]⟩] : List ByteArray)) : u.size ≤ 1048576 := by
  simp only [List.mem_cons, List.not_mem_nil, or_false] at h
  rcases h with rfl | rfl | rfl <;> decide
def SpPost (B p c X Y : Nat) (w1 : World) (D : List BAt) (y : BAt) (kk : Nat) (W : World) : Prop := ∃ (T : List BAt) (g n cap kk' : Nat) (bk bn : ByteArray) (a : Option Addr) (m cc : Nat) (ls : List LAt), kk' ≤ kk + 80 ∧ SpJ B p c X Y w1 D T y g n cap kk' bk bn (.slice a m cc) ls W
set_option maxHeartbeats 16000000 in
set_option maxRecDepth 100000 in
theorem l3Spoil_any (B p k : Nat) {v : Value} {bs : List BAt} (w : World) (h : Rd B w p k) (hk : k ≤ 500000) (hin : BlocksIn w v bs) (hl : bs.length ≤ 60) (hs : ∀ b ∈ bs, SmallB b) : Calls Tryz.prog 104 #[.pointer (some ⟨p, 0, none⟩), .agg #[v]] w fun e w' => Spoilt 100 B p k w e w' := by
  obtain ⟨sa, sc, rfl⟩ := hin.1.form
  have hp := h.lt
  have hc := two_boxes (w := w) (cs := #[.slice sa bs.length sc]) (ds := #[.slice none 0 0]) (T := 25) (U := 25)
  have c0 := hc.1 0
  simp only [List.getElem?_toArray, List.getElem?_cons_zero] at c0
  clear hc
  have G0 : Below w.heap.size w ((w.alloc (.cells #[.slice sa bs.length sc] 25)).alloc (.cells #[.slice none 0 0] 25)) := ((Below.refl _ _).alloc (Nat.le_refl _) _).alloc (by simp) _
  have z1 := alloc_here (w.alloc (.cells #[.slice sa bs.length sc] 25)) (.cells #[.slice none 0 0] 25)
  have s1 : ((w.alloc (.cells #[.slice sa bs.length sc] 25)).alloc (.cells #[.slice none 0 0] 25)).heap.size = w.heap.size + 2 := by simp
  simp only [World.size_alloc] at z1
  have hr1 := h.below G0
  have G1w := grown_of_below G0 (some p)
  have z1H := hid_in z1
  have HC := l3Copy_any (hin.below G0) (small_blocks (by omega) hs)
  have HSM := hid_in hs
  clear hin hs
  generalize hsn : bs.length = sn at *
  have esn := hid_in hsn
  clear hsn
  generalize hw1 : (w.alloc (.cells #[.slice sa sn sc] 25)).alloc (.cells #[.slice none 0 0] 25) = w1 at *
  go_enter Tryz.func104, Tryz.ntmps104
  go_wp2_with (go_at_call 55; (try rw [hw1]); refine HC.mono ?_)
  first | rintro e w2 v2 rfl bs2 hp2 o2 b2 | rintro e w2 v2 bs2 rfl hp2 o2 b2 | rintro e w2 ⟨v2, bs2, rfl, hp2, o2, b2⟩
  have hsm2 := hid_in (smallB_same HSM.out hp2)
  have hl2 : bs2.length ≤ 60 := by have := congrArg List.length hp2; simp at this; have := esn.out; omega
  obtain ⟨xa, xc, rfl, hform⟩ := own_form o2.row
  have hFm := hid_in hform
  have hz2 := b2.size
  have x3 := (Below.refl w2.heap.size w2).alloc (Nat.le_refl _) (.cells #[.slice xa bs2.length xc] 25)
  have x3b := alloc_here w2 (.cells #[.slice xa bs2.length xc] 25)
  have c3 := cell_of_block x3b 0
  simp only [List.getElem?_toArray, List.getElem?_cons_zero] at c3
  have hr3 := (hr1.below b2).below x3
  have O2 := hid_in o2
  have bw3 := b2.trans (x3.mono b2.size)
  have HPK := pick_len B p k bs2.length (w2.alloc (.cells #[.slice xa bs2.length xc] 25)) hr3 (by omega) (by omega)
  have z3s : (w2.alloc (.cells #[.slice xa bs2.length xc] 25)).heap.size = w2.heap.size + 1 := by simp
  have z13 := (bw3.block (w.heap.size + 1) (by omega)).trans z1
  have G3 := grown_of_below (G0.trans (bw3.mono G0.size)) (some p)
  have g13 := grown_of_below bw3 (some p)
  clear HC o2 hp2 hform c0 z1 hr1 b2 hw1 x3
  generalize hnx : bs2.length = nx at *
  have enx := hid_in hnx
  clear hnx
  generalize hW3 : w2.alloc (.cells #[.slice xa nx xc] 25) = W3 at *
  go_wp2_with (go_at_call 44; (try rw [hW3]); refine HPK.mono ?_)
  rintro e W4 ⟨kx, hkx, rfl, hr4, hg4⟩
  have hpx : p < w2.heap.size := by omega
  have c4 := (hg4.cell_far ⟨w2.heap.size, 0, none⟩ (by rw [← hW3]; simp) (by intro e; cases e; exact absurd hpx (Nat.lt_irrefl _))).trans c3
  have G4 := grown_trans G3 hg4
  have g14 := grown_trans g13 hg4
  have hz4 := hg4.size
  have z14 := (hg4.block (w.heap.size + 1) (by omega) (by intro e; cases e; omega)).trans z13
  by_cases hx0 : nx = 0
  · subst hx0
    have HO := hid_in (zero_sheet (d := 100) (k := k) hr4 (by omega) G4 hp (by omega) #[.slice (some ⟨W4.heap.size, 0, none⟩) 1 1])
    have z15 : (W4.alloc (.cells #[.string ⟨#[]⟩, .string ⟨#[]⟩, .slice none 0 0] 46)).heap[w.heap.size + 1]? = some (.cells #[.slice none 0 0] 25 (0, 0)) := by rw [alloc_there _ _ _ (by omega)]; exact z14
    clear HPK c3 x3b hr3 O2 hW3
    go_wp2_with (with_reducible show wpList _ _ _ (Oper.mk _ (Op.store _ (Operand.tmp 4) _) _ _ _ _ :: _) _ _; refine wpList_store_row rfl 25 _ _ rfl (w.heap.size + 1) #[.slice (some ⟨W4.heap.size, 0, none⟩) 1 1] ?_ ?_ 25 _ z15 ?_ ?_ ?_ ?_)
    all_goals (first | rfl | kernel_rfl | exact sheet_size | skip)
    have z5 : ((W4.alloc (.cells #[.string ⟨#[]⟩, .string ⟨#[]⟩, .slice none 0 0] 46)).setRow (w.heap.size + 1) #[.slice (some ⟨W4.heap.size, 0, none⟩) 1 1]).heap[w.heap.size + 1]? = some (.cells #[.slice (some ⟨W4.heap.size, 0, none⟩) 1 1] 25 (0, 0)) := setRow_heap _ _ _ _ _ _ z15
    have y0 := cell_of_block z5 0
    simp only [List.getElem?_toArray, List.getElem?_cons_zero] at y0
    generalize World.setRow _ _ _ = W at HO y0 z5 ⊢
    exact bodyPost_ret (v := .agg #[.slice (some ⟨W4.heap.size, 0, none⟩) 1 1]) (by simp [results, Tryz.results104, go_sem, y0]) rfl HO.out
  · have hxn : ((nx : Int) == 0) = false := by rw [beq_eq_false_iff_ne]; omega
    have hkl : kx < nx := by
      rcases hkx with h1 | h1
      · exact h1
      · exact absurd h1.1 hx0
    obtain ⟨g, rfl⟩ : ∃ g, xa = some ⟨g, 0, none⟩ := by
      rcases hFm.out with h0 | h0
      · exact absurd h0 hx0
      · exact h0
    obtain ⟨D, y, T, e2, hD⟩ := split1 bs2 kx (by have := enx.out; omega)
    have own3 := O2.out.below ((Below.refl w2.heap.size w2).alloc (Nat.le_refl _) (.cells #[.slice (some ⟨g, 0, none⟩) nx xc] 25))
    rw [hW3] at own3
    have own4 : BlocksOwn w1.heap.size W4 (.slice (some ⟨g, 0, none⟩) nx xc) bs2 := Mem.other own3 hg4 (by omega)
    have hgX : g < w2.heap.size := (O2.out.row.lt g rfl).2
    have hgc : w1.heap.size ≤ g := (O2.out.row.lt g rfl).1
    have hlenD : (D ++ y :: T).length = nx := by rw [← e2]; exact enx.out
    have own4' := own4
    rw [e2] at own4'
    have br := own4'.brow
    have d0 := br.cell 0 (by decide)
    have d1 := br.cell 1 (by decide)
    have d2 := br.cell 2 (by decide)
    simp only [BAt.cells, List.getElem?_cons_zero, List.getElem?_cons_succ, Nat.add_zero, hD] at d0 d1 d2
    have hfarX := hid_in (show ∀ x ∈ bs2, ∀ q, w2.heap.size ≤ q → LinesFar q x.v x.ls from fun x hx q hq => (O2.out.apart hq).2 x hx)
    have hfarC := hid_in (show ∀ x ∈ bs2, ∀ q, q < w1.heap.size → LinesFar q x.v x.ls from fun x hx q hq => (O2.out.far hq).2 x hx)
    have hfarG := hid_in (show ∀ x ∈ bs2, LinesFar g x.v x.ls from fun x hx => (O2.out.brow.2 x hx).2 g rfl)
    have hym : y ∈ bs2 := by rw [e2]; simp
    obtain ⟨ya, yc, ey⟩ := (own4.lines y hym).lin.1.form
    have hys := hsm2.out y hym
    have xb4 := (hg4.block w2.heap.size (by rw [← hW3]; simp) (by intro e; cases e; exact absurd hpx (Nat.lt_irrefl _))).trans x3b
    have E2 := hid_in e2
    have OWN4 := hid_in own4
    have i1 : (0 : Int) ≤ (kx : Int) := by omega
    have i2 : (kx : Int) < (nx : Int) := by omega
    obtain ⟨yk, yn, yv, yl⟩ := y
    simp only at *
    subst ey
    have bY := (Below.refl W4.heap.size W4).alloc (Nat.le_refl _) (.cells #[.string yk, .string yn, .slice ya yl.length yc] 46)
    have yb := alloc_here W4 (.cells #[.string yk, .string yn, .slice ya yl.length yc] 46)
    have q2 := cell_of_block yb 2
    simp only [List.getElem?_toArray, List.getElem?_cons_zero, List.getElem?_cons_succ] at q2
    have hyl7 := hys.2.1
    have HP2 := pick_len B p (k + 1) yl.length (W4.alloc (.cells #[.string yk, .string yn, .slice ya yl.length yc] 46)) (hr4.below bY) (by simp only at hyl7; omega) (by omega)
    have HYS := hid_in hys
    have z5s : (W4.alloc (.cells #[.string yk, .string yn, .slice ya yl.length yc] 46)).heap.size = W4.heap.size + 1 := by simp
    have hpW4 : p < W4.heap.size := by omega
    clear HPK own3 own4 own4' br hFm e2 hys c3 x3b hr3 hW3
    generalize hnl : yl.length = nl at *
    have enl := hid_in hnl
    clear hnl
    generalize hW5 : W4.alloc (.cells #[.string yk, .string yn, .slice ya nl yc] 46) = W5 at *
    go_wp2_with (go_at_call 44; (try rw [hW5]); refine HP2.mono ?_)
    rintro e W6 ⟨nI, hnI, rfl, hr6, hg6⟩
    have HP3 := pick_any B p (k + 1 + 1) 9 W6 hr6 (by omega) (by omega) (by omega)
    clear HP2 d0 d1 d2 c4
    go_wp2_with (go_at_call 44; refine HP3.mono ?_)
    rintro e W7 ⟨cI, hcI, rfl, hr7, hg7⟩
    have g57 := grown_trans hg6 hg7
    have hz57 := g57.size
    have bYg := grown_of_below bY (some p)
    have OWN7 := hid_in (show BlocksOwn w1.heap.size W7 (.slice (some ⟨g, 0, none⟩) nx xc) (D ++ ⟨yk, yn, .slice ya nl yc, yl⟩ :: T) from by
      rw [← E2.out]
      exact Mem.other (OWN4.out.below bY) g57 (by omega))
    have hfarA := hid_in (show ∀ x ∈ bs2, ∀ q ∈ [g, w2.heap.size, W4.heap.size], LinesFar q x.v x.ls from fun x hx q hq => by
      simp only [List.mem_cons, List.not_mem_nil, or_false] at hq
      rcases hq with rfl | rfl | rfl
      · exact hfarG.out x hx
      · exact hfarX.out x hx _ (Nat.le_refl _)
      · exact hfarX.out x hx _ (by omega))
    have HJ := hid_in (show SpJ B p w1.heap.size w2.heap.size W4.heap.size w1 D T ⟨yk, yn, .slice ya nl yc, yl⟩ g nx xc (k + 1 + 1 + 1) yk yn (.slice ya nl yc) yl W7 from
      ⟨hr7, grown_trans g14 (grown_trans bYg g57), by omega, rfl, (g57.block w2.heap.size (by omega) (by intro e; cases e; exact absurd hpx (Nat.lt_irrefl _))).trans ((bY.block w2.heap.size (by omega)).trans xb4), (g57.block W4.heap.size (by omega) (by intro e; cases e; exact absurd hpW4 (Nat.lt_irrefl _))).trans yb, by omega, by omega, by omega, by omega, by omega, by
        have := OWN7.out.row
        rw [hlenD] at this
        exact this, hlenD, by omega, fun x hx => ⟨⟨(OWN7.out.lines x (by simp only [List.mem_append, List.mem_cons] at hx ⊢; rcases hx with hx | hx; exact .inl hx; exact .inr (.inr hx))).lin, hfarA.out x (by rw [E2.out]; simp only [List.mem_append, List.mem_cons] at hx ⊢; rcases hx with hx | hx; exact .inl hx; exact .inr (.inr hx)), fun q hq => hfarC.out x (by rw [E2.out]; simp only [List.mem_append, List.mem_cons] at hx ⊢; rcases hx with hx | hx; exact .inl hx; exact .inr (.inr hx)) q hq⟩, (hsm2.out x (by rw [E2.out]; simp only [List.mem_append, List.mem_cons] at hx ⊢; rcases hx with hx | hx; exact .inl hx; exact .inr (.inr hx))).x⟩, ⟨⟨(OWN7.out.lines ⟨yk, yn, .slice ya nl yc, yl⟩ (by simp)).lin, hfarA.out _ hym, hfarC.out _ hym⟩, HYS.out.x⟩⟩)
    clear hr7 hg6 hg7 g57 hr6 hr4 bY yb q2 OWN4 xb4 hW5 HP3 z14 z13 bYg hfarC hfarG hfarX
    have hcw : w1.heap.size = w.heap.size + 2 := s1
    generalize hX : w2.heap.size = X at *
    generalize hY : W4.heap.size = Y at *
    go_upto_block 0 with fail
    go_cut [] from 9 to 192 (fun wx => SpPost B p w1.heap.size X Y w1 D ⟨yk, yn, .slice ya nl yc, yl⟩ (k + 1 + 1 + 1) wx)
    case first =>
      have hJ := HJ.out
      have hpY : p < Y := by omega
      rcases (show cI = 0 ∨ cI = 1 ∨ cI = 2 ∨ cI = 3 ∨ cI = 4 ∨ cI = 5 ∨ cI = 6 ∨ cI = 7 ∨ cI = 8 by omega) with rfl | rfl | rfl | rfl | rfl | rfl | rfl | rfl | rfl
      · have bt := (Below.refl W7.heap.size W7).alloc (Nat.le_refl _) (.cells (([⟨#[]⟩, ⟨#[110, 111, 110, 101]⟩, ⟨#[116, 101, 97, 109]⟩] : List ByteArray).map Value.string).toArray 9)
        have HPx := pick_any B p (k + 1 + 1 + 1) 3 _ (hJ.rd.below bt) (by omega) (by omega) (by omega)
        have HJ1 := hid_in (hJ.below bt)
        have hp7 : p < W7.heap.size := hJ.rd.lt
        clear hJ HJ OWN7
        go_wp2_with (go_at_call 44; refine HPx.mono ?_)
        rintro e W8 ⟨z, hz, rfl, hr8, hg8⟩
        obtain ⟨u, hu, hcu⟩ := tab_mem W7 W8 [⟨#[]⟩, ⟨#[110, 111, 110, 101]⟩, ⟨#[116, 101, 97, 109]⟩] z p hz hg8 (by omega)
        have HJ8 := HJ1.out.grown hg8 hr8
        have j0 := cell_of_block HJ8.yb 0
        have f0 := frozen_of_block HJ8.yb 0
        simp only [List.getElem?_toArray, List.getElem?_cons_zero] at j0
        have gS : W8.grownBy (W8.setCell ⟨Y, 0, none⟩ (.string u)) (some Y) := ⟨rfl, rfl, rfl, by simp, fun i _ hi => heap_setCell_other W8 ⟨Y, 0, none⟩ i _ (fun e => hi (by simp [e]))⟩
        have yS : (W8.setCell ⟨Y, 0, none⟩ (.string u)).heap[Y]? = some (.cells #[.string u, .string yn, .slice ya nl yc] 46 (0, 0)) := by rw [heap_setCell_same W8 Y 0 _ _ _ HJ8.yb]; rfl
        have HJ9 := hid_in (HJ8.head (bk' := u) (bn' := yn) yS HYS.out.x.1 gS)
        have z3 : (z : Int) < 3 := by omega
        have z0 : (0 : Int) ≤ (z : Int) := by omega
        clear HPx HJ1 HJ8 hr8 hg8 gS yS hu bt
        go_wp2_with fail
        go_meet
        exact ⟨T, g, nx, xc, _, u, yn, ya, nl, yc, yl, by omega, HJ9.out⟩
      · have bt := (Below.refl W7.heap.size W7).alloc (Nat.le_refl _) (.cells (([⟨#[]⟩, ⟨#[65]⟩, ⟨#[122, 122]⟩] : List ByteArray).map Value.string).toArray 9)
        have HPx := pick_any B p (k + 1 + 1 + 1) 3 _ (hJ.rd.below bt) (by omega) (by omega) (by omega)
        have HJ1 := hid_in (hJ.below bt)
        have hp7 : p < W7.heap.size := hJ.rd.lt
        clear hJ HJ OWN7
        go_wp2_with (go_at_call 44; refine HPx.mono ?_)
        rintro e W8 ⟨z, hz, rfl, hr8, hg8⟩
        obtain ⟨u, hu, hcu⟩ := tab_mem W7 W8 [⟨#[]⟩, ⟨#[65]⟩, ⟨#[122, 122]⟩] z p hz hg8 (by omega)
        have HJ8 := HJ1.out.grown hg8 hr8
        have j0 := cell_of_block HJ8.yb 1
        have f0 := frozen_of_block HJ8.yb 1
        simp only [List.getElem?_toArray, List.getElem?_cons_zero, List.getElem?_cons_succ] at j0
        have gS : W8.grownBy (W8.setCell ⟨Y, 1, none⟩ (.string u)) (some Y) := ⟨rfl, rfl, rfl, by simp, fun i _ hi => heap_setCell_other W8 ⟨Y, 1, none⟩ i _ (fun e => hi (by simp [e]))⟩
        have yS : (W8.setCell ⟨Y, 1, none⟩ (.string u)).heap[Y]? = some (.cells #[.string yk, .string u, .slice ya nl yc] 46 (0, 0)) := by rw [heap_setCell_same W8 Y 1 _ _ _ HJ8.yb]; rfl
        have HJ9 := hid_in (HJ8.head (bk' := yk) (bn' := u) yS (small3 u hu) gS)
        have z3 : (z : Int) < 3 := by omega
        have z0 : (0 : Int) ≤ (z : Int) := by omega
        clear HPx HJ1 HJ8 hr8 hg8 gS yS hu bt
        go_wp2_with fail
        go_meet
        exact ⟨T, g, nx, xc, _, yk, u, ya, nl, yc, yl, by omega, HJ9.out⟩
      · have bt := (Below.refl W7.heap.size W7).alloc (Nat.le_refl _) (.cells #[.string yk, .string yn, .slice ya nl yc] 46)
        have hlit := lit_has W7 #[.string yk, .string yn, .slice ya nl yc] 46 3 rfl
        have HJ1 := hJ.below bt
        have cx := cell_of_block hJ.xb 0
        have cy0 := cell_of_block hJ.yb 0
        have cy1 := cell_of_block hJ.yb 1
        have cy2 := cell_of_block hJ.yb 2
        simp only [List.getElem?_toArray, List.getElem?_cons_zero, List.getElem?_cons_succ] at cx cy0 cy1 cy2
        obtain ⟨i0, hi, hi0, hi1, hi2⟩ := info_parts infoBlock
        have hrow := HJ1.row
        have hmine := HJ1.mine
        have hxl : X < W7.heap.size := (Array.getElem?_eq_some_iff.1 hJ.xb).1
        have hyl' : Y < W7.heap.size := (Array.getElem?_eq_some_iff.1 hJ.yb).1
        have hc7 : w1.heap.size ≤ W7.heap.size := hJ.gr.size
        have HJ1H := hid_in HJ1
        clear hJ HJ OWN7 HJ1
        go_wp2_with (at_builtin; refine wpList_append_has (by rfl) _ _ 23 (by rfl) w1.heap.size 46 i0 _ 3 56 Tryz.underlying23 hi hi0 hi1 hi2 rfl (by decide) _ nx _ (by rfl) hrow _ 1 _ (by rfl) hlit (by intro z hz; simp at hz; rcases hz with rfl | rfl | rfl <;> rfl) ?c3 ?c4 (by simp; omega) ?_)
        case c3 => unfold maxLen; omega
        case c4 => omega
        intro ao9 cap9 W9 own9 hg9 hv9
        obtain ⟨g9, rfl⟩ : ∃ g9, ao9 = some ⟨g9, 0, none⟩ := by
          obtain ⟨a', c', e', h'⟩ := own_form own9
          cases e'
          rcases h' with h' | h'
          · omega
          · exact h'
        have hg9' : g9 = g ∨ (W7.alloc (.cells #[.string yk, .string yn, .slice ya nl yc] 46)).heap.size ≤ g9 := by
          rcases hv9 with e | e
          · left; exact Option.some.inj e
          · right; rw [World.size_alloc]; exact Nat.le_of_eq (Option.some.inj e).symm
        have hza : (W7.alloc (.cells #[.string yk, .string yn, .slice ya nl yc] 46)).heap.size = W7.heap.size + 1 := by simp
        have HP := hid_in (HJ1H.out.push (z := ⟨yk, yn, .slice ya nl yc, yl⟩) (g' := g9) (cap' := cap9) hg9 (by simpa [hcw, BAt.cells] using own9) hmine hg9' (by rcases hg9' with e | e; rw [e]; exact HJ1H.out.gX; omega) (by rcases hg9' with e | e; rw [e]; exact HJ1H.out.gY; omega) (by omega))
        have hX9 := (hg9.block X (by omega) (by intro e; have := Option.some.inj e; exact HJ1H.out.gX this.symm)).trans HJ1H.out.xb
        have j0 := cell_of_block hX9 0
        have f0 := frozen_of_block hX9 0
        simp only [List.getElem?_toArray, List.getElem?_cons_zero] at j0
        clear own9 hg9 hv9 hrow hlit hmine HJ1H bt
        go_wp2_with fail
        go_meet
        exact ⟨T ++ [⟨yk, yn, .slice ya nl yc, yl⟩], g9, nx + 1, cap9, _, yk, yn, ya, nl, yc, yl, by omega, HP.out⟩
      · have cy2 := cell_of_block hJ.yb 2
        simp only [List.getElem?_toArray, List.getElem?_cons_zero, List.getElem?_cons_succ] at cy2
        by_cases hl0 : nl = 0
        · have hl1 : ¬ (0 : Int) < (nl : Int) := by omega
          clear hJ OWN7
          go_wp2_with fail
          go_meet
          exact ⟨T, g, nx, xc, _, yk, yn, ya, nl, yc, yl, by omega, HJ.out⟩
        · have hl1 : (0 : Int) < (nl : Int) := by omega
          have hI : nI < nl := by
            rcases hnI with h | h
            · exact h
            · exact absurd h.1 hl0
          have i3 : (0 : Int) ≤ (nI : Int) := by omega
          have i4 : (nI : Int) < (nl : Int) := by omega
          obtain ⟨A, x, E, eyl, hA⟩ := split1 yl nI (by have := enl.out; omega)
          obtain ⟨l, rfl⟩ : ∃ l, ya = some ⟨l, 0, none⟩ := own_at (OWN7.out.lines ⟨yk, yn, .slice ya nl yc, yl⟩ (by simp)).row (fun h' => hl0 (enl.out.symm.trans h'))
          have hyl := enl.out
          have HPK := fun n (hn : n ≤ k + 1 + 1 + 1) W (hW : Rd B W p n) => pick_any B p n 3 W hW (by omega) (by omega) (by omega)
          have HJJ := hid_in (show SpO B p w1.heap.size X Y w1 D T ⟨yk, yn, .slice (some ⟨l, 0, none⟩) nl yc, A ++ x :: E⟩ g nx xc yk yn (k + 1 + 1 + 1) W7 from by rw [← eyl]; exact ⟨hJ, OWN7.out⟩)
          have hlen : (A ++ x :: E).length = nl := by rw [← eyl]; exact hyl
          have HEY := hid_in eyl
          have HLN := hid_in hlen
          have HA := hid_in hA
          clear hJ OWN7 eyl hlen hA hyl HJ
          go_upto_region 20 with fail
          refine region20_any HJJ.out (by omega) HA.out HLN.out (by kernel_rfl) (by kernel_rfl) (by kernel_rfl) (by kernel_rfl) ?_
          intro v u k' W' a' ha' hk' hS
          simp only [putS, setS, List.setIfInBounds_toArray, List.set_cons_zero, List.set_cons_succ] at ha'
          subst ha'
          rw [← HEY.out] at hS
          have HS := hid_in hS
          clear hS HJJ HPK
          go_wp2_with fail
          go_meet
          exact ⟨T, g, nx, xc, _, yk, yn, some ⟨l, 0, none⟩, nl, yc, _, by omega, HS.out⟩
      · have cy2 := cell_of_block hJ.yb 2
        simp only [List.getElem?_toArray, List.getElem?_cons_zero, List.getElem?_cons_succ] at cy2
        by_cases hl0 : nl = 0
        · have hl1 : ¬ (0 : Int) < (nl : Int) := by omega
          clear hJ OWN7
          go_wp2_with fail
          go_meet
          exact ⟨T, g, nx, xc, _, yk, yn, ya, nl, yc, yl, by omega, HJ.out⟩
        · have hl1 : (0 : Int) < (nl : Int) := by omega
          have hI : nI < nl := by
            rcases hnI with h | h
            · exact h
            · exact absurd h.1 hl0
          have i3 : (0 : Int) ≤ (nI : Int) := by omega
          have i4 : (nI : Int) < (nl : Int) := by omega
          obtain ⟨A, ⟨xk, xv, xw⟩, E, eyl, hA⟩ := split1 yl nI (by have := enl.out; omega)
          obtain ⟨l, rfl⟩ : ∃ l, ya = some ⟨l, 0, none⟩ := own_at (OWN7.out.lines ⟨yk, yn, .slice ya nl yc, yl⟩ (by simp)).row (fun h' => hl0 (enl.out.symm.trans h'))
          have hyl := enl.out
          have HJJ := hid_in (show SpO B p w1.heap.size X Y w1 D T ⟨yk, yn, .slice (some ⟨l, 0, none⟩) nl yc, A ++ ⟨xk, xv, xw⟩ :: E⟩ g nx xc yk yn (k + 1 + 1 + 1) W7 from by rw [← eyl]; exact ⟨hJ, OWN7.out⟩)
          obtain ⟨xa, xcp, exv, hxf⟩ := own_form HJJ.out.2.bm.lines.words
          simp only at exv hxf
          subst exv
          have cl := HJJ.out.2.bm.lines.cell 1 (by decide)
          simp only [LAt.cells, List.getElem?_cons_zero, List.getElem?_cons_succ, hA] at cl
          have HEY := hid_in eyl
          have HA := hid_in hA
          have hxwl : xw.length ≤ 3 := by
            have := (HYS.out.2.2 ⟨xk, .slice xa xw.length xcp, xw⟩ (by simp only; rw [eyl]; simp)).1
            exact this
          clear hJ OWN7 eyl hA hyl
          by_cases hx0 : xw.length = 0
          · have hx1 : ¬ (0 : Int) < (xw.length : Int) := by omega
            generalize xw.length = nw at *
            go_wp2_with fail
            go_meet
            exact ⟨T, g, nx, xc, _, yk, yn, some ⟨l, 0, none⟩, nl, yc, yl, by omega, HJ.out⟩
          · obtain ⟨s, ss, rfl⟩ : ∃ s ss, xw = s :: ss := by
              cases xw with
              | nil => exact absurd rfl hx0
              | cons s ss => exact ⟨s, ss, rfl⟩
            obtain ⟨r, rfl⟩ : ∃ r, xa = some ⟨r, 0, none⟩ := by
              rcases hxf with h | h
              · exact absurd h hx0
              · exact h
            have hnw1 : (0 : Int) < ((s :: ss).length : Int) := by omega
            obtain ⟨nw, hnw⟩ : ∃ nw, (s :: ss).length = nw := ⟨_, rfl⟩
            rw [hnw] at HJJ cl hnw1
            have HOd := fun n (hn : n ≤ k + 1 + 1 + 1) W (hW : Rd B W p n) => l2Odd_any B p n W hW (by omega)
            have HNW := hid_in hnw
            clear hnw hx0 hxf hxwl HJ
            go_upto_region 23 with fail
            have hlen : (A ++ (⟨xk, .slice (some ⟨r, 0, none⟩) nw xcp, s :: ss⟩ : LAt) :: E).length = nl := by
              have := enl.out
              rw [HEY.out] at this
              simpa using this
            refine region23_any HJJ.out (by omega) HA.out hlen HNW.out (by kernel_rfl) (by kernel_rfl) (by kernel_rfl) (by kernel_rfl) ?_
            intro v t k' W' a' ha' hk' hS
            simp only [putS, setS, List.setIfInBounds_toArray, List.set_cons_zero, List.set_cons_succ] at ha'
            subst ha'
            have HEY' := HEY.out
            rw [HNW.out] at HEY'
            rw [← HEY'] at hS
            have HS := hid_in hS
            clear hS HJJ HOd HEY'
            go_wp2_with fail
            go_meet
            exact ⟨T, g, nx, xc, _, yk, yn, some ⟨l, 0, none⟩, nl, yc, _, by omega, HS.out⟩
      · have cy2 := cell_of_block hJ.yb 2
        simp only [List.getElem?_toArray, List.getElem?_cons_zero, List.getElem?_cons_succ] at cy2
        by_cases hl0 : nl = 0
        · have hl1 : ¬ (0 : Int) < (nl : Int) := by omega
          clear hJ OWN7
          go_wp2_with fail
          go_meet
          exact ⟨T, g, nx, xc, _, yk, yn, ya, nl, yc, yl, by omega, HJ.out⟩
        · have hl1 : (0 : Int) < (nl : Int) := by omega
          have hI : nI < nl := by
            rcases hnI with h | h
            · exact h
            · exact absurd h.1 hl0
          have i3 : (0 : Int) ≤ (nI : Int) := by omega
          have i4 : (nI : Int) < (nl : Int) := by omega
          obtain ⟨A, ⟨xk, xv, xw⟩, E, eyl, hA⟩ := split1 yl nI (by have := enl.out; omega)
          obtain ⟨l, rfl⟩ : ∃ l, ya = some ⟨l, 0, none⟩ := own_at (OWN7.out.lines ⟨yk, yn, .slice ya nl yc, yl⟩ (by simp)).row (fun h' => hl0 (enl.out.symm.trans h'))
          have hyl := enl.out
          have hnl7 : nl ≤ 7 := by have := HYS.out.2.1; simp only at this; omega
          have HJJ := hid_in (show SpO B p w1.heap.size X Y w1 D T ⟨yk, yn, .slice (some ⟨l, 0, none⟩) nl yc, A ++ ⟨xk, xv, xw⟩ :: E⟩ g nx xc yk yn (k + 1 + 1 + 1) W7 from by rw [← eyl]; exact ⟨hJ, OWN7.out⟩)
          obtain ⟨xa, xcp, exv, hxf⟩ := own_form HJJ.out.2.bm.lines.words
          simp only at exv hxf
          subst exv
          have hlen : (A ++ (⟨xk, .slice xa xw.length xcp, xw⟩ : LAt) :: E).length = nl := by rw [← eyl]; exact hyl
          have HLN := hid_in hlen
          have HA := hid_in hA
          have HEY := hid_in eyl
          have hc7 : w1.heap.size ≤ W7.heap.size := hJ.gr.size
          clear hJ OWN7 eyl hA hyl HJ hlen
          generalize hnw : xw.length = nw at *
          go_upto_region 26 with fail
          refine region26_any HJJ.out HA.out HLN.out (by omega) hc7 (by kernel_rfl) (by kernel_rfl) (by kernel_rfl) ?_
          rintro v W' a' x' ha' ⟨xo, xm, xcc, rfl⟩ hS
          simp only [putS, setS, List.setIfInBounds_toArray, List.set_cons_zero, List.set_cons_succ] at ha'
          subst ha'
          rw [← HEY.out] at hS
          have HS := hid_in hS
          clear hS HJJ
          go_wp2_with fail
          go_meet
          exact ⟨T, g, nx, xc, _, yk, yn, xo, xm, xcc, _, by omega, HS.out⟩
      · have cy2 := cell_of_block hJ.yb 2
        simp only [List.getElem?_toArray, List.getElem?_cons_zero, List.getElem?_cons_succ] at cy2
        by_cases hl0 : nl ≤ 1
        · have hl1 : ¬ (1 : Int) < (nl : Int) := by omega
          clear hJ OWN7
          go_wp2_with fail
          go_meet
          exact ⟨T, g, nx, xc, _, yk, yn, ya, nl, yc, yl, by omega, HJ.out⟩
        · have hl1 : (1 : Int) < (nl : Int) := by omega
          have hl2 : (0 : Int) < (nl : Int) := by omega
          obtain ⟨⟨k0, v0, u0⟩, ⟨k1, v1, u1⟩, E, rfl⟩ : ∃ x0 x1 E, yl = x0 :: x1 :: E := by
            have := enl.out
            match yl, this with
            | [], h => simp at h; omega
            | [_], h => simp at h; omega
            | x0 :: x1 :: E, _ => exact ⟨x0, x1, E, rfl⟩
          obtain ⟨l, rfl⟩ : ∃ l, ya = some ⟨l, 0, none⟩ := own_at (OWN7.out.lines ⟨yk, yn, .slice ya nl yc, ⟨k0, v0, u0⟩ :: ⟨k1, v1, u1⟩ :: E⟩ (by simp)).row (by simp)
          obtain ⟨a0, c0, e0, _⟩ := own_form ((OWN7.out.lines ⟨yk, yn, .slice (some ⟨l, 0, none⟩) nl yc, ⟨k0, v0, u0⟩ :: ⟨k1, v1, u1⟩ :: E⟩ (by simp)).words ⟨k0, v0, u0⟩ (by simp))
          obtain ⟨a1, c1, e1, _⟩ := own_form ((OWN7.out.lines ⟨yk, yn, .slice (some ⟨l, 0, none⟩) nl yc, ⟨k0, v0, u0⟩ :: ⟨k1, v1, u1⟩ :: E⟩ (by simp)).words ⟨k1, v1, u1⟩ (by simp))
          simp only at e0 e1
          subst e0 e1
          simp only at *
          have hlen := enl.out
          generalize hn0 : u0.length = n0 at *
          generalize hn1 : u1.length = n1 at *
          have b8 := (Below.refl W7.heap.size W7).alloc (Nat.le_refl _) (.cells #[.string k0, .slice a0 n0 c0] 115)
          have own8 := OWN7.out.below b8
          have J8 := hJ.below b8
          have lrow7 := (OWN7.out.bm.lines).size hlen
          have lrow8 := (own8.bm.lines).size hlen
          have cx0 := lrow7.cellAt 0 (by omega)
          have cx1 := lrow7.cellAt 1 (by omega)
          have cx2 := lrow8.cellAt 2 (by omega)
          have cx3 := lrow8.cellAt 3 (by omega)
          simp only [LAt.cells, List.flatMap_cons, List.cons_append, List.nil_append, List.getElem?_cons_zero, List.getElem?_cons_succ] at cx0 cx1 cx2 cx3
          have cy3 := cell_of_block J8.yb 2
          simp only [List.getElem?_toArray, List.getElem?_cons_zero, List.getElem?_cons_succ] at cy3
          have HO8 := hid_in own8
          have HL7 := hid_in ((OWN7.out.lines ⟨yk, yn, .slice (some ⟨l, 0, none⟩) nl yc, ⟨k0, .slice a0 n0 c0, u0⟩ :: ⟨k1, .slice a1 n1 c1, u1⟩ :: E⟩ (by simp)).row.lt l rfl).2
          have HJ8 := hid_in J8
          have HLN := hid_in hlen
          clear hJ OWN7 own8 J8 lrow7 lrow8 hlen HJ
          have hlY : l ≠ Y := far_block (HJ8.out.mine.1.2.1 Y (by simp)).1 (by simp)
          have hl7 : l < W7.heap.size := HL7.out
          have hbx := alloc_here W7 (.cells #[.string k0, .slice a0 n0 c0] 115)
          have hz8 : (W7.alloc (.cells #[.string k0, .slice a0 n0 c0] 115)).heap.size = W7.heap.size + 1 := by simp
          generalize hW8 : W7.alloc (.cells #[.string k0, .slice a0 n0 c0] 115) = W8 at *
          go_upto_region 30 with fail
          (try rw [hW8])
          refine region30_any (x0 := ⟨k0, .slice a0 n0 c0, u0⟩) (u1 := u1) ⟨HJ8.out, HO8.out⟩ HLN.out (by kernel_rfl) (by kernel_rfl) ?_
          intro v W' a' ha' hg hb
          simp only [putS, setS, List.setIfInBounds_toArray, List.set_cons_zero, List.set_cons_succ] at ha'
          subst ha'
          have HSW := hid_in (SpJ.swap (x0 := ⟨k0, .slice a0 n0 c0, u0⟩) (x1 := ⟨k1, .slice a1 n1 c1, u1⟩) hg.1 hg.2 HLN.out)
          obtain ⟨ys, y1, y2, _⟩ := own_setCells [.string k1, .slice a1 n1 c1] 0 W' _ (hg.2.bm.lines.size HLN.out)
          have hY' : Y < W'.heap.size := (Array.getElem?_eq_some_iff.1 hg.1.yb).1
          have yb' := (y2.block Y hY' (by intro e; cases e; exact hlY rfl)).trans hg.1.yb
          have fb' := (y2.block W7.heap.size (by have := hb.size; omega) (by intro e; cases e; omega)).trans ((hb.block W7.heap.size (by omega)).trans hbx)
          have z0 := cell_of_block yb' 2
          have z1 := cell_of_block fb' 0
          have z2 := cell_of_block fb' 1
          simp only [List.getElem?_toArray, List.getElem?_cons_zero, List.getElem?_cons_succ] at z0 z1 z2
          obtain ⟨q2, k2'⟩ := Option.isSome_iff_exists.1 (row_there y1 2 2 (by omega) 0 (by omega)).1
          obtain ⟨q3, k3'⟩ := Option.isSome_iff_exists.1 (row_there y1 2 2 (by omega) 1 (by omega)).1
          have f2' := y1.frozenAt 2
          have f3' := y1.frozenAt 3
          clear hg y1 y2 yb' fb' HO8 HJ8 hW8
          simp only [LAt.cells] at HSW
          generalize W'.setCells l 0 [.string k1, .slice a1 n1 c1] = W9 at *
          go_wp2_with fail
          go_meet
          exact ⟨T, g, nx, xc, _, yk, yn, some ⟨l, 0, none⟩, nl, yc, _, by omega, HSW.out⟩
      · have cy1 := cell_of_block hJ.yb 1
        simp only [List.getElem?_toArray, List.getElem?_cons_zero, List.getElem?_cons_succ] at cy1
        have yb7 := hJ.yb
        have y8 : (W7.setRow Y #[.string ⟨#[98, 101, 114, 116, 104]⟩, .string yn, .slice none 0 0]).heap[Y]? = some (.cells #[.string ⟨#[98, 101, 114, 116, 104]⟩, .string yn, .slice none 0 0] 46 (0, 0)) := setRow_heap _ _ _ _ _ _ yb7
        have J8 := hJ.lay (bk' := ⟨#[98, 101, 114, 116, 104]⟩) (bn' := yn) (bv' := .slice none 0 0) (ls' := []) y8 (grown_setRow W7 Y _) ⟨⟨⟨zero_has _, by intro x hx; cases hx⟩, fun q _ => ⟨.inl rfl, by intro x hx; cases hx⟩, fun q _ => ⟨.inl rfl, by intro x hx; cases hx⟩⟩, HYS.out.x.1, by simp, by intro x hx; cases hx⟩
        have HP2 := pick_any B p (k + 1 + 1 + 1) 2 _ J8.rd (by omega) (by omega) (by omega)
        have HJ8 := hid_in J8
        clear hJ HJ OWN7 J8 y8
        go_wp2_with (with_reducible show wpList _ _ _ (Oper.mk _ (Op.store _ (Operand.tmp 7) _) _ _ _ _ :: _) _ _; refine wpList_store_row rfl 46 _ _ rfl Y #[.string ⟨#[98, 101, 114, 116, 104]⟩, .string yn, .slice none 0 0] ?_ ?_ 46 _ yb7 ?_ ?_ ?_ ?_)
        all_goals (first | rfl | kernel_rfl | exact ⟨rfl, rfl, rfl⟩ | (obtain ⟨i9, e9, _, s9, _⟩ := info_parts infoBlock; exact ⟨i9, e9, s9⟩) | skip)
        generalize hW8 : W7.setRow Y #[.string ⟨#[98, 101, 114, 116, 104]⟩, .string yn, .slice none 0 0] = W8 at *
        go_wp2_with (go_at_call 44; refine HP2.mono ?_)
        rintro e W9 ⟨z, hz, rfl, hr9, hg9⟩
        have J9 := HJ8.out.grown hg9 hr9
        have HJ9 := hid_in J9
        obtain ⟨m, hm10, hm11⟩ : ∃ m : Nat, (10 : Int) + (z : Int) = (m : Int) ∧ m ≤ 11 := ⟨10 + z, by omega, by omega⟩
        have y9 := J9.yb
        have hY9 : Y < W9.heap.size := (Array.getElem?_eq_some_iff.1 J9.yb).1
        have hX9 : X < W9.heap.size := (Array.getElem?_eq_some_iff.1 J9.xb).1
        have hg9l : g < W9.heap.size := (J9.row.lt g rfl).2
        obtain ⟨i0, hi, hz0, hz1, hz2⟩ := info_parts infoLine
        have HYN := hid_in HYS.out.x.1
        clear HP2 HJ8 hr9 hg9 J9 cy1 hW8
        go_wp2
        go_loopw [11] (fun i wr => LoopM W9.heap.size Y W9 yn i wr) (fun i _ => 20 - (intOf i).toNat)
        case atStart => exact ⟨0, none, 0, [], rfl, by omega, rfl, World.grownBy.refl _ _, y9, lines_none' _ _, by simp⟩
        case round =>
          obtain ⟨j, a', cc, ls, rfl, hj11, hlj, hgr, hyb, how, hsm⟩ := hrel
          by_cases hjm : j < m
          · have hjm' : (j : Int) < (m : Int) := by omega
            have cj := cell_of_block hyb 2
            simp only [List.getElem?_toArray, List.getElem?_cons_zero, List.getElem?_cons_succ] at cj
            have hcv := conv_one wr (UInt8.ofNat (97 + j))
            rw [byte97 j (by omega)] at hcv
            obtain ⟨ds, hds, eds⟩ : ∃ ds : ByteArray, ds.size = 1 ∧ ds = ⟨#[UInt8.ofNat (97 + j)]⟩ := ⟨_, rfl, rfl⟩
            rw [← eds] at hcv
            have hcat : ¬ 9223372036854775807 < 1 + ds.size := by omega
            have fj := frozen_of_block hyb 2
            have HOW := hid_in how
            have HGR := hid_in hgr
            have HYB := hid_in hyb
            have HSM' := hid_in hsm
            have HLJ := hid_in hlj
            clear how hgr hyb hsm hlj eds HJ9
            have hzr : W9.heap.size ≤ wr.heap.size := HGR.out.size
            obtain ⟨nm, enm⟩ : ∃ nm : ByteArray, nm = ⟨#[109]⟩ ++ ds := ⟨_, rfl⟩
            have hnm : nm.size = 2 := by rw [enm, ByteArray.size_append, hds]; rfl
            have B2 : Below wr.heap.size wr ((wr.alloc (.cells #[.int .u8 (97 + (j : Int))] 5)).alloc (.cells #[.string nm] 9)) := ((Below.refl _ _).alloc (Nat.le_refl _) _).alloc (by simp) _
            have hw2 : ((wr.alloc (.cells #[.int .u8 (97 + (j : Int))] 5)).alloc (.cells #[.string nm] 9)).heap.size = wr.heap.size + 2 := by simp
            have o2 := words_one wr (.cells #[.int .u8 (97 + (j : Int))] 5) nm
            have hlit := lit_has ((wr.alloc (.cells #[.int .u8 (97 + (j : Int))] 5)).alloc (.cells #[.string nm] 9)) #[.string ⟨#[109, 97, 114, 107]⟩, .slice (some ⟨wr.heap.size + 1, 0, none⟩) 1 1] 115 2 rfl
            have B3 := (Below.refl ((wr.alloc (.cells #[.int .u8 (97 + (j : Int))] 5)).alloc (.cells #[.string nm] 9)).heap.size ((wr.alloc (.cells #[.int .u8 (97 + (j : Int))] 5)).alloc (.cells #[.string nm] 9))).alloc (Nat.le_refl _) (.cells #[.string ⟨#[109, 97, 114, 107]⟩, .slice (some ⟨wr.heap.size + 1, 0, none⟩) 1 1] 115)
            have hrow : (((wr.alloc (.cells #[.int .u8 (97 + (j : Int))] 5)).alloc (.cells #[.string nm] 9)).alloc (.cells #[.string ⟨#[109, 97, 114, 107]⟩, .slice (some ⟨wr.heap.size + 1, 0, none⟩) 1 1] 115)).ownsRow W9.heap.size 115 2 (.slice a' j cc) j (ls.flatMap LAt.cells) := by
              have := HOW.out.row
              rw [HLJ.out] at this
              exact own_below (own_below this B2) B3
            rw [hw2] at hlit
            have hz3 : W9.heap.size ≤ (((wr.alloc (.cells #[.int .u8 (97 + (j : Int))] 5)).alloc (.cells #[.string nm] 9)).alloc (.cells #[.string ⟨#[109, 97, 114, 107]⟩, .slice (some ⟨wr.heap.size + 1, 0, none⟩) 1 1] 115)).heap.size := by simp; omega
            rw [enm] at hlit hrow hz3
            go_wp2_with (at_builtin; refine wpList_append_has (by rfl) _ _ 44 (by rfl) W9.heap.size 115 i0 _ 2 40 Tryz.underlying44 hi hz0 hz1 hz2 rfl (by decide) _ j _ (by rfl) hrow _ 1 _ (by rfl) hlit (by intro z hz; simp at hz; rcases hz with rfl | rfl <;> rfl) ?c3 ?c4 hz3 ?_)
            case c3 => unfold maxLen; omega
            case c4 => omega
            rw [← enm]
            intro ao9 cap9 W10 own9 hg10 hv9
            have P3 := lines_push (x := ⟨⟨#[109, 97, 114, 107]⟩, .slice (some ⟨wr.heap.size + 1, 0, none⟩) 1 1, [nm.data.toList]⟩) HOW.out hzr o2 B2 (by rw [HLJ.out]; exact own9) hg10 (by rcases hv9 with e | e; exact .inl e; exact .inr (by rw [e]; simp))
            have yb10 := (P3.2.block Y hY9).trans HYB.out
            have cy10 := cell_of_block yb10 2
            have fy10 := frozen_of_block yb10 2
            simp only [List.getElem?_toArray, List.getElem?_cons_zero, List.getElem?_cons_succ] at cy10
            have gS := grown_setCell W10 Y 2 (.slice ao9 (j + 1) cap9)
            have HREL := hid_in (show LoopM W9.heap.size Y W9 yn (.int .i64 ((j + 1 : Nat) : Int)) (W10.setCell ⟨Y, 2, none⟩ (.slice ao9 (j + 1) cap9)) from by
              refine ⟨j + 1, ao9, cap9, _, rfl, by omega, ?_, ⟨gS.os.trans (P3.2.os.trans HGR.out.os), gS.tape.trans (P3.2.tape.trans HGR.out.tape), gS.output.trans (P3.2.output.trans HGR.out.output), ?_, fun i hi' hne => ?_⟩, ?_, P3.1.setCell ⟨Y, 2, none⟩ hY9 _, ?_⟩
              · rw [List.length_append, HLJ.out]; rfl
              · have := gS.size; have := P3.2.size; omega
              · rw [gS.block i (by have := P3.2.size; omega) hne, P3.2.block i hi']; exact HGR.out.block i hi' hne
              · rw [heap_setCell_same W10 Y 2 _ _ _ yb10]; rfl
              · intro x hx
                rcases List.mem_append.1 hx with h | h
                · exact HSM'.out x h
                · rw [List.mem_singleton.1 h]
                  refine ⟨Nat.le_refl _, fun y hy => ?_⟩
                  rw [List.mem_singleton.1 hy]
                  exact Nat.le_of_eq hnm)
            clear P3 yb10 gS own9 hg10 hv9 hrow hlit o2 B2 B3 hz3 HOW HGR HYB HSM' cj fj hcv
            go_wp2_with fail
            go_roundw
            case rel => exact (by have := HREL.out; simpa using this)
            case measure => simp [intOf]; omega
          · have hjm' : ¬ (j : Int) < (m : Int) := by omega
            have JL := HJ9.out.lay (bk' := ⟨#[98, 101, 114, 116, 104]⟩) (bn' := yn) (bv' := .slice a' j cc) (ls' := ls) hyb hgr ⟨⟨how.lin, fun q hq => how.farAll (by simp only [List.mem_cons, List.not_mem_nil, or_false] at hq; rcases hq with rfl | rfl | rfl <;> assumption), fun q hq => how.farAll (by have := HJ9.out.gr.size; have := HJ9.out.cw; omega)⟩, HYN.out, by omega, fun x hx => ⟨Nat.le_trans (hsm x hx).1 (by decide), fun y hy => Nat.le_trans ((hsm x hx).2 y hy) (by decide)⟩⟩
            have HJL := hid_in JL
            clear JL how hgr hyb hsm hlj HJ9
            go_wp2_with fail
            go_meet
            exact ⟨T, g, nx, xc, _, _, yn, a', j, cc, ls, by omega, HJL.out⟩
      · have hnx60 : nx ≤ 60 := by have := enx.out; omega
        clear hJ OWN7
        go_wp2
        go_loopw [12] (fun i wr => LoopK B p w1.heap.size X Y w1 D ⟨yk, yn, .slice ya nl yc, yl⟩ nx (k + 1 + 1 + 1) yk yn (.slice ya nl yc) yl i wr) (fun i _ => 70 - (intOf i).toNat)
        case atStart => exact ⟨0, T, g, xc, _, rfl, by omega, Nat.le_refl _, HJ.out⟩
        case round =>
          obtain ⟨j, T', g', cap', kk', rfl, hj61, hkk', J⟩ := hrel
          have HJJ := hid_in J
          have HPK := fun n (hn : n ≤ k + 80) W (hW : Rd B W p n) => pick_any B p n 2 W hW (by omega) (by omega) (by omega)
          clear J HJ
          go_upto_region 9 with fail
          refine region9_any (fun kk W => SpJ B p w1.heap.size X Y w1 D T' ⟨yk, yn, .slice ya nl yc, yl⟩ g' (nx + j) cap' kk yk yn (.slice ya nl yc) yl W) B (fun _ _ h => h.rd) (fun _ _ h => by have := cell_of_block h.xb 0; simpa using this) (fun _ _ _ _ h hg hr => h.grown hg hr) (fun _ _ h => h.below (Below.refl _ _).drew) HJJ.out (by omega) (by omega) (by kernel_rfl) (by kernel_rfl) (by kernel_rfl) ?_
          intro v b k' W' a' ha' e6 hb hk' J'
          simp only [putS, setS, List.setIfInBounds_toArray, List.set_cons_zero, List.set_cons_succ, e6] at ha'
          subst ha'
          have HJ' := hid_in J'
          cases b
          · clear J' HJJ HPK hb e6
            go_wp2_with fail
            go_meet
            exact ⟨T', g', nx + j, cap', k', yk, yn, ya, nl, yc, yl, by omega, HJ'.out⟩
          · have hn60 := hb rfl
            have cX := cell_of_block J'.xb 0
            have fX := frozen_of_block J'.xb 0
            simp only [List.getElem?_toArray, List.getElem?_cons_zero] at cX
            clear J' HJJ HPK hb e6
            have hj60 : j ≤ 60 := by omega
            have hcv := conv_two W' (UInt8.ofNat (97 + j / 26)) (UInt8.ofNat (97 + j % 26))
            rw [byte97 (j / 26) (by omega), byte97 (j % 26) (by omega), show ((j / 26 : Nat) : Int) = (j : Int) / 26 from by omega, show ((j % 26 : Nat) : Int) = (j : Int) % 26 from by omega] at hcv
            obtain ⟨ds, hds, eds⟩ : ∃ ds : ByteArray, ds.size = 2 ∧ ds = ⟨#[UInt8.ofNat (97 + j / 26), UInt8.ofNat (97 + j % 26)]⟩ := ⟨_, rfl, rfl⟩
            rw [← eds] at hcv
            have hcat : ¬ 9223372036854775807 < 1 + ds.size := by omega
            obtain ⟨nm, enm⟩ : ∃ nm : ByteArray, nm = ⟨#[116]⟩ ++ ds := ⟨_, rfl⟩
            have hnm : nm.size = 3 := by rw [enm, ByteArray.size_append, hds]; rfl
            obtain ⟨i0, hi, hi0, hi1, hi2⟩ := info_parts infoBlock
            have bt : Below W'.heap.size W' ((W'.alloc (.cells #[.int .u8 (97 + (j : Int) / 26), .int .u8 (97 + (j : Int) % 26)] 5)).alloc (.cells #[.string ⟨#[116, 101, 97, 109]⟩, .string nm, .slice none 0 0] 46)) := ((Below.refl _ _).alloc (Nat.le_refl _) _).alloc (by simp) _
            have hlit := lit_has (W'.alloc (.cells #[.int .u8 (97 + (j : Int) / 26), .int .u8 (97 + (j : Int) % 26)] 5)) #[.string ⟨#[116, 101, 97, 109]⟩, .string nm, .slice none 0 0] 46 3 rfl
            rw [World.size_alloc] at hlit
            have HJ1 := HJ'.out.below bt
            have hrow := HJ1.row
            have hza : ((W'.alloc (.cells #[.int .u8 (97 + (j : Int) / 26), .int .u8 (97 + (j : Int) % 26)] 5)).alloc (.cells #[.string ⟨#[116, 101, 97, 109]⟩, .string nm, .slice none 0 0] 46)).heap.size = W'.heap.size + 2 := by simp
            have hc7 : w1.heap.size ≤ W'.heap.size := HJ'.out.gr.size
            have hxl : X < W'.heap.size := (Array.getElem?_eq_some_iff.1 HJ'.out.xb).1
            have hyl' : Y < W'.heap.size := (Array.getElem?_eq_some_iff.1 HJ'.out.yb).1
            have hz3 : w1.heap.size ≤ ((W'.alloc (.cells #[.int .u8 (97 + (j : Int) / 26), .int .u8 (97 + (j : Int) % 26)] 5)).alloc (.cells #[.string ⟨#[116, 101, 97, 109]⟩, .string nm, .slice none 0 0] 46)).heap.size := by omega
            have HJ1H := hid_in HJ1
            have ENM := hid_in enm
            rw [enm] at hlit hrow hz3
            clear HJ1 bt eds enm
            generalize hnn : nx + j = nn at *
            go_wp2_with (at_builtin; refine wpList_append_has (by rfl) _ _ 23 (by rfl) w1.heap.size 46 i0 _ 3 56 Tryz.underlying23 hi hi0 hi1 hi2 rfl (by decide) _ nn _ (by rfl) hrow _ 1 _ (by rfl) hlit (by intro z hz; simp at hz; rcases hz with rfl | rfl | rfl <;> rfl) ?c3 ?c4 hz3 ?_)
            case c3 => unfold maxLen; omega
            case c4 => omega
            rw [← ENM.out]
            intro ao9 cap9 W9 own9 hg9 hv9
            obtain ⟨g9, rfl⟩ : ∃ g9, ao9 = some ⟨g9, 0, none⟩ := own_at own9 (by omega)
            have hg9' : g9 = g' ∨ ((W'.alloc (.cells #[.int .u8 (97 + (j : Int) / 26), .int .u8 (97 + (j : Int) % 26)] 5)).alloc (.cells #[.string ⟨#[116, 101, 97, 109]⟩, .string nm, .slice none 0 0] 46)).heap.size ≤ g9 := by
              rcases hv9 with e | e
              · left; exact Option.some.inj e
              · right; rw [hza]; exact Nat.le_of_eq (Option.some.inj e).symm
            have HP := hid_in (HJ1H.out.push (z := ⟨⟨#[116, 101, 97, 109]⟩, nm, .slice none 0 0, []⟩) (g' := g9) (cap' := cap9) hg9 (by simpa [hcw, BAt.cells] using own9) ⟨⟨⟨zero_has _, by intro x hx; cases hx⟩, fun q _ => ⟨.inl rfl, by intro x hx; cases hx⟩, fun q _ => ⟨.inl rfl, by intro x hx; cases hx⟩⟩, by simp only; omega, by simp, by intro x hx; cases hx⟩ hg9' (by rcases hg9' with e | e; rw [e]; exact HJ1H.out.gX; omega) (by rcases hg9' with e | e; rw [e]; exact HJ1H.out.gY; omega) (by omega))
            have hX9 := (hg9.block X (by omega) (by intro e; have := Option.some.inj e; exact HJ1H.out.gX this.symm)).trans HJ1H.out.xb
            have j0 := cell_of_block hX9 0
            have f0 := frozen_of_block hX9 0
            simp only [List.getElem?_toArray, List.getElem?_cons_zero] at j0
            have HREL := hid_in (show LoopK B p w1.heap.size X Y w1 D ⟨yk, yn, .slice ya nl yc, yl⟩ nx (k + 1 + 1 + 1) yk yn (.slice ya nl yc) yl (.int .i64 ((j + 1 : Nat) : Int)) (W9.setCell ⟨X, 0, none⟩ (.slice (some ⟨g9, 0, none⟩) (nn + 1) cap9)) from ⟨j + 1, _, g9, cap9, k', rfl, by omega, by omega, by rw [show nx + (j + 1) = nn + 1 by omega]; exact HP.out⟩)
            clear own9 hg9 hv9 hrow hlit HJ1H HP hX9 hz3 hza hcv cX fX
            go_wp2_with fail
            go_roundw
            case rel => exact (by have := HREL.out; simpa using this)
            case measure => simp [intOf]; omega
    case rest =>
      obtain ⟨T', g', n', cap', kk', bk, bn, a', m', cc', ls', hkk, J⟩ := hcut
      obtain ⟨wf, hwf⟩ : ∃ wf, wf = wc := ⟨_, rfl⟩
      subst hwf
      have HO := J.out (d := 100) (w := w) (k := k) hcw G1w (by omega) hp #[.slice (some ⟨g', 0, none⟩) n' cap']
      have cx := cell_of_block J.xb 0
      have cy0 := cell_of_block J.yb 0
      have cy1 := cell_of_block J.yb 1
      have cy2 := cell_of_block J.yb 2
      simp only [List.getElem?_toArray, List.getElem?_cons_zero, List.getElem?_cons_succ] at cx cy0 cy1 cy2
      have hDk : D.length = kx := hD
      rw [hDk] at HO
      have hkn : (kx : Int) < (n' : Int) := by
        have := J.len
        simp at this
        omega
      have zr := J.gr.block (w.heap.size + 1) (by omega) (by intro e; cases e; omega)
      have hth := HO.2.2.1
      have zX := HO.2.1.trans J.xb
      have zR := HO.2.2.2.trans (zr.trans z1H.out)
      have HOH := hid_in HO.1
      have hrow := J.row
      obtain ⟨u0, k1⟩ := Option.isSome_iff_exists.1 (hth 0 (by omega)).1
      have k2 := (hth 0 (by omega)).2
      have hs0 := (hrow.stored (kx * 3) (.string bk)).1
      obtain ⟨u1, k3⟩ := Option.isSome_iff_exists.1 (row_there hs0 (kx * 3) 3 (by omega) 1 (by omega)).1
      have k4 := hs0.frozenAt (kx * 3 + 1)
      have hs1 := (hs0.stored (kx * 3 + 1) (.string bn)).1
      obtain ⟨u2, k5⟩ := Option.isSome_iff_exists.1 (row_there hs1 (kx * 3) 3 (by omega) 2 (by omega)).1
      have k6 := hs1.frozenAt (kx * 3 + 2)
      rw [Nat.add_zero] at k1 k2
      have cx2 : ((((wf.setCell ⟨g', kx * 3, none⟩ (.string bk)).setCell ⟨g', kx * 3 + 1, none⟩ (.string bn)).setCell ⟨g', kx * 3 + 2, none⟩ (.slice a' m' cc')).cell? ⟨X, 0, none⟩) = some (.slice (some ⟨g', 0, none⟩) n' cap') := (cell_of_block (w := wf.setCells g' (kx * 3) [.string bk, .string bn, .slice a' m' cc']) zX 0)
      have zR2 : (((wf.setCell ⟨g', kx * 3, none⟩ (.string bk)).setCell ⟨g', kx * 3 + 1, none⟩ (.string bn)).setCell ⟨g', kx * 3 + 2, none⟩ (.slice a' m' cc')).heap[w.heap.size + 1]? = some (.cells #[.slice none 0 0] 25 (0, 0)) := zR
      clear hrow hs0 hs1
      clear HO J HJ OWN7
      go_wp2_with (with_reducible show wpList _ _ _ (Oper.mk _ (Op.store _ (Operand.tmp 4) _) _ _ _ _ :: _) _ _; refine wpList_store_row rfl 25 (Operand.tmp 4) (Operand.tmp 198) rfl (w.heap.size + 1) #[.slice (some ⟨g', 0, none⟩) n' cap'] ?_ ?_ 25 _ zR2 ?_ ?_ ?_ ?_)
      all_goals (first | rfl | kernel_rfl | exact sheet_size | skip)
      have z5 : (World.setRow (((wf.setCell ⟨g', kx * 3, none⟩ (.string bk)).setCell ⟨g', kx * 3 + 1, none⟩ (.string bn)).setCell ⟨g', kx * 3 + 2, none⟩ (.slice a' m' cc')) (w.heap.size + 1) #[.slice (some ⟨g', 0, none⟩) n' cap']).heap[w.heap.size + 1]? = some (.cells #[.slice (some ⟨g', 0, none⟩) n' cap'] 25 (0, 0)) := setRow_heap _ _ _ _ _ _ zR2
      have y0 := cell_of_block z5 0
      simp only [List.getElem?_toArray, List.getElem?_cons_zero] at y0
      have HO2 := HOH.out
      clear HOH cx2 k1 k2 k3 k4 k5 k6 zR2 hth zX zR
      generalize hWW : World.setRow (((wf.setCell ⟨g', kx * 3, none⟩ (.string bk)).setCell ⟨g', kx * 3 + 1, none⟩ (.string bn)).setCell ⟨g', kx * 3 + 2, none⟩ (.slice a' m' cc')) (w.heap.size + 1) #[.slice (some ⟨g', 0, none⟩) n' cap'] = WW at y0 z5 ⊢
      have HO3 : Spoilt 100 B p k w (.returned (.agg #[.slice (some ⟨g', 0, none⟩) n' cap'])) WW := by rw [← hWW]; exact HO2
      clear HO2 hWW
      exact bodyPost_ret (v := .agg #[.slice (some ⟨g', 0, none⟩) n' cap']) (by simp [results, Tryz.results104, go_sem, y0]) rfl HO3
end Go.Proofs.YtpdahhnjhggocaaGreatDoor
