import Derived.Test.YtpdahhnjhggocaaGreatDoorBun29
import Derived.Test.YtpdahhnjhggocaaGreatDoorBun28
import Derived.Test.YtpdahhnjhggocaaGreatDoorBun25
import Derived.Test.YtpdahhnjhggocaaGreatDoorBun24
import Derived.Test.YtpdahhnjhggocaaGreatDoorBun16
namespace Go.Proofs.YtpdahhnjhggocaaGreatDoor
open Go.RowKit
theorem putIn_split {α : Type} (lt : α → α → Bool) (x : α) : ∀ (D T : List α), (∀ y ∈ D, lt y x = true) → (∀ y, T.head? = some y → lt y x = false) → putIn lt x (D ++ T) = D ++ x :: T
  | [], [], _, _ => rfl
  | [], y :: T, _, h => by
    have := h y rfl
    simp [putIn, this]
  | y :: D, T, h, h2 => by
    have h1 := h y (by simp)
    simp [putIn, h1, putIn_split lt x D T (fun z hz => h z (by simp [hz])) h2]
theorem HasRow.drop {w : World} {ao : Option Addr} {n cap size : Nat} {xs : List Value} (h : HasRow w (.slice ao n cap) n size xs) (k : Nat) (hk : k ≤ n) : HasRow w (.slice (if cap = k then ao else ao.map (fun a => a.add (k * size))) (n - k) (cap - k)) (n - k) size (xs.drop (k * size)) := by
  obtain ⟨hl, ao', c', hv, hcap, hc⟩ := h
  cases hv
  refine ⟨?_, _, _, rfl, ⟨by omega, by omega⟩, ?_⟩
  · rw [List.length_drop, hl, Nat.sub_mul]
  · by_cases hkn : n - k = 0
    · exact .inl hkn
    · rcases hc with h0 | ⟨b, off, rfl, hc⟩
      · exact .inl (by omega)
      · refine .inr ⟨b, off + k * size, ?_, fun j u hj => ?_⟩
        · rw [if_neg (by omega), Option.map_some, add_at]
        · rw [List.getElem?_drop] at hj
          have := hc _ u hj
          rwa [show off + (k * size + j) = off + k * size + j by omega] at this
def PutPost (R : List Plain) (b : BAt) (x : LAt) (w : World) (e : Ending) (w' : World) : Prop := ∃ v' D T, b.ls = D ++ T ∧ e = .returned (.agg #[.string b.kind, .string b.name, v']) ∧ (D ++ x :: T).map LAt.plain = putIn (lineLt R) x.plain (b.ls.map LAt.plain) ∧ w'.ownsRow w.heap.size 115 2 v' (D ++ x :: T).length ((D ++ x :: T).flatMap LAt.cells) ∧ Below w.heap.size w w'
set_option maxHeartbeats 8000000 in
set_option maxRecDepth 100000 in
theorem l3PutLine_any {b : BAt} {x : LAt} {w : World} (hb : BlockIn w b) (hs : LinesSmall b.ls) (hx : LineIn w x) (hxs : x.ws.length ≤ 1048576) : Calls Tryz.prog 86 #[.agg #[.string b.kind, .string b.name, b.v], .agg #[.string x.key, x.v]] w fun e w' => PutPost (rulesOf b.kind) b x w e w' := by
  obtain ⟨bk, bn, bv, bl⟩ := b
  obtain ⟨xk, xv, xw⟩ := x
  unfold BlockIn at hb
  unfold LineIn at hx
  simp only at *
  obtain ⟨la, lc, rfl⟩ := hb.1.form
  obtain ⟨xa, xc, rfl⟩ := hx.form
  have b0 : Below w.heap.size w (((w.alloc (.cells #[.string bk, .string bn, .slice la bl.length lc] 46)).alloc (.cells #[.string xk, .slice xa xw.length xc] 115)).alloc (.cells #[.string ⟨#[]⟩, .string ⟨#[]⟩, .slice none 0 0] 46)) := (((Below.refl _ _).alloc (Nat.le_refl _) _).alloc (by simp) _).alloc (by simp; omega) _
  obtain ⟨hsz, hy0, hy1, hy2⟩ := alloc3 (w := w) (o1 := .cells #[.string bk, .string bn, .slice la bl.length lc] 46) (o2 := .cells #[.string xk, .slice xa xw.length xc] 115) (o3 := .cells #[.string ⟨#[]⟩, .string ⟨#[]⟩, .slice none 0 0] 46)
  have hbs := hid_in hb
  have hsm := hid_in hs
  have hxi := hid_in hx
  have hl := hs.1
  clear hb hs hx
  generalize hn : bl.length = len at *
  have en := hid_in hn
  clear hn
  generalize hnx : xw.length = nx at *
  have enx := hid_in hnx
  clear hnx
  generalize hW0 : ((w.alloc (.cells #[.string bk, .string bn, .slice la len lc] 46)).alloc (.cells #[.string xk, .slice xa nx xc] 115)).alloc (.cells #[.string ⟨#[]⟩, .string ⟨#[]⟩, .slice none 0 0] 46) = W0 at *
  have eW0 := hid_in hW0
  have hszW := hid_in hsz
  clear hW0 hsz
  go_enter Tryz.func86, Tryz.ntmps86
  go_wp2
  go_loopw [5] (fun i wr => ∃ (D T : List LAt), i = .int .i64 (D.length : Int) ∧ D.length ≤ len ∧ Hid (bl = D ++ T) ∧ Hid (∀ y ∈ D.map LAt.plain, lineLt (rulesOf bk) y ⟨xk, xw⟩ = true) ∧ Below W0.heap.size W0 wr) (fun i _ => len - (intOf i).toNat)
  case atStart =>
    rw [eW0.out]
    exact ⟨[], bl, rfl, by simp, (rfl : bl = [] ++ bl), (by simp : ∀ y ∈ ([] : List LAt).map LAt.plain, _), Below.refl _ _⟩
  case round =>
    obtain ⟨D, T, rfl, hDl, hDT, hlt, bw⟩ := hrel
    have gw := b0.trans (bw.mono b0.size)
    have hs3 := hszW.out
    have z0 := (bw.block w.heap.size (by omega)).trans hy0
    have z1 := (bw.block (w.heap.size + 1) (by omega)).trans hy1
    have z2 := (bw.block (w.heap.size + 2) (by omega)).trans hy2
    have c0 := cell_of_block z0 0
    have c2 := cell_of_block z0 2
    have d0 := cell_of_block z1 0
    have d1 := cell_of_block z1 1
    simp only [List.getElem?_toArray, List.getElem?_cons_zero, List.getElem?_cons_succ] at c0 c2 d0 d1
    have hszw := bw.size
    have v0 := fun p : Gr wr => gr_cell c0 p
    have v2 := fun p : Gr wr => gr_cell c2 p
    have u0 := fun p : Gr wr => gr_cell d0 p
    have u1 := fun p : Gr wr => gr_cell d1 p
    have HBS := hid_in (hbs.out.below gw)
    have HXI := hid_in (hxi.out.below gw)
    clear c0 c2 d0 d1 hy0 hy1 hy2
    go_upto_region 2 with fail
    go_cut [21] from 6 to 21 (fun c wx => ∃ B : Bool, c = .bool B ∧ Hid ((B = true → ∃ y T', T = y :: T' ∧ lineLt (rulesOf bk) y.plain ⟨xk, xw⟩ = true) ∧ (B = false → ∀ y, (T.map LAt.plain).head? = some y → lineLt (rulesOf bk) y ⟨xk, xw⟩ = false)) ∧ Below wr.heap.size wr wx)
    case first =>
      cases T with
      | nil =>
        have hDlen : D.length = len := by rw [← en.out, hDT.out]; simp
        have hno : ¬ ((D.length : Int) < (len : Int)) := by omega
        clear hDlen
        clear HBS HXI hDT hlt u0 u1 v0 z0 z1 z2 hbs hxi hsm
        refine wp_region_gr (by kernel_rfl) (by kernel_rfl) ?_
        iterate 6 quiet_step (fail)
        iterate 9 (with_reducible refine quiet_skip ?_ ?_; kernel_rfl; simp only [Act.put, List.setIfInBounds_toArray, List.set_cons_zero, List.set_cons_succ])
        quiet_step (fail)
        refine wpQuiet_nil ?_
        rintro _ ⟨⟨wq, bq⟩, rfl⟩
        go_wp2_with fail
        go_meet
        exact ⟨false, rfl, ⟨(fun h => by cases h), fun _ y hy => by cases hy⟩, bq⟩
      | cons y T =>
        have hDlen : D.length < len := by have := en.out; rw [hDT.out] at this; simp at this; omega
        have h5 := HBS.out
        rw [hDT.out] at h5
        obtain ⟨g, off, rfl, y1, y2⟩ := h5.1.line
        have hym : y ∈ bl := by rw [hDT.out]; simp
        have hyin := HBS.out.2 y hym
        obtain ⟨ya, yc, ey⟩ := HasRow.form hyin
        have w1 := fun p : Gr wr => gr_cell y1 p
        have w2 := fun p : Gr wr => gr_cell y2 p
        rw [ey] at w2
        have hyl := (hsm.out.2 y hym).1
        have HLL : ∀ p : Gr wr, Calls Tryz.prog 121 #[.string bk, .agg #[.string y.key, .slice ya y.ws.length yc], .agg #[.string xk, .slice xa nx xc]] p.u fun e w' => e = .returned (.bool (lineLt (rulesOf bk) y.plain ⟨xk, xw⟩)) ∧ Below p.u.heap.size p.u w' := fun p =>
          l3LineLess_any bk y.plain ⟨xk, xw⟩ (ey ▸ HasRow.below hyin p.h) (by have := HXI.out.below p.h; rw [← enx.out] at this ⊢; exact this) hyl (by show xw.length ≤ _; rw [enx.out]; exact hxs)
        have hyes : ((D.length : Int) < (len : Int)) := by omega
        have i1 : (0 : Int) ≤ (D.length : Int) := by omega
        have hres := hid_in (show ∀ B, lineLt (rulesOf bk) y.plain ⟨xk, xw⟩ = B → ((B = true → ∃ y' T', y :: T = y' :: T' ∧ lineLt (rulesOf bk) y'.plain ⟨xk, xw⟩ = true) ∧ (B = false → ∀ y', ((y :: T).map LAt.plain).head? = some y' → lineLt (rulesOf bk) y' ⟨xk, xw⟩ = false)) from fun B hB => ⟨fun h => ⟨y, T, rfl, by rw [hB, h]⟩, fun h y' hy' => by cases hy'; rw [hB, h]⟩)
        generalize hLT : lineLt (rulesOf bk) y.plain ⟨xk, xw⟩ = LT at HLL
        have eLT := hid_in hLT
        clear hLT HBS HXI h5 hyin ey hDT hlt z0 z1 z2 hbs hxi hsm y1 y2 hym
        generalize y.key = yk at *
        generalize y.ws.length = ny at *
        refine wp_region_gr (by kernel_rfl) (by kernel_rfl) ?_
        iterate 14 quiet_step (fail)
        quiet_step ((go_at_call 121; refine gr_of (HLL _)))
        quiet_step (fail)
        refine wpQuiet_nil ?_
        rintro _ ⟨⟨wq, bq⟩, rfl⟩
        go_wp2_with fail
        go_meet
        exact ⟨LT, rfl, hres.out LT eLT.out, bq⟩
    case rest =>
      obtain ⟨wk, hwk⟩ : ∃ wk, wk = wc := ⟨_, rfl⟩
      subst hwk
      obtain ⟨B, rfl, hB, bk'⟩ := hcut
      have BK := bw.trans (bk'.mono bw.size)
      cases B
      · have hst := hid_in (hB.out.2 rfl)
        have z0k := (bk'.block w.heap.size (by omega)).trans z0
        have z1k := (bk'.block (w.heap.size + 1) (by omega)).trans z1
        have z2k := (bk'.block (w.heap.size + 2) (by omega)).trans z2
        have gk := gw.trans (bk'.mono gw.size)
        have c2 := cell_of_block z0k 2
        have d0 := cell_of_block z1k 0
        have d1 := cell_of_block z1k 1
        simp only [List.getElem?_toArray, List.getElem?_cons_zero, List.getElem?_cons_succ] at c2 d0 d1
        have hbl := hid_in (hbs.out.1.below gk)
        have q1 : (0 : Int) ≤ (D.length : Int) := by omega
        have q2 : (D.length : Int) ≤ (len : Int) := by omega
        have hcap : len ≤ lc := by have := hbs.out.1.cap.1; rw [en.out] at this; exact this
        have q3 : (len : Int) ≤ (lc : Int) := by omega
        have q4 : (D.length : Int) ≤ (lc : Int) := by omega
        have hS0 : wk.drew.cell? ⟨w.heap.size, 2, none⟩ = some (.slice la len lc) ∧ wk.drew.cell? ⟨w.heap.size + 1, 0, none⟩ = some (.string xk) ∧ wk.drew.cell? ⟨w.heap.size + 1, 1, none⟩ = some (.slice xa nx xc) := ⟨c2, d0, d1⟩
        have s2 := fun p : { W : World // W.cell? ⟨w.heap.size, 2, none⟩ = some (.slice la len lc) ∧ W.cell? ⟨w.heap.size + 1, 0, none⟩ = some (.string xk) ∧ W.cell? ⟨w.heap.size + 1, 1, none⟩ = some (.slice xa nx xc) } => p.2.1
        have s0 := fun p : { W : World // W.cell? ⟨w.heap.size, 2, none⟩ = some (.slice la len lc) ∧ W.cell? ⟨w.heap.size + 1, 0, none⟩ = some (.string xk) ∧ W.cell? ⟨w.heap.size + 1, 1, none⟩ = some (.slice xa nx xc) } => p.2.2.1
        have s1 := fun p : { W : World // W.cell? ⟨w.heap.size, 2, none⟩ = some (.slice la len lc) ∧ W.cell? ⟨w.heap.size + 1, 0, none⟩ = some (.string xk) ∧ W.cell? ⟨w.heap.size + 1, 1, none⟩ = some (.slice xa nx xc) } => p.2.2.2
        clear hB v0 v2 u0 u1 HBS HXI
        go_upto_region 4 with fail
        letI : Inhabited { W : World // W.cell? ⟨w.heap.size, 2, none⟩ = some (.slice la len lc) ∧ W.cell? ⟨w.heap.size + 1, 0, none⟩ = some (.string xk) ∧ W.cell? ⟨w.heap.size + 1, 1, none⟩ = some (.slice xa nx xc) } := ⟨⟨wk.drew, hS0⟩⟩
        refine wp_region_hold (S := fun W => W.cell? ⟨w.heap.size, 2, none⟩ = some (.slice la len lc) ∧ W.cell? ⟨w.heap.size + 1, 0, none⟩ = some (.string xk) ∧ W.cell? ⟨w.heap.size + 1, 1, none⟩ = some (.slice xa nx xc)) 15 16 (by kernel_rfl) rfl ?_
        refine wpHold_mask [false, true, true, true, true, false, true, false, false, true, true, true, true, false, false, false] 7 rfl (by kernel_rfl) hS0 ?_
        simp only [maskL_t, maskL_f, maskL_n]
        iterate 9 (refine wpReads_step (fun K hK => ?_); go_simp; refine hK _ ?_; clear hK K)
        refine wpReads_nil ?_
        have hKS := hid_in (show ∀ u, Below wk.heap.size wk u → u.cell? ⟨w.heap.size, 2, none⟩ = some (.slice la len lc) ∧ u.cell? ⟨w.heap.size + 1, 0, none⟩ = some (.string xk) ∧ u.cell? ⟨w.heap.size + 1, 1, none⟩ = some (.slice xa nx xc) from fun u hu => ⟨(hu.cell (World.block_lt_of_cell? wk _ c2)).trans c2, (hu.cell (World.block_lt_of_cell? wk _ d0)).trans d0, (hu.cell (World.block_lt_of_cell? wk _ d1)).trans d1⟩)
        have hDrow := hid_in (show HasRow wk (.slice la D.length lc) D.length 2 (D.flatMap LAt.cells) from by
          have h1 := hbl.out
          rw [en.out] at h1
          have h2 := h1.take D.length hDl
          rw [hDT.out, List.flatMap_append, ← rowF_len LAt.cells 2 LAt.len D, List.take_left] at h2
          exact h2)
        have hTrow := hid_in (show HasRow wk (.slice (if lc = D.length then la else la.map (fun a => a.add (D.length * 2))) (len - D.length) (lc - D.length)) (len - D.length) 2 (T.flatMap LAt.cells) from by
          have h1 := hbl.out
          rw [en.out] at h1
          have h2 := h1.drop D.length hDl
          rw [hDT.out, List.flatMap_append, ← rowF_len LAt.cells 2 LAt.len D, List.drop_left, rowF_len LAt.cells 2 LAt.len D] at h2
          exact h2)
        have hone := hid_in (show ∀ y ∈ bl, ∃ a n c, y.v = .slice a n c from fun y hy => by obtain ⟨a, c, e⟩ := HasRow.form (hbs.out.2 y hy); exact ⟨a, _, c, e⟩)
        have hD1 := hid_in (lcells_one (ls := D) (fun y hy => hone.out y (by rw [hDT.out]; simp [hy])))
        have hT1 := hid_in (lcells_one (ls := T) (fun y hy => hone.out y (by rw [hDT.out]; simp [hy])))
        obtain ⟨i0, hi, hi0, hi1, hi2⟩ := info_parts infoLine
        generalize (if lc = D.length then la else la.map (fun a => a.add (D.length * 2))) = laT at hTrow ⊢
        refine wpHold_branch (f := 6) (rs := [0, 7]) (by kernel_rfl) (by simp) ?_
        refine AllHold.cons rfl (by decide) (fun K hK => ?wayA) (AllHold.cons rfl (by decide) (fun K hK => ?wayB) AllHold.nil)
        case' wayA =>
          go_simp
          have bA : Below wk.heap.size wk (wk.alloc (.cells #[] 115)).drew := ((Below.refl wk.heap.size wk).alloc (Nat.le_refl _) (.cells #[] 115)).drew
          have oA : (wk.alloc (.cells #[] 115)).drew.ownsRow wk.heap.size 115 2 (.slice (some ⟨wk.heap.size, 0, none⟩) 0 0) 0 [] := World.ownsRow_lit (base := wk.heap.size) (e := 115) (size := 2) wk #[] 0 (Nat.le_refl _) (by decide) rfl
          refine hK.out _ _ (hKS.out _ bA) ?_
          clear hK K
          refine wpHold_branch (f := 5) (rs := [5, 7]) (by kernel_rfl) (by simp) ?_
          refine AllHold.cons rfl (by decide) (fun K hK => ?wayA1) (AllHold.cons rfl (by decide) (fun K hK => ?wayA2) AllHold.nil)
        case' wayA1 =>
          refine step_append_has rfl _ _ 44 rfl wk.heap.size 115 i0 _ 2 40 Tryz.underlying44 hi hi0 hi1 hi2 rfl (by decide) _ 0 _ rfl oA _ D.length _ rfl (hDrow.out.below bA) hD1.out (by unfold maxLen; omega) (by omega) bA.size ?_
          intro ao5 c5 u5 own5 hg5 _
          simp only [Nat.zero_add] at own5 ⊢
          have b5 := bA.grown hg5 bA.size (fun q hq => by cases hq; exact Nat.le_refl _)
          refine hK.out _ _ (hKS.out _ b5) ?_
          clear hK K
          refine wpHold_branch (f := 4) (rs := [7]) (by kernel_rfl) (by simp) ?_
          refine AllHold.cons rfl (by decide) (fun K hK => ?_) AllHold.nil
          go_simp
          have bU := b5.alloc b5.size (.cells #[.string xk, .slice xa nx xc] 115)
          have own7 := own5.alloc (.cells #[.string xk, .slice xa nx xc] 115)
          have has7 := lit_has u5 #[.string xk, .slice xa nx xc] 115 2 rfl
          refine hK.out _ _ (hKS.out _ bU) ?_
          clear hK K
          generalize u5.alloc (.cells #[.string xk, .slice xa nx xc] 115) = U at bU own7 has7 ⊢
          clear own5 hg5 b5 oA bA
        case' wayA2 =>
          go_simp
          have b7 : Below wk.heap.size wk ((wk.alloc (.cells #[] 115)).alloc (.cells #[.string xk, .slice xa nx xc] 115)).drew := (((Below.refl wk.heap.size wk).alloc (Nat.le_refl _) (.cells #[] 115)).alloc (by simp) _).drew
          have o7 : ((wk.alloc (.cells #[] 115)).alloc (.cells #[.string xk, .slice xa nx xc] 115)).drew.ownsRow wk.heap.size 115 2 (.slice (some ⟨wk.heap.size, 0, none⟩) 0 0) 0 [] := oA.alloc (.cells #[.string xk, .slice xa nx xc] 115)
          have h7 : HasRow ((wk.alloc (.cells #[] 115)).alloc (.cells #[.string xk, .slice xa nx xc] 115)).drew (.slice (some ⟨wk.heap.size + 1, 0, none⟩) 1 1) 1 2 [.string xk, .slice xa nx xc] := by
            have := lit_has (wk.alloc (.cells #[] 115)) #[.string xk, .slice xa nx xc] 115 2 rfl
            rw [World.size_alloc] at this
            exact this
          refine hK.out _ _ (hKS.out _ b7) ?_
          clear hK K
          refine wpHold_branch (f := 4) (rs := [5]) (by kernel_rfl) (by simp) ?_
          refine AllHold.cons rfl (by decide) (fun K hK => ?_) AllHold.nil
          refine step_append_has rfl _ _ 44 rfl wk.heap.size 115 i0 _ 2 40 Tryz.underlying44 hi hi0 hi1 hi2 rfl (by decide) _ 0 _ rfl o7 _ D.length _ rfl (hDrow.out.below b7) hD1.out (by unfold maxLen; omega) (by omega) b7.size ?_
          intro ao5 c5 U own7 hg5 _
          simp only [Nat.zero_add] at own7 ⊢
          have bU := b7.grown hg5 b7.size (fun q hq => by cases hq; exact Nat.le_refl _)
          have has7 := h7.far (.inr (fun b off m c e => by cases e; show wk.heap.size + 1 ≠ wk.heap.size; omega)) hg5
          refine hK.out _ _ (hKS.out _ bU) ?_
          clear hK K o7 h7 hg5 b7 oA bA
        case' wayB =>
          go_simp
          have bB : Below wk.heap.size wk (wk.alloc (.cells #[.string xk, .slice xa nx xc] 115)).drew := ((Below.refl wk.heap.size wk).alloc (Nat.le_refl _) _).drew
          refine hK.out _ _ (hKS.out _ bB) ?_
          clear hK K
          refine wpHold_branch (f := 5) (rs := [0]) (by kernel_rfl) (by simp) ?_
          refine AllHold.cons rfl (by decide) (fun K hK => ?_) AllHold.nil
          go_simp
          have b7 : Below wk.heap.size wk ((wk.alloc (.cells #[.string xk, .slice xa nx xc] 115)).alloc (.cells #[] 115)).drew := (((Below.refl wk.heap.size wk).alloc (Nat.le_refl _) _).alloc (by simp) _).drew
          have o7 : ((wk.alloc (.cells #[.string xk, .slice xa nx xc] 115)).alloc (.cells #[] 115)).drew.ownsRow wk.heap.size 115 2 (.slice (some ⟨wk.heap.size + 1, 0, none⟩) 0 0) 0 [] := by
            have := World.ownsRow_lit (base := wk.heap.size) (e := 115) (size := 2) (wk.alloc (.cells #[.string xk, .slice xa nx xc] 115)) #[] 0 (by simp) (by decide) rfl
            rw [World.size_alloc] at this
            exact this
          have h7 : HasRow ((wk.alloc (.cells #[.string xk, .slice xa nx xc] 115)).alloc (.cells #[] 115)).drew (.slice (some ⟨wk.heap.size, 0, none⟩) 1 1) 1 2 [.string xk, .slice xa nx xc] := (lit_has wk #[.string xk, .slice xa nx xc] 115 2 rfl).below ((Below.refl _ _).alloc (Nat.le_refl _) _).drew
          refine hK.out _ _ (hKS.out _ b7) ?_
          clear hK K
          refine wpHold_branch (f := 4) (rs := [5]) (by kernel_rfl) (by simp) ?_
          refine AllHold.cons rfl (by decide) (fun K hK => ?_) AllHold.nil
          refine step_append_has rfl _ _ 44 rfl wk.heap.size 115 i0 _ 2 40 Tryz.underlying44 hi hi0 hi1 hi2 rfl (by decide) _ 0 _ rfl o7 _ D.length _ rfl (hDrow.out.below b7) hD1.out (by unfold maxLen; omega) (by omega) b7.size ?_
          intro ao5 c5 U own7 hg5 _
          simp only [Nat.zero_add] at own7 ⊢
          have bU := b7.grown hg5 b7.size (fun q hq => by cases hq; show wk.heap.size ≤ wk.heap.size + 1; omega)
          have has7 := h7.far (.inr (fun b off m c e => by cases e; show wk.heap.size ≠ wk.heap.size + 1; omega)) hg5
          refine hK.out _ _ (hKS.out _ bU) ?_
          clear hK K o7 h7 hg5 b7 bB
        all_goals
          refine wpHold_branch (f := 3) (rs := [8]) (by kernel_rfl) (by simp) ?_
          refine AllHold.cons rfl (by decide) (fun K hK => ?_) AllHold.nil
          have hbase5 : ∀ q, (Value.slice ao5 (D.length) c5).ownBlock = some q → wk.heap.size ≤ q := fun q hq => (own7.lt q hq).1
          refine step_append_has rfl _ _ 44 rfl wk.heap.size 115 i0 _ 2 40 Tryz.underlying44 hi hi0 hi1 hi2 rfl (by decide) _ (D.length) _ rfl own7 _ 1 _ rfl has7 (by intro z hz; simp at hz; rcases hz with rfl | rfl <;> rfl) (by unfold maxLen; omega) (by omega) bU.size ?_
          intro ao8 c8 u8 own8 hg8 _
          have b8 := bU.grown hg8 bU.size hbase5
          refine hK.out _ _ (hKS.out _ b8) ?_
          clear hK K
          refine wpHold_branch (f := 2) (rs := [13]) (by kernel_rfl) (by simp) ?_
          refine AllHold.cons rfl (by decide) (fun K hK => ?_) AllHold.nil
          have hbase8 : ∀ q, (Value.slice ao8 (D.length + 1) c8).ownBlock = some q → wk.heap.size ≤ q := fun q hq => (own8.lt q hq).1
          refine step_append_has rfl _ _ 44 rfl wk.heap.size 115 i0 _ 2 40 Tryz.underlying44 hi hi0 hi1 hi2 rfl (by decide) _ (D.length + 1) _ rfl own8 _ (len - D.length) _ rfl (hTrow.out.below b8) hT1.out (by unfold maxLen; omega) (by omega) b8.size ?_
          intro ao9 c9 u9 own9 hg9 _
          have b9 := b8.grown hg9 b8.size hbase8
          refine hK.out _ _ (hKS.out _ b9) ?_
          clear hK K own7 has7 own8 hg8 hg9 hbase5 hbase8 b8 bU
          refine wpHold_branch (f := 1) (rs := [14]) (by kernel_rfl) (by simp) ?_
          refine AllHold.cons rfl (by decide) (fun K hK => ?_) AllHold.nil
          go_simp
          refine hK.out _ _ (hKS.out _ b9) ?_
          clear hK K
          have z09 := (b9.block w.heap.size (by have := bk'.size; omega)).trans z0k
          have z29 := (b9.block (w.heap.size + 2) (by have := bk'.size; omega)).trans z2k
          have m0 := cell_of_block z09 0
          have m1 := cell_of_block z09 1
          have m2 := cell_of_block z09 2
          have fr2 := frozen_of_block z09 2
          simp only [List.getElem?_toArray, List.getElem?_cons_zero, List.getElem?_cons_succ] at m0 m1 m2
          refine wpHold_last (by kernel_rfl) rfl (by kernel_rfl) ?_
          intro K hK
          have hkz : w.heap.size + 3 ≤ wk.heap.size := by have := bk'.size; omega
          have G9 := gk.trans (b9.mono (by omega))
          have O9 := hid_in own9
          have z2s : (u9.setCell ⟨w.heap.size, 2, none⟩ (.slice ao9 (D.length + 1 + (len - D.length)) c9)).heap[w.heap.size + 2]? = some (.cells #[.string ⟨#[]⟩, .string ⟨#[]⟩, .slice none 0 0] 46 (0, 0)) := by rw [Below.heap_setCell _ _ _ _ (by simp)]; exact z29
          clear own9
          generalize hN9 : D.length + 1 + (len - D.length) = N9 at *
          have eN9 := hid_in hN9
          clear hN9
          go_simp
          refine hK.out _ _ (NoPanic.normal ?_)
          clear hK K
          go_wp2_with (with_reducible show wpList _ _ _ (Oper.mk _ (Op.store _ (Operand.tmp 4) _) _ _ _ _ :: _) _ _; refine wpList_store_row rfl 46 _ _ rfl (w.heap.size + 2) #[.string bk, .string bn, .slice ao9 N9 c9] ?_ ?_ 46 _ z2s ?_ ?_ ?_ ?_)
          all_goals (first | rfl | kernel_rfl | exact ⟨rfl, rfl, rfl⟩ | (obtain ⟨i9, e9, _, s9, _⟩ := info_parts infoBlock; exact ⟨i9, e9, s9⟩) | skip)
          have z5 : (World.setRow (u9.setCell ⟨w.heap.size, 2, none⟩ (.slice ao9 N9 c9)) (w.heap.size + 2) #[.string bk, .string bn, .slice ao9 N9 c9]).heap[w.heap.size + 2]? = some (.cells #[.string bk, .string bn, .slice ao9 N9 c9] 46 (0, 0)) := setRow_heap _ _ _ _ _ _ z2s
          have G9' := G9.setCell (p := ⟨w.heap.size, 2, none⟩) (Nat.le_refl _) (.slice ao9 N9 c9)
          have b5 : Below w.heap.size w (World.setRow (u9.setCell ⟨w.heap.size, 2, none⟩ (.slice ao9 N9 c9)) (w.heap.size + 2) #[.string bk, .string bn, .slice ao9 N9 c9]) :=
            ⟨G9'.os, G9'.tape, G9'.output, by rw [setRow_size]; exact G9'.size, fun k hk => by rw [setRow_other _ _ _ _ (by omega)]; exact G9'.block k hk⟩
          have o5 := own_mono (own_setRow (own_setCell O9.out ⟨w.heap.size, 2, none⟩ (by simp; omega) (.slice ao9 N9 c9)) (w.heap.size + 2) (by omega) #[.string bk, .string bn, .slice ao9 N9 c9]) (show w.heap.size ≤ wk.heap.size by omega)
          have y0 := cell_of_block z5 0
          have y1 := cell_of_block z5 1
          have y2 := cell_of_block z5 2
          simp only [List.getElem?_toArray, List.getElem?_cons_zero, List.getElem?_cons_succ] at y0 y1 y2
          generalize World.setRow _ _ _ = W at b5 y0 y1 y2 z5 o5 ⊢
          have f1 : (D ++ (⟨xk, .slice xa nx xc, xw⟩ : LAt) :: T).map LAt.plain = putIn (lineLt (rulesOf bk)) ⟨xk, xw⟩ (bl.map LAt.plain) := by
            have h1 := putIn_split (lineLt (rulesOf bk)) ⟨xk, xw⟩ (D.map LAt.plain) (T.map LAt.plain) hlt.out hst.out
            rw [show (bl.map LAt.plain) = D.map LAt.plain ++ T.map LAt.plain from by rw [hDT.out]; simp]
            exact (show _ = _ from by simp [LAt.plain]).trans h1.symm
          have f2 : W.ownsRow w.heap.size 115 2 (.slice ao9 N9 c9) (D ++ (⟨xk, .slice xa nx xc, xw⟩ : LAt) :: T).length ((D ++ (⟨xk, .slice xa nx xc, xw⟩ : LAt) :: T).flatMap LAt.cells) := by
            have e1 : (D ++ (⟨xk, .slice xa nx xc, xw⟩ : LAt) :: T).length = N9 := by
              have h1 := en.out
              rw [hDT.out] at h1
              rw [← eN9.out]
              simp at h1 ⊢
              omega
            have e2 : (D ++ (⟨xk, .slice xa nx xc, xw⟩ : LAt) :: T).flatMap LAt.cells = [] ++ D.flatMap LAt.cells ++ [.string xk, .slice xa nx xc] ++ T.flatMap LAt.cells := by simp [LAt.cells]
            rw [e1, e2]
            exact o5
          exact bodyPost_ret (v := .agg #[.string bk, .string bn, .slice ao9 N9 c9]) (by simp [results, Tryz.results86, go_sem, y0, y1, y2]) rfl ⟨_, D, T, hDT.out, rfl, f1, f2, b5⟩
      · obtain ⟨y, T', rfl, hyl⟩ := hB.out.1 rfl
        have hDT' : Hid (bl = (D ++ [y]) ++ T') := by have := hDT.out; show bl = _; rw [this]; simp
        have hlt' : Hid (∀ z ∈ (D ++ [y]).map LAt.plain, lineLt (rulesOf bk) z ⟨xk, xw⟩ = true) := by
          show ∀ z ∈ _, _
          intro z hz
          rw [List.map_append, List.mem_append] at hz
          rcases hz with hz | hz
          · exact hlt.out z hz
          · simp only [List.map_cons, List.map_nil, List.mem_singleton] at hz
            rw [hz]; exact hyl
        have hDl2 : D.length < len := by have := en.out; rw [hDT.out] at this; simp at this; omega
        clear hB v0 v2 u0 u1 HBS HXI hDT hlt hyl z0 z1 z2
        go_wp2
        go_roundw
        case rel => exact ⟨D ++ [y], T', by simp, by simp; omega, hDT', hlt', BK⟩
        case measure => simp [intOf]; omega
end Go.Proofs.YtpdahhnjhggocaaGreatDoor
namespace Go.Proofs.YtpdahhnjhggocaaGreatDoor
open Go.RowKit
def PutBPost (bs : List BAt) (x : BAt) (w : World) (e : Ending) (w' : World) : Prop := ∃ v' D T, bs = D ++ T ∧ e = .returned (.agg #[v']) ∧ (D ++ x :: T).map BAt.plain = putIn blockLt x.plain (bs.map BAt.plain) ∧ w'.ownsRow w.heap.size 46 3 v' (D ++ x :: T).length ((D ++ x :: T).flatMap BAt.cells) ∧ Below w.heap.size w w'
set_option maxHeartbeats 8000000 in
set_option maxRecDepth 100000 in
theorem l3PutBlock_any {bv : Value} {bl : List BAt} {x : BAt} {w : World} (hb : HasRow w bv bl.length 3 (bl.flatMap BAt.cells)) (hbf : ∀ y ∈ bl, ∃ a n c, y.v = .slice a n c) (hs : bl.length ≤ 1048576) (hx : ∃ a n c, x.v = .slice a n c) : Calls Tryz.prog 54 #[.agg #[bv], .agg #[.string x.kind, .string x.name, x.v]] w fun e w' => PutBPost bl x w e w' := by
  obtain ⟨xk, xn, xv, xl⟩ := x
  simp only at *
  obtain ⟨la, lc, rfl⟩ := hb.form
  obtain ⟨xa, nx, xc, rfl⟩ := hx
  have b0 : Below w.heap.size w (((w.alloc (.cells #[.slice la bl.length lc] 25)).alloc (.cells #[.string xk, .string xn, .slice xa nx xc] 46)).alloc (.cells #[.slice none 0 0] 25)) := (((Below.refl _ _).alloc (Nat.le_refl _) _).alloc (by simp) _).alloc (by simp; omega) _
  obtain ⟨hsz, hy0, hy1, hy2⟩ := alloc3 (w := w) (o1 := .cells #[.slice la bl.length lc] 25) (o2 := .cells #[.string xk, .string xn, .slice xa nx xc] 46) (o3 := .cells #[.slice none 0 0] 25)
  have hbs := hid_in hb
  have hone := hid_in hbf
  have hl := hs
  clear hb hs hbf
  generalize hn : bl.length = len at *
  have en := hid_in hn
  clear hn
  generalize hW0 : ((w.alloc (.cells #[.slice la len lc] 25)).alloc (.cells #[.string xk, .string xn, .slice xa nx xc] 46)).alloc (.cells #[.slice none 0 0] 25) = W0 at *
  have eW0 := hid_in hW0
  have hszW := hid_in hsz
  clear hW0 hsz
  go_enter Tryz.func54, Tryz.ntmps54
  go_wp2
  go_loopw [5] (fun i wr => ∃ (D T : List BAt), i = .int .i64 (D.length : Int) ∧ D.length ≤ len ∧ Hid (bl = D ++ T) ∧ Hid (∀ y ∈ D.map BAt.plain, blockLt y ⟨xk, xn, xl.map LAt.plain⟩ = true) ∧ Below W0.heap.size W0 wr) (fun i _ => len - (intOf i).toNat)
  case atStart =>
    rw [eW0.out]
    exact ⟨[], bl, rfl, by simp, (rfl : bl = [] ++ bl), (by simp : ∀ y ∈ ([] : List BAt).map BAt.plain, _), Below.refl _ _⟩
  case round =>
    obtain ⟨D, T, rfl, hDl, hDT, hlt, bw⟩ := hrel
    have gw := b0.trans (bw.mono b0.size)
    have hs3 := hszW.out
    have z0 := (bw.block w.heap.size (by omega)).trans hy0
    have z1 := (bw.block (w.heap.size + 1) (by omega)).trans hy1
    have z2 := (bw.block (w.heap.size + 2) (by omega)).trans hy2
    have c2 := cell_of_block z0 0
    have d0 := cell_of_block z1 0
    have d1 := cell_of_block z1 1
    have d2 := cell_of_block z1 2
    simp only [List.getElem?_toArray, List.getElem?_cons_zero, List.getElem?_cons_succ] at c2 d0 d1 d2
    have hszw := bw.size
    have v2 := fun p : Gr wr => gr_cell c2 p
    have u0 := fun p : Gr wr => gr_cell d0 p
    have u1 := fun p : Gr wr => gr_cell d1 p
    have u2 := fun p : Gr wr => gr_cell d2 p
    have HBS := hid_in (hbs.out.below gw)
    clear c2 d0 d1 d2 hy0 hy1 hy2
    go_upto_region 2 with fail
    go_cut [19] from 6 to 19 (fun c wx => ∃ B : Bool, c = .bool B ∧ Hid ((B = true → ∃ y T', T = y :: T' ∧ blockLt y.plain ⟨xk, xn, xl.map LAt.plain⟩ = true) ∧ (B = false → ∀ y, (T.map BAt.plain).head? = some y → blockLt y ⟨xk, xn, xl.map LAt.plain⟩ = false)) ∧ Below wr.heap.size wr wx)
    case first =>
      cases T with
      | nil =>
        have hDlen : D.length = len := by rw [← en.out, hDT.out]; simp
        have hno : ¬ ((D.length : Int) < (len : Int)) := by omega
        clear hDlen
        clear HBS hDT hlt u0 u1 u2 z0 z1 z2 hbs hone
        refine wp_region_gr (by kernel_rfl) (by kernel_rfl) ?_
        iterate 6 quiet_step (fail)
        iterate 7 (with_reducible refine quiet_skip ?_ ?_; kernel_rfl; simp only [Act.put, List.setIfInBounds_toArray, List.set_cons_zero, List.set_cons_succ])
        quiet_step (fail)
        refine wpQuiet_nil ?_
        rintro _ ⟨⟨wq, bq⟩, rfl⟩
        go_wp2_with fail
        go_meet
        exact ⟨false, rfl, ⟨(fun h => by cases h), fun _ y hy => by cases hy⟩, bq⟩
      | cons y T =>
        have hDlen : D.length < len := by have := en.out; rw [hDT.out] at this; simp at this; omega
        have h5 := HBS.out
        rw [hDT.out] at h5
        obtain ⟨g, off, rfl, y1, y2, y3⟩ := h5.block
        have hym : y ∈ bl := by rw [hDT.out]; simp
        obtain ⟨ya, ny, yc, ey⟩ := hone.out y hym
        have w1 := fun p : Gr wr => gr_cell y1 p
        have w2 := fun p : Gr wr => gr_cell y2 p
        have w3 := fun p : Gr wr => gr_cell y3 p
        rw [ey] at w3
        have HLL : ∀ p : Gr wr, Calls Tryz.prog 59 #[.agg #[.string y.kind, .string y.name, .slice ya ny yc], .agg #[.string xk, .string xn, .slice xa nx xc]] p.u fun e w' => e = .returned (.bool (blockLt y.plain ⟨xk, xn, xl.map LAt.plain⟩)) ∧ Below p.u.heap.size p.u w' := fun p =>
          l3Ahead_any y.plain ⟨xk, xn, xl.map LAt.plain⟩ ny nx yc xc ya xa p.u
        have hyes : ((D.length : Int) < (len : Int)) := by omega
        have i1 : (0 : Int) ≤ (D.length : Int) := by omega
        have hres := hid_in (show ∀ B, blockLt y.plain ⟨xk, xn, xl.map LAt.plain⟩ = B → ((B = true → ∃ y' T', y :: T = y' :: T' ∧ blockLt y'.plain ⟨xk, xn, xl.map LAt.plain⟩ = true) ∧ (B = false → ∀ y', ((y :: T).map BAt.plain).head? = some y' → blockLt y' ⟨xk, xn, xl.map LAt.plain⟩ = false)) from fun B hB => ⟨fun h => ⟨y, T, rfl, by rw [hB, h]⟩, fun h y' hy' => by cases hy'; rw [hB, h]⟩)
        generalize hLT : blockLt y.plain ⟨xk, xn, xl.map LAt.plain⟩ = LT at HLL
        have eLT := hid_in hLT
        clear hLT HBS h5 ey hDT hlt z0 z1 z2 hbs hone y1 y2 y3 hym
        generalize y.kind = yk at *
        generalize y.name = yn at *
        refine wp_region_gr (by kernel_rfl) (by kernel_rfl) ?_
        iterate 12 quiet_step (fail)
        quiet_step ((go_at_call 59; refine gr_of (HLL _)))
        quiet_step (fail)
        refine wpQuiet_nil ?_
        rintro _ ⟨⟨wq, bq⟩, rfl⟩
        go_wp2_with fail
        go_meet
        exact ⟨LT, rfl, hres.out LT eLT.out, bq⟩
    case rest =>
      obtain ⟨wk, hwk⟩ : ∃ wk, wk = wc := ⟨_, rfl⟩
      subst hwk
      obtain ⟨B, rfl, hB, bk'⟩ := hcut
      have BK := bw.trans (bk'.mono bw.size)
      cases B
      · have hst := hid_in (hB.out.2 rfl)
        have z0k := (bk'.block w.heap.size (by omega)).trans z0
        have z1k := (bk'.block (w.heap.size + 1) (by omega)).trans z1
        have z2k := (bk'.block (w.heap.size + 2) (by omega)).trans z2
        have gk := gw.trans (bk'.mono gw.size)
        have c2 := cell_of_block z0k 0
        have d0 := cell_of_block z1k 0
        have d1 := cell_of_block z1k 1
        have d2 := cell_of_block z1k 2
        simp only [List.getElem?_toArray, List.getElem?_cons_zero, List.getElem?_cons_succ] at c2 d0 d1 d2
        have hbl := hid_in (hbs.out.below gk)
        have q1 : (0 : Int) ≤ (D.length : Int) := by omega
        have q2 : (D.length : Int) ≤ (len : Int) := by omega
        have hcap : len ≤ lc := by exact hbs.out.cap.1
        have q3 : (len : Int) ≤ (lc : Int) := by omega
        have q4 : (D.length : Int) ≤ (lc : Int) := by omega
        have hS0 : wk.drew.cell? ⟨w.heap.size, 0, none⟩ = some (.slice la len lc) ∧ wk.drew.cell? ⟨w.heap.size + 1, 0, none⟩ = some (.string xk) ∧ wk.drew.cell? ⟨w.heap.size + 1, 1, none⟩ = some (.string xn) ∧ wk.drew.cell? ⟨w.heap.size + 1, 2, none⟩ = some (.slice xa nx xc) := ⟨c2, d0, d1, d2⟩
        have s2 := fun p : { W : World // W.cell? ⟨w.heap.size, 0, none⟩ = some (.slice la len lc) ∧ W.cell? ⟨w.heap.size + 1, 0, none⟩ = some (.string xk) ∧ W.cell? ⟨w.heap.size + 1, 1, none⟩ = some (.string xn) ∧ W.cell? ⟨w.heap.size + 1, 2, none⟩ = some (.slice xa nx xc) } => p.2.1
        have s0 := fun p : { W : World // W.cell? ⟨w.heap.size, 0, none⟩ = some (.slice la len lc) ∧ W.cell? ⟨w.heap.size + 1, 0, none⟩ = some (.string xk) ∧ W.cell? ⟨w.heap.size + 1, 1, none⟩ = some (.string xn) ∧ W.cell? ⟨w.heap.size + 1, 2, none⟩ = some (.slice xa nx xc) } => p.2.2.1
        have s1 := fun p : { W : World // W.cell? ⟨w.heap.size, 0, none⟩ = some (.slice la len lc) ∧ W.cell? ⟨w.heap.size + 1, 0, none⟩ = some (.string xk) ∧ W.cell? ⟨w.heap.size + 1, 1, none⟩ = some (.string xn) ∧ W.cell? ⟨w.heap.size + 1, 2, none⟩ = some (.slice xa nx xc) } => p.2.2.2.1
        have s3 := fun p : { W : World // W.cell? ⟨w.heap.size, 0, none⟩ = some (.slice la len lc) ∧ W.cell? ⟨w.heap.size + 1, 0, none⟩ = some (.string xk) ∧ W.cell? ⟨w.heap.size + 1, 1, none⟩ = some (.string xn) ∧ W.cell? ⟨w.heap.size + 1, 2, none⟩ = some (.slice xa nx xc) } => p.2.2.2.2
        clear hB v2 u0 u1 u2 HBS
        go_upto_region 4 with fail
        letI : Inhabited { W : World // W.cell? ⟨w.heap.size, 0, none⟩ = some (.slice la len lc) ∧ W.cell? ⟨w.heap.size + 1, 0, none⟩ = some (.string xk) ∧ W.cell? ⟨w.heap.size + 1, 1, none⟩ = some (.string xn) ∧ W.cell? ⟨w.heap.size + 1, 2, none⟩ = some (.slice xa nx xc) } := ⟨⟨wk.drew, hS0⟩⟩
        refine wp_region_hold (S := fun W => W.cell? ⟨w.heap.size, 0, none⟩ = some (.slice la len lc) ∧ W.cell? ⟨w.heap.size + 1, 0, none⟩ = some (.string xk) ∧ W.cell? ⟨w.heap.size + 1, 1, none⟩ = some (.string xn) ∧ W.cell? ⟨w.heap.size + 1, 2, none⟩ = some (.slice xa nx xc)) 15 16 (by kernel_rfl) rfl ?_
        refine wpHold_mask [false, true, true, true, true, false, true, false, false, true, true, true, true, false, false, false] 7 rfl (by kernel_rfl) hS0 ?_
        simp only [maskL_t, maskL_f, maskL_n]
        iterate 9 (refine wpReads_step (fun K hK => ?_); go_simp; refine hK _ ?_; clear hK K)
        refine wpReads_nil ?_
        have hKS := hid_in (show ∀ u, Below wk.heap.size wk u → u.cell? ⟨w.heap.size, 0, none⟩ = some (.slice la len lc) ∧ u.cell? ⟨w.heap.size + 1, 0, none⟩ = some (.string xk) ∧ u.cell? ⟨w.heap.size + 1, 1, none⟩ = some (.string xn) ∧ u.cell? ⟨w.heap.size + 1, 2, none⟩ = some (.slice xa nx xc) from fun u hu => ⟨(hu.cell (World.block_lt_of_cell? wk _ c2)).trans c2, (hu.cell (World.block_lt_of_cell? wk _ d0)).trans d0, (hu.cell (World.block_lt_of_cell? wk _ d1)).trans d1, (hu.cell (World.block_lt_of_cell? wk _ d2)).trans d2⟩)
        have hDrow := hid_in (show HasRow wk (.slice la D.length lc) D.length 3 (D.flatMap BAt.cells) from by
          have h1 := hbl.out
          have h2 := h1.take D.length hDl
          rw [hDT.out, List.flatMap_append, ← rowF_len BAt.cells 3 BAt.len D, List.take_left] at h2
          exact h2)
        have hTrow := hid_in (show HasRow wk (.slice (if lc = D.length then la else la.map (fun a => a.add (D.length * 3))) (len - D.length) (lc - D.length)) (len - D.length) 3 (T.flatMap BAt.cells) from by
          have h1 := hbl.out
          have h2 := h1.drop D.length hDl
          rw [hDT.out, List.flatMap_append, ← rowF_len BAt.cells 3 BAt.len D, List.drop_left, rowF_len BAt.cells 3 BAt.len D] at h2
          exact h2)
        have hD1 := hid_in (bcells_one (bs := D) (fun y hy => hone.out y (by rw [hDT.out]; simp [hy])))
        have hT1 := hid_in (bcells_one (bs := T) (fun y hy => hone.out y (by rw [hDT.out]; simp [hy])))
        obtain ⟨i0, hi, hi0, hi1, hi2⟩ := info_parts infoBlock
        generalize (if lc = D.length then la else la.map (fun a => a.add (D.length * 3))) = laT at hTrow ⊢
        refine wpHold_branch (f := 6) (rs := [0, 7]) (by kernel_rfl) (by simp) ?_
        refine AllHold.cons rfl (by decide) (fun K hK => ?wayA) (AllHold.cons rfl (by decide) (fun K hK => ?wayB) AllHold.nil)
        case' wayA =>
          go_simp
          have bA : Below wk.heap.size wk (wk.alloc (.cells #[] 46)).drew := ((Below.refl wk.heap.size wk).alloc (Nat.le_refl _) (.cells #[] 46)).drew
          have oA : (wk.alloc (.cells #[] 46)).drew.ownsRow wk.heap.size 46 3 (.slice (some ⟨wk.heap.size, 0, none⟩) 0 0) 0 [] := World.ownsRow_lit (base := wk.heap.size) (e := 46) (size := 3) wk #[] 0 (Nat.le_refl _) (by decide) rfl
          refine hK.out _ _ (hKS.out _ bA) ?_
          clear hK K
          refine wpHold_branch (f := 5) (rs := [5, 7]) (by kernel_rfl) (by simp) ?_
          refine AllHold.cons rfl (by decide) (fun K hK => ?wayA1) (AllHold.cons rfl (by decide) (fun K hK => ?wayA2) AllHold.nil)
        case' wayA1 =>
          refine step_append_has rfl _ _ 23 rfl wk.heap.size 46 i0 _ 3 56 Tryz.underlying23 hi hi0 hi1 hi2 rfl (by decide) _ 0 _ rfl oA _ D.length _ rfl (hDrow.out.below bA) hD1.out (by unfold maxLen; omega) (by omega) bA.size ?_
          intro ao5 c5 u5 own5 hg5 _
          simp only [Nat.zero_add] at own5 ⊢
          have b5 := bA.grown hg5 bA.size (fun q hq => by cases hq; exact Nat.le_refl _)
          refine hK.out _ _ (hKS.out _ b5) ?_
          clear hK K
          refine wpHold_branch (f := 4) (rs := [7]) (by kernel_rfl) (by simp) ?_
          refine AllHold.cons rfl (by decide) (fun K hK => ?_) AllHold.nil
          go_simp
          have bU := b5.alloc b5.size (.cells #[.string xk, .string xn, .slice xa nx xc] 46)
          have own7 := own5.alloc (.cells #[.string xk, .string xn, .slice xa nx xc] 46)
          have has7 := lit_has u5 #[.string xk, .string xn, .slice xa nx xc] 46 3 rfl
          refine hK.out _ _ (hKS.out _ bU) ?_
          clear hK K
          generalize u5.alloc (.cells #[.string xk, .string xn, .slice xa nx xc] 46) = U at bU own7 has7 ⊢
          clear own5 hg5 b5 oA bA
        case' wayA2 =>
          go_simp
          have b7 : Below wk.heap.size wk ((wk.alloc (.cells #[] 46)).alloc (.cells #[.string xk, .string xn, .slice xa nx xc] 46)).drew := (((Below.refl wk.heap.size wk).alloc (Nat.le_refl _) (.cells #[] 46)).alloc (by simp) _).drew
          have o7 : ((wk.alloc (.cells #[] 46)).alloc (.cells #[.string xk, .string xn, .slice xa nx xc] 46)).drew.ownsRow wk.heap.size 46 3 (.slice (some ⟨wk.heap.size, 0, none⟩) 0 0) 0 [] := oA.alloc (.cells #[.string xk, .string xn, .slice xa nx xc] 46)
          have h7 : HasRow ((wk.alloc (.cells #[] 46)).alloc (.cells #[.string xk, .string xn, .slice xa nx xc] 46)).drew (.slice (some ⟨wk.heap.size + 1, 0, none⟩) 1 1) 1 3 [.string xk, .string xn, .slice xa nx xc] := by
            have := lit_has (wk.alloc (.cells #[] 46)) #[.string xk, .string xn, .slice xa nx xc] 46 3 rfl
            rw [World.size_alloc] at this
            exact this
          refine hK.out _ _ (hKS.out _ b7) ?_
          clear hK K
          refine wpHold_branch (f := 4) (rs := [5]) (by kernel_rfl) (by simp) ?_
          refine AllHold.cons rfl (by decide) (fun K hK => ?_) AllHold.nil
          refine step_append_has rfl _ _ 23 rfl wk.heap.size 46 i0 _ 3 56 Tryz.underlying23 hi hi0 hi1 hi2 rfl (by decide) _ 0 _ rfl o7 _ D.length _ rfl (hDrow.out.below b7) hD1.out (by unfold maxLen; omega) (by omega) b7.size ?_
          intro ao5 c5 U own7 hg5 _
          simp only [Nat.zero_add] at own7 ⊢
          have bU := b7.grown hg5 b7.size (fun q hq => by cases hq; exact Nat.le_refl _)
          have has7 := h7.far (.inr (fun b off m c e => by cases e; show wk.heap.size + 1 ≠ wk.heap.size; omega)) hg5
          refine hK.out _ _ (hKS.out _ bU) ?_
          clear hK K o7 h7 hg5 b7 oA bA
        case' wayB =>
          go_simp
          have bB : Below wk.heap.size wk (wk.alloc (.cells #[.string xk, .string xn, .slice xa nx xc] 46)).drew := ((Below.refl wk.heap.size wk).alloc (Nat.le_refl _) _).drew
          refine hK.out _ _ (hKS.out _ bB) ?_
          clear hK K
          refine wpHold_branch (f := 5) (rs := [0]) (by kernel_rfl) (by simp) ?_
          refine AllHold.cons rfl (by decide) (fun K hK => ?_) AllHold.nil
          go_simp
          have b7 : Below wk.heap.size wk ((wk.alloc (.cells #[.string xk, .string xn, .slice xa nx xc] 46)).alloc (.cells #[] 46)).drew := (((Below.refl wk.heap.size wk).alloc (Nat.le_refl _) _).alloc (by simp) _).drew
          have o7 : ((wk.alloc (.cells #[.string xk, .string xn, .slice xa nx xc] 46)).alloc (.cells #[] 46)).drew.ownsRow wk.heap.size 46 3 (.slice (some ⟨wk.heap.size + 1, 0, none⟩) 0 0) 0 [] := by
            have := World.ownsRow_lit (base := wk.heap.size) (e := 46) (size := 3) (wk.alloc (.cells #[.string xk, .string xn, .slice xa nx xc] 46)) #[] 0 (by simp) (by decide) rfl
            rw [World.size_alloc] at this
            exact this
          have h7 : HasRow ((wk.alloc (.cells #[.string xk, .string xn, .slice xa nx xc] 46)).alloc (.cells #[] 46)).drew (.slice (some ⟨wk.heap.size, 0, none⟩) 1 1) 1 3 [.string xk, .string xn, .slice xa nx xc] := (lit_has wk #[.string xk, .string xn, .slice xa nx xc] 46 3 rfl).below ((Below.refl _ _).alloc (Nat.le_refl _) _).drew
          refine hK.out _ _ (hKS.out _ b7) ?_
          clear hK K
          refine wpHold_branch (f := 4) (rs := [5]) (by kernel_rfl) (by simp) ?_
          refine AllHold.cons rfl (by decide) (fun K hK => ?_) AllHold.nil
          refine step_append_has rfl _ _ 23 rfl wk.heap.size 46 i0 _ 3 56 Tryz.underlying23 hi hi0 hi1 hi2 rfl (by decide) _ 0 _ rfl o7 _ D.length _ rfl (hDrow.out.below b7) hD1.out (by unfold maxLen; omega) (by omega) b7.size ?_
          intro ao5 c5 U own7 hg5 _
          simp only [Nat.zero_add] at own7 ⊢
          have bU := b7.grown hg5 b7.size (fun q hq => by cases hq; show wk.heap.size ≤ wk.heap.size + 1; omega)
          have has7 := h7.far (.inr (fun b off m c e => by cases e; show wk.heap.size ≠ wk.heap.size + 1; omega)) hg5
          refine hK.out _ _ (hKS.out _ bU) ?_
          clear hK K o7 h7 hg5 b7 bB
        all_goals
          refine wpHold_branch (f := 3) (rs := [8]) (by kernel_rfl) (by simp) ?_
          refine AllHold.cons rfl (by decide) (fun K hK => ?_) AllHold.nil
          have hbase5 : ∀ q, (Value.slice ao5 (D.length) c5).ownBlock = some q → wk.heap.size ≤ q := fun q hq => (own7.lt q hq).1
          refine step_append_has rfl _ _ 23 rfl wk.heap.size 46 i0 _ 3 56 Tryz.underlying23 hi hi0 hi1 hi2 rfl (by decide) _ (D.length) _ rfl own7 _ 1 _ rfl has7 (by intro z hz; simp at hz; rcases hz with rfl | rfl | rfl <;> rfl) (by unfold maxLen; omega) (by omega) bU.size ?_
          intro ao8 c8 u8 own8 hg8 _
          have b8 := bU.grown hg8 bU.size hbase5
          refine hK.out _ _ (hKS.out _ b8) ?_
          clear hK K
          refine wpHold_branch (f := 2) (rs := [13]) (by kernel_rfl) (by simp) ?_
          refine AllHold.cons rfl (by decide) (fun K hK => ?_) AllHold.nil
          have hbase8 : ∀ q, (Value.slice ao8 (D.length + 1) c8).ownBlock = some q → wk.heap.size ≤ q := fun q hq => (own8.lt q hq).1
          refine step_append_has rfl _ _ 23 rfl wk.heap.size 46 i0 _ 3 56 Tryz.underlying23 hi hi0 hi1 hi2 rfl (by decide) _ (D.length + 1) _ rfl own8 _ (len - D.length) _ rfl (hTrow.out.below b8) hT1.out (by unfold maxLen; omega) (by omega) b8.size ?_
          intro ao9 c9 u9 own9 hg9 _
          have b9 := b8.grown hg9 b8.size hbase8
          refine hK.out _ _ (hKS.out _ b9) ?_
          clear hK K own7 has7 own8 hg8 hg9 hbase5 hbase8 b8 bU
          refine wpHold_branch (f := 1) (rs := [14]) (by kernel_rfl) (by simp) ?_
          refine AllHold.cons rfl (by decide) (fun K hK => ?_) AllHold.nil
          go_simp
          refine hK.out _ _ (hKS.out _ b9) ?_
          clear hK K
          have z09 := (b9.block w.heap.size (by have := bk'.size; omega)).trans z0k
          have z29 := (b9.block (w.heap.size + 2) (by have := bk'.size; omega)).trans z2k
          have m0 := cell_of_block z09 0
          have fr2 := frozen_of_block z09 0
          simp only [List.getElem?_toArray, List.getElem?_cons_zero] at m0
          refine wpHold_last (by kernel_rfl) rfl (by kernel_rfl) ?_
          intro K hK
          have hkz : w.heap.size + 3 ≤ wk.heap.size := by have := bk'.size; omega
          have G9 := gk.trans (b9.mono (by omega))
          have O9 := hid_in own9
          have z2s : (u9.setCell ⟨w.heap.size, 0, none⟩ (.slice ao9 (D.length + 1 + (len - D.length)) c9)).heap[w.heap.size + 2]? = some (.cells #[.slice none 0 0] 25 (0, 0)) := by rw [Below.heap_setCell _ _ _ _ (by simp)]; exact z29
          clear own9
          generalize hN9 : D.length + 1 + (len - D.length) = N9 at *
          have eN9 := hid_in hN9
          clear hN9
          go_simp
          refine hK.out _ _ (NoPanic.normal ?_)
          clear hK K
          go_wp2_with (with_reducible show wpList _ _ _ (Oper.mk _ (Op.store _ (Operand.tmp 4) _) _ _ _ _ :: _) _ _; refine wpList_store_row rfl 25 _ _ rfl (w.heap.size + 2) #[.slice ao9 N9 c9] ?_ ?_ 25 _ z2s ?_ ?_ ?_ ?_)
          all_goals (first | rfl | kernel_rfl | exact sheet_size | skip)
          have z5 : (World.setRow (u9.setCell ⟨w.heap.size, 0, none⟩ (.slice ao9 N9 c9)) (w.heap.size + 2) #[.slice ao9 N9 c9]).heap[w.heap.size + 2]? = some (.cells #[.slice ao9 N9 c9] 25 (0, 0)) := setRow_heap _ _ _ _ _ _ z2s
          have G9' := G9.setCell (p := ⟨w.heap.size, 0, none⟩) (Nat.le_refl _) (.slice ao9 N9 c9)
          have b5 : Below w.heap.size w (World.setRow (u9.setCell ⟨w.heap.size, 0, none⟩ (.slice ao9 N9 c9)) (w.heap.size + 2) #[.slice ao9 N9 c9]) :=
            ⟨G9'.os, G9'.tape, G9'.output, by rw [setRow_size]; exact G9'.size, fun k hk => by rw [setRow_other _ _ _ _ (by omega)]; exact G9'.block k hk⟩
          have o5 := own_mono (own_setRow (own_setCell O9.out ⟨w.heap.size, 0, none⟩ (by simp; omega) (.slice ao9 N9 c9)) (w.heap.size + 2) (by omega) #[.slice ao9 N9 c9]) (show w.heap.size ≤ wk.heap.size by omega)
          have y0 := cell_of_block z5 0
          simp only [List.getElem?_toArray, List.getElem?_cons_zero] at y0
          generalize World.setRow _ _ _ = W at b5 y0 z5 o5 ⊢
          have f1 : (D ++ (⟨xk, xn, .slice xa nx xc, xl⟩ : BAt) :: T).map BAt.plain = putIn blockLt ⟨xk, xn, xl.map LAt.plain⟩ (bl.map BAt.plain) := by
            have h1 := putIn_split blockLt ⟨xk, xn, xl.map LAt.plain⟩ (D.map BAt.plain) (T.map BAt.plain) hlt.out hst.out
            rw [show (bl.map BAt.plain) = D.map BAt.plain ++ T.map BAt.plain from by rw [hDT.out]; simp]
            exact (show _ = _ from by simp [BAt.plain]).trans h1.symm
          have f2 : W.ownsRow w.heap.size 46 3 (.slice ao9 N9 c9) (D ++ (⟨xk, xn, .slice xa nx xc, xl⟩ : BAt) :: T).length ((D ++ (⟨xk, xn, .slice xa nx xc, xl⟩ : BAt) :: T).flatMap BAt.cells) := by
            have e1 : (D ++ (⟨xk, xn, .slice xa nx xc, xl⟩ : BAt) :: T).length = N9 := by
              have h1 := en.out
              rw [hDT.out] at h1
              rw [← eN9.out]
              simp at h1 ⊢
              omega
            have e2 : (D ++ (⟨xk, xn, .slice xa nx xc, xl⟩ : BAt) :: T).flatMap BAt.cells = [] ++ D.flatMap BAt.cells ++ [.string xk, .string xn, .slice xa nx xc] ++ T.flatMap BAt.cells := by simp [BAt.cells]
            rw [e1, e2]
            exact o5
          exact bodyPost_ret (v := .agg #[.slice ao9 N9 c9]) (by simp [results, Tryz.results54, go_sem, y0]) rfl ⟨_, D, T, hDT.out, rfl, f1, f2, b5⟩
      · obtain ⟨y, T', rfl, hyl⟩ := hB.out.1 rfl
        have hDT' : Hid (bl = (D ++ [y]) ++ T') := by have := hDT.out; show bl = _; rw [this]; simp
        have hlt' : Hid (∀ z ∈ (D ++ [y]).map BAt.plain, blockLt z ⟨xk, xn, xl.map LAt.plain⟩ = true) := by
          show ∀ z ∈ _, _
          intro z hz
          rw [List.map_append, List.mem_append] at hz
          rcases hz with hz | hz
          · exact hlt.out z hz
          · simp only [List.map_cons, List.map_nil, List.mem_singleton] at hz
            rw [hz]; exact hyl
        have hDl2 : D.length < len := by have := en.out; rw [hDT.out] at this; simp at this; omega
        clear hB v2 u0 u1 u2 HBS hDT hlt hyl z0 z1 z2
        go_wp2
        go_roundw
        case rel => exact ⟨D ++ [y], T', by simp, by simp; omega, hDT', hlt', BK⟩
        case measure => simp [intOf]; omega
end Go.Proofs.YtpdahhnjhggocaaGreatDoor
namespace Go.Proofs.YtpdahhnjhggocaaGreatDoor
open Go.RowKit
theorem belowGrown {B p : Nat} {a w w' : World} (h : Below B a w) (hB : B ≤ w.heap.size) (hp : B ≤ p) (g : w.grownBy w' (some p)) : Below B a w' :=
  h.grown g hB (fun k hk => by simp at hk; omega)
theorem grown_setRow (W : World) (R : Nat) (cs : Array Value) : W.grownBy (W.setRow R cs) (some R) := ⟨rfl, rfl, rfl, by rw [setRow_size]; exact Nat.le_refl _, fun i _ hi => setRow_other _ _ _ _ (fun e => hi (by rw [e]))⟩
def PutAll (R : List Plain) (b : BAt) (x : LAt) (w : World) (e : Ending) (w' : World) : Prop := ∃ a n c ls', e = .returned (.agg #[.string b.kind, .string b.name, .slice a n c]) ∧ (ls'.map LAt.plain = putIn (lineLt R) x.plain (b.ls.map LAt.plain) ∧ ls'.length = b.ls.length + 1 ∧ (∀ y ∈ ls', y = x ∨ y ∈ b.ls) ∧ LinesIn w' (.slice a n c) ls' ∧ ∀ q, q < w.heap.size → LinesFar q b.v b.ls → FarV q x.v x.ws.length → LinesFar q (.slice a n c) ls') ∧ Below w.heap.size w w'
theorem l3PutLine_all {b : BAt} {x : LAt} {w : World} (hb : BlockIn w b) (hs : LinesSmall b.ls) (hx : LineIn w x) (hxs : x.ws.length ≤ 1048576) : Calls Tryz.prog 86 #[.agg #[.string b.kind, .string b.name, b.v], .agg #[.string x.key, x.v]] w fun e w' => PutAll (rulesOf b.kind) b x w e w' := by
  refine (l3PutLine_any hb hs hx hxs).mono ?_
  rintro e w' ⟨v', D, T, hDT, rfl, hp, ho, bb⟩
  obtain ⟨a, c, rfl, _⟩ := own_form ho
  have hm : ∀ y ∈ D ++ x :: T, y = x ∨ y ∈ b.ls := by
    intro y hy
    rw [hDT]
    simp only [List.mem_append, List.mem_cons] at hy ⊢
    rcases hy with hy | rfl | hy
    · exact .inr (.inl hy)
    · exact .inl rfl
    · exact .inr (.inr hy)
  refine ⟨a, _, c, D ++ x :: T, rfl, ⟨hp, by rw [hDT]; simp; omega, hm, ⟨own_has ho, fun y hy => ?_⟩, fun q hq hf hxf => ⟨FarV.above ho hq, fun y hy => ?_⟩⟩, bb⟩
  · rcases hm y hy with rfl | hy
    · exact hx.below bb
    · exact (hb.2 y hy).below bb
  · rcases hm y hy with rfl | hy
    · exact hxf
    · exact hf.2 y hy
def BlocksFar (q : Nat) (v : Value) (bs : List BAt) : Prop := FarV q v bs.length ∧ ∀ x ∈ bs, LinesFar q x.v x.ls
theorem BlocksIn.far {w w' : World} {q : Nat} {v : Value} {bs : List BAt} (h : BlocksIn w v bs) (hf : BlocksFar q v bs) (hg : w.grownBy w' (some q)) : BlocksIn w' v bs := ⟨h.1.far hf.1 hg, fun x hx => LinesIn.far (h.2 x hx) (hf.2 x hx) hg⟩
theorem BlocksOwn.far {B q : Nat} {w : World} {v : Value} {bs : List BAt} (h : BlocksOwn B w v bs) (hq : q < B) : BlocksFar q v bs :=
  ⟨FarV.above h.row hq, fun x hx => ⟨FarV.above (h.lines x hx).row hq, fun y hy => FarV.above ((h.lines x hx).words y hy) hq⟩⟩
def PutBAll (v : Value) (bs : List BAt) (x : BAt) (w : World) (e : Ending) (w' : World) : Prop := ∃ a n c bs', e = .returned (.agg #[.slice a n c]) ∧ (bs'.map BAt.plain = putIn blockLt x.plain (bs.map BAt.plain) ∧ bs'.length = bs.length + 1 ∧ (∀ y ∈ bs', y = x ∨ y ∈ bs) ∧ BlocksIn w' (.slice a n c) bs' ∧ ∀ q, q < w.heap.size → BlocksFar q v bs → LinesFar q x.v x.ls → BlocksFar q (.slice a n c) bs') ∧ Below w.heap.size w w'
theorem l3PutBlock_all {v : Value} {bs : List BAt} {x : BAt} {w : World} (hb : BlocksIn w v bs) (hl : bs.length ≤ 1048576) (hx : BlockIn w x) : Calls Tryz.prog 54 #[.agg #[v], .agg #[.string x.kind, .string x.name, x.v]] w fun e w' => PutBAll v bs x w e w' := by
  refine (l3PutBlock_any hb.1 (fun y hy => by obtain ⟨a, c, e⟩ := (hb.2 y hy).1.form; exact ⟨a, _, c, e⟩) hl (by obtain ⟨a, c, e⟩ := hx.1.form; exact ⟨a, _, c, e⟩)).mono ?_
  rintro e w' ⟨v', D, T, hDT, rfl, hp, ho, bb⟩
  obtain ⟨a, c, rfl, _⟩ := own_form ho
  have hm : ∀ y ∈ D ++ x :: T, y = x ∨ y ∈ bs := by
    intro y hy
    rw [hDT]
    simp only [List.mem_append, List.mem_cons] at hy ⊢
    rcases hy with hy | rfl | hy
    · exact .inr (.inl hy)
    · exact .inl rfl
    · exact .inr (.inr hy)
  refine ⟨a, _, c, D ++ x :: T, rfl, ⟨hp, by rw [hDT]; simp; omega, hm, ⟨own_has ho, fun y hy => ?_⟩, fun q hq hf hxf => ⟨FarV.above ho hq, fun y hy => ?_⟩⟩, bb⟩
  · rcases hm y hy with rfl | hy
    · exact LinesIn.below hx bb
    · exact LinesIn.below (hb.2 y hy) bb
  · rcases hm y hy with rfl | hy
    · exact hxf
    · exact hf.2 y hy
theorem LinesIn.fresh {w : World} {q : Nat} {v : Value} {ls : List LAt} (h : LinesIn w v ls) (hq : w.heap.size ≤ q) : LinesFar q v ls := ⟨FarV.of_lt h.1 (by decide) hq, fun y hy => FarV.of_lt (h.2 y hy) (by decide) hq⟩
end Go.Proofs.YtpdahhnjhggocaaGreatDoor
namespace Go.Proofs.YtpdahhnjhggocaaGreatDoor
open Go.RowKit
theorem grown_setCell' (W : World) (g j : Nat) (u : Value) : W.grownBy (W.setCell ⟨g, j, none⟩ u) (some g) := ⟨rfl, rfl, rfl, by simp, fun i _ hi => heap_setCell_other W ⟨g, j, none⟩ i _ (fun e => hi (by simp [e]))⟩
theorem box_turn {W : World} {X : Nat} {k n k' n' : ByteArray} {v v' : Value} (h : W.heap[X]? = some (.cells #[.string k, .string n, v] 46 (0, 0))) : (((W.setCell ⟨X, 0, none⟩ (.string k')).setCell ⟨X, 1, none⟩ (.string n')).setCell ⟨X, 2, none⟩ v').heap[X]? = some (.cells #[.string k', .string n', v'] 46 (0, 0)) ∧ W.grownBy (((W.setCell ⟨X, 0, none⟩ (.string k')).setCell ⟨X, 1, none⟩ (.string n')).setCell ⟨X, 2, none⟩ v') (some X) := by
  have z1 : (W.setCell ⟨X, 0, none⟩ (.string k')).heap[X]? = some (.cells #[.string k', .string n, v] 46 (0, 0)) := by rw [heap_setCell_same W X 0 _ _ _ h]; rfl
  have z2 : ((W.setCell ⟨X, 0, none⟩ (.string k')).setCell ⟨X, 1, none⟩ (.string n')).heap[X]? = some (.cells #[.string k', .string n', v] 46 (0, 0)) := by rw [heap_setCell_same _ X 1 _ _ _ z1]; rfl
  refine ⟨?_, grown_trans (grown_setCell' W X 0 _) (grown_trans (grown_setCell' _ X 1 _) (grown_setCell' _ X 2 _))⟩
  rw [heap_setCell_same _ X 2 _ _ _ z2]; rfl
def OvF (_X O i b0 off n c : Nat) (kind name key : ByteArray) (bv xv : Value) (J : Value → World → Prop) (j : Nat) (x : Value) (W : World) : Prop := match j with
  | 0 => x = .agg #[.string kind, .string name, bv]
  | 1 => x = .pointer (some ⟨O, 2, none⟩)
  | 2 => x = .slice (some ⟨b0, off, none⟩) n c
  | 3 => x = .int .i64 (i : Int)
  | 4 => x = .pointer (some ⟨b0, off + i * 2, none⟩)
  | 5 => x = .agg #[.string key, xv]
  | 6 => ∃ a m cc, x = .agg #[.string kind, .string name, .slice a m cc] ∧ J (.slice a m cc) W
  | _ => True
def opv5_0 : Oper := { dst := some 20, op := Op.load 46 (Operand.tmp 5), type := 46, pos := "l6_over.go:9", after := #[], guard := none }
def opv5_1 : Oper := { dst := some 21, op := Op.fieldAddr 46 (Operand.tmp 3) 2, type := 0, pos := "l6_over.go:9", after := #[], guard := none }
def opv5_2 : Oper := { dst := some 22, op := Op.load 44 (Operand.tmp 21), type := 44, pos := "l6_over.go:9", after := #[{ on := 1, ground := Ground.data }], guard := none }
def opv5_3 : Oper := { dst := some 23, op := Op.move (Operand.tmp 6), type := 3, pos := "l6_over.go:9", after := #[], guard := none }
def opv5_4 : Oper := { dst := some 24, op := Op.indexAddr 44 (Operand.tmp 22) (Operand.tmp 23), type := 0, pos := "l6_over.go:9", after := #[{ on := 2, ground := Ground.data }, { on := 3, ground := Ground.data }], guard := none }
def opv5_5 : Oper := { dst := some 25, op := Op.load 115 (Operand.tmp 24), type := 115, pos := "l6_over.go:9", after := #[{ on := 4, ground := Ground.data }], guard := none }
def opv5_6 : Oper := { dst := some 26, op := Op.call { callee := Callee.value (Operand.func 86), args := #[Operand.tmp 20, Operand.tmp 25], argTypes := #[46, 115] }, type := 46, pos := "l6_over.go:9", after := #[{ on := 0, ground := Ground.data }, { on := 5, ground := Ground.data }], guard := none }
def opv5_7 : Oper := { dst := none, op := Op.store 46 (Operand.tmp 5) (Operand.tmp 26), type := 0, pos := "l6_over.go:9", after := #[{ on := 6, ground := Ground.data }, { on := 6, ground := Ground.chain }, { on := 0, ground := Ground.phase }, { on := 1, ground := Ground.phase }, { on := 2, ground := Ground.phase }, { on := 3, ground := Ground.phase }, { on := 4, ground := Ground.phase }, { on := 5, ground := Ground.phase }, { on := 6, ground := Ground.phase }], guard := none }
def opsv5 : List Oper := [opv5_0, opv5_1, opv5_2, opv5_3, opv5_4, opv5_5, opv5_6, opv5_7]
def opv10_0 : Oper := { dst := some 44, op := Op.load 46 (Operand.tmp 5), type := 46, pos := "l6_over.go:13", after := #[], guard := none }
def opv10_1 : Oper := { dst := some 45, op := Op.fieldAddr 46 (Operand.tmp 2) 2, type := 0, pos := "l6_over.go:13", after := #[], guard := none }
def opv10_2 : Oper := { dst := some 46, op := Op.load 44 (Operand.tmp 45), type := 44, pos := "l6_over.go:13", after := #[{ on := 1, ground := Ground.data }], guard := none }
def opv10_3 : Oper := { dst := some 47, op := Op.move (Operand.tmp 7), type := 3, pos := "l6_over.go:13", after := #[], guard := none }
def opv10_4 : Oper := { dst := some 48, op := Op.indexAddr 44 (Operand.tmp 46) (Operand.tmp 47), type := 0, pos := "l6_over.go:13", after := #[{ on := 2, ground := Ground.data }, { on := 3, ground := Ground.data }], guard := none }
def opv10_5 : Oper := { dst := some 49, op := Op.load 115 (Operand.tmp 48), type := 115, pos := "l6_over.go:13", after := #[{ on := 4, ground := Ground.data }], guard := none }
def opv10_6 : Oper := { dst := some 50, op := Op.call { callee := Callee.value (Operand.func 86), args := #[Operand.tmp 44, Operand.tmp 49], argTypes := #[46, 115] }, type := 46, pos := "l6_over.go:13", after := #[{ on := 0, ground := Ground.data }, { on := 5, ground := Ground.data }], guard := none }
def opv10_7 : Oper := { dst := none, op := Op.store 46 (Operand.tmp 5) (Operand.tmp 50), type := 0, pos := "l6_over.go:13", after := #[{ on := 6, ground := Ground.data }, { on := 6, ground := Ground.chain }, { on := 0, ground := Ground.phase }, { on := 1, ground := Ground.phase }, { on := 2, ground := Ground.phase }, { on := 3, ground := Ground.phase }, { on := 4, ground := Ground.phase }, { on := 5, ground := Ground.phase }, { on := 6, ground := Ground.phase }], guard := none }
def opsv10 : List Oper := [opv10_0, opv10_1, opv10_2, opv10_3, opv10_4, opv10_5, opv10_6, opv10_7]
def opv9_0 : Oper := { dst := some 34, op := Op.load 46 (Operand.tmp 3), type := 46, pos := "l6_over.go:12", after := #[], guard := none }
def opv9_1 : Oper := { dst := some 35, op := Op.fieldAddr 46 (Operand.tmp 2) 2, type := 0, pos := "l6_over.go:12", after := #[], guard := none }
def opv9_2 : Oper := { dst := some 36, op := Op.load 44 (Operand.tmp 35), type := 44, pos := "l6_over.go:12", after := #[{ on := 1, ground := Ground.data }], guard := none }
def opv9_3 : Oper := { dst := some 37, op := Op.move (Operand.tmp 7), type := 3, pos := "l6_over.go:12", after := #[], guard := none }
def opv9_4 : Oper := { dst := some 38, op := Op.indexAddr 44 (Operand.tmp 36) (Operand.tmp 37), type := 0, pos := "l6_over.go:12", after := #[{ on := 2, ground := Ground.data }, { on := 3, ground := Ground.data }], guard := none }
def opv9_5 : Oper := { dst := some 39, op := Op.fieldAddr 115 (Operand.tmp 38) 0, type := 0, pos := "l6_over.go:12", after := #[{ on := 4, ground := Ground.data }], guard := none }
def opv9_6 : Oper := { dst := some 40, op := Op.load 9 (Operand.tmp 39), type := 9, pos := "l6_over.go:12", after := #[{ on := 5, ground := Ground.data }], guard := none }
def opv9_7 : Oper := { dst := some 41, op := Op.call { callee := Callee.value (Operand.func 89), args := #[Operand.tmp 34, Operand.tmp 40], argTypes := #[46, 9] }, type := 44, pos := "l6_over.go:12", after := #[{ on := 0, ground := Ground.data }, { on := 6, ground := Ground.data }], guard := none }
def opv9_8 : Oper := { dst := some 42, op := Op.call { callee := Callee.builtin Builtin.len, args := #[Operand.tmp 41], argTypes := #[44] }, type := 3, pos := "l6_over.go:12", after := #[{ on := 7, ground := Ground.data }], guard := none }
def opv9_9 : Oper := { dst := some 43, op := Op.binOp BinOp.eql 3 (Operand.tmp 42) (Operand.const (Value.int IntKind.i64 0)) 3, type := 4, pos := "l6_over.go:12", after := #[{ on := 8, ground := Ground.data }], guard := none }
def opsv9 : List Oper := [opv9_0, opv9_1, opv9_2, opv9_3, opv9_4, opv9_5, opv9_6, opv9_7, opv9_8, opv9_9]
set_option maxHeartbeats 2000000 in
set_option maxRecDepth 10000 in
theorem regionV5 {Q : Exit → Act → World → Prop} {a : Act} {W0 : World} {X O i b0 off n c bn bc xn xc : Nat} {kind name key : ByteArray} {ba xa : Option Addr} (P : World → Value → World → Prop) (hX0 : W0.heap[X]? = some (.cells #[.string kind, .string name, (.slice ba bn bc)] 46 (0, 0))) (hO0 : W0.cell? ⟨O, 2, none⟩ = some (.slice (some ⟨b0, off, none⟩) n c)) (hc0 : W0.cell? ⟨b0, off + i * 2, none⟩ = some (.string key)) (hc1 : W0.cell? ⟨b0, off + i * 2 + 1, none⟩ = some (.slice xa xn xc)) (hi : i < n) (HP : ∀ W, Below W0.heap.size W0 W → Calls Tryz.prog 86 #[.agg #[.string kind, .string name, (.slice ba bn bc)], .agg #[.string key, (.slice xa xn xc)]] W fun e w' => ∃ q m cc, e = .returned (.agg #[.string kind, .string name, .slice q m cc]) ∧ P W (.slice q m cc) w' ∧ Below W.heap.size W w')
    (hsX : a.eval (.tmp 5) = .pointer (some ⟨X, 0, none⟩)) (hsO : a.eval (.tmp 3) = .pointer (some ⟨O, 0, none⟩)) (hsI : a.eval (.tmp 6) = .int .i64 (i : Int)) (hsz : a.tmps.size = 52)
    (hQ : ∀ v a' q m cc W1 W2, a' = putS a [20, 21, 22, 23, 24, 25, 26] v → Below W0.heap.size W0 W1 → P W1 (.slice q m cc) W2 → Below W1.heap.size W1 W2 → Q .normal a' (((W2.setCell ⟨X, 0, none⟩ (.string kind)).setCell ⟨X, 1, none⟩ (.string name)).setCell ⟨X, 2, none⟩ (.slice q m cc))) : (Code.region 5 opsv5.toArray true).wp Tryz.prog Q a W0 := by
  have hnd : ([20, 21, 22, 23, 24, 25, 26] : List Nat).Nodup := by decide
  have i3 : (0 : Int) ≤ (i : Int) := by omega
  have i4 : (i : Int) < (n : Int) := by omega
  refine wp_region_invS0 [20, 21, 22, 23, 24, 25, 26] (OvF X O i b0 off n c kind name key (.slice ba bn bc) (.slice xa xn xc) (fun v W => ∃ W1, Below W0.heap.size W0 W1 ∧ P W1 v W ∧ Below W1.heap.size W1 W)) (fun _ W => W.heap[X]? = some (.cells #[.string kind, .string name, (.slice ba bn bc)] 46 (0, 0)) ∧ W.cell? ⟨O, 2, none⟩ = some (.slice (some ⟨b0, off, none⟩) n c) ∧ W.cell? ⟨b0, off + i * 2, none⟩ = some (.string key) ∧ W.cell? ⟨b0, off + i * 2 + 1, none⟩ = some (.slice xa xn xc) ∧ Below W0.heap.size W0 W) 7 8 [0, 1, 2, 3, 4, 5, 6, 7] (by kernel_rfl) rfl (by decide) (by kernel_rfl) ?h1 ⟨hX0, hO0, hc0, hc1, (Below.refl _ _).drew⟩ ?hall
  case h1 =>
    intro i x W hi
    unfold OvF
    split <;> first | omega | trivial
  refine AllInv.consQ (o := opv5_0) [] (by kernel_rfl) (by decide) (by kernel_rfl) rfl ?o0 (AllInv.consQ (o := opv5_1) [] (by kernel_rfl) (by decide) (by kernel_rfl) rfl ?o1 (AllInv.consQ (o := opv5_2) [1] (by kernel_rfl) (by decide) (by kernel_rfl) rfl ?o2 (AllInv.consQ (o := opv5_3) [] (by kernel_rfl) (by decide) (by kernel_rfl) rfl ?o3 (AllInv.consQ (o := opv5_4) [2, 3] (by kernel_rfl) (by decide) (by kernel_rfl) rfl ?o4 (AllInv.consQ (o := opv5_5) [4] (by kernel_rfl) (by decide) (by kernel_rfl) rfl ?o5 (AllInv.consQ (o := opv5_6) [0, 5] (by kernel_rfl) (by decide) (by kernel_rfl) rfl ?o6 (AllInv.lastQ (o := opv5_7) [6, 6, 0, 1, 2, 3, 4, 5, 6] (by kernel_rfl) (by kernel_rfl) rfl ?o7)))))))
  case o0 =>
    rintro Q' L _ W h0L hpre ⟨v, rfl, hv, hX, hO, c0, c1, hb⟩ K hK
    have g0 := cell_of_block hX 0
    have g1 := cell_of_block hX 1
    have g2 := cell_of_block hX 2
    simp only [List.getElem?_toArray, List.getElem?_cons_zero, List.getElem?_cons_succ] at g0 g1 g2
    have r5 := (eval_out (v := v) (show 5 ∉ ([20, 21, 22, 23, 24, 25, 26] : List Nat) by decide)).trans hsX
    have he : execOp (putS a [20, 21, 22, 23, 24, 25, 26] v).eval opv5_0 = execOp (Act.eval ⟨#[undef], []⟩) ⟨some 0, .load 46 (.const (.pointer (some ⟨X, 0, none⟩))), 0, "", #[], none⟩ := by simp only [execOp, eval_const, opv5_0, r5]
    refine Lid.mk ?_
    unfold Oper.wp
    rw [he]
    clear he
    go_simp
    exact hK.out _ _ (InvG.nextL (W := W) hv 0 (.agg #[.string kind, .string name, (.slice ba bn bc)]) (put_in 0 hnd rfl) (fun _ _ _ h => h) rfl ⟨hX, hO, c0, c1, hb⟩)
  case o1 =>
    rintro Q' L _ W h0L hpre ⟨v, rfl, hv, hX, hO, c0, c1, hb⟩ K hK
    have r3 := (eval_out (v := v) (show 3 ∉ ([20, 21, 22, 23, 24, 25, 26] : List Nat) by decide)).trans hsO
    have he : execOp (putS a [20, 21, 22, 23, 24, 25, 26] v).eval opv5_1 = execOp (Act.eval ⟨#[undef], []⟩) ⟨some 0, .fieldAddr 46 (.const (.pointer (some ⟨O, 0, none⟩))) 2, 0, "", #[], none⟩ := by simp only [execOp, eval_const, opv5_1, r3]
    refine Lid.mk ?_
    unfold Oper.wp
    rw [he]
    clear he
    go_simp
    exact hK.out _ _ (InvG.nextL (W := W) hv 1 (.pointer (some ⟨O, 2, none⟩)) (put_in 1 hnd rfl) (fun _ _ _ h => h) rfl ⟨hX, hO, c0, c1, hb⟩)
  case o2 =>
    rintro Q' L _ W h0L hpre ⟨v, rfl, hv, hX, hO, c0, c1, hb⟩ K hK
    have r21 : (putS a [20, 21, 22, 23, 24, 25, 26] v).eval (.tmp 21) = _ := (eval_in 1 hnd rfl (by omega)).trans (hv 1 (hpre 1 (by simp)))
    have he : execOp (putS a [20, 21, 22, 23, 24, 25, 26] v).eval opv5_2 = execOp (Act.eval ⟨#[undef], []⟩) ⟨some 0, .load 44 (.const (.pointer (some ⟨O, 2, none⟩))), 0, "", #[], none⟩ := by simp only [execOp, eval_const, opv5_2, r21]
    refine Lid.mk ?_
    unfold Oper.wp
    rw [he]
    clear he
    go_simp
    exact hK.out _ _ (InvG.nextL (W := W) hv 2 (.slice (some ⟨b0, off, none⟩) n c) (put_in 2 hnd rfl) (fun _ _ _ h => h) rfl ⟨hX, hO, c0, c1, hb⟩)
  case o3 =>
    rintro Q' L _ W h0L hpre ⟨v, rfl, hv, hX, hO, c0, c1, hb⟩ K hK
    have r6 := (eval_out (v := v) (show 6 ∉ ([20, 21, 22, 23, 24, 25, 26] : List Nat) by decide)).trans hsI
    have he : execOp (putS a [20, 21, 22, 23, 24, 25, 26] v).eval opv5_3 = execOp (Act.eval ⟨#[undef], []⟩) ⟨some 0, .move (.const (.int .i64 (i : Int))), 0, "", #[], none⟩ := by simp only [execOp, eval_const, opv5_3, r6]
    refine Lid.mk ?_
    unfold Oper.wp
    rw [he]
    clear he
    go_simp
    exact hK.out _ _ (InvG.nextL (W := W) hv 3 (.int .i64 (i : Int)) (put_in 3 hnd rfl) (fun _ _ _ h => h) rfl ⟨hX, hO, c0, c1, hb⟩)
  case o4 =>
    rintro Q' L _ W h0L hpre ⟨v, rfl, hv, hX, hO, c0, c1, hb⟩ K hK
    have r22 : (putS a [20, 21, 22, 23, 24, 25, 26] v).eval (.tmp 22) = _ := (eval_in 2 hnd rfl (by omega)).trans (hv 2 (hpre 2 (by simp)))
    have r23 : (putS a [20, 21, 22, 23, 24, 25, 26] v).eval (.tmp 23) = _ := (eval_in 3 hnd rfl (by omega)).trans (hv 3 (hpre 3 (by simp)))
    have he : execOp (putS a [20, 21, 22, 23, 24, 25, 26] v).eval opv5_4 = execOp (Act.eval ⟨#[undef], []⟩) ⟨some 0, .indexAddr 44 (.const (.slice (some ⟨b0, off, none⟩) n c)) (.const (.int .i64 (i : Int))), 0, "", #[], none⟩ := by simp only [execOp, eval_const, opv5_4, r22, r23]
    refine Lid.mk ?_
    unfold Oper.wp
    rw [he]
    clear he
    go_simp
    exact hK.out _ _ (InvG.nextL (W := W) hv 4 (.pointer (some ⟨b0, off + i * 2, none⟩)) (put_in 4 hnd rfl) (fun _ _ _ h => h) rfl ⟨hX, hO, c0, c1, hb⟩)
  case o5 =>
    rintro Q' L _ W h0L hpre ⟨v, rfl, hv, hX, hO, c0, c1, hb⟩ K hK
    have r24 : (putS a [20, 21, 22, 23, 24, 25, 26] v).eval (.tmp 24) = _ := (eval_in 4 hnd rfl (by omega)).trans (hv 4 (hpre 4 (by simp)))
    have he : execOp (putS a [20, 21, 22, 23, 24, 25, 26] v).eval opv5_5 = execOp (Act.eval ⟨#[undef], []⟩) ⟨some 0, .load 115 (.const (.pointer (some ⟨b0, off + i * 2, none⟩))), 0, "", #[], none⟩ := by simp only [execOp, eval_const, opv5_5, r24]
    refine Lid.mk ?_
    unfold Oper.wp
    rw [he]
    clear he
    go_simp
    exact hK.out _ _ (InvG.nextL (W := W) hv 5 (.agg #[.string key, (.slice xa xn xc)]) (put_in 5 hnd rfl) (fun _ _ _ h => h) rfl ⟨hX, hO, c0, c1, hb⟩)
  case o6 =>
    rintro Q' L _ W h0L hpre ⟨v, rfl, hv, hX, hO, c0, c1, hb⟩ K hK
    have r20 : (putS a [20, 21, 22, 23, 24, 25, 26] v).eval (.tmp 20) = _ := (eval_in 0 hnd rfl (by omega)).trans (hv 0 (hpre 0 (by simp)))
    have r25 : (putS a [20, 21, 22, 23, 24, 25, 26] v).eval (.tmp 25) = _ := (eval_in 5 hnd rfl (by omega)).trans (hv 5 (hpre 5 (by simp)))
    have HPW := HP W hb
    have he : execOp (putS a [20, 21, 22, 23, 24, 25, 26] v).eval opv5_6 = execOp (Act.eval ⟨#[undef], []⟩) ⟨some 0, .call { callee := .value (.func 86), args := #[.const (.agg #[.string kind, .string name, (.slice ba bn bc)]), .const (.agg #[.string key, (.slice xa xn xc)])], argTypes := #[46, 115] }, 0, "", #[], none⟩ := by simp only [execOp, eval_const, opv5_6, resolve, eval_func, List.map_toArray, List.map_cons, List.map_nil, r20, r25]
    refine Lid.mk ?_
    unfold Oper.wp
    rw [he]
    clear he
    go_simp
    refine HPW.mono ?_
    rintro e W' ⟨q, m, cc, rfl, hP, b'⟩
    refine hK.out _ _ (InvG.nextL (W := W) hv 6 (.agg #[.string kind, .string name, .slice q m cc]) (put_in 6 hnd rfl) (fun j y hj h => ?_) ⟨q, m, cc, rfl, W, hb, hP, b'⟩ ⟨(b'.block X (Array.getElem?_eq_some_iff.1 hX).1).trans hX, (b'.cell (World.block_lt_of_cell? _ _ hO)).trans hO, (b'.cell (World.block_lt_of_cell? _ _ c0)).trans c0, (b'.cell (World.block_lt_of_cell? _ _ c1)).trans c1, hb.trans (b'.mono hb.size)⟩)
    have h6 : j ≠ 6 := fun e => by rw [e, h0L] at hj; cases hj
    unfold OvF at *
    split <;> simp only at h
    all_goals first | exact h | exact absurd rfl h6 | trivial
  case o7 =>
    rintro Q' L _ W h0L hpre ⟨v, rfl, hv, hX, hO, c0, c1, hb⟩ K hK
    obtain ⟨q, m, cc, e6, W1, hb1, hP, hb2⟩ := hv 6 (hpre 6 (by simp))
    have r26 : (putS a [20, 21, 22, 23, 24, 25, 26] v).eval (.tmp 26) = _ := (eval_in 6 hnd rfl (by omega)).trans e6
    have r5 := (eval_out (v := v) (show 5 ∉ ([20, 21, 22, 23, 24, 25, 26] : List Nat) by decide)).trans hsX
    have g0 := cell_of_block hX 0
    have g1 := cell_of_block hX 1
    have g2 := cell_of_block hX 2
    simp only [List.getElem?_toArray, List.getElem?_cons_zero, List.getElem?_cons_succ] at g0 g1 g2
    have f0 := frozen_of_block hX 0
    have f1 := frozen_of_block hX 1
    have f2 := frozen_of_block hX 2
    have HQ := hid_in (hQ v _ q m cc W1 W rfl hb1 hP hb2)
    have he : execOp (putS a [20, 21, 22, 23, 24, 25, 26] v).eval opv5_7 = execOp (Act.eval ⟨#[undef], []⟩) ⟨some 0, .store 46 (.const (.pointer (some ⟨X, 0, none⟩))) (.const (.agg #[.string kind, .string name, .slice q m cc])), 0, "", #[], none⟩ := by simp only [execOp, eval_const, opv5_7, r5, r26]
    refine Lid.mk ?_
    unfold Oper.wp
    rw [he]
    clear he
    go_simp
    exact hK.out _ _ (NoPanic.normal HQ.out)
set_option maxHeartbeats 2000000 in
set_option maxRecDepth 10000 in
theorem regionV10 {Q : Exit → Act → World → Prop} {a : Act} {W0 : World} {X O i b0 off n c bn bc xn xc : Nat} {kind name key : ByteArray} {ba xa : Option Addr} (P : World → Value → World → Prop) (hX0 : W0.heap[X]? = some (.cells #[.string kind, .string name, (.slice ba bn bc)] 46 (0, 0))) (hO0 : W0.cell? ⟨O, 2, none⟩ = some (.slice (some ⟨b0, off, none⟩) n c)) (hc0 : W0.cell? ⟨b0, off + i * 2, none⟩ = some (.string key)) (hc1 : W0.cell? ⟨b0, off + i * 2 + 1, none⟩ = some (.slice xa xn xc)) (hi : i < n) (HP : ∀ W, Below W0.heap.size W0 W → Calls Tryz.prog 86 #[.agg #[.string kind, .string name, (.slice ba bn bc)], .agg #[.string key, (.slice xa xn xc)]] W fun e w' => ∃ q m cc, e = .returned (.agg #[.string kind, .string name, .slice q m cc]) ∧ P W (.slice q m cc) w' ∧ Below W.heap.size W w')
    (hsX : a.eval (.tmp 5) = .pointer (some ⟨X, 0, none⟩)) (hsO : a.eval (.tmp 2) = .pointer (some ⟨O, 0, none⟩)) (hsI : a.eval (.tmp 7) = .int .i64 (i : Int)) (hsz : a.tmps.size = 52)
    (hQ : ∀ v a' q m cc W1 W2, a' = putS a [44, 45, 46, 47, 48, 49, 50] v → Below W0.heap.size W0 W1 → P W1 (.slice q m cc) W2 → Below W1.heap.size W1 W2 → Q .normal a' (((W2.setCell ⟨X, 0, none⟩ (.string kind)).setCell ⟨X, 1, none⟩ (.string name)).setCell ⟨X, 2, none⟩ (.slice q m cc))) : (Code.region 10 opsv10.toArray true).wp Tryz.prog Q a W0 := by
  have hnd : ([44, 45, 46, 47, 48, 49, 50] : List Nat).Nodup := by decide
  have i3 : (0 : Int) ≤ (i : Int) := by omega
  have i4 : (i : Int) < (n : Int) := by omega
  refine wp_region_invS0 [44, 45, 46, 47, 48, 49, 50] (OvF X O i b0 off n c kind name key (.slice ba bn bc) (.slice xa xn xc) (fun v W => ∃ W1, Below W0.heap.size W0 W1 ∧ P W1 v W ∧ Below W1.heap.size W1 W)) (fun _ W => W.heap[X]? = some (.cells #[.string kind, .string name, (.slice ba bn bc)] 46 (0, 0)) ∧ W.cell? ⟨O, 2, none⟩ = some (.slice (some ⟨b0, off, none⟩) n c) ∧ W.cell? ⟨b0, off + i * 2, none⟩ = some (.string key) ∧ W.cell? ⟨b0, off + i * 2 + 1, none⟩ = some (.slice xa xn xc) ∧ Below W0.heap.size W0 W) 7 8 [0, 1, 2, 3, 4, 5, 6, 7] (by kernel_rfl) rfl (by decide) (by kernel_rfl) ?h1 ⟨hX0, hO0, hc0, hc1, (Below.refl _ _).drew⟩ ?hall
  case h1 =>
    intro i x W hi
    unfold OvF
    split <;> first | omega | trivial
  refine AllInv.consQ (o := opv10_0) [] (by kernel_rfl) (by decide) (by kernel_rfl) rfl ?o0 (AllInv.consQ (o := opv10_1) [] (by kernel_rfl) (by decide) (by kernel_rfl) rfl ?o1 (AllInv.consQ (o := opv10_2) [1] (by kernel_rfl) (by decide) (by kernel_rfl) rfl ?o2 (AllInv.consQ (o := opv10_3) [] (by kernel_rfl) (by decide) (by kernel_rfl) rfl ?o3 (AllInv.consQ (o := opv10_4) [2, 3] (by kernel_rfl) (by decide) (by kernel_rfl) rfl ?o4 (AllInv.consQ (o := opv10_5) [4] (by kernel_rfl) (by decide) (by kernel_rfl) rfl ?o5 (AllInv.consQ (o := opv10_6) [0, 5] (by kernel_rfl) (by decide) (by kernel_rfl) rfl ?o6 (AllInv.lastQ (o := opv10_7) [6, 6, 0, 1, 2, 3, 4, 5, 6] (by kernel_rfl) (by kernel_rfl) rfl ?o7)))))))
  case o0 =>
    rintro Q' L _ W h0L hpre ⟨v, rfl, hv, hX, hO, c0, c1, hb⟩ K hK
    have g0 := cell_of_block hX 0
    have g1 := cell_of_block hX 1
    have g2 := cell_of_block hX 2
    simp only [List.getElem?_toArray, List.getElem?_cons_zero, List.getElem?_cons_succ] at g0 g1 g2
    have r5 := (eval_out (v := v) (show 5 ∉ ([44, 45, 46, 47, 48, 49, 50] : List Nat) by decide)).trans hsX
    have he : execOp (putS a [44, 45, 46, 47, 48, 49, 50] v).eval opv10_0 = execOp (Act.eval ⟨#[undef], []⟩) ⟨some 0, .load 46 (.const (.pointer (some ⟨X, 0, none⟩))), 0, "", #[], none⟩ := by simp only [execOp, eval_const, opv10_0, r5]
    refine Lid.mk ?_
    unfold Oper.wp
    rw [he]
    clear he
    go_simp
    exact hK.out _ _ (InvG.nextL (W := W) hv 0 (.agg #[.string kind, .string name, (.slice ba bn bc)]) (put_in 0 hnd rfl) (fun _ _ _ h => h) rfl ⟨hX, hO, c0, c1, hb⟩)
  case o1 =>
    rintro Q' L _ W h0L hpre ⟨v, rfl, hv, hX, hO, c0, c1, hb⟩ K hK
    have r2 := (eval_out (v := v) (show 2 ∉ ([44, 45, 46, 47, 48, 49, 50] : List Nat) by decide)).trans hsO
    have he : execOp (putS a [44, 45, 46, 47, 48, 49, 50] v).eval opv10_1 = execOp (Act.eval ⟨#[undef], []⟩) ⟨some 0, .fieldAddr 46 (.const (.pointer (some ⟨O, 0, none⟩))) 2, 0, "", #[], none⟩ := by simp only [execOp, eval_const, opv10_1, r2]
    refine Lid.mk ?_
    unfold Oper.wp
    rw [he]
    clear he
    go_simp
    exact hK.out _ _ (InvG.nextL (W := W) hv 1 (.pointer (some ⟨O, 2, none⟩)) (put_in 1 hnd rfl) (fun _ _ _ h => h) rfl ⟨hX, hO, c0, c1, hb⟩)
  case o2 =>
    rintro Q' L _ W h0L hpre ⟨v, rfl, hv, hX, hO, c0, c1, hb⟩ K hK
    have r45 : (putS a [44, 45, 46, 47, 48, 49, 50] v).eval (.tmp 45) = _ := (eval_in 1 hnd rfl (by omega)).trans (hv 1 (hpre 1 (by simp)))
    have he : execOp (putS a [44, 45, 46, 47, 48, 49, 50] v).eval opv10_2 = execOp (Act.eval ⟨#[undef], []⟩) ⟨some 0, .load 44 (.const (.pointer (some ⟨O, 2, none⟩))), 0, "", #[], none⟩ := by simp only [execOp, eval_const, opv10_2, r45]
    refine Lid.mk ?_
    unfold Oper.wp
    rw [he]
    clear he
    go_simp
    exact hK.out _ _ (InvG.nextL (W := W) hv 2 (.slice (some ⟨b0, off, none⟩) n c) (put_in 2 hnd rfl) (fun _ _ _ h => h) rfl ⟨hX, hO, c0, c1, hb⟩)
  case o3 =>
    rintro Q' L _ W h0L hpre ⟨v, rfl, hv, hX, hO, c0, c1, hb⟩ K hK
    have r7 := (eval_out (v := v) (show 7 ∉ ([44, 45, 46, 47, 48, 49, 50] : List Nat) by decide)).trans hsI
    have he : execOp (putS a [44, 45, 46, 47, 48, 49, 50] v).eval opv10_3 = execOp (Act.eval ⟨#[undef], []⟩) ⟨some 0, .move (.const (.int .i64 (i : Int))), 0, "", #[], none⟩ := by simp only [execOp, eval_const, opv10_3, r7]
    refine Lid.mk ?_
    unfold Oper.wp
    rw [he]
    clear he
    go_simp
    exact hK.out _ _ (InvG.nextL (W := W) hv 3 (.int .i64 (i : Int)) (put_in 3 hnd rfl) (fun _ _ _ h => h) rfl ⟨hX, hO, c0, c1, hb⟩)
  case o4 =>
    rintro Q' L _ W h0L hpre ⟨v, rfl, hv, hX, hO, c0, c1, hb⟩ K hK
    have r46 : (putS a [44, 45, 46, 47, 48, 49, 50] v).eval (.tmp 46) = _ := (eval_in 2 hnd rfl (by omega)).trans (hv 2 (hpre 2 (by simp)))
    have r47 : (putS a [44, 45, 46, 47, 48, 49, 50] v).eval (.tmp 47) = _ := (eval_in 3 hnd rfl (by omega)).trans (hv 3 (hpre 3 (by simp)))
    have he : execOp (putS a [44, 45, 46, 47, 48, 49, 50] v).eval opv10_4 = execOp (Act.eval ⟨#[undef], []⟩) ⟨some 0, .indexAddr 44 (.const (.slice (some ⟨b0, off, none⟩) n c)) (.const (.int .i64 (i : Int))), 0, "", #[], none⟩ := by simp only [execOp, eval_const, opv10_4, r46, r47]
    refine Lid.mk ?_
    unfold Oper.wp
    rw [he]
    clear he
    go_simp
    exact hK.out _ _ (InvG.nextL (W := W) hv 4 (.pointer (some ⟨b0, off + i * 2, none⟩)) (put_in 4 hnd rfl) (fun _ _ _ h => h) rfl ⟨hX, hO, c0, c1, hb⟩)
  case o5 =>
    rintro Q' L _ W h0L hpre ⟨v, rfl, hv, hX, hO, c0, c1, hb⟩ K hK
    have r48 : (putS a [44, 45, 46, 47, 48, 49, 50] v).eval (.tmp 48) = _ := (eval_in 4 hnd rfl (by omega)).trans (hv 4 (hpre 4 (by simp)))
    have he : execOp (putS a [44, 45, 46, 47, 48, 49, 50] v).eval opv10_5 = execOp (Act.eval ⟨#[undef], []⟩) ⟨some 0, .load 115 (.const (.pointer (some ⟨b0, off + i * 2, none⟩))), 0, "", #[], none⟩ := by simp only [execOp, eval_const, opv10_5, r48]
    refine Lid.mk ?_
    unfold Oper.wp
    rw [he]
    clear he
    go_simp
    exact hK.out _ _ (InvG.nextL (W := W) hv 5 (.agg #[.string key, (.slice xa xn xc)]) (put_in 5 hnd rfl) (fun _ _ _ h => h) rfl ⟨hX, hO, c0, c1, hb⟩)
  case o6 =>
    rintro Q' L _ W h0L hpre ⟨v, rfl, hv, hX, hO, c0, c1, hb⟩ K hK
    have r44 : (putS a [44, 45, 46, 47, 48, 49, 50] v).eval (.tmp 44) = _ := (eval_in 0 hnd rfl (by omega)).trans (hv 0 (hpre 0 (by simp)))
    have r49 : (putS a [44, 45, 46, 47, 48, 49, 50] v).eval (.tmp 49) = _ := (eval_in 5 hnd rfl (by omega)).trans (hv 5 (hpre 5 (by simp)))
    have HPW := HP W hb
    have he : execOp (putS a [44, 45, 46, 47, 48, 49, 50] v).eval opv10_6 = execOp (Act.eval ⟨#[undef], []⟩) ⟨some 0, .call { callee := .value (.func 86), args := #[.const (.agg #[.string kind, .string name, (.slice ba bn bc)]), .const (.agg #[.string key, (.slice xa xn xc)])], argTypes := #[46, 115] }, 0, "", #[], none⟩ := by simp only [execOp, eval_const, opv10_6, resolve, eval_func, List.map_toArray, List.map_cons, List.map_nil, r44, r49]
    refine Lid.mk ?_
    unfold Oper.wp
    rw [he]
    clear he
    go_simp
    refine HPW.mono ?_
    rintro e W' ⟨q, m, cc, rfl, hP, b'⟩
    refine hK.out _ _ (InvG.nextL (W := W) hv 6 (.agg #[.string kind, .string name, .slice q m cc]) (put_in 6 hnd rfl) (fun j y hj h => ?_) ⟨q, m, cc, rfl, W, hb, hP, b'⟩ ⟨(b'.block X (Array.getElem?_eq_some_iff.1 hX).1).trans hX, (b'.cell (World.block_lt_of_cell? _ _ hO)).trans hO, (b'.cell (World.block_lt_of_cell? _ _ c0)).trans c0, (b'.cell (World.block_lt_of_cell? _ _ c1)).trans c1, hb.trans (b'.mono hb.size)⟩)
    have h6 : j ≠ 6 := fun e => by rw [e, h0L] at hj; cases hj
    unfold OvF at *
    split <;> simp only at h
    all_goals first | exact h | exact absurd rfl h6 | trivial
  case o7 =>
    rintro Q' L _ W h0L hpre ⟨v, rfl, hv, hX, hO, c0, c1, hb⟩ K hK
    obtain ⟨q, m, cc, e6, W1, hb1, hP, hb2⟩ := hv 6 (hpre 6 (by simp))
    have r50 : (putS a [44, 45, 46, 47, 48, 49, 50] v).eval (.tmp 50) = _ := (eval_in 6 hnd rfl (by omega)).trans e6
    have r5 := (eval_out (v := v) (show 5 ∉ ([44, 45, 46, 47, 48, 49, 50] : List Nat) by decide)).trans hsX
    have g0 := cell_of_block hX 0
    have g1 := cell_of_block hX 1
    have g2 := cell_of_block hX 2
    simp only [List.getElem?_toArray, List.getElem?_cons_zero, List.getElem?_cons_succ] at g0 g1 g2
    have f0 := frozen_of_block hX 0
    have f1 := frozen_of_block hX 1
    have f2 := frozen_of_block hX 2
    have HQ := hid_in (hQ v _ q m cc W1 W rfl hb1 hP hb2)
    have he : execOp (putS a [44, 45, 46, 47, 48, 49, 50] v).eval opv10_7 = execOp (Act.eval ⟨#[undef], []⟩) ⟨some 0, .store 46 (.const (.pointer (some ⟨X, 0, none⟩))) (.const (.agg #[.string kind, .string name, .slice q m cc])), 0, "", #[], none⟩ := by simp only [execOp, eval_const, opv10_7, r5, r50]
    refine Lid.mk ?_
    unfold Oper.wp
    rw [he]
    clear he
    go_simp
    exact hK.out _ _ (NoPanic.normal HQ.out)
def OvG (U i b0 off n c : Nat) (kind name key : ByteArray) (ov : Value) (KK : Bool) (j : Nat) (x : Value) : Prop := match j with
  | 0 => x = .agg #[.string kind, .string name, ov]
  | 1 => x = .pointer (some ⟨U, 2, none⟩)
  | 2 => x = .slice (some ⟨b0, off, none⟩) n c
  | 3 => x = .int .i64 (i : Int)
  | 4 => x = .pointer (some ⟨b0, off + i * 2, none⟩)
  | 5 => x = .pointer (some ⟨b0, off + i * 2, none⟩)
  | 6 => x = .string key
  | 7 => ∃ a m cc, x = .slice a m cc ∧ ((m : Int) == 0) = KK
  | 8 => ∃ m : Nat, x = .int .i64 (m : Int) ∧ ((m : Int) == 0) = KK
  | 9 => x = .bool KK
  | _ => True
set_option maxHeartbeats 2000000 in
set_option maxRecDepth 10000 in
theorem regionV9 {Q : Exit → Act → World → Prop} {a : Act} {W0 : World} {O U i b0 off n c on oc : Nat} {kind name key : ByteArray} {oa : Option Addr} {KK : Bool} (hO0 : W0.heap[O]? = some (.cells #[.string kind, .string name, (.slice oa on oc)] 46 (0, 0))) (hU0 : W0.cell? ⟨U, 2, none⟩ = some (.slice (some ⟨b0, off, none⟩) n c)) (hc0 : W0.cell? ⟨b0, off + i * 2, none⟩ = some (.string key)) (hi : i < n) (HP : ∀ W, Below W0.heap.size W0 W → Calls Tryz.prog 89 #[.agg #[.string kind, .string name, (.slice oa on oc)], .string key] W fun e w' => NonePost KK W e w')
    (hsO : a.eval (.tmp 3) = .pointer (some ⟨O, 0, none⟩)) (hsU : a.eval (.tmp 2) = .pointer (some ⟨U, 0, none⟩)) (hsI : a.eval (.tmp 7) = .int .i64 (i : Int)) (hsz : a.tmps.size = 52)
    (hQ : ∀ v a' W', a' = putS a [34, 35, 36, 37, 38, 39, 40, 41, 42, 43] v → v 9 = .bool KK → Below W0.heap.size W0 W' → Q .normal a' W') : (Code.region 9 opsv9.toArray true).wp Tryz.prog Q a W0 := by
  have hnd : ([34, 35, 36, 37, 38, 39, 40, 41, 42, 43] : List Nat).Nodup := by decide
  have i3 : (0 : Int) ≤ (i : Int) := by omega
  have i4 : (i : Int) < (n : Int) := by omega
  refine wp_region_invE0 [34, 35, 36, 37, 38, 39, 40, 41, 42, 43] (fun j x _ => OvG U i b0 off n c kind name key (.slice oa on oc) KK j x) (fun _ W => W.heap[O]? = some (.cells #[.string kind, .string name, (.slice oa on oc)] 46 (0, 0)) ∧ W.cell? ⟨U, 2, none⟩ = some (.slice (some ⟨b0, off, none⟩) n c) ∧ W.cell? ⟨b0, off + i * 2, none⟩ = some (.string key) ∧ Below W0.heap.size W0 W) 10 [0, 1, 2, 3, 4, 5, 6, 7, 8, 9] (by kernel_rfl) rfl (by decide) (by kernel_rfl) ?h1 ⟨hO0, hU0, hc0, (Below.refl _ _).drew⟩ ?hall ?hend
  case h1 =>
    intro i x W hi
    unfold OvG
    split <;> first | omega | trivial
  case hend =>
    intro v W' L hL hv hg
    exact NoPanic.normal (hQ v _ W' rfl (hv 9) hg.2.2.2)
  refine AllInv.consQ (o := opv9_0) [] (by kernel_rfl) (by decide) (by kernel_rfl) rfl ?o0 (AllInv.consQ (o := opv9_1) [] (by kernel_rfl) (by decide) (by kernel_rfl) rfl ?o1 (AllInv.consQ (o := opv9_2) [1] (by kernel_rfl) (by decide) (by kernel_rfl) rfl ?o2 (AllInv.consQ (o := opv9_3) [] (by kernel_rfl) (by decide) (by kernel_rfl) rfl ?o3 (AllInv.consQ (o := opv9_4) [2, 3] (by kernel_rfl) (by decide) (by kernel_rfl) rfl ?o4 (AllInv.consQ (o := opv9_5) [4] (by kernel_rfl) (by decide) (by kernel_rfl) rfl ?o5 (AllInv.consQ (o := opv9_6) [5] (by kernel_rfl) (by decide) (by kernel_rfl) rfl ?o6 (AllInv.consQ (o := opv9_7) [0, 6] (by kernel_rfl) (by decide) (by kernel_rfl) rfl ?o7 (AllInv.consQ (o := opv9_8) [7] (by kernel_rfl) (by decide) (by kernel_rfl) rfl ?o8 (AllInv.consQ (o := opv9_9) [8] (by kernel_rfl) (by decide) (by kernel_rfl) rfl ?o9 AllInv.nil)))))))))
  case o0 =>
    rintro Q' L _ W h0L hpre ⟨v, rfl, hv, hO, hU, c0, hb⟩ K hK
    have g0 := cell_of_block hO 0
    have g1 := cell_of_block hO 1
    have g2 := cell_of_block hO 2
    simp only [List.getElem?_toArray, List.getElem?_cons_zero, List.getElem?_cons_succ] at g0 g1 g2
    have r3 := (eval_out (v := v) (show 3 ∉ ([34, 35, 36, 37, 38, 39, 40, 41, 42, 43] : List Nat) by decide)).trans hsO
    have he : execOp (putS a [34, 35, 36, 37, 38, 39, 40, 41, 42, 43] v).eval opv9_0 = execOp (Act.eval ⟨#[undef], []⟩) ⟨some 0, .load 46 (.const (.pointer (some ⟨O, 0, none⟩))), 0, "", #[], none⟩ := by simp only [execOp, eval_const, opv9_0, r3]
    refine Lid.mk ?_
    unfold Oper.wp
    rw [he]
    clear he
    go_simp
    exact hK.out _ _ (InvG.next (W := W) hv 0 (.agg #[.string kind, .string name, (.slice oa on oc)]) (put_in 0 hnd rfl) (fun _ _ h => h) rfl ⟨hO, hU, c0, hb⟩)
  case o1 =>
    rintro Q' L _ W h0L hpre ⟨v, rfl, hv, hO, hU, c0, hb⟩ K hK
    have r2 := (eval_out (v := v) (show 2 ∉ ([34, 35, 36, 37, 38, 39, 40, 41, 42, 43] : List Nat) by decide)).trans hsU
    have he : execOp (putS a [34, 35, 36, 37, 38, 39, 40, 41, 42, 43] v).eval opv9_1 = execOp (Act.eval ⟨#[undef], []⟩) ⟨some 0, .fieldAddr 46 (.const (.pointer (some ⟨U, 0, none⟩))) 2, 0, "", #[], none⟩ := by simp only [execOp, eval_const, opv9_1, r2]
    refine Lid.mk ?_
    unfold Oper.wp
    rw [he]
    clear he
    go_simp
    exact hK.out _ _ (InvG.next (W := W) hv 1 (.pointer (some ⟨U, 2, none⟩)) (put_in 1 hnd rfl) (fun _ _ h => h) rfl ⟨hO, hU, c0, hb⟩)
  case o2 =>
    rintro Q' L _ W h0L hpre ⟨v, rfl, hv, hO, hU, c0, hb⟩ K hK
    have r35 : (putS a [34, 35, 36, 37, 38, 39, 40, 41, 42, 43] v).eval (.tmp 35) = _ := (eval_in 1 hnd rfl (by omega)).trans (hv 1 (hpre 1 (by simp)))
    have he : execOp (putS a [34, 35, 36, 37, 38, 39, 40, 41, 42, 43] v).eval opv9_2 = execOp (Act.eval ⟨#[undef], []⟩) ⟨some 0, .load 44 (.const (.pointer (some ⟨U, 2, none⟩))), 0, "", #[], none⟩ := by simp only [execOp, eval_const, opv9_2, r35]
    refine Lid.mk ?_
    unfold Oper.wp
    rw [he]
    clear he
    go_simp
    exact hK.out _ _ (InvG.next (W := W) hv 2 (.slice (some ⟨b0, off, none⟩) n c) (put_in 2 hnd rfl) (fun _ _ h => h) rfl ⟨hO, hU, c0, hb⟩)
  case o3 =>
    rintro Q' L _ W h0L hpre ⟨v, rfl, hv, hO, hU, c0, hb⟩ K hK
    have r7 := (eval_out (v := v) (show 7 ∉ ([34, 35, 36, 37, 38, 39, 40, 41, 42, 43] : List Nat) by decide)).trans hsI
    have he : execOp (putS a [34, 35, 36, 37, 38, 39, 40, 41, 42, 43] v).eval opv9_3 = execOp (Act.eval ⟨#[undef], []⟩) ⟨some 0, .move (.const (.int .i64 (i : Int))), 0, "", #[], none⟩ := by simp only [execOp, eval_const, opv9_3, r7]
    refine Lid.mk ?_
    unfold Oper.wp
    rw [he]
    clear he
    go_simp
    exact hK.out _ _ (InvG.next (W := W) hv 3 (.int .i64 (i : Int)) (put_in 3 hnd rfl) (fun _ _ h => h) rfl ⟨hO, hU, c0, hb⟩)
  case o4 =>
    rintro Q' L _ W h0L hpre ⟨v, rfl, hv, hO, hU, c0, hb⟩ K hK
    have r36 : (putS a [34, 35, 36, 37, 38, 39, 40, 41, 42, 43] v).eval (.tmp 36) = _ := (eval_in 2 hnd rfl (by omega)).trans (hv 2 (hpre 2 (by simp)))
    have r37 : (putS a [34, 35, 36, 37, 38, 39, 40, 41, 42, 43] v).eval (.tmp 37) = _ := (eval_in 3 hnd rfl (by omega)).trans (hv 3 (hpre 3 (by simp)))
    have he : execOp (putS a [34, 35, 36, 37, 38, 39, 40, 41, 42, 43] v).eval opv9_4 = execOp (Act.eval ⟨#[undef], []⟩) ⟨some 0, .indexAddr 44 (.const (.slice (some ⟨b0, off, none⟩) n c)) (.const (.int .i64 (i : Int))), 0, "", #[], none⟩ := by simp only [execOp, eval_const, opv9_4, r36, r37]
    refine Lid.mk ?_
    unfold Oper.wp
    rw [he]
    clear he
    go_simp
    exact hK.out _ _ (InvG.next (W := W) hv 4 (.pointer (some ⟨b0, off + i * 2, none⟩)) (put_in 4 hnd rfl) (fun _ _ h => h) rfl ⟨hO, hU, c0, hb⟩)
  case o5 =>
    rintro Q' L _ W h0L hpre ⟨v, rfl, hv, hO, hU, c0, hb⟩ K hK
    have r38 : (putS a [34, 35, 36, 37, 38, 39, 40, 41, 42, 43] v).eval (.tmp 38) = _ := (eval_in 4 hnd rfl (by omega)).trans (hv 4 (hpre 4 (by simp)))
    have he : execOp (putS a [34, 35, 36, 37, 38, 39, 40, 41, 42, 43] v).eval opv9_5 = execOp (Act.eval ⟨#[undef], []⟩) ⟨some 0, .fieldAddr 115 (.const (.pointer (some ⟨b0, off + i * 2, none⟩))) 0, 0, "", #[], none⟩ := by simp only [execOp, eval_const, opv9_5, r38]
    refine Lid.mk ?_
    unfold Oper.wp
    rw [he]
    clear he
    go_simp
    exact hK.out _ _ (InvG.next (W := W) hv 5 (.pointer (some ⟨b0, off + i * 2, none⟩)) (put_in 5 hnd rfl) (fun _ _ h => h) rfl ⟨hO, hU, c0, hb⟩)
  case o6 =>
    rintro Q' L _ W h0L hpre ⟨v, rfl, hv, hO, hU, c0, hb⟩ K hK
    have r39 : (putS a [34, 35, 36, 37, 38, 39, 40, 41, 42, 43] v).eval (.tmp 39) = _ := (eval_in 5 hnd rfl (by omega)).trans (hv 5 (hpre 5 (by simp)))
    have he : execOp (putS a [34, 35, 36, 37, 38, 39, 40, 41, 42, 43] v).eval opv9_6 = execOp (Act.eval ⟨#[undef], []⟩) ⟨some 0, .load 9 (.const (.pointer (some ⟨b0, off + i * 2, none⟩))), 0, "", #[], none⟩ := by simp only [execOp, eval_const, opv9_6, r39]
    refine Lid.mk ?_
    unfold Oper.wp
    rw [he]
    clear he
    go_simp
    exact hK.out _ _ (InvG.next (W := W) hv 6 (.string key) (put_in 6 hnd rfl) (fun _ _ h => h) rfl ⟨hO, hU, c0, hb⟩)
  case o7 =>
    rintro Q' L _ W h0L hpre ⟨v, rfl, hv, hO, hU, c0, hb⟩ K hK
    have r34 : (putS a [34, 35, 36, 37, 38, 39, 40, 41, 42, 43] v).eval (.tmp 34) = _ := (eval_in 0 hnd rfl (by omega)).trans (hv 0 (hpre 0 (by simp)))
    have r40 : (putS a [34, 35, 36, 37, 38, 39, 40, 41, 42, 43] v).eval (.tmp 40) = _ := (eval_in 6 hnd rfl (by omega)).trans (hv 6 (hpre 6 (by simp)))
    have HPW := HP W hb
    have he : execOp (putS a [34, 35, 36, 37, 38, 39, 40, 41, 42, 43] v).eval opv9_7 = execOp (Act.eval ⟨#[undef], []⟩) ⟨some 0, .call { callee := .value (.func 89), args := #[.const (.agg #[.string kind, .string name, (.slice oa on oc)]), .const (.string key)], argTypes := #[46, 9] }, 0, "", #[], none⟩ := by simp only [execOp, eval_const, opv9_7, resolve, eval_func, List.map_toArray, List.map_cons, List.map_nil, r34, r40]
    refine Lid.mk ?_
    unfold Oper.wp
    rw [he]
    clear he
    go_simp
    refine HPW.mono ?_
    rintro e W' ⟨q, m, cc, rfl, hK0, b'⟩
    exact hK.out _ _ (InvG.next (W := W) hv 7 (.slice q m cc) (put_in 7 hnd rfl) (fun _ _ h => h) ⟨q, m, cc, rfl, hK0⟩ ⟨(b'.block O (Array.getElem?_eq_some_iff.1 hO).1).trans hO, (b'.cell (World.block_lt_of_cell? _ _ hU)).trans hU, (b'.cell (World.block_lt_of_cell? _ _ c0)).trans c0, hb.trans (b'.mono hb.size)⟩)
  case o8 =>
    rintro Q' L _ W h0L hpre ⟨v, rfl, hv, hO, hU, c0, hb⟩ K hK
    obtain ⟨q, m, cc, e7, hm⟩ := hv 7 (hpre 7 (by simp))
    have r41 : (putS a [34, 35, 36, 37, 38, 39, 40, 41, 42, 43] v).eval (.tmp 41) = _ := (eval_in 7 hnd rfl (by omega)).trans e7
    refine Lid.mk ?_
    unfold Oper.wp
    simp only [execOp, opv9_8, resolve, List.map_toArray, List.map_cons, List.map_nil, r41]
    go_simp
    exact hK.out _ _ (InvG.next (W := W) hv 8 (.int .i64 (m : Int)) (put_in 8 hnd rfl) (fun _ _ h => h) ⟨m, rfl, hm⟩ ⟨hO, hU, c0, hb⟩)
  case o9 =>
    rintro Q' L _ W h0L hpre ⟨v, rfl, hv, hO, hU, c0, hb⟩ K hK
    obtain ⟨m, e8, hm⟩ := hv 8 (hpre 8 (by simp))
    have r42 : (putS a [34, 35, 36, 37, 38, 39, 40, 41, 42, 43] v).eval (.tmp 42) = _ := (eval_in 8 hnd rfl (by omega)).trans e8
    refine Lid.mk ?_
    unfold Oper.wp
    simp only [execOp, opv9_9, eval_const, r42]
    go_simp
    exact hK.out _ _ (InvG.next (W := W) hv 9 (.bool KK) (put_in 9 hnd rfl) (fun _ _ h => h) rfl ⟨hO, hU, c0, hb⟩)
end Go.Proofs.YtpdahhnjhggocaaGreatDoor
namespace Go.Proofs.YtpdahhnjhggocaaGreatDoor
open Go.RowKit
structure L6S (w : World) (U O X : Nat) (u o : BAt) (ls : List LAt) (v : Value) (W : World) : Prop where
  bw : Below w.heap.size w W
  ub : W.heap[U]? = some (.cells #[.string u.kind, .string u.name, u.v] 46 (0, 0))
  ob : W.heap[O]? = some (.cells #[.string o.kind, .string o.name, o.v] 46 (0, 0))
  xb : W.heap[X]? = some (.cells #[.string o.kind, .string o.name, v] 46 (0, 0))
  rb : W.heap[w.heap.size + 2]? = some (.cells #[.string ⟨#[]⟩, .string ⟨#[]⟩, .slice none 0 0] 46 (0, 0))
  uin : BlockIn W u
  oin : BlockIn W o
  lin : LinesIn W v ls
  mem : ∀ y ∈ ls, y ∈ o.ls ∨ y ∈ u.ls
  far : ∀ q, q ≤ X → LinesFar q u.v u.ls → LinesFar q o.v o.ls → LinesFar q v ls
  ufar : ∀ q, w.heap.size ≤ q → LinesFar q u.v u.ls
  ofar : ∀ q, w.heap.size ≤ q → LinesFar q o.v o.ls
theorem L6S.below {w : World} {U O X : Nat} {u o : BAt} {ls : List LAt} {v : Value} {W W' : World} (h : L6S w U O X u o ls v W) (hb : Below W.heap.size W W') : L6S w U O X u o ls v W' :=
  ⟨h.bw.trans (hb.mono h.bw.size), (hb.block U (Array.getElem?_eq_some_iff.1 h.ub).1).trans h.ub, (hb.block O (Array.getElem?_eq_some_iff.1 h.ob).1).trans h.ob, (hb.block X (Array.getElem?_eq_some_iff.1 h.xb).1).trans h.xb, (hb.block _ (Array.getElem?_eq_some_iff.1 h.rb).1).trans h.rb, h.uin.below hb, h.oin.below hb, h.lin.below hb, h.mem, h.far, h.ufar, h.ofar⟩
theorem L6S.put {w : World} {U O X : Nat} {u o : BAt} {ls ls' : List LAt} {v v' : Value} {x : LAt} {W W1 W2 : World} (h : L6S w U O X u o ls v W) (hU : U = w.heap.size) (hO : O = w.heap.size + 1) (hX : X = w.heap.size + 3) (hb1 : Below W.heap.size W W1) (hb2 : Below W1.heap.size W1 W2) (hl : LinesIn W2 v' ls') (hm : ∀ y ∈ ls', y = x ∨ y ∈ ls) (hx : x ∈ o.ls ∨ x ∈ u.ls) (hf : ∀ q, q < W1.heap.size → LinesFar q v ls → FarV q x.v x.ws.length → LinesFar q v' ls') :
    L6S w U O X u o ls' v' (((W2.setCell ⟨X, 0, none⟩ (.string o.kind)).setCell ⟨X, 1, none⟩ (.string o.name)).setCell ⟨X, 2, none⟩ v') := by
  have h1 := h.below hb1
  have h2 := h1.below hb2
  obtain ⟨z, gz⟩ := box_turn (k' := o.kind) (n' := o.name) (v' := v') h2.xb
  have hXl : X < W1.heap.size := (Array.getElem?_eq_some_iff.1 h1.xb).1
  have hbz := h2.bw.size
  have hfx : ∀ q, LinesFar q u.v u.ls → LinesFar q o.v o.ls → FarV q x.v x.ws.length := fun q hu ho => by
    rcases hx with hx | hx
    · exact ho.2 x hx
    · exact hu.2 x hx
  have hfar : ∀ q, q ≤ X → LinesFar q u.v u.ls → LinesFar q o.v o.ls → LinesFar q v' ls' := fun q hq hu ho => hf q (by omega) (h.far q hq hu ho) (hfx q hu ho)
  refine ⟨belowGrown h2.bw h2.bw.size (by omega) gz, (gz.block U (Array.getElem?_eq_some_iff.1 h2.ub).1 (by intro e; have := Option.some.inj e; omega)).trans h2.ub, (gz.block O (Array.getElem?_eq_some_iff.1 h2.ob).1 (by intro e; have := Option.some.inj e; omega)).trans h2.ob, z, (gz.block _ (Array.getElem?_eq_some_iff.1 h2.rb).1 (by intro e; have := Option.some.inj e; omega)).trans h2.rb, LinesIn.far h2.uin (h.ufar X (by omega)) gz, LinesIn.far h2.oin (h.ofar X (by omega)) gz, hl.far (hfar X (Nat.le_refl _) (h.ufar X (by omega)) (h.ofar X (by omega))) gz, fun y hy => ?_, hfar, h.ufar, h.ofar⟩
  rcases hm y hy with rfl | hy
  · exact hx
  · exact h.mem y hy
def L6Post (u o : BAt) (w : World) (e : Ending) (w' : World) : Prop := ∃ a n c ls, e = .returned (.agg #[.string o.kind, .string o.name, .slice a n c]) ∧ (ls.map LAt.plain = overL (rulesOf o.kind) (u.ls.map LAt.plain) (o.ls.map LAt.plain) ∧ (∀ y ∈ ls, y ∈ o.ls ∨ y ∈ u.ls) ∧ LinesIn w' (.slice a n c) ls ∧ ∀ q, q < w.heap.size → LinesFar q u.v u.ls → LinesFar q o.v o.ls → LinesFar q (.slice a n c) ls) ∧ Below w.heap.size w w'
def LoopV (w : World) (u o : BAt) (i : Value) (W : World) : Prop := ∃ (j : Nat) (v : Value) (ls : List LAt), i = .int .i64 (j : Int) ∧ j ≤ o.ls.length ∧ ls.length = j ∧ ls.map LAt.plain = normLs (rulesOf o.kind) ((o.ls.map LAt.plain).take j) ∧ L6S w w.heap.size (w.heap.size + 1) (w.heap.size + 3) u o ls v W
def LoopU (w : World) (u o : BAt) (i : Value) (W : World) : Prop := ∃ (j : Nat) (v : Value) (ls : List LAt), i = .int .i64 (j : Int) ∧ j ≤ u.ls.length ∧ ls.length ≤ o.ls.length + j ∧ ls.map LAt.plain = normLs (rulesOf o.kind) (o.ls.map LAt.plain ++ leftL ((u.ls.map LAt.plain).take j) (o.ls.map LAt.plain)) ∧ L6S w w.heap.size (w.heap.size + 1) (w.heap.size + 3) u o ls v W
theorem small_sub {o u : BAt} {ls : List LAt} (ho : LinesSmall o.ls) (hu : LinesSmall u.ls) (hm : ∀ y ∈ ls, y ∈ o.ls ∨ y ∈ u.ls) (hl : ls.length ≤ 1048576) : LinesSmall ls := ⟨hl, fun x hx => by
  rcases hm x hx with h | h
  · exact ho.2 x h
  · exact hu.2 x h⟩
theorem map_take_snoc {α β : Type} (f : α → β) {L D T : List α} {x : α} (e : L = D ++ x :: T) : (L.map f).take (D.length + 1) = (L.map f).take D.length ++ [f x] := by
  subst e
  have hl : (D.map f).length = D.length := by simp
  rw [List.map_append, List.map_cons, ← hl, List.take_append_of_le_length (Nat.le_refl _), List.take_length, List.take_append, List.take_of_length_le (by omega)]
  simp
theorem left_snoc {us os : List PLine} {a : PLine} : leftL (us ++ [a]) os = leftL us os ++ (if (!hasK os a.key) = true then [a] else []) := by
  unfold leftL
  rw [List.filter_append]
  congr 1
  simp [List.filter_cons]
def PutP (R : List Plain) (ls : List LAt) (v : Value) (x : LAt) (W1 : World) (v' : Value) (W2 : World) : Prop := ∃ ls' : List LAt, ls'.map LAt.plain = putIn (lineLt R) x.plain (ls.map LAt.plain) ∧ ls'.length = ls.length + 1 ∧ (∀ y ∈ ls', y = x ∨ y ∈ ls) ∧ LinesIn W2 v' ls' ∧ ∀ q, q < W1.heap.size → LinesFar q v ls → FarV q x.v x.ws.length → LinesFar q v' ls'
theorem putLine_p {kind name : ByteArray} {v : Value} {ls : List LAt} {x : LAt} {W : World} (hb : LinesIn W v ls) (hs : LinesSmall ls) (hx : LineIn W x) (hxs : x.ws.length ≤ 1048576) : Calls Tryz.prog 86 #[.agg #[.string kind, .string name, v], .agg #[.string x.key, x.v]] W fun e w' => ∃ q m cc, e = .returned (.agg #[.string kind, .string name, .slice q m cc]) ∧ PutP (rulesOf kind) ls v x W (.slice q m cc) w' ∧ Below W.heap.size W w' := by
  refine (l3PutLine_all (b := ⟨kind, name, v, ls⟩) (x := x) hb hs hx hxs).mono ?_
  rintro e w' ⟨a, n, c, ls', rfl, h, b⟩
  exact ⟨a, n, c, rfl, ⟨ls', h⟩, b⟩
theorem L6S.out {w : World} {u o : BAt} {ls : List LAt} {a : Option Addr} {n c : Nat} {W : World} (h : L6S w w.heap.size (w.heap.size + 1) (w.heap.size + 3) u o ls (.slice a n c) W) (hp : ls.map LAt.plain = overL (rulesOf o.kind) (u.ls.map LAt.plain) (o.ls.map LAt.plain)) (cs : Array Value) : L6Post u o w (.returned (.agg #[.string o.kind, .string o.name, .slice a n c])) (W.setRow (w.heap.size + 2) cs) := by
  have gs := grown_setRow W (w.heap.size + 2) cs
  exact ⟨a, n, c, ls, rfl, ⟨hp, h.mem, h.lin.far (h.far _ (by omega) (h.ufar _ (by omega)) (h.ofar _ (by omega))) gs, fun q hq hu ho => h.far q (by omega) hu ho⟩, belowGrown h.bw h.bw.size (by omega) gs⟩
set_option maxHeartbeats 16000000 in
set_option maxRecDepth 100000 in
theorem l6Block_any {u o : BAt} {w : World} (hu : BlockIn w u) (ho : BlockIn w o) (hsu : LinesSmall u.ls) (hso : LinesSmall o.ls) (hl : o.ls.length + u.ls.length ≤ 1000000) : Calls Tryz.prog 53 #[.agg #[.string u.kind, .string u.name, u.v], .agg #[.string o.kind, .string o.name, o.v]] w fun e w' => L6Post u o w e w' := by
  obtain ⟨ua, uc, eu⟩ := hu.1.form
  obtain ⟨oa, oc, eo⟩ := ho.1.form
  obtain ⟨uk, un, uv, ul⟩ := u
  obtain ⟨ok, on, ov, ol⟩ := o
  simp only at eu eo hsu hso hl
  subst eu eo
  have a3 := alloc3 (w := w) (o1 := .cells #[.string uk, .string un, .slice ua ul.length uc] 46) (o2 := .cells #[.string ok, .string on, .slice oa ol.length oc] 46) (o3 := .cells #[.string ⟨#[]⟩, .string ⟨#[]⟩, .slice none 0 0] 46)
  have b3 : Below w.heap.size w (((w.alloc (.cells #[.string uk, .string un, .slice ua ul.length uc] 46)).alloc (.cells #[.string ok, .string on, .slice oa ol.length oc] 46)).alloc (.cells #[.string ⟨#[]⟩, .string ⟨#[]⟩, .slice none 0 0] 46)) := (((Below.refl _ _).alloc (Nat.le_refl _) _).alloc (by simp) _).alloc (by simp; omega) _
  have co0 := cell_of_block a3.2.2.1 0
  have co1 := cell_of_block a3.2.2.1 1
  simp only [List.getElem?_toArray, List.getElem?_cons_zero, List.getElem?_cons_succ] at co0 co1
  obtain ⟨s3, hub, hob, hrb⟩ := a3
  have HL0 : L6S w w.heap.size (w.heap.size + 1) (w.heap.size + 3) ⟨uk, un, .slice ua ul.length uc, ul⟩ ⟨ok, on, .slice oa ol.length oc, ol⟩ [] (.slice none 0 0) ((((w.alloc (.cells #[.string uk, .string un, .slice ua ul.length uc] 46)).alloc (.cells #[.string ok, .string on, .slice oa ol.length oc] 46)).alloc (.cells #[.string ⟨#[]⟩, .string ⟨#[]⟩, .slice none 0 0] 46)).alloc (.cells #[.string ok, .string on, .slice none 0 0] 46)) := by
    generalize hW3 : ((w.alloc (.cells #[.string uk, .string un, .slice ua ul.length uc] 46)).alloc (.cells #[.string ok, .string on, .slice oa ol.length oc] 46)).alloc (.cells #[.string ⟨#[]⟩, .string ⟨#[]⟩, .slice none 0 0] 46) = W3 at *
    have x4 := (Below.refl W3.heap.size W3).alloc (Nat.le_refl _) (.cells #[.string ok, .string on, .slice none 0 0] 46)
    have z4 := alloc_here W3 (.cells #[.string ok, .string on, .slice none 0 0] 46)
    rw [s3] at z4
    have b4 := b3.trans (x4.mono b3.size)
    exact ⟨b4, (x4.block _ (by omega)).trans hub, (x4.block _ (by omega)).trans hob, z4, (x4.block _ (by omega)).trans hrb, BlockIn.below hu (b4.mono (Nat.le_refl _)), BlockIn.below ho (b4.mono (Nat.le_refl _)), ⟨⟨rfl, none, 0, rfl, ⟨Nat.le_refl _, Nat.zero_le _⟩, .inl rfl⟩, by simp⟩, by simp, fun q _ _ _ => ⟨.inl rfl, by simp⟩, fun q hq => LinesIn.fresh hu hq, fun q hq => LinesIn.fresh ho hq⟩
  have HLH := hid_in HL0
  have HSU := hid_in hsu
  have HSO := hid_in hso
  have HU := hid_in hu
  have HO := hid_in ho
  clear HL0 hu ho hsu hso hub hob hrb b3
  generalize hnu : ul.length = nu at *
  generalize hno : ol.length = no at *
  have ENU := hid_in hnu
  have ENO := hid_in hno
  clear hnu hno
  go_enter Tryz.func53, Tryz.ntmps53
  go_wp2
  go_loopw [6] (fun i wr => LoopV w ⟨uk, un, .slice ua nu uc, ul⟩ ⟨ok, on, .slice oa no oc, ol⟩ i wr) (fun i _ => no - (intOf i).toNat)
  case atStart => exact ⟨0, .slice none 0 0, [], rfl, Nat.zero_le _, rfl, by simp [normLs], HLH.out⟩
  case round =>
    obtain ⟨j, v, ls, rfl, hj, hlj, hpl, HS⟩ := hrel
    simp only [ENO.out] at hj
    simp only at hpl
    clear HLH
    have cO := cell_of_block HS.ob 2
    simp only [List.getElem?_toArray, List.getElem?_cons_zero, List.getElem?_cons_succ] at cO
    obtain ⟨ba, bc, rfl⟩ := HS.lin.1.form
    by_cases hlt : j < no
    · have hlt' : (j : Int) < (no : Int) := by omega
      obtain ⟨D, ⟨xk, xv, xw⟩, T, eol, hD⟩ := split1 ol j (by have := ENO.out; omega)
      have hrow := HS.oin.1
      simp only at hrow
      rw [eol] at hrow
      obtain ⟨b0, off, rfl, c0, c1⟩ := hrow.line
      rw [hD] at c0 c1
      have hxin := HS.oin.2 ⟨xk, xv, xw⟩ (by rw [eol]; simp)
      obtain ⟨xa, xc, exv⟩ := hxin.form
      simp only at exv
      subst exv
      have hxs := (HSO.out.2 ⟨xk, .slice xa xw.length xc, xw⟩ (by rw [eol]; simp)).1
      have hmx : (⟨xk, .slice xa xw.length xc, xw⟩ : LAt) ∈ ol := by rw [eol]; simp
      have HP : ∀ W, Below wr.heap.size wr W → Calls Tryz.prog 86 #[.agg #[.string ok, .string on, .slice ba ls.length bc], .agg #[.string xk, .slice xa xw.length xc]] W fun e w' => ∃ q m cc, e = .returned (.agg #[.string ok, .string on, .slice q m cc]) ∧ PutP (rulesOf ok) ls (.slice ba ls.length bc) ⟨xk, .slice xa xw.length xc, xw⟩ W (.slice q m cc) w' ∧ Below W.heap.size W w' := fun W hb => putLine_p (x := ⟨xk, .slice xa xw.length xc, xw⟩) (HS.lin.below hb) (small_sub HSO.out HSU.out HS.mem (by have := ENO.out; omega)) (LineIn.below hxin hb) hxs
      have hnx := hid_in (show normLs (rulesOf ok) ((ol.map LAt.plain).take (j + 1)) = putIn (lineLt (rulesOf ok)) (LAt.plain ⟨xk, .slice xa xw.length xc, xw⟩) (ls.map LAt.plain) from by rw [hpl, ← hD, map_take_snoc LAt.plain eol, normLs_snoc])
      have HSH := hid_in HS
      have xb := HS.xb
      have HLJ := hid_in hlj
      simp only at xb
      clear HS hrow hxin hxs hpl eol
      generalize hnl : ls.length = nl at *
      generalize hnw : xw.length = nw at *
      go_upto_region 5 with fail
      refine regionV5 (PutP (rulesOf ok) ls (.slice ba nl bc) ⟨xk, .slice xa nw xc, xw⟩) xb cO c0 c1 (by omega) HP (by kernel_rfl) (by kernel_rfl) (by kernel_rfl) (by kernel_rfl) ?_
      rintro v2 a' q m cc W1 W2 ha' hb1 ⟨ls', h1, h2, h3, h4, h5⟩ hb2
      simp only [putS, setS, List.setIfInBounds_toArray, List.set_cons_zero, List.set_cons_succ] at ha'
      subst ha'
      have HS2 := hid_in (HSH.out.put rfl rfl rfl hb1 hb2 h4 h3 (.inl hmx) h5)
      have HPL := hid_in (h1.trans hnx.out.symm)
      clear HP HSH h1 h3 h4 h5 hb1 hb2 c0 c1 cO xb
      go_wp2
      go_roundw
      case rel => exact ⟨j + 1, .slice q m cc, ls', by go_num, by simp only; have := ENO.out; omega, by omega, HPL.out, HS2.out⟩
      case measure => simp [intOf]; omega
    · obtain rfl : j = no := by omega
      have hlt' : ¬ ((j : Int) < (j : Int)) := by omega
      have hall : (ol.map LAt.plain).take j = ol.map LAt.plain := List.take_of_length_le (by rw [List.length_map, ENO.out]; exact Nat.le_refl _)
      rw [hall] at hpl
      have HSH := hid_in HS
      have HPL := hid_in hpl
      clear HS hpl hall
      generalize hnl : ls.length = nl at *
      go_wp2
      go_loopw [7] (fun i wr => LoopU w ⟨uk, un, .slice ua nu uc, ul⟩ ⟨ok, on, .slice oa j oc, ol⟩ i wr) (fun i _ => nu - (intOf i).toNat)
      case atStart => exact ⟨0, .slice ba nl bc, ls, rfl, Nat.zero_le _, by simp only; have := ENO.out; omega, by simpa [leftL] using HPL.out, HSH.out⟩
      case round =>
        obtain ⟨k, v2, ls2, rfl, hk, hl2, hpl2, HS⟩ := hrel
        simp only [ENU.out] at hk
        simp only at hpl2 hl2
        clear HSH HPL
        have cU := cell_of_block HS.ub 2
        simp only [List.getElem?_toArray, List.getElem?_cons_zero, List.getElem?_cons_succ] at cU
        obtain ⟨ba2, bc2, rfl⟩ := HS.lin.1.form
        by_cases hlt2 : k < nu
        · have hlt2' : (k : Int) < (nu : Int) := by omega
          obtain ⟨D, ⟨xk, xv, xw⟩, T, eul, hD⟩ := split1 ul k (by have := ENU.out; omega)
          have hrow := HS.uin.1
          simp only at hrow
          rw [eul] at hrow
          obtain ⟨b0, off, rfl, c0, c1⟩ := hrow.line
          rw [hD] at c0 c1
          have hxin := HS.uin.2 ⟨xk, xv, xw⟩ (by rw [eul]; simp)
          obtain ⟨xa, xc, exv⟩ := hxin.form
          simp only at exv
          subst exv
          have hxs := (HSU.out.2 ⟨xk, .slice xa xw.length xc, xw⟩ (by rw [eul]; simp)).1
          have hmx : (⟨xk, .slice xa xw.length xc, xw⟩ : LAt) ∈ ul := by rw [eul]; simp
          have HKN : ∀ W, Below wr.heap.size wr W → Calls Tryz.prog 89 #[.agg #[.string ok, .string on, .slice oa j oc], .string xk] W fun e w' => NonePost (!hasK (ol.map LAt.plain) xk) W e w' := fun W hb => l5Of_none xk (b := ⟨ok, on, .slice oa j oc, ol⟩) (BlockIn.below HS.oin hb) HSO.out
          have hleft := hid_in (show leftL ((ul.map LAt.plain).take (k + 1)) (ol.map LAt.plain) = leftL ((ul.map LAt.plain).take k) (ol.map LAt.plain) ++ (if (!hasK (ol.map LAt.plain) xk) = true then [LAt.plain ⟨xk, .slice xa xw.length xc, xw⟩] else []) from by rw [← hD, map_take_snoc LAt.plain eul, left_snoc]; rfl)
          have HPL2 := hid_in hpl2
          have ob := HS.ob
          simp only at ob
          cases hKK : (!hasK (ol.map LAt.plain) xk)
          · rw [hKK] at HKN
            have hpl3 := hid_in (show ls2.map LAt.plain = normLs (rulesOf ok) (ol.map LAt.plain ++ leftL ((ul.map LAt.plain).take (k + 1)) (ol.map LAt.plain)) from by rw [hleft.out, hKK, HPL2.out]; simp)
            have HSH := hid_in HS
            clear HS hrow hxin hxs hpl2 eul hleft HPL2 hKK
            generalize hnl2 : ls2.length = nl2 at *
            generalize hnw : xw.length = nw at *
            go_upto_region 9 with fail
            refine regionV9 ob cU c0 (by omega) HKN (by kernel_rfl) (by kernel_rfl) (by kernel_rfl) (by kernel_rfl) ?_
            intro v3 a' W' ha' e9 hb
            simp only [putS, setS, List.setIfInBounds_toArray, List.set_cons_zero, List.set_cons_succ, e9] at ha'
            subst ha'
            have HS3 := hid_in (HSH.out.below hb)
            clear HKN HSH hb c0 c1 cU ob e9
            go_wp2
            go_roundw
            case rel => exact ⟨k + 1, .slice ba2 nl2 bc2, ls2, by go_num, by simp only; have := ENU.out; omega, by simp only; omega, hpl3.out, HS3.out⟩
            case measure => simp [intOf]; omega
          · rw [hKK] at HKN
            have hpl3 := hid_in (show normLs (rulesOf ok) (ol.map LAt.plain ++ leftL ((ul.map LAt.plain).take (k + 1)) (ol.map LAt.plain)) = putIn (lineLt (rulesOf ok)) (LAt.plain ⟨xk, .slice xa xw.length xc, xw⟩) (ls2.map LAt.plain) from by rw [hleft.out, hKK, HPL2.out, if_pos rfl, ← List.append_assoc, normLs_snoc])
            have hsm2 : LinesSmall ls2 := small_sub HSO.out HSU.out HS.mem (by have := ENO.out; have := ENU.out; omega)
            have HSH := hid_in HS
            have HXI := hid_in hxin
            have HXS := hid_in hxs
            have HSM2 := hid_in hsm2
            clear HS hrow hxin hxs hpl2 eul hleft HPL2 hKK hsm2
            generalize hnl2 : ls2.length = nl2 at *
            generalize hnw : xw.length = nw at *
            go_upto_region 9 with fail
            refine regionV9 ob cU c0 (by omega) HKN (by kernel_rfl) (by kernel_rfl) (by kernel_rfl) (by kernel_rfl) ?_
            intro v3 a' W' ha' e9 hb
            simp only [putS, setS, List.setIfInBounds_toArray, List.set_cons_zero, List.set_cons_succ, e9] at ha'
            subst ha'
            have HS3 := HSH.out.below hb
            have xb3 := HS3.xb
            simp only at xb3
            have cU3 := (hb.cell (World.block_lt_of_cell? _ _ cU)).trans cU
            have c03 := (hb.cell (World.block_lt_of_cell? _ _ c0)).trans c0
            have c13 := (hb.cell (World.block_lt_of_cell? _ _ c1)).trans c1
            have HP : ∀ W, Below W'.heap.size W' W → Calls Tryz.prog 86 #[.agg #[.string ok, .string on, .slice ba2 nl2 bc2], .agg #[.string xk, .slice xa nw xc]] W fun e w' => ∃ q m cc, e = .returned (.agg #[.string ok, .string on, .slice q m cc]) ∧ PutP (rulesOf ok) ls2 (.slice ba2 nl2 bc2) ⟨xk, .slice xa nw xc, xw⟩ W (.slice q m cc) w' ∧ Below W.heap.size W w' := fun W hb2 => putLine_p (x := ⟨xk, .slice xa nw xc, xw⟩) (HS3.lin.below hb2) HSM2.out (LineIn.below (LineIn.below HXI.out hb) hb2) (by simp only; rw [hnw]; exact HXS.out)
            have HS3H := hid_in HS3
            clear HKN HSH c0 c1 cU ob e9 HS3
            go_upto_region 10 with fail
            refine regionV10 (PutP (rulesOf ok) ls2 (.slice ba2 nl2 bc2) ⟨xk, .slice xa nw xc, xw⟩) xb3 cU3 c03 c13 (by omega) HP (by kernel_rfl) (by kernel_rfl) (by kernel_rfl) (by kernel_rfl) ?_
            rintro v4 a' q m cc W1 W2 ha' hb1 ⟨ls', h1, h2, h3, h4, h5⟩ hb2
            simp only [putS, setS, List.setIfInBounds_toArray, List.set_cons_zero, List.set_cons_succ] at ha'
            subst ha'
            have HS4 := hid_in (HS3H.out.put rfl rfl rfl hb1 hb2 h4 h3 (.inr hmx) h5)
            have HPL := hid_in (h1.trans hpl3.out.symm)
            clear HP HS3H h1 h3 h4 h5 hb1 hb2 c03 c13 cU3 xb3
            go_wp2
            go_roundw
            case rel => exact ⟨k + 1, .slice q m cc, ls', by go_num, by simp only; have := ENU.out; omega, by simp only; omega, HPL.out, HS4.out⟩
            case measure => simp [intOf]; omega
        · obtain rfl : k = nu := by omega
          have hlt2' : ¬ ((k : Int) < (k : Int)) := by omega
          have hall : (ul.map LAt.plain).take k = ul.map LAt.plain := List.take_of_length_le (by rw [List.length_map, ENU.out]; exact Nat.le_refl _)
          rw [hall] at hpl2
          have HO := hid_in (HS.out hpl2 #[.string ok, .string on, .slice ba2 ls2.length bc2])
          have x0 := cell_of_block HS.xb 0
          have x1 := cell_of_block HS.xb 1
          have x2 := cell_of_block HS.xb 2
          simp only [List.getElem?_toArray, List.getElem?_cons_zero, List.getElem?_cons_succ] at x0 x1 x2
          have zR := HS.rb
          clear HS hpl2 hall
          generalize hnl2 : ls2.length = nl2 at *
          go_wp2_with (with_reducible show wpList _ _ _ (Oper.mk _ (Op.store _ (Operand.tmp 4) _) _ _ _ _ :: _) _ _; refine wpList_store_row rfl 46 _ _ rfl (w.heap.size + 2) #[.string ok, .string on, .slice ba2 nl2 bc2] ?_ ?_ 46 _ zR ?_ ?_ ?_ ?_)
          all_goals (first | rfl | kernel_rfl | exact ⟨rfl, rfl, rfl⟩ | (obtain ⟨i9, e9, _, s9, _⟩ := info_parts infoBlock; exact ⟨i9, e9, s9⟩) | skip)
          have z5 : (wr.setRow (w.heap.size + 2) #[.string ok, .string on, .slice ba2 nl2 bc2]).heap[w.heap.size + 2]? = some (.cells #[.string ok, .string on, .slice ba2 nl2 bc2] 46 (0, 0)) := setRow_heap _ _ _ _ _ _ zR
          have y0 := cell_of_block z5 0
          have y1 := cell_of_block z5 1
          have y2 := cell_of_block z5 2
          simp only [List.getElem?_toArray, List.getElem?_cons_zero, List.getElem?_cons_succ] at y0 y1 y2
          generalize wr.setRow (w.heap.size + 2) #[.string ok, .string on, .slice ba2 nl2 bc2] = W at HO y0 y1 y2 z5 ⊢
          exact bodyPost_ret (v := .agg #[.string ok, .string on, .slice ba2 nl2 bc2]) (by simp [results, Tryz.results53, go_sem, y0, y1, y2]) rfl HO.out
end Go.Proofs.YtpdahhnjhggocaaGreatDoor
