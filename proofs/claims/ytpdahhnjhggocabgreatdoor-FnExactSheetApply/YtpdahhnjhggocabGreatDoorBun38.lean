import Derived.Test.YtpdahhnjhggocabGreatDoorBun35
import Derived.Test.YtpdahhnjhggocabGreatDoorBun34
import Derived.Test.YtpdahhnjhggocabGreatDoorBun31
import Derived.Test.YtpdahhnjhggocabGreatDoorBun30
import Derived.Test.YtpdahhnjhggocabGreatDoorBun27
import Derived.Test.YtpdahhnjhggocabGreatDoorBun26
import Derived.Test.YtpdahhnjhggocabGreatDoorBun20
namespace Go.Proofs.YtpdahhnjhggocabGreatDoor
open Go.RowKit
end Go.Proofs.YtpdahhnjhggocabGreatDoor
namespace Go.Proofs.YtpdahhnjhggocabGreatDoor
open Go.RowKit
end Go.Proofs.YtpdahhnjhggocabGreatDoor
namespace Go.Proofs.YtpdahhnjhggocabGreatDoor
open Go.RowKit
theorem putIn_split {α : Type} (lt : α → α → Bool) (x : α) : ∀ (D T : List α), (∀ y ∈ D, lt y x = true) → (∀ y, T.head? = some y → lt y x = false) → putIn lt x (D ++ T) = D ++ x :: T
 | [], [], _, _ => rfl
 | [], y :: T, _, h => by
  have := h y rfl
  simp [putIn, this]
 | y :: D, T, h, h2 => by
  have h1 := h y (by simp)
  simp [putIn, h1, putIn_split lt x D T (fun z hz => h z (by simp [hz])) h2]
theorem HasRow.drop {w : World} {ao : Option Addr} {n cap size : Nat} {xs : List Value} (h : HasRow w (.slice ao n cap) n size xs) (k : Nat) (hk : k ≤ n) : HasRow w (.slice (if cap = k then ao else ao.map (fun a => a.add (k * size))) (n - k) (cap - k)) (n - k) size (xs.drop (k * size)) := by
 obtain ⟨hl, ao', c', hv, hcap, hc⟩ := h
 cases hv
 refine ⟨?_, _, _, rfl, ⟨by omega, by omega⟩, ?_⟩
 ·rw [List.length_drop, hl, Nat.sub_mul]
 ·by_cases hkn : n - k = 0
  ·exact .inl hkn
  ·rcases hc with h0 | ⟨b, off, rfl, hc⟩
   ·exact .inl (by omega)
   ·refine .inr ⟨b, off + k * size, ?_, fun j u hj => ?_⟩
    ·rw [if_neg (by omega), Option.map_some, add_at]
    ·rw [List.getElem?_drop] at hj
     have := hc _ u hj
     rwa [show off + (k * size + j) = off + k * size + j by omega] at this
def PutPost (R : List Plain) (b : BAt) (x : LAt) (w : World) (e : Ending) (w' : World) : Prop := ∃ v' D T, b.ls = D ++ T ∧ e = .returned (.agg #[.string b.kind, .string b.name, v']) ∧ (D ++ x :: T).map LAt.plain = putIn (lineLt R) x.plain (b.ls.map LAt.plain) ∧ w'.ownsRow w.heap.size 82 2 v' (D ++ x :: T).length ((D ++ x :: T).flatMap LAt.cells) ∧ Below w.heap.size w w'
set_option maxHeartbeats 8000000 in
set_option maxRecDepth 100000 in
theorem l3PutLine_any {b : BAt} {x : LAt} {w : World} (hb : BlockIn w b) (hs : LinesSmall b.ls) (hx : LineIn w x) (hxs : x.ws.length ≤ 1048576) : Calls Tryz.prog 70 #[.agg #[.string b.kind, .string b.name, b.v], .agg #[.string x.key, x.v]] w fun e w' => PutPost (rulesOf b.kind) b x w e w' := by
 obtain ⟨bk, bn, bv, bl⟩ := b
 obtain ⟨xk, xv, xw⟩ := x
 unfold BlockIn at hb
 unfold LineIn at hx
 simp only at *
 obtain ⟨la, lc, rfl⟩ := hb.1.form
 obtain ⟨xa, xc, rfl⟩ := hx.form
 have b0 : Below w.heap.size w (((w.alloc (.cells #[.string bk, .string bn, .slice la bl.length lc] 64)).alloc (.cells #[.string xk, .slice xa xw.length xc] 82)).alloc (.cells #[.string ⟨#[]⟩, .string ⟨#[]⟩, .slice none 0 0] 64)) := (((Below.refl _ _).alloc (Nat.le_refl _) _).alloc (by simp) _).alloc (by simp; omega) _
 obtain ⟨hsz, hy0, hy1, hy2⟩ := alloc3 (w := w) (o1 := .cells #[.string bk, .string bn, .slice la bl.length lc] 64) (o2 := .cells #[.string xk, .slice xa xw.length xc] 82) (o3 := .cells #[.string ⟨#[]⟩, .string ⟨#[]⟩, .slice none 0 0] 64)
 have hbs := hid_in hb
 have hsm := hid_in hs
 have hxi := hid_in hx
 have hl := hs.1
 clear hb hs hx
 generalize hn : bl.length = len at *
 have en := hid_in hn
 clear hn
 generalize hnx : xw.length = nx at *
 have enx := hid_in hnx
 clear hnx
 generalize hW0 : ((w.alloc (.cells #[.string bk, .string bn, .slice la len lc] 64)).alloc (.cells #[.string xk, .slice xa nx xc] 82)).alloc (.cells #[.string ⟨#[]⟩, .string ⟨#[]⟩, .slice none 0 0] 64) = W0 at *
 have eW0 := hid_in hW0
 have hszW := hid_in hsz
 clear hW0 hsz
 go_enter Tryz.func70, Tryz.ntmps70
 go_wp2
 go_loopw [5] (fun i wr => ∃ (D T : List LAt), i = .int .i64 (D.length : Int) ∧ D.length ≤ len ∧ Hid (bl = D ++ T) ∧ Hid (∀ y ∈ D.map LAt.plain, lineLt (rulesOf bk) y ⟨xk, xw⟩ = true) ∧ Below W0.heap.size W0 wr) (fun i _ => len - (intOf i).toNat)
 case atStart =>
  rw [eW0.out]
  exact ⟨[], bl, rfl, by simp, (rfl : bl = [] ++ bl), (by simp : ∀ y ∈ ([] : List LAt).map LAt.plain, _), Below.refl _ _⟩
 case round =>
  obtain ⟨D, T, rfl, hDl, hDT, hlt, bw⟩ := hrel
  have gw := b0.trans (bw.mono b0.size)
  have hs3 := hszW.out
  have z0 := (bw.block w.heap.size (by omega)).trans hy0
  have z1 := (bw.block (w.heap.size + 1) (by omega)).trans hy1
  have z2 := (bw.block (w.heap.size + 2) (by omega)).trans hy2
  have c0 := cell_of_block z0 0
  have c2 := cell_of_block z0 2
  have d0 := cell_of_block z1 0
  have d1 := cell_of_block z1 1
  simp only [List.getElem?_toArray, List.getElem?_cons_zero, List.getElem?_cons_succ] at c0 c2 d0 d1
  have hszw := bw.size
  have v0 := fun p : Gr wr => gr_cell c0 p
  have v2 := fun p : Gr wr => gr_cell c2 p
  have u0 := fun p : Gr wr => gr_cell d0 p
  have u1 := fun p : Gr wr => gr_cell d1 p
  have HBS := hid_in (hbs.out.below gw)
  have HXI := hid_in (hxi.out.below gw)
  clear c0 c2 d0 d1 hy0 hy1 hy2
  go_upto_region 2 with fail
  go_cut [21] from 6 to 21 (fun c wx => ∃ B : Bool, c = .bool B ∧ Hid ((B = true → ∃ y T', T = y :: T' ∧ lineLt (rulesOf bk) y.plain ⟨xk, xw⟩ = true) ∧ (B = false → ∀ y, (T.map LAt.plain).head? = some y → lineLt (rulesOf bk) y ⟨xk, xw⟩ = false)) ∧ Below wr.heap.size wr wx)
  case first =>
   cases T with
   | nil =>
    have hDlen : D.length = len := by rw [← en.out, hDT.out]; simp
    have hno : ¬ ((D.length : Int) < (len : Int)) := by omega
    clear hDlen
    clear HBS HXI hDT hlt u0 u1 v0 z0 z1 z2 hbs hxi hsm
    refine wp_region_gr (by kernel_rfl) (by kernel_rfl) ?_
    iterate 6 quiet_step (fail)
    iterate 9 (with_reducible refine quiet_skip ?_ ?_; kernel_rfl; simp only [Act.put, List.setIfInBounds_toArray, List.set_cons_zero, List.set_cons_succ])
    quiet_step (fail)
    refine wpQuiet_nil ?_
    rintro _ ⟨⟨wq, bq⟩, rfl⟩
    go_wp2_with fail
    go_meet
    exact ⟨false, rfl, ⟨(fun h => by cases h), fun _ y hy => by cases hy⟩, bq⟩
   | cons y T =>
    have hDlen : D.length < len := by have := en.out; rw [hDT.out] at this; simp at this; omega
    have h5 := HBS.out
    rw [hDT.out] at h5
    obtain ⟨g, off, rfl, y1, y2⟩ := h5.1.line
    have hym : y ∈ bl := by rw [hDT.out]; simp
    have hyin := HBS.out.2 y hym
    obtain ⟨ya, yc, ey⟩ := HasRow.form hyin
    have w1 := fun p : Gr wr => gr_cell y1 p
    have w2 := fun p : Gr wr => gr_cell y2 p
    rw [ey] at w2
    have hyl := (hsm.out.2 y hym).1
    have HLL : ∀ p : Gr wr, Calls Tryz.prog 138 #[.string bk, .agg #[.string y.key, .slice ya y.ws.length yc], .agg #[.string xk, .slice xa nx xc]] p.u fun e w' => e = .returned (.bool (lineLt (rulesOf bk) y.plain ⟨xk, xw⟩)) ∧ Below p.u.heap.size p.u w' := fun p =>
     l3LineLess_any bk y.plain ⟨xk, xw⟩ (ey ▸ HasRow.below hyin p.h) (by have := HXI.out.below p.h; rw [← enx.out] at this ⊢; exact this) hyl (by show xw.length ≤ _; rw [enx.out]; exact hxs)
    have hyes : ((D.length : Int) < (len : Int)) := by omega
    have i1 : (0 : Int) ≤ (D.length : Int) := by omega
    have hres := hid_in (show ∀ B, lineLt (rulesOf bk) y.plain ⟨xk, xw⟩ = B → ((B = true → ∃ y' T', y :: T = y' :: T' ∧ lineLt (rulesOf bk) y'.plain ⟨xk, xw⟩ = true) ∧ (B = false → ∀ y', ((y :: T).map LAt.plain).head? = some y' → lineLt (rulesOf bk) y' ⟨xk, xw⟩ = false)) from fun B hB => ⟨fun h => ⟨y, T, rfl, by rw [hB, h]⟩, fun h y' hy' => by cases hy'; rw [hB, h]⟩)
    generalize hLT : lineLt (rulesOf bk) y.plain ⟨xk, xw⟩ = LT at HLL
    have eLT := hid_in hLT
    clear hLT HBS HXI h5 hyin ey hDT hlt z0 z1 z2 hbs hxi hsm y1 y2 hym
    generalize y.key = yk at *
    generalize y.ws.length = ny at *
    refine wp_region_gr (by kernel_rfl) (by kernel_rfl) ?_
    iterate 14 quiet_step (fail)
    quiet_step ((go_at_call 138; refine gr_of (HLL _)))
    quiet_step (fail)
    refine wpQuiet_nil ?_
    rintro _ ⟨⟨wq, bq⟩, rfl⟩
    go_wp2_with fail
    go_meet
    exact ⟨LT, rfl, hres.out LT eLT.out, bq⟩
  case rest =>
   obtain ⟨wk, hwk⟩ : ∃ wk, wk = wc := ⟨_, rfl⟩
   subst hwk
   obtain ⟨B, rfl, hB, bk'⟩ := hcut
   have BK := bw.trans (bk'.mono bw.size)
   cases B
   ·have hst := hid_in (hB.out.2 rfl)
    have z0k := (bk'.block w.heap.size (by omega)).trans z0
    have z1k := (bk'.block (w.heap.size + 1) (by omega)).trans z1
    have z2k := (bk'.block (w.heap.size + 2) (by omega)).trans z2
    have gk := gw.trans (bk'.mono gw.size)
    have c2 := cell_of_block z0k 2
    have d0 := cell_of_block z1k 0
    have d1 := cell_of_block z1k 1
    simp only [List.getElem?_toArray, List.getElem?_cons_zero, List.getElem?_cons_succ] at c2 d0 d1
    have hbl := hid_in (hbs.out.1.below gk)
    have q1 : (0 : Int) ≤ (D.length : Int) := by omega
    have q2 : (D.length : Int) ≤ (len : Int) := by omega
    have hcap : len ≤ lc := by have := hbs.out.1.cap.1; rw [en.out] at this; exact this
    have q3 : (len : Int) ≤ (lc : Int) := by omega
    have q4 : (D.length : Int) ≤ (lc : Int) := by omega
    have hS0 : wk.drew.cell? ⟨w.heap.size, 2, none⟩ = some (.slice la len lc) ∧ wk.drew.cell? ⟨w.heap.size + 1, 0, none⟩ = some (.string xk) ∧ wk.drew.cell? ⟨w.heap.size + 1, 1, none⟩ = some (.slice xa nx xc) := ⟨c2, d0, d1⟩
    have s2 := fun p : { W : World // W.cell? ⟨w.heap.size, 2, none⟩ = some (.slice la len lc) ∧ W.cell? ⟨w.heap.size + 1, 0, none⟩ = some (.string xk) ∧ W.cell? ⟨w.heap.size + 1, 1, none⟩ = some (.slice xa nx xc) } => p.2.1
    have s0 := fun p : { W : World // W.cell? ⟨w.heap.size, 2, none⟩ = some (.slice la len lc) ∧ W.cell? ⟨w.heap.size + 1, 0, none⟩ = some (.string xk) ∧ W.cell? ⟨w.heap.size + 1, 1, none⟩ = some (.slice xa nx xc) } => p.2.2.1
    have s1 := fun p : { W : World // W.cell? ⟨w.heap.size, 2, none⟩ = some (.slice la len lc) ∧ W.cell? ⟨w.heap.size + 1, 0, none⟩ = some (.string xk) ∧ W.cell? ⟨w.heap.size + 1, 1, none⟩ = some (.slice xa nx xc) } => p.2.2.2
    clear hB v0 v2 u0 u1 HBS HXI
    go_upto_region 4 with fail
    letI : Inhabited { W : World // W.cell? ⟨w.heap.size, 2, none⟩ = some (.slice la len lc) ∧ W.cell? ⟨w.heap.size + 1, 0, none⟩ = some (.string xk) ∧ W.cell? ⟨w.heap.size + 1, 1, none⟩ = some (.slice xa nx xc) } := ⟨⟨wk.drew, hS0⟩⟩
    refine wp_region_hold (S := fun W => W.cell? ⟨w.heap.size, 2, none⟩ = some (.slice la len lc) ∧ W.cell? ⟨w.heap.size + 1, 0, none⟩ = some (.string xk) ∧ W.cell? ⟨w.heap.size + 1, 1, none⟩ = some (.slice xa nx xc)) 15 16 (by kernel_rfl) rfl ?_
    refine wpHold_mask [false, true, true, true, true, false, true, false, false, true, true, true, true, false, false, false] 7 rfl (by kernel_rfl) hS0 ?_
    simp only [maskL_t, maskL_f, maskL_n]
    iterate 9 (refine wpReads_step (fun K hK => ?_); go_simp; refine hK _ ?_; clear hK K)
    refine wpReads_nil ?_
    have hKS := hid_in (show ∀ u, Below wk.heap.size wk u → u.cell? ⟨w.heap.size, 2, none⟩ = some (.slice la len lc) ∧ u.cell? ⟨w.heap.size + 1, 0, none⟩ = some (.string xk) ∧ u.cell? ⟨w.heap.size + 1, 1, none⟩ = some (.slice xa nx xc) from fun u hu => ⟨(hu.cell (World.block_lt_of_cell? wk _ c2)).trans c2, (hu.cell (World.block_lt_of_cell? wk _ d0)).trans d0, (hu.cell (World.block_lt_of_cell? wk _ d1)).trans d1⟩)
    have hDrow := hid_in (show HasRow wk (.slice la D.length lc) D.length 2 (D.flatMap LAt.cells) from by
     have h1 := hbl.out
     rw [en.out] at h1
     have h2 := h1.take D.length hDl
     rw [hDT.out, List.flatMap_append, ← rowF_len LAt.cells 2 LAt.len D, List.take_left] at h2
     exact h2)
    have hTrow := hid_in (show HasRow wk (.slice (if lc = D.length then la else la.map (fun a => a.add (D.length * 2))) (len - D.length) (lc - D.length)) (len - D.length) 2 (T.flatMap LAt.cells) from by
     have h1 := hbl.out
     rw [en.out] at h1
     have h2 := h1.drop D.length hDl
     rw [hDT.out, List.flatMap_append, ← rowF_len LAt.cells 2 LAt.len D, List.drop_left, rowF_len LAt.cells 2 LAt.len D] at h2
     exact h2)
    have hone := hid_in (show ∀ y ∈ bl, ∃ a n c, y.v = .slice a n c from fun y hy => by obtain ⟨a, c, e⟩ := HasRow.form (hbs.out.2 y hy); exact ⟨a, _, c, e⟩)
    have hD1 := hid_in (lcells_one (ls := D) (fun y hy => hone.out y (by rw [hDT.out]; simp [hy])))
    have hT1 := hid_in (lcells_one (ls := T) (fun y hy => hone.out y (by rw [hDT.out]; simp [hy])))
    obtain ⟨i0, hi, hi0, hi1, hi2⟩ := info_parts infoLine
    generalize (if lc = D.length then la else la.map (fun a => a.add (D.length * 2))) = laT at hTrow ⊢
    refine wpHold_branch (f := 6) (rs := [0, 7]) (by kernel_rfl) (by simp) ?_
    refine AllHold.cons rfl (by decide) (fun K hK => ?wayA) (AllHold.cons rfl (by decide) (fun K hK => ?wayB) AllHold.nil)
    case' wayA =>
     go_simp
     have bA : Below wk.heap.size wk (wk.alloc (.cells #[] 82)).drew := ((Below.refl wk.heap.size wk).alloc (Nat.le_refl _) (.cells #[] 82)).drew
     have oA : (wk.alloc (.cells #[] 82)).drew.ownsRow wk.heap.size 82 2 (.slice (some ⟨wk.heap.size, 0, none⟩) 0 0) 0 [] := World.ownsRow_lit (base := wk.heap.size) (e := 82) (size := 2) wk #[] 0 (Nat.le_refl _) (by decide) rfl
     refine hK.out _ _ (hKS.out _ bA) ?_
     clear hK K
     refine wpHold_branch (f := 5) (rs := [5, 7]) (by kernel_rfl) (by simp) ?_
     refine AllHold.cons rfl (by decide) (fun K hK => ?wayA1) (AllHold.cons rfl (by decide) (fun K hK => ?wayA2) AllHold.nil)
    case' wayA1 =>
     refine step_append_has rfl _ _ 41 rfl wk.heap.size 82 i0 _ 2 40 Tryz.underlying41 hi hi0 hi1 hi2 rfl (by decide) _ 0 _ rfl oA _ D.length _ rfl (hDrow.out.below bA) hD1.out (by unfold maxLen; omega) (by omega) bA.size ?_
     intro ao5 c5 u5 own5 hg5 _
     simp only [Nat.zero_add] at own5 ⊢
     have b5 := bA.grown hg5 bA.size (fun q hq => by cases hq; exact Nat.le_refl _)
     refine hK.out _ _ (hKS.out _ b5) ?_
     clear hK K
     refine wpHold_branch (f := 4) (rs := [7]) (by kernel_rfl) (by simp) ?_
     refine AllHold.cons rfl (by decide) (fun K hK => ?_) AllHold.nil
     go_simp
     have bU := b5.alloc b5.size (.cells #[.string xk, .slice xa nx xc] 82)
     have own7 := own5.alloc (.cells #[.string xk, .slice xa nx xc] 82)
     have has7 := lit_has u5 #[.string xk, .slice xa nx xc] 82 2 rfl
     refine hK.out _ _ (hKS.out _ bU) ?_
     clear hK K
     generalize u5.alloc (.cells #[.string xk, .slice xa nx xc] 82) = U at bU own7 has7 ⊢
     clear own5 hg5 b5 oA bA
    case' wayA2 =>
     go_simp
     have b7 : Below wk.heap.size wk ((wk.alloc (.cells #[] 82)).alloc (.cells #[.string xk, .slice xa nx xc] 82)).drew := (((Below.refl wk.heap.size wk).alloc (Nat.le_refl _) (.cells #[] 82)).alloc (by simp) _).drew
     have o7 : ((wk.alloc (.cells #[] 82)).alloc (.cells #[.string xk, .slice xa nx xc] 82)).drew.ownsRow wk.heap.size 82 2 (.slice (some ⟨wk.heap.size, 0, none⟩) 0 0) 0 [] := oA.alloc (.cells #[.string xk, .slice xa nx xc] 82)
     have h7 : HasRow ((wk.alloc (.cells #[] 82)).alloc (.cells #[.string xk, .slice xa nx xc] 82)).drew (.slice (some ⟨wk.heap.size + 1, 0, none⟩) 1 1) 1 2 [.string xk, .slice xa nx xc] := by
      have := lit_has (wk.alloc (.cells #[] 82)) #[.string xk, .slice xa nx xc] 82 2 rfl
      rw [World.size_alloc] at this
      exact this
     refine hK.out _ _ (hKS.out _ b7) ?_
     clear hK K
     refine wpHold_branch (f := 4) (rs := [5]) (by kernel_rfl) (by simp) ?_
     refine AllHold.cons rfl (by decide) (fun K hK => ?_) AllHold.nil
     refine step_append_has rfl _ _ 41 rfl wk.heap.size 82 i0 _ 2 40 Tryz.underlying41 hi hi0 hi1 hi2 rfl (by decide) _ 0 _ rfl o7 _ D.length _ rfl (hDrow.out.below b7) hD1.out (by unfold maxLen; omega) (by omega) b7.size ?_
     intro ao5 c5 U own7 hg5 _
     simp only [Nat.zero_add] at own7 ⊢
     have bU := b7.grown hg5 b7.size (fun q hq => by cases hq; exact Nat.le_refl _)
     have has7 := h7.far (.inr (fun b off m c e => by cases e; show wk.heap.size + 1 ≠ wk.heap.size; omega)) hg5
     refine hK.out _ _ (hKS.out _ bU) ?_
     clear hK K o7 h7 hg5 b7 oA bA
    case' wayB =>
     go_simp
     have bB : Below wk.heap.size wk (wk.alloc (.cells #[.string xk, .slice xa nx xc] 82)).drew := ((Below.refl wk.heap.size wk).alloc (Nat.le_refl _) _).drew
     refine hK.out _ _ (hKS.out _ bB) ?_
     clear hK K
     refine wpHold_branch (f := 5) (rs := [0]) (by kernel_rfl) (by simp) ?_
     refine AllHold.cons rfl (by decide) (fun K hK => ?_) AllHold.nil
     go_simp
     have b7 : Below wk.heap.size wk ((wk.alloc (.cells #[.string xk, .slice xa nx xc] 82)).alloc (.cells #[] 82)).drew := (((Below.refl wk.heap.size wk).alloc (Nat.le_refl _) _).alloc (by simp) _).drew
     have o7 : ((wk.alloc (.cells #[.string xk, .slice xa nx xc] 82)).alloc (.cells #[] 82)).drew.ownsRow wk.heap.size 82 2 (.slice (some ⟨wk.heap.size + 1, 0, none⟩) 0 0) 0 [] := by
      have := World.ownsRow_lit (base := wk.heap.size) (e := 82) (size := 2) (wk.alloc (.cells #[.string xk, .slice xa nx xc] 82)) #[] 0 (by simp) (by decide) rfl
      rw [World.size_alloc] at this
      exact this
     have h7 : HasRow ((wk.alloc (.cells #[.string xk, .slice xa nx xc] 82)).alloc (.cells #[] 82)).drew (.slice (some ⟨wk.heap.size, 0, none⟩) 1 1) 1 2 [.string xk, .slice xa nx xc] := (lit_has wk #[.string xk, .slice xa nx xc] 82 2 rfl).below ((Below.refl _ _).alloc (Nat.le_refl _) _).drew
     refine hK.out _ _ (hKS.out _ b7) ?_
     clear hK K
     refine wpHold_branch (f := 4) (rs := [5]) (by kernel_rfl) (by simp) ?_
     refine AllHold.cons rfl (by decide) (fun K hK => ?_) AllHold.nil
     refine step_append_has rfl _ _ 41 rfl wk.heap.size 82 i0 _ 2 40 Tryz.underlying41 hi hi0 hi1 hi2 rfl (by decide) _ 0 _ rfl o7 _ D.length _ rfl (hDrow.out.below b7) hD1.out (by unfold maxLen; omega) (by omega) b7.size ?_
     intro ao5 c5 U own7 hg5 _
     simp only [Nat.zero_add] at own7 ⊢
     have bU := b7.grown hg5 b7.size (fun q hq => by cases hq; show wk.heap.size ≤ wk.heap.size + 1; omega)
     have has7 := h7.far (.inr (fun b off m c e => by cases e; show wk.heap.size ≠ wk.heap.size + 1; omega)) hg5
     refine hK.out _ _ (hKS.out _ bU) ?_
     clear hK K o7 h7 hg5 b7 bB
    all_goals
     refine wpHold_branch (f := 3) (rs := [8]) (by kernel_rfl) (by simp) ?_
     refine AllHold.cons rfl (by decide) (fun K hK => ?_) AllHold.nil
     have hbase5 : ∀ q, (Value.slice ao5 (D.length) c5).ownBlock = some q → wk.heap.size ≤ q := fun q hq => (own7.lt q hq).1
     refine step_append_has rfl _ _ 41 rfl wk.heap.size 82 i0 _ 2 40 Tryz.underlying41 hi hi0 hi1 hi2 rfl (by decide) _ (D.length) _ rfl own7 _ 1 _ rfl has7 (by intro z hz; simp at hz; rcases hz with rfl | rfl <;> rfl) (by unfold maxLen; omega) (by omega) bU.size ?_
     intro ao8 c8 u8 own8 hg8 _
     have b8 := bU.grown hg8 bU.size hbase5
     refine hK.out _ _ (hKS.out _ b8) ?_
     clear hK K
     refine wpHold_branch (f := 2) (rs := [13]) (by kernel_rfl) (by simp) ?_
     refine AllHold.cons rfl (by decide) (fun K hK => ?_) AllHold.nil
     have hbase8 : ∀ q, (Value.slice ao8 (D.length + 1) c8).ownBlock = some q → wk.heap.size ≤ q := fun q hq => (own8.lt q hq).1
     refine step_append_has rfl _ _ 41 rfl wk.heap.size 82 i0 _ 2 40 Tryz.underlying41 hi hi0 hi1 hi2 rfl (by decide) _ (D.length + 1) _ rfl own8 _ (len - D.length) _ rfl (hTrow.out.below b8) hT1.out (by unfold maxLen; omega) (by omega) b8.size ?_
     intro ao9 c9 u9 own9 hg9 _
     have b9 := b8.grown hg9 b8.size hbase8
     refine hK.out _ _ (hKS.out _ b9) ?_
     clear hK K own7 has7 own8 hg8 hg9 hbase5 hbase8 b8 bU
     refine wpHold_branch (f := 1) (rs := [14]) (by kernel_rfl) (by simp) ?_
     refine AllHold.cons rfl (by decide) (fun K hK => ?_) AllHold.nil
     go_simp
     refine hK.out _ _ (hKS.out _ b9) ?_
     clear hK K
     have z09 := (b9.block w.heap.size (by have := bk'.size; omega)).trans z0k
     have z29 := (b9.block (w.heap.size + 2) (by have := bk'.size; omega)).trans z2k
     have m0 := cell_of_block z09 0
     have m1 := cell_of_block z09 1
     have m2 := cell_of_block z09 2
     have fr2 := frozen_of_block z09 2
     simp only [List.getElem?_toArray, List.getElem?_cons_zero, List.getElem?_cons_succ] at m0 m1 m2
     refine wpHold_last (by kernel_rfl) rfl (by kernel_rfl) ?_
     intro K hK
     have hkz : w.heap.size + 3 ≤ wk.heap.size := by have := bk'.size; omega
     have G9 := gk.trans (b9.mono (by omega))
     have O9 := hid_in own9
     have z2s : (u9.setCell ⟨w.heap.size, 2, none⟩ (.slice ao9 (D.length + 1 + (len - D.length)) c9)).heap[w.heap.size + 2]? = some (.cells #[.string ⟨#[]⟩, .string ⟨#[]⟩, .slice none 0 0] 64 (0, 0)) := by rw [Below.heap_setCell _ _ _ _ (by simp)]; exact z29
     clear own9
     generalize hN9 : D.length + 1 + (len - D.length) = N9 at *
     have eN9 := hid_in hN9
     clear hN9
     go_simp
     refine hK.out _ _ (NoPanic.normal ?_)
     clear hK K
     go_wp2_with (with_reducible show wpList _ _ _ (Oper.mk _ (Op.store _ (Operand.tmp 4) _) _ _ _ _ :: _) _ _; refine wpList_store_row rfl 64 _ _ rfl (w.heap.size + 2) #[.string bk, .string bn, .slice ao9 N9 c9] ?_ ?_ 64 _ z2s ?_ ?_ ?_ ?_)
     all_goals (first | rfl | kernel_rfl | exact ⟨rfl, rfl, rfl⟩ | (obtain ⟨i9, e9, _, s9, _⟩ := info_parts infoBlock; exact ⟨i9, e9, s9⟩) | skip)
     have z5 : (World.setRow (u9.setCell ⟨w.heap.size, 2, none⟩ (.slice ao9 N9 c9)) (w.heap.size + 2) #[.string bk, .string bn, .slice ao9 N9 c9]).heap[w.heap.size + 2]? = some (.cells #[.string bk, .string bn, .slice ao9 N9 c9] 64 (0, 0)) := setRow_heap _ _ _ _ _ _ z2s
     have G9' := G9.setCell (p := ⟨w.heap.size, 2, none⟩) (Nat.le_refl _) (.slice ao9 N9 c9)
     have b5 : Below w.heap.size w (World.setRow (u9.setCell ⟨w.heap.size, 2, none⟩ (.slice ao9 N9 c9)) (w.heap.size + 2) #[.string bk, .string bn, .slice ao9 N9 c9]) :=
      ⟨G9'.os, G9'.tape, G9'.output, by rw [setRow_size]; exact G9'.size, fun k hk => by rw [setRow_other _ _ _ _ (by omega)]; exact G9'.block k hk⟩
     have o5 := own_mono (own_setRow (own_setCell O9.out ⟨w.heap.size, 2, none⟩ (by simp; omega) (.slice ao9 N9 c9)) (w.heap.size + 2) (by omega) #[.string bk, .string bn, .slice ao9 N9 c9]) (show w.heap.size ≤ wk.heap.size by omega)
     have y0 := cell_of_block z5 0
     have y1 := cell_of_block z5 1
     have y2 := cell_of_block z5 2
     simp only [List.getElem?_toArray, List.getElem?_cons_zero, List.getElem?_cons_succ] at y0 y1 y2
     generalize World.setRow _ _ _ = W at b5 y0 y1 y2 z5 o5 ⊢
     have f1 : (D ++ (⟨xk, .slice xa nx xc, xw⟩ : LAt) :: T).map LAt.plain = putIn (lineLt (rulesOf bk)) ⟨xk, xw⟩ (bl.map LAt.plain) := by
      have h1 := putIn_split (lineLt (rulesOf bk)) ⟨xk, xw⟩ (D.map LAt.plain) (T.map LAt.plain) hlt.out hst.out
      rw [show (bl.map LAt.plain) = D.map LAt.plain ++ T.map LAt.plain from by rw [hDT.out]; simp]
      exact (show _ = _ from by simp [LAt.plain]).trans h1.symm
     have f2 : W.ownsRow w.heap.size 82 2 (.slice ao9 N9 c9) (D ++ (⟨xk, .slice xa nx xc, xw⟩ : LAt) :: T).length ((D ++ (⟨xk, .slice xa nx xc, xw⟩ : LAt) :: T).flatMap LAt.cells) := by
      have e1 : (D ++ (⟨xk, .slice xa nx xc, xw⟩ : LAt) :: T).length = N9 := by
       have h1 := en.out
       rw [hDT.out] at h1
       rw [← eN9.out]
       simp at h1 ⊢
       omega
      have e2 : (D ++ (⟨xk, .slice xa nx xc, xw⟩ : LAt) :: T).flatMap LAt.cells = [] ++ D.flatMap LAt.cells ++ [.string xk, .slice xa nx xc] ++ T.flatMap LAt.cells := by simp [LAt.cells]
      rw [e1, e2]
      exact o5
     exact bodyPost_ret (v := .agg #[.string bk, .string bn, .slice ao9 N9 c9]) (by simp [results, Tryz.results70, go_sem, y0, y1, y2]) rfl ⟨_, D, T, hDT.out, rfl, f1, f2, b5⟩
   ·obtain ⟨y, T', rfl, hyl⟩ := hB.out.1 rfl
    have hDT' : Hid (bl = (D ++ [y]) ++ T') := by have := hDT.out; show bl = _; rw [this]; simp
    have hlt' : Hid (∀ z ∈ (D ++ [y]).map LAt.plain, lineLt (rulesOf bk) z ⟨xk, xw⟩ = true) := by
     show ∀ z ∈ _, _
     intro z hz
     rw [List.map_append, List.mem_append] at hz
     rcases hz with hz | hz
     ·exact hlt.out z hz
     ·simp only [List.map_cons, List.map_nil, List.mem_singleton] at hz
      rw [hz]; exact hyl
    have hDl2 : D.length < len := by have := en.out; rw [hDT.out] at this; simp at this; omega
    clear hB v0 v2 u0 u1 HBS HXI hDT hlt hyl z0 z1 z2
    go_wp2
    go_roundw
    case rel => exact ⟨D ++ [y], T', by simp, by simp; omega, hDT', hlt', BK⟩
    case measure => simp [intOf]; omega
end Go.Proofs.YtpdahhnjhggocabGreatDoor
namespace Go.Proofs.YtpdahhnjhggocabGreatDoor
open Go.RowKit
def PutBPost (bs : List BAt) (x : BAt) (w : World) (e : Ending) (w' : World) : Prop := ∃ v' D T, bs = D ++ T ∧ e = .returned (.agg #[v']) ∧ (D ++ x :: T).map BAt.plain = putIn blockLt x.plain (bs.map BAt.plain) ∧ w'.ownsRow w.heap.size 64 3 v' (D ++ x :: T).length ((D ++ x :: T).flatMap BAt.cells) ∧ Below w.heap.size w w'
set_option maxHeartbeats 8000000 in
set_option maxRecDepth 100000 in
theorem l3PutBlock_any {bv : Value} {bl : List BAt} {x : BAt} {w : World} (hb : HasRow w bv bl.length 3 (bl.flatMap BAt.cells)) (hbf : ∀ y ∈ bl, ∃ a n c, y.v = .slice a n c) (hs : bl.length ≤ 1048576) (hx : ∃ a n c, x.v = .slice a n c) : Calls Tryz.prog 46 #[.agg #[bv], .agg #[.string x.kind, .string x.name, x.v]] w fun e w' => PutBPost bl x w e w' := by
 obtain ⟨xk, xn, xv, xl⟩ := x
 simp only at *
 obtain ⟨la, lc, rfl⟩ := hb.form
 obtain ⟨xa, nx, xc, rfl⟩ := hx
 have b0 : Below w.heap.size w (((w.alloc (.cells #[.slice la bl.length lc] 24)).alloc (.cells #[.string xk, .string xn, .slice xa nx xc] 64)).alloc (.cells #[.slice none 0 0] 24)) := (((Below.refl _ _).alloc (Nat.le_refl _) _).alloc (by simp) _).alloc (by simp; omega) _
 obtain ⟨hsz, hy0, hy1, hy2⟩ := alloc3 (w := w) (o1 := .cells #[.slice la bl.length lc] 24) (o2 := .cells #[.string xk, .string xn, .slice xa nx xc] 64) (o3 := .cells #[.slice none 0 0] 24)
 have hbs := hid_in hb
 have hone := hid_in hbf
 have hl := hs
 clear hb hs hbf
 generalize hn : bl.length = len at *
 have en := hid_in hn
 clear hn
 generalize hW0 : ((w.alloc (.cells #[.slice la len lc] 24)).alloc (.cells #[.string xk, .string xn, .slice xa nx xc] 64)).alloc (.cells #[.slice none 0 0] 24) = W0 at *
 have eW0 := hid_in hW0
 have hszW := hid_in hsz
 clear hW0 hsz
 go_enter Tryz.func46, Tryz.ntmps46
 go_wp2
 go_loopw [5] (fun i wr => ∃ (D T : List BAt), i = .int .i64 (D.length : Int) ∧ D.length ≤ len ∧ Hid (bl = D ++ T) ∧ Hid (∀ y ∈ D.map BAt.plain, blockLt y ⟨xk, xn, xl.map LAt.plain⟩ = true) ∧ Below W0.heap.size W0 wr) (fun i _ => len - (intOf i).toNat)
 case atStart =>
  rw [eW0.out]
  exact ⟨[], bl, rfl, by simp, (rfl : bl = [] ++ bl), (by simp : ∀ y ∈ ([] : List BAt).map BAt.plain, _), Below.refl _ _⟩
 case round =>
  obtain ⟨D, T, rfl, hDl, hDT, hlt, bw⟩ := hrel
  have gw := b0.trans (bw.mono b0.size)
  have hs3 := hszW.out
  have z0 := (bw.block w.heap.size (by omega)).trans hy0
  have z1 := (bw.block (w.heap.size + 1) (by omega)).trans hy1
  have z2 := (bw.block (w.heap.size + 2) (by omega)).trans hy2
  have c2 := cell_of_block z0 0
  have d0 := cell_of_block z1 0
  have d1 := cell_of_block z1 1
  have d2 := cell_of_block z1 2
  simp only [List.getElem?_toArray, List.getElem?_cons_zero, List.getElem?_cons_succ] at c2 d0 d1 d2
  have hszw := bw.size
  have v2 := fun p : Gr wr => gr_cell c2 p
  have u0 := fun p : Gr wr => gr_cell d0 p
  have u1 := fun p : Gr wr => gr_cell d1 p
  have u2 := fun p : Gr wr => gr_cell d2 p
  have HBS := hid_in (hbs.out.below gw)
  clear c2 d0 d1 d2 hy0 hy1 hy2
  go_upto_region 2 with fail
  go_cut [19] from 6 to 19 (fun c wx => ∃ B : Bool, c = .bool B ∧ Hid ((B = true → ∃ y T', T = y :: T' ∧ blockLt y.plain ⟨xk, xn, xl.map LAt.plain⟩ = true) ∧ (B = false → ∀ y, (T.map BAt.plain).head? = some y → blockLt y ⟨xk, xn, xl.map LAt.plain⟩ = false)) ∧ Below wr.heap.size wr wx)
  case first =>
   cases T with
   | nil =>
    have hDlen : D.length = len := by rw [← en.out, hDT.out]; simp
    have hno : ¬ ((D.length : Int) < (len : Int)) := by omega
    clear hDlen
    clear HBS hDT hlt u0 u1 u2 z0 z1 z2 hbs hone
    refine wp_region_gr (by kernel_rfl) (by kernel_rfl) ?_
    iterate 6 quiet_step (fail)
    iterate 7 (with_reducible refine quiet_skip ?_ ?_; kernel_rfl; simp only [Act.put, List.setIfInBounds_toArray, List.set_cons_zero, List.set_cons_succ])
    quiet_step (fail)
    refine wpQuiet_nil ?_
    rintro _ ⟨⟨wq, bq⟩, rfl⟩
    go_wp2_with fail
    go_meet
    exact ⟨false, rfl, ⟨(fun h => by cases h), fun _ y hy => by cases hy⟩, bq⟩
   | cons y T =>
    have hDlen : D.length < len := by have := en.out; rw [hDT.out] at this; simp at this; omega
    have h5 := HBS.out
    rw [hDT.out] at h5
    obtain ⟨g, off, rfl, y1, y2, y3⟩ := h5.block
    have hym : y ∈ bl := by rw [hDT.out]; simp
    obtain ⟨ya, ny, yc, ey⟩ := hone.out y hym
    have w1 := fun p : Gr wr => gr_cell y1 p
    have w2 := fun p : Gr wr => gr_cell y2 p
    have w3 := fun p : Gr wr => gr_cell y3 p
    rw [ey] at w3
    have HLL : ∀ p : Gr wr, Calls Tryz.prog 105 #[.agg #[.string y.kind, .string y.name, .slice ya ny yc], .agg #[.string xk, .string xn, .slice xa nx xc]] p.u fun e w' => e = .returned (.bool (blockLt y.plain ⟨xk, xn, xl.map LAt.plain⟩)) ∧ Below p.u.heap.size p.u w' := fun p =>
     l3Ahead_any y.plain ⟨xk, xn, xl.map LAt.plain⟩ ny nx yc xc ya xa p.u
    have hyes : ((D.length : Int) < (len : Int)) := by omega
    have i1 : (0 : Int) ≤ (D.length : Int) := by omega
    have hres := hid_in (show ∀ B, blockLt y.plain ⟨xk, xn, xl.map LAt.plain⟩ = B → ((B = true → ∃ y' T', y :: T = y' :: T' ∧ blockLt y'.plain ⟨xk, xn, xl.map LAt.plain⟩ = true) ∧ (B = false → ∀ y', ((y :: T).map BAt.plain).head? = some y' → blockLt y' ⟨xk, xn, xl.map LAt.plain⟩ = false)) from fun B hB => ⟨fun h => ⟨y, T, rfl, by rw [hB, h]⟩, fun h y' hy' => by cases hy'; rw [hB, h]⟩)
    generalize hLT : blockLt y.plain ⟨xk, xn, xl.map LAt.plain⟩ = LT at HLL
    have eLT := hid_in hLT
    clear hLT HBS h5 ey hDT hlt z0 z1 z2 hbs hone y1 y2 y3 hym
    generalize y.kind = yk at *
    generalize y.name = yn at *
    refine wp_region_gr (by kernel_rfl) (by kernel_rfl) ?_
    iterate 12 quiet_step (fail)
    quiet_step ((go_at_call 105; refine gr_of (HLL _)))
    quiet_step (fail)
    refine wpQuiet_nil ?_
    rintro _ ⟨⟨wq, bq⟩, rfl⟩
    go_wp2_with fail
    go_meet
    exact ⟨LT, rfl, hres.out LT eLT.out, bq⟩
  case rest =>
   obtain ⟨wk, hwk⟩ : ∃ wk, wk = wc := ⟨_, rfl⟩
   subst hwk
   obtain ⟨B, rfl, hB, bk'⟩ := hcut
   have BK := bw.trans (bk'.mono bw.size)
   cases B
   ·have hst := hid_in (hB.out.2 rfl)
    have z0k := (bk'.block w.heap.size (by omega)).trans z0
    have z1k := (bk'.block (w.heap.size + 1) (by omega)).trans z1
    have z2k := (bk'.block (w.heap.size + 2) (by omega)).trans z2
    have gk := gw.trans (bk'.mono gw.size)
    have c2 := cell_of_block z0k 0
    have d0 := cell_of_block z1k 0
    have d1 := cell_of_block z1k 1
    have d2 := cell_of_block z1k 2
    simp only [List.getElem?_toArray, List.getElem?_cons_zero, List.getElem?_cons_succ] at c2 d0 d1 d2
    have hbl := hid_in (hbs.out.below gk)
    have q1 : (0 : Int) ≤ (D.length : Int) := by omega
    have q2 : (D.length : Int) ≤ (len : Int) := by omega
    have hcap : len ≤ lc := by exact hbs.out.cap.1
    have q3 : (len : Int) ≤ (lc : Int) := by omega
    have q4 : (D.length : Int) ≤ (lc : Int) := by omega
    have hS0 : wk.drew.cell? ⟨w.heap.size, 0, none⟩ = some (.slice la len lc) ∧ wk.drew.cell? ⟨w.heap.size + 1, 0, none⟩ = some (.string xk) ∧ wk.drew.cell? ⟨w.heap.size + 1, 1, none⟩ = some (.string xn) ∧ wk.drew.cell? ⟨w.heap.size + 1, 2, none⟩ = some (.slice xa nx xc) := ⟨c2, d0, d1, d2⟩
    have s2 := fun p : { W : World // W.cell? ⟨w.heap.size, 0, none⟩ = some (.slice la len lc) ∧ W.cell? ⟨w.heap.size + 1, 0, none⟩ = some (.string xk) ∧ W.cell? ⟨w.heap.size + 1, 1, none⟩ = some (.string xn) ∧ W.cell? ⟨w.heap.size + 1, 2, none⟩ = some (.slice xa nx xc) } => p.2.1
    have s0 := fun p : { W : World // W.cell? ⟨w.heap.size, 0, none⟩ = some (.slice la len lc) ∧ W.cell? ⟨w.heap.size + 1, 0, none⟩ = some (.string xk) ∧ W.cell? ⟨w.heap.size + 1, 1, none⟩ = some (.string xn) ∧ W.cell? ⟨w.heap.size + 1, 2, none⟩ = some (.slice xa nx xc) } => p.2.2.1
    have s1 := fun p : { W : World // W.cell? ⟨w.heap.size, 0, none⟩ = some (.slice la len lc) ∧ W.cell? ⟨w.heap.size + 1, 0, none⟩ = some (.string xk) ∧ W.cell? ⟨w.heap.size + 1, 1, none⟩ = some (.string xn) ∧ W.cell? ⟨w.heap.size + 1, 2, none⟩ = some (.slice xa nx xc) } => p.2.2.2.1
    have s3 := fun p : { W : World // W.cell? ⟨w.heap.size, 0, none⟩ = some (.slice la len lc) ∧ W.cell? ⟨w.heap.size + 1, 0, none⟩ = some (.string xk) ∧ W.cell? ⟨w.heap.size + 1, 1, none⟩ = some (.string xn) ∧ W.cell? ⟨w.heap.size + 1, 2, none⟩ = some (.slice xa nx xc) } => p.2.2.2.2
    clear hB v2 u0 u1 u2 HBS
    go_upto_region 4 with fail
    letI : Inhabited { W : World // W.cell? ⟨w.heap.size, 0, none⟩ = some (.slice la len lc) ∧ W.cell? ⟨w.heap.size + 1, 0, none⟩ = some (.string xk) ∧ W.cell? ⟨w.heap.size + 1, 1, none⟩ = some (.string xn) ∧ W.cell? ⟨w.heap.size + 1, 2, none⟩ = some (.slice xa nx xc) } := ⟨⟨wk.drew, hS0⟩⟩
    refine wp_region_hold (S := fun W => W.cell? ⟨w.heap.size, 0, none⟩ = some (.slice la len lc) ∧ W.cell? ⟨w.heap.size + 1, 0, none⟩ = some (.string xk) ∧ W.cell? ⟨w.heap.size + 1, 1, none⟩ = some (.string xn) ∧ W.cell? ⟨w.heap.size + 1, 2, none⟩ = some (.slice xa nx xc)) 15 16 (by kernel_rfl) rfl ?_
    refine wpHold_mask [false, true, true, true, true, false, true, false, false, true, true, true, true, false, false, false] 7 rfl (by kernel_rfl) hS0 ?_
    simp only [maskL_t, maskL_f, maskL_n]
    iterate 9 (refine wpReads_step (fun K hK => ?_); go_simp; refine hK _ ?_; clear hK K)
    refine wpReads_nil ?_
    have hKS := hid_in (show ∀ u, Below wk.heap.size wk u → u.cell? ⟨w.heap.size, 0, none⟩ = some (.slice la len lc) ∧ u.cell? ⟨w.heap.size + 1, 0, none⟩ = some (.string xk) ∧ u.cell? ⟨w.heap.size + 1, 1, none⟩ = some (.string xn) ∧ u.cell? ⟨w.heap.size + 1, 2, none⟩ = some (.slice xa nx xc) from fun u hu => ⟨(hu.cell (World.block_lt_of_cell? wk _ c2)).trans c2, (hu.cell (World.block_lt_of_cell? wk _ d0)).trans d0, (hu.cell (World.block_lt_of_cell? wk _ d1)).trans d1, (hu.cell (World.block_lt_of_cell? wk _ d2)).trans d2⟩)
    have hDrow := hid_in (show HasRow wk (.slice la D.length lc) D.length 3 (D.flatMap BAt.cells) from by
     have h1 := hbl.out
     have h2 := h1.take D.length hDl
     rw [hDT.out, List.flatMap_append, ← rowF_len BAt.cells 3 BAt.len D, List.take_left] at h2
     exact h2)
    have hTrow := hid_in (show HasRow wk (.slice (if lc = D.length then la else la.map (fun a => a.add (D.length * 3))) (len - D.length) (lc - D.length)) (len - D.length) 3 (T.flatMap BAt.cells) from by
     have h1 := hbl.out
     have h2 := h1.drop D.length hDl
     rw [hDT.out, List.flatMap_append, ← rowF_len BAt.cells 3 BAt.len D, List.drop_left, rowF_len BAt.cells 3 BAt.len D] at h2
     exact h2)
    have hD1 := hid_in (bcells_one (bs := D) (fun y hy => hone.out y (by rw [hDT.out]; simp [hy])))
    have hT1 := hid_in (bcells_one (bs := T) (fun y hy => hone.out y (by rw [hDT.out]; simp [hy])))
    obtain ⟨i0, hi, hi0, hi1, hi2⟩ := info_parts infoBlock
    generalize (if lc = D.length then la else la.map (fun a => a.add (D.length * 3))) = laT at hTrow ⊢
    refine wpHold_branch (f := 6) (rs := [0, 7]) (by kernel_rfl) (by simp) ?_
    refine AllHold.cons rfl (by decide) (fun K hK => ?wayA) (AllHold.cons rfl (by decide) (fun K hK => ?wayB) AllHold.nil)
    case' wayA =>
     go_simp
     have bA : Below wk.heap.size wk (wk.alloc (.cells #[] 64)).drew := ((Below.refl wk.heap.size wk).alloc (Nat.le_refl _) (.cells #[] 64)).drew
     have oA : (wk.alloc (.cells #[] 64)).drew.ownsRow wk.heap.size 64 3 (.slice (some ⟨wk.heap.size, 0, none⟩) 0 0) 0 [] := World.ownsRow_lit (base := wk.heap.size) (e := 64) (size := 3) wk #[] 0 (Nat.le_refl _) (by decide) rfl
     refine hK.out _ _ (hKS.out _ bA) ?_
     clear hK K
     refine wpHold_branch (f := 5) (rs := [5, 7]) (by kernel_rfl) (by simp) ?_
     refine AllHold.cons rfl (by decide) (fun K hK => ?wayA1) (AllHold.cons rfl (by decide) (fun K hK => ?wayA2) AllHold.nil)
    case' wayA1 =>
     refine step_append_has rfl _ _ 22 rfl wk.heap.size 64 i0 _ 3 56 Tryz.underlying22 hi hi0 hi1 hi2 rfl (by decide) _ 0 _ rfl oA _ D.length _ rfl (hDrow.out.below bA) hD1.out (by unfold maxLen; omega) (by omega) bA.size ?_
     intro ao5 c5 u5 own5 hg5 _
     simp only [Nat.zero_add] at own5 ⊢
     have b5 := bA.grown hg5 bA.size (fun q hq => by cases hq; exact Nat.le_refl _)
     refine hK.out _ _ (hKS.out _ b5) ?_
     clear hK K
     refine wpHold_branch (f := 4) (rs := [7]) (by kernel_rfl) (by simp) ?_
     refine AllHold.cons rfl (by decide) (fun K hK => ?_) AllHold.nil
     go_simp
     have bU := b5.alloc b5.size (.cells #[.string xk, .string xn, .slice xa nx xc] 64)
     have own7 := own5.alloc (.cells #[.string xk, .string xn, .slice xa nx xc] 64)
     have has7 := lit_has u5 #[.string xk, .string xn, .slice xa nx xc] 64 3 rfl
     refine hK.out _ _ (hKS.out _ bU) ?_
     clear hK K
     generalize u5.alloc (.cells #[.string xk, .string xn, .slice xa nx xc] 64) = U at bU own7 has7 ⊢
     clear own5 hg5 b5 oA bA
    case' wayA2 =>
     go_simp
     have b7 : Below wk.heap.size wk ((wk.alloc (.cells #[] 64)).alloc (.cells #[.string xk, .string xn, .slice xa nx xc] 64)).drew := (((Below.refl wk.heap.size wk).alloc (Nat.le_refl _) (.cells #[] 64)).alloc (by simp) _).drew
     have o7 : ((wk.alloc (.cells #[] 64)).alloc (.cells #[.string xk, .string xn, .slice xa nx xc] 64)).drew.ownsRow wk.heap.size 64 3 (.slice (some ⟨wk.heap.size, 0, none⟩) 0 0) 0 [] := oA.alloc (.cells #[.string xk, .string xn, .slice xa nx xc] 64)
     have h7 : HasRow ((wk.alloc (.cells #[] 64)).alloc (.cells #[.string xk, .string xn, .slice xa nx xc] 64)).drew (.slice (some ⟨wk.heap.size + 1, 0, none⟩) 1 1) 1 3 [.string xk, .string xn, .slice xa nx xc] := by
      have := lit_has (wk.alloc (.cells #[] 64)) #[.string xk, .string xn, .slice xa nx xc] 64 3 rfl
      rw [World.size_alloc] at this
      exact this
     refine hK.out _ _ (hKS.out _ b7) ?_
     clear hK K
     refine wpHold_branch (f := 4) (rs := [5]) (by kernel_rfl) (by simp) ?_
     refine AllHold.cons rfl (by decide) (fun K hK => ?_) AllHold.nil
     refine step_append_has rfl _ _ 22 rfl wk.heap.size 64 i0 _ 3 56 Tryz.underlying22 hi hi0 hi1 hi2 rfl (by decide) _ 0 _ rfl o7 _ D.length _ rfl (hDrow.out.below b7) hD1.out (by unfold maxLen; omega) (by omega) b7.size ?_
     intro ao5 c5 U own7 hg5 _
     simp only [Nat.zero_add] at own7 ⊢
     have bU := b7.grown hg5 b7.size (fun q hq => by cases hq; exact Nat.le_refl _)
     have has7 := h7.far (.inr (fun b off m c e => by cases e; show wk.heap.size + 1 ≠ wk.heap.size; omega)) hg5
     refine hK.out _ _ (hKS.out _ bU) ?_
     clear hK K o7 h7 hg5 b7 oA bA
    case' wayB =>
     go_simp
     have bB : Below wk.heap.size wk (wk.alloc (.cells #[.string xk, .string xn, .slice xa nx xc] 64)).drew := ((Below.refl wk.heap.size wk).alloc (Nat.le_refl _) _).drew
     refine hK.out _ _ (hKS.out _ bB) ?_
     clear hK K
     refine wpHold_branch (f := 5) (rs := [0]) (by kernel_rfl) (by simp) ?_
     refine AllHold.cons rfl (by decide) (fun K hK => ?_) AllHold.nil
     go_simp
     have b7 : Below wk.heap.size wk ((wk.alloc (.cells #[.string xk, .string xn, .slice xa nx xc] 64)).alloc (.cells #[] 64)).drew := (((Below.refl wk.heap.size wk).alloc (Nat.le_refl _) _).alloc (by simp) _).drew
     have o7 : ((wk.alloc (.cells #[.string xk, .string xn, .slice xa nx xc] 64)).alloc (.cells #[] 64)).drew.ownsRow wk.heap.size 64 3 (.slice (some ⟨wk.heap.size + 1, 0, none⟩) 0 0) 0 [] := by
      have := World.ownsRow_lit (base := wk.heap.size) (e := 64) (size := 3) (wk.alloc (.cells #[.string xk, .string xn, .slice xa nx xc] 64)) #[] 0 (by simp) (by decide) rfl
      rw [World.size_alloc] at this
      exact this
     have h7 : HasRow ((wk.alloc (.cells #[.string xk, .string xn, .slice xa nx xc] 64)).alloc (.cells #[] 64)).drew (.slice (some ⟨wk.heap.size, 0, none⟩) 1 1) 1 3 [.string xk, .string xn, .slice xa nx xc] := (lit_has wk #[.string xk, .string xn, .slice xa nx xc] 64 3 rfl).below ((Below.refl _ _).alloc (Nat.le_refl _) _).drew
     refine hK.out _ _ (hKS.out _ b7) ?_
     clear hK K
     refine wpHold_branch (f := 4) (rs := [5]) (by kernel_rfl) (by simp) ?_
     refine AllHold.cons rfl (by decide) (fun K hK => ?_) AllHold.nil
     refine step_append_has rfl _ _ 22 rfl wk.heap.size 64 i0 _ 3 56 Tryz.underlying22 hi hi0 hi1 hi2 rfl (by decide) _ 0 _ rfl o7 _ D.length _ rfl (hDrow.out.below b7) hD1.out (by unfold maxLen; omega) (by omega) b7.size ?_
     intro ao5 c5 U own7 hg5 _
     simp only [Nat.zero_add] at own7 ⊢
     have bU := b7.grown hg5 b7.size (fun q hq => by cases hq; show wk.heap.size ≤ wk.heap.size + 1; omega)
     have has7 := h7.far (.inr (fun b off m c e => by cases e; show wk.heap.size ≠ wk.heap.size + 1; omega)) hg5
     refine hK.out _ _ (hKS.out _ bU) ?_
     clear hK K o7 h7 hg5 b7 bB
    all_goals
     refine wpHold_branch (f := 3) (rs := [8]) (by kernel_rfl) (by simp) ?_
     refine AllHold.cons rfl (by decide) (fun K hK => ?_) AllHold.nil
     have hbase5 : ∀ q, (Value.slice ao5 (D.length) c5).ownBlock = some q → wk.heap.size ≤ q := fun q hq => (own7.lt q hq).1
     refine step_append_has rfl _ _ 22 rfl wk.heap.size 64 i0 _ 3 56 Tryz.underlying22 hi hi0 hi1 hi2 rfl (by decide) _ (D.length) _ rfl own7 _ 1 _ rfl has7 (by intro z hz; simp at hz; rcases hz with rfl | rfl | rfl <;> rfl) (by unfold maxLen; omega) (by omega) bU.size ?_
     intro ao8 c8 u8 own8 hg8 _
     have b8 := bU.grown hg8 bU.size hbase5
     refine hK.out _ _ (hKS.out _ b8) ?_
     clear hK K
     refine wpHold_branch (f := 2) (rs := [13]) (by kernel_rfl) (by simp) ?_
     refine AllHold.cons rfl (by decide) (fun K hK => ?_) AllHold.nil
     have hbase8 : ∀ q, (Value.slice ao8 (D.length + 1) c8).ownBlock = some q → wk.heap.size ≤ q := fun q hq => (own8.lt q hq).1
     refine step_append_has rfl _ _ 22 rfl wk.heap.size 64 i0 _ 3 56 Tryz.underlying22 hi hi0 hi1 hi2 rfl (by decide) _ (D.length + 1) _ rfl own8 _ (len - D.length) _ rfl (hTrow.out.below b8) hT1.out (by unfold maxLen; omega) (by omega) b8.size ?_
     intro ao9 c9 u9 own9 hg9 _
     have b9 := b8.grown hg9 b8.size hbase8
     refine hK.out _ _ (hKS.out _ b9) ?_
     clear hK K own7 has7 own8 hg8 hg9 hbase5 hbase8 b8 bU
     refine wpHold_branch (f := 1) (rs := [14]) (by kernel_rfl) (by simp) ?_
     refine AllHold.cons rfl (by decide) (fun K hK => ?_) AllHold.nil
     go_simp
     refine hK.out _ _ (hKS.out _ b9) ?_
     clear hK K
     have z09 := (b9.block w.heap.size (by have := bk'.size; omega)).trans z0k
     have z29 := (b9.block (w.heap.size + 2) (by have := bk'.size; omega)).trans z2k
     have m0 := cell_of_block z09 0
     have fr2 := frozen_of_block z09 0
     simp only [List.getElem?_toArray, List.getElem?_cons_zero] at m0
     refine wpHold_last (by kernel_rfl) rfl (by kernel_rfl) ?_
     intro K hK
     have hkz : w.heap.size + 3 ≤ wk.heap.size := by have := bk'.size; omega
     have G9 := gk.trans (b9.mono (by omega))
     have O9 := hid_in own9
     have z2s : (u9.setCell ⟨w.heap.size, 0, none⟩ (.slice ao9 (D.length + 1 + (len - D.length)) c9)).heap[w.heap.size + 2]? = some (.cells #[.slice none 0 0] 24 (0, 0)) := by rw [Below.heap_setCell _ _ _ _ (by simp)]; exact z29
     clear own9
     generalize hN9 : D.length + 1 + (len - D.length) = N9 at *
     have eN9 := hid_in hN9
     clear hN9
     go_simp
     refine hK.out _ _ (NoPanic.normal ?_)
     clear hK K
     go_wp2_with (with_reducible show wpList _ _ _ (Oper.mk _ (Op.store _ (Operand.tmp 4) _) _ _ _ _ :: _) _ _; refine wpList_store_row rfl 24 _ _ rfl (w.heap.size + 2) #[.slice ao9 N9 c9] ?_ ?_ 24 _ z2s ?_ ?_ ?_ ?_)
     all_goals (first | rfl | kernel_rfl | exact sheet_size | skip)
     have z5 : (World.setRow (u9.setCell ⟨w.heap.size, 0, none⟩ (.slice ao9 N9 c9)) (w.heap.size + 2) #[.slice ao9 N9 c9]).heap[w.heap.size + 2]? = some (.cells #[.slice ao9 N9 c9] 24 (0, 0)) := setRow_heap _ _ _ _ _ _ z2s
     have G9' := G9.setCell (p := ⟨w.heap.size, 0, none⟩) (Nat.le_refl _) (.slice ao9 N9 c9)
     have b5 : Below w.heap.size w (World.setRow (u9.setCell ⟨w.heap.size, 0, none⟩ (.slice ao9 N9 c9)) (w.heap.size + 2) #[.slice ao9 N9 c9]) :=
      ⟨G9'.os, G9'.tape, G9'.output, by rw [setRow_size]; exact G9'.size, fun k hk => by rw [setRow_other _ _ _ _ (by omega)]; exact G9'.block k hk⟩
     have o5 := own_mono (own_setRow (own_setCell O9.out ⟨w.heap.size, 0, none⟩ (by simp; omega) (.slice ao9 N9 c9)) (w.heap.size + 2) (by omega) #[.slice ao9 N9 c9]) (show w.heap.size ≤ wk.heap.size by omega)
     have y0 := cell_of_block z5 0
     simp only [List.getElem?_toArray, List.getElem?_cons_zero] at y0
     generalize World.setRow _ _ _ = W at b5 y0 z5 o5 ⊢
     have f1 : (D ++ (⟨xk, xn, .slice xa nx xc, xl⟩ : BAt) :: T).map BAt.plain = putIn blockLt ⟨xk, xn, xl.map LAt.plain⟩ (bl.map BAt.plain) := by
      have h1 := putIn_split blockLt ⟨xk, xn, xl.map LAt.plain⟩ (D.map BAt.plain) (T.map BAt.plain) hlt.out hst.out
      rw [show (bl.map BAt.plain) = D.map BAt.plain ++ T.map BAt.plain from by rw [hDT.out]; simp]
      exact (show _ = _ from by simp [BAt.plain]).trans h1.symm
     have f2 : W.ownsRow w.heap.size 64 3 (.slice ao9 N9 c9) (D ++ (⟨xk, xn, .slice xa nx xc, xl⟩ : BAt) :: T).length ((D ++ (⟨xk, xn, .slice xa nx xc, xl⟩ : BAt) :: T).flatMap BAt.cells) := by
      have e1 : (D ++ (⟨xk, xn, .slice xa nx xc, xl⟩ : BAt) :: T).length = N9 := by
       have h1 := en.out
       rw [hDT.out] at h1
       rw [← eN9.out]
       simp at h1 ⊢
       omega
      have e2 : (D ++ (⟨xk, xn, .slice xa nx xc, xl⟩ : BAt) :: T).flatMap BAt.cells = [] ++ D.flatMap BAt.cells ++ [.string xk, .string xn, .slice xa nx xc] ++ T.flatMap BAt.cells := by simp [BAt.cells]
      rw [e1, e2]
      exact o5
     exact bodyPost_ret (v := .agg #[.slice ao9 N9 c9]) (by simp [results, Tryz.results46, go_sem, y0]) rfl ⟨_, D, T, hDT.out, rfl, f1, f2, b5⟩
   ·obtain ⟨y, T', rfl, hyl⟩ := hB.out.1 rfl
    have hDT' : Hid (bl = (D ++ [y]) ++ T') := by have := hDT.out; show bl = _; rw [this]; simp
    have hlt' : Hid (∀ z ∈ (D ++ [y]).map BAt.plain, blockLt z ⟨xk, xn, xl.map LAt.plain⟩ = true) := by
     show ∀ z ∈ _, _
     intro z hz
     rw [List.map_append, List.mem_append] at hz
     rcases hz with hz | hz
     ·exact hlt.out z hz
     ·simp only [List.map_cons, List.map_nil, List.mem_singleton] at hz
      rw [hz]; exact hyl
    have hDl2 : D.length < len := by have := en.out; rw [hDT.out] at this; simp at this; omega
    clear hB v2 u0 u1 u2 HBS hDT hlt hyl z0 z1 z2
    go_wp2
    go_roundw
    case rel => exact ⟨D ++ [y], T', by simp, by simp; omega, hDT', hlt', BK⟩
    case measure => simp [intOf]; omega
end Go.Proofs.YtpdahhnjhggocabGreatDoor
namespace Go.Proofs.YtpdahhnjhggocabGreatDoor
open Go.RowKit
theorem belowGrown {B p : Nat} {a w w' : World} (h : Below B a w) (hB : B ≤ w.heap.size) (hp : B ≤ p) (g : w.grownBy w' (some p)) : Below B a w' :=
 h.grown g hB (fun k hk => by simp at hk; omega)
theorem grown_setRow (W : World) (R : Nat) (cs : Array Value) : W.grownBy (W.setRow R cs) (some R) := ⟨rfl, rfl, rfl, by rw [setRow_size]; exact Nat.le_refl _, fun i _ hi => setRow_other _ _ _ _ (fun e => hi (by rw [e]))⟩
def PutAll (R : List Plain) (b : BAt) (x : LAt) (w : World) (e : Ending) (w' : World) : Prop := ∃ a n c ls', e = .returned (.agg #[.string b.kind, .string b.name, .slice a n c]) ∧ (ls'.map LAt.plain = putIn (lineLt R) x.plain (b.ls.map LAt.plain) ∧ ls'.length = b.ls.length + 1 ∧ (∀ y ∈ ls', y = x ∨ y ∈ b.ls) ∧ LinesIn w' (.slice a n c) ls' ∧ ∀ q, q < w.heap.size → LinesFar q b.v b.ls → FarV q x.v x.ws.length → LinesFar q (.slice a n c) ls') ∧ Below w.heap.size w w'
theorem l3PutLine_all {b : BAt} {x : LAt} {w : World} (hb : BlockIn w b) (hs : LinesSmall b.ls) (hx : LineIn w x) (hxs : x.ws.length ≤ 1048576) : Calls Tryz.prog 70 #[.agg #[.string b.kind, .string b.name, b.v], .agg #[.string x.key, x.v]] w fun e w' => PutAll (rulesOf b.kind) b x w e w' := by
 refine (l3PutLine_any hb hs hx hxs).mono ?_
 rintro e w' ⟨v', D, T, hDT, rfl, hp, ho, bb⟩
 obtain ⟨a, c, rfl, _⟩ := own_form ho
 have hm : ∀ y ∈ D ++ x :: T, y = x ∨ y ∈ b.ls := by
  intro y hy
  rw [hDT]
  simp only [List.mem_append, List.mem_cons] at hy ⊢
  rcases hy with hy | rfl | hy
  ·exact .inr (.inl hy)
  ·exact .inl rfl
  ·exact .inr (.inr hy)
 refine ⟨a, _, c, D ++ x :: T, rfl, ⟨hp, by rw [hDT]; simp; omega, hm, ⟨own_has ho, fun y hy => ?_⟩, fun q hq hf hxf => ⟨FarV.above ho hq, fun y hy => ?_⟩⟩, bb⟩
 ·rcases hm y hy with rfl | hy
  ·exact hx.below bb
  ·exact (hb.2 y hy).below bb
 ·rcases hm y hy with rfl | hy
  ·exact hxf
  ·exact hf.2 y hy
def BlocksFar (q : Nat) (v : Value) (bs : List BAt) : Prop := FarV q v bs.length ∧ ∀ x ∈ bs, LinesFar q x.v x.ls
theorem BlocksIn.far {w w' : World} {q : Nat} {v : Value} {bs : List BAt} (h : BlocksIn w v bs) (hf : BlocksFar q v bs) (hg : w.grownBy w' (some q)) : BlocksIn w' v bs := ⟨h.1.far hf.1 hg, fun x hx => LinesIn.far (h.2 x hx) (hf.2 x hx) hg⟩
theorem BlocksOwn.far {B q : Nat} {w : World} {v : Value} {bs : List BAt} (h : BlocksOwn B w v bs) (hq : q < B) : BlocksFar q v bs :=
 ⟨FarV.above h.row hq, fun x hx => ⟨FarV.above (h.lines x hx).row hq, fun y hy => FarV.above ((h.lines x hx).words y hy) hq⟩⟩
end Go.Proofs.YtpdahhnjhggocabGreatDoor
namespace Go.Proofs.YtpdahhnjhggocabGreatDoor
open Go.RowKit
theorem grown_setCell' (W : World) (g j : Nat) (u : Value) : W.grownBy (W.setCell ⟨g, j, none⟩ u) (some g) := ⟨rfl, rfl, rfl, by simp, fun i _ hi => heap_setCell_other W ⟨g, j, none⟩ i _ (fun e => hi (by simp [e]))⟩
theorem box_turn {W : World} {X : Nat} {k n k' n' : ByteArray} {v v' : Value} (h : W.heap[X]? = some (.cells #[.string k, .string n, v] 64 (0, 0))) : (((W.setCell ⟨X, 0, none⟩ (.string k')).setCell ⟨X, 1, none⟩ (.string n')).setCell ⟨X, 2, none⟩ v').heap[X]? = some (.cells #[.string k', .string n', v'] 64 (0, 0)) ∧ W.grownBy (((W.setCell ⟨X, 0, none⟩ (.string k')).setCell ⟨X, 1, none⟩ (.string n')).setCell ⟨X, 2, none⟩ v') (some X) := by
 have z1 : (W.setCell ⟨X, 0, none⟩ (.string k')).heap[X]? = some (.cells #[.string k', .string n, v] 64 (0, 0)) := by rw [heap_setCell_same W X 0 _ _ _ h]; rfl
 have z2 : ((W.setCell ⟨X, 0, none⟩ (.string k')).setCell ⟨X, 1, none⟩ (.string n')).heap[X]? = some (.cells #[.string k', .string n', v] 64 (0, 0)) := by rw [heap_setCell_same _ X 1 _ _ _ z1]; rfl
 refine ⟨?_, grown_trans (grown_setCell' W X 0 _) (grown_trans (grown_setCell' _ X 1 _) (grown_setCell' _ X 2 _))⟩
 rw [heap_setCell_same _ X 2 _ _ _ z2]; rfl
end Go.Proofs.YtpdahhnjhggocabGreatDoor
namespace Go.Proofs.YtpdahhnjhggocabGreatDoor
open Go.RowKit
def notKey (key : ByteArray) (x : LAt) : Bool := !(x.key.toList == key.toList)
def WithoutPost (b : BAt) (key : ByteArray) (w : World) (e : Ending) (w' : World) : Prop := ∃ a n c, e = .returned (.agg #[.string b.kind, .string b.name, .slice a n c]) ∧ w'.ownsRow w.heap.size 82 2 (.slice a n c) (b.ls.filter (notKey key)).length ((b.ls.filter (notKey key)).flatMap LAt.cells) ∧ Below w.heap.size w w'
set_option maxHeartbeats 4000000 in
set_option maxRecDepth 100000 in
theorem l7Without_any {b : BAt} (key : ByteArray) {w : World} (hb : BlockIn w b) (hs : LinesSmall b.ls) : Calls Tryz.prog 160 #[.agg #[.string b.kind, .string b.name, b.v], .string key] w fun e w' => WithoutPost b key w e w' := by
 obtain ⟨bk, bn, bv, ls⟩ := b
 unfold WithoutPost
 unfold BlockIn at hb
 simp only at *
 obtain ⟨ao, cap, rfl⟩ := hb.1.form
 have hl := hs.1
 generalize hn : ls.length = len at *
 have en := hid_in hn
 clear hn
 obtain ⟨i0, hi, hz0, hz1, hz2⟩ := info_parts infoLine
 have G : Below w.heap.size w ((w.alloc (.cells #[.string bk, .string bn, .slice ao len cap] 64)).alloc (.cells #[.string ⟨#[]⟩, .string ⟨#[]⟩, .slice none 0 0] 64)) := ((Below.refl w.heap.size w).alloc (Nat.le_refl _) _).alloc (by simp) _
 have hwz2 : ((w.alloc (.cells #[.string bk, .string bn, .slice ao len cap] 64)).alloc (.cells #[.string ⟨#[]⟩, .string ⟨#[]⟩, .slice none 0 0] 64)).heap.size = w.heap.size + 2 := by simp
 have hA : ((w.alloc (.cells #[.string bk, .string bn, .slice ao len cap] 64)).alloc (.cells #[.string ⟨#[]⟩, .string ⟨#[]⟩, .slice none 0 0] 64)).heap[w.heap.size]? = some (.cells #[.string bk, .string bn, .slice ao len cap] 64 (0, 0)) := by
  have b1 := (Below.refl (w.alloc (.cells #[.string bk, .string bn, .slice ao len cap] 64)).heap.size (w.alloc (.cells #[.string bk, .string bn, .slice ao len cap] 64))).alloc (Nat.le_refl _) (.cells #[.string ⟨#[]⟩, .string ⟨#[]⟩, .slice none 0 0] 64)
  rw [b1.block w.heap.size (by simp)]; exact alloc_here w _
 have hR : ((w.alloc (.cells #[.string bk, .string bn, .slice ao len cap] 64)).alloc (.cells #[.string ⟨#[]⟩, .string ⟨#[]⟩, .slice none 0 0] 64)).heap[w.heap.size + 1]? = some (.cells #[.string ⟨#[]⟩, .string ⟨#[]⟩, .slice none 0 0] 64 (0, 0)) := by
  have := alloc_here (w.alloc (.cells #[.string bk, .string bn, .slice ao len cap] 64)) (.cells #[.string ⟨#[]⟩, .string ⟨#[]⟩, .slice none 0 0] 64)
  rw [World.size_alloc] at this; exact this
 generalize hw2 : ((w.alloc (.cells #[.string bk, .string bn, .slice ao len cap] 64)).alloc (.cells #[.string ⟨#[]⟩, .string ⟨#[]⟩, .slice none 0 0] 64)) = w2 at *
 have k2 := cell_of_block hA 2
 simp only [List.getElem?_toArray, List.getElem?_cons_zero, List.getElem?_cons_succ] at k2
 have hb0 := hb.below G
 have hown0 := World.ownsRow_lit (base := w.heap.size + 2) (e := 82) (size := 2) w2 #[] 0 (by omega) (by decide) rfl
 rw [hwz2] at hown0
 have b00 := (Below.refl (w.heap.size + 2) w2).alloc (by omega) (.cells #[] 82)
 have ew2 := hid_in hw2
 clear hb hw2
 go_enter Tryz.func160, Tryz.ntmps160
 go_wp2
 rw [ew2.out]
 go_loopw [5, 6] (fun u i wr => ∃ (j : Nat) (done : List LAt), j ≤ len ∧ i = .int .i64 (j : Int) ∧ done = (ls.take j).filter (notKey key) ∧ wr.ownsRow (w.heap.size + 2) 82 2 u done.length (done.flatMap LAt.cells) ∧ Below (w.heap.size + 2) w2 wr) (fun _ i _ => len - (intOf i).toNat)
 case atStart => exact ⟨0, [], by omega, rfl, by simp, by simpa using hown0, b00⟩
 case round =>
  obtain ⟨j, done, hj, rfl, hdn, hm, bw⟩ := hrel
  obtain ⟨qa, qc, rfl, _⟩ := own_form hm
  have hdl : done.length ≤ j := by rw [hdn]; exact Nat.le_trans (List.length_filter_le _ _) (by simp; omega)
  have k3 := (bw.cell (p := ⟨w.heap.size, 2, none⟩) (by simp)).trans k2
  have kB := (bw.block w.heap.size (by omega)).trans hA
  have kR := (bw.block (w.heap.size + 1) (by omega)).trans hR
  have hszw := bw.size
  rw [hwz2] at hszw
  by_cases hlt : j < len
  ·obtain ⟨D, x, T, e0, hD⟩ := split1 ls j (by have := en.out; omega)
   have h5 := hb0.below (by rw [hwz2]; exact bw)
   have hxm : x ∈ ls := by rw [e0]; simp
   have h6 := h5
   rw [e0] at h6
   obtain ⟨g, off, rfl, c1, c2⟩ := h6.1.line
   obtain ⟨ax, cx, e1⟩ := HasRow.form (h5.2 x hxm)
   have hst := hid_in (show (ls.take (j + 1)).filter (notKey key) = done ++ [x].filter (notKey key) from by rw [hdn, e0, ← hD, take_front, take_one, List.filter_append])
   rw [e1] at c2
   rw [hD] at c1 c2
   have hB0 : (0 : Int) ≤ (j : Int) := by omega
   have hB1 : (j : Int) < (len : Int) := by omega
   have hcells := hid_in (show (LAt.cells x) = [.string x.key, .slice ax x.ws.length cx] from by unfold LAt.cells; rw [e1])
   have hm' := hid_in hm
   have hbase := hid_in (show ∀ k, (Value.slice qa done.length qc).ownBlock = some k → w.heap.size + 2 ≤ k from fun k hk => (hm.lt k hk).1)
   cases hp : (x.key.toList == key.toList)
   rotate_left 1
   ·have hst' := hid_in (show (ls.take (j + 1)).filter (notKey key) = done from by rw [hst.out]; simp [notKey, hp])
    clear h5 h6 hdn hm e0 e1 hD hxm hst hcells hb0 hs
    generalize x.key = xk at *
    generalize x.ws.length = nx at *
    go_wp2
    go_roundw
    case rel => exact ⟨j + 1, done, by omega, by go_num, hst'.out.symm, hm'.out, bw⟩
    case measure => simp [intOf]; omega
   ·have hst' := hid_in (show (ls.take (j + 1)).filter (notKey key) = done ++ [x] from by rw [hst.out]; simp [notKey, hp])
    have hone := lcells_one (ls := [x]) (fun y hy => by rw [List.mem_singleton.1 hy]; exact ⟨_, _, _, e1⟩)
    rw [List.flatMap_singleton, hcells.out] at hone
    clear h5 h6 hdn hm e0 e1 hD hxm hst hb0 hs
    have hm3 := hm'.out.alloc (.cells #[.string x.key, .slice ax x.ws.length cx] 82)
    have b4 := bw.alloc hszw (.cells #[.string x.key, .slice ax x.ws.length cx] 82)
    have hrow := lit_has wr #[.string x.key, .slice ax x.ws.length cx] 82 2 rfl
    go_wp2_with (at_builtin; refine wpList_append_has (by rfl) _ _ 41 (by rfl) (w.heap.size + 2) 82 i0 _ 2 40 Tryz.underlying41 hi hz0 hz1 hz2 rfl (by decide) _ done.length _ (by rfl) hm3 _ 1 _ (by rfl) hrow hone ?c3 ?c4 (Nat.le_trans hszw (by simp)) ?_)
    case c3 => unfold maxLen; omega
    case c4 => omega
    intro ao' cap' w5 hown5 hg5 _
    have hB5 := b4.grown hg5 (by simp; omega) hbase.out
    have HO := hid_in (show w5.ownsRow (w.heap.size + 2) 82 2 (.slice ao' (done.length + 1) cap') (done ++ [x]).length ((done ++ [x]).flatMap LAt.cells) from by
     rw [List.flatMap_append, List.flatMap_singleton, hcells.out, List.length_append]; exact hown5)
    clear hm3 hrow hone hown5 hg5 hbase hm'
    go_wp2
    go_roundw
    case rel => exact ⟨j + 1, done ++ [x], by omega, by go_num, hst'.out.symm, HO.out, hB5⟩
    case measure => simp [intOf]; omega
  ·obtain rfl : j = len := by omega
   have hls : ls.take j = ls := by rw [← en.out, List.take_length]
   rw [hls] at hdn
   have gC := grown_setCell' wr w.heap.size 2 (.slice qa done.length qc)
   have zB : (wr.setCell ⟨w.heap.size, 2, none⟩ (.slice qa done.length qc)).heap[w.heap.size]? = some (.cells #[.string bk, .string bn, .slice qa done.length qc] 64 (0, 0)) := by rw [heap_setCell_same wr w.heap.size 2 _ _ _ kB]; rfl
   have zR := (gC.block (w.heap.size + 1) (by omega) (by intro e; have := Option.some.inj e; omega)).trans kR
   have f2 := frozen_of_block kB 2
   have x0 := cell_of_block zB 0
   have x1 := cell_of_block zB 1
   have x2 := cell_of_block zB 2
   simp only [List.getElem?_toArray, List.getElem?_cons_zero, List.getElem?_cons_succ] at x0 x1 x2
   have gS := grown_setRow (wr.setCell ⟨w.heap.size, 2, none⟩ (.slice qa done.length qc)) (w.heap.size + 1) #[.string bk, .string bn, .slice qa done.length qc]
   have HO := hid_in (show ((wr.setCell ⟨w.heap.size, 2, none⟩ (.slice qa done.length qc)).setRow (w.heap.size + 1) #[.string bk, .string bn, .slice qa done.length qc]).ownsRow w.heap.size 82 2 (.slice qa done.length qc) (ls.filter (notKey key)).length ((ls.filter (notKey key)).flatMap LAt.cells) from by
    rw [← hdn]; exact own_mono (own_other (own_other hm gC (by omega)) gS (by omega)) (by omega))
   have HB := hid_in (belowGrown (belowGrown (G.trans (bw.mono (by omega))) (by omega) (Nat.le_refl _) gC) (by have := gC.size; omega) (by omega) gS)
   clear hb0 hs hm hdn hls kB kR hA hR G b00 hown0 gC gS
   generalize done.length = nd at *
   go_wp2_with (with_reducible show wpList _ _ _ (Oper.mk _ (Op.store _ (Operand.tmp 4) _) _ _ _ _ :: _) _ _; refine wpList_store_row rfl 64 _ _ rfl (w.heap.size + 1) #[.string bk, .string bn, .slice qa nd qc] ?_ ?_ 64 _ zR ?_ ?_ ?_ ?_)
   all_goals (first | rfl | kernel_rfl | exact ⟨rfl, rfl, rfl⟩ | (obtain ⟨i9, e9, _, s9, _⟩ := info_parts infoBlock; exact ⟨i9, e9, s9⟩) | skip)
   have z5 := setRow_heap _ _ _ #[.string bk, .string bn, .slice qa nd qc] _ _ zR
   have y0 := cell_of_block z5 0
   have y1 := cell_of_block z5 1
   have y2 := cell_of_block z5 2
   simp only [List.getElem?_toArray, List.getElem?_cons_zero, List.getElem?_cons_succ] at y0 y1 y2
   generalize (wr.setCell ⟨w.heap.size, 2, none⟩ (.slice qa nd qc)).setRow (w.heap.size + 1) #[.string bk, .string bn, .slice qa nd qc] = W at HO HB y0 y1 y2 z5 ⊢
   exact bodyPost_ret (v := .agg #[.string bk, .string bn, .slice qa nd qc]) (by simp [results, Tryz.results160, go_sem, y0, y1, y2]) rfl ⟨qa, nd, qc, rfl, HO.out, HB.out⟩
end Go.Proofs.YtpdahhnjhggocabGreatDoor
namespace Go.Proofs.YtpdahhnjhggocabGreatDoor
open Go.RowKit
end Go.Proofs.YtpdahhnjhggocabGreatDoor
namespace Go.Proofs.YtpdahhnjhggocabGreatDoor
open Go.RowKit
structure L6S (w : World) (U O X : Nat) (u o : BAt) (ls : List LAt) (v : Value) (W : World) : Prop where
 bw : Below w.heap.size w W
 ub : W.heap[U]? = some (.cells #[.string u.kind, .string u.name, u.v] 64 (0, 0))
 ob : W.heap[O]? = some (.cells #[.string o.kind, .string o.name, o.v] 64 (0, 0))
 xb : W.heap[X]? = some (.cells #[.string o.kind, .string o.name, v] 64 (0, 0))
 rb : W.heap[w.heap.size + 2]? = some (.cells #[.string ⟨#[]⟩, .string ⟨#[]⟩, .slice none 0 0] 64 (0, 0))
 uin : BlockIn W u
 oin : BlockIn W o
 lin : LinesIn W v ls
 mem : ∀ y ∈ ls, y ∈ o.ls ∨ y ∈ u.ls
 far : ∀ q, q ≤ X → LinesFar q u.v u.ls → LinesFar q o.v o.ls → LinesFar q v ls
 ufar : ∀ q, w.heap.size ≤ q → LinesFar q u.v u.ls
 ofar : ∀ q, w.heap.size ≤ q → LinesFar q o.v o.ls
theorem L6S.below {w : World} {U O X : Nat} {u o : BAt} {ls : List LAt} {v : Value} {W W' : World} (h : L6S w U O X u o ls v W) (hb : Below W.heap.size W W') : L6S w U O X u o ls v W' :=
 ⟨h.bw.trans (hb.mono h.bw.size), (hb.block U (Array.getElem?_eq_some_iff.1 h.ub).1).trans h.ub, (hb.block O (Array.getElem?_eq_some_iff.1 h.ob).1).trans h.ob, (hb.block X (Array.getElem?_eq_some_iff.1 h.xb).1).trans h.xb, (hb.block _ (Array.getElem?_eq_some_iff.1 h.rb).1).trans h.rb, h.uin.below hb, h.oin.below hb, h.lin.below hb, h.mem, h.far, h.ufar, h.ofar⟩
theorem L6S.put {w : World} {U O X : Nat} {u o : BAt} {ls ls' : List LAt} {v v' : Value} {x : LAt} {W W1 W2 : World} (h : L6S w U O X u o ls v W) (hU : U = w.heap.size) (hO : O = w.heap.size + 1) (hX : X = w.heap.size + 3) (hb1 : Below W.heap.size W W1) (hb2 : Below W1.heap.size W1 W2) (hl : LinesIn W2 v' ls') (hm : ∀ y ∈ ls', y = x ∨ y ∈ ls) (hx : x ∈ o.ls ∨ x ∈ u.ls) (hf : ∀ q, q < W1.heap.size → LinesFar q v ls → FarV q x.v x.ws.length → LinesFar q v' ls') :
  L6S w U O X u o ls' v' (((W2.setCell ⟨X, 0, none⟩ (.string o.kind)).setCell ⟨X, 1, none⟩ (.string o.name)).setCell ⟨X, 2, none⟩ v') := by
 have h1 := h.below hb1
 have h2 := h1.below hb2
 obtain ⟨z, gz⟩ := box_turn (k' := o.kind) (n' := o.name) (v' := v') h2.xb
 have hXl : X < W1.heap.size := (Array.getElem?_eq_some_iff.1 h1.xb).1
 have hbz := h2.bw.size
 have hfx : ∀ q, LinesFar q u.v u.ls → LinesFar q o.v o.ls → FarV q x.v x.ws.length := fun q hu ho => by
  rcases hx with hx | hx
  ·exact ho.2 x hx
  ·exact hu.2 x hx
 have hfar : ∀ q, q ≤ X → LinesFar q u.v u.ls → LinesFar q o.v o.ls → LinesFar q v' ls' := fun q hq hu ho => hf q (by omega) (h.far q hq hu ho) (hfx q hu ho)
 refine ⟨belowGrown h2.bw h2.bw.size (by omega) gz, (gz.block U (Array.getElem?_eq_some_iff.1 h2.ub).1 (by intro e; have := Option.some.inj e; omega)).trans h2.ub, (gz.block O (Array.getElem?_eq_some_iff.1 h2.ob).1 (by intro e; have := Option.some.inj e; omega)).trans h2.ob, z, (gz.block _ (Array.getElem?_eq_some_iff.1 h2.rb).1 (by intro e; have := Option.some.inj e; omega)).trans h2.rb, LinesIn.far h2.uin (h.ufar X (by omega)) gz, LinesIn.far h2.oin (h.ofar X (by omega)) gz, hl.far (hfar X (Nat.le_refl _) (h.ufar X (by omega)) (h.ofar X (by omega))) gz, fun y hy => ?_, hfar, h.ufar, h.ofar⟩
 rcases hm y hy with rfl | hy
 ·exact hx
 ·exact h.mem y hy
def L6Post (u o : BAt) (w : World) (e : Ending) (w' : World) : Prop := ∃ a n c ls, e = .returned (.agg #[.string o.kind, .string o.name, .slice a n c]) ∧ (ls.map LAt.plain = overL (rulesOf o.kind) (u.ls.map LAt.plain) (o.ls.map LAt.plain) ∧ (∀ y ∈ ls, y ∈ o.ls ∨ y ∈ u.ls) ∧ LinesIn w' (.slice a n c) ls ∧ ∀ q, q < w.heap.size → LinesFar q u.v u.ls → LinesFar q o.v o.ls → LinesFar q (.slice a n c) ls) ∧ Below w.heap.size w w'
def PutP (R : List Plain) (ls : List LAt) (v : Value) (x : LAt) (W1 : World) (v' : Value) (W2 : World) : Prop := ∃ ls' : List LAt, ls'.map LAt.plain = putIn (lineLt R) x.plain (ls.map LAt.plain) ∧ ls'.length = ls.length + 1 ∧ (∀ y ∈ ls', y = x ∨ y ∈ ls) ∧ LinesIn W2 v' ls' ∧ ∀ q, q < W1.heap.size → LinesFar q v ls → FarV q x.v x.ws.length → LinesFar q v' ls'
theorem putLine_p {kind name : ByteArray} {v : Value} {ls : List LAt} {x : LAt} {W : World} (hb : LinesIn W v ls) (hs : LinesSmall ls) (hx : LineIn W x) (hxs : x.ws.length ≤ 1048576) : Calls Tryz.prog 70 #[.agg #[.string kind, .string name, v], .agg #[.string x.key, x.v]] W fun e w' => ∃ q m cc, e = .returned (.agg #[.string kind, .string name, .slice q m cc]) ∧ PutP (rulesOf kind) ls v x W (.slice q m cc) w' ∧ Below W.heap.size W w' := by
 refine (l3PutLine_all (b := ⟨kind, name, v, ls⟩) (x := x) hb hs hx hxs).mono ?_
 rintro e w' ⟨a, n, c, ls', rfl, h, b⟩
 exact ⟨a, n, c, rfl, ⟨ls', h⟩, b⟩
theorem L6S.out {w : World} {u o : BAt} {ls : List LAt} {a : Option Addr} {n c : Nat} {W : World} (h : L6S w w.heap.size (w.heap.size + 1) (w.heap.size + 3) u o ls (.slice a n c) W) (hp : ls.map LAt.plain = overL (rulesOf o.kind) (u.ls.map LAt.plain) (o.ls.map LAt.plain)) (cs : Array Value) : L6Post u o w (.returned (.agg #[.string o.kind, .string o.name, .slice a n c])) (W.setRow (w.heap.size + 2) cs) := by
 have gs := grown_setRow W (w.heap.size + 2) cs
 exact ⟨a, n, c, ls, rfl, ⟨hp, h.mem, h.lin.far (h.far _ (by omega) (h.ufar _ (by omega)) (h.ofar _ (by omega))) gs, fun q hq hu ho => h.far q (by omega) hu ho⟩, belowGrown h.bw h.bw.size (by omega) gs⟩
end Go.Proofs.YtpdahhnjhggocabGreatDoor
