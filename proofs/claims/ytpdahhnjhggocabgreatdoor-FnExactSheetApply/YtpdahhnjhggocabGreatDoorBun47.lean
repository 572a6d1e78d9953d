import Derived.Test.YtpdahhnjhggocabGreatDoorBun46
import Derived.Test.YtpdahhnjhggocabGreatDoorBun45
import Derived.Test.YtpdahhnjhggocabGreatDoorBun30
import Derived.Test.YtpdahhnjhggocabGreatDoorBun24
namespace Go.Proofs.YtpdahhnjhggocabGreatDoor
open Go.RowKit
theorem insertB_any {B n i vb : Nat} {v : Value} {D T : List BAt} {b : BAt} {w : World} (hB : B ≤ w.heap.size) (h : w.ownsRow B 64 3 v n ((D ++ T).flatMap BAt.cells)) (hn : (D ++ T).length = n) (hD : D.length = i) (hl : n ≤ 1048576) (hv : BlkAt w vb b.cells.toArray 64) (hne : v.ownBlock ≠ some vb) (hf : ∃ a m c, b.v = .slice a m c) (hfo : ∀ y ∈ D ++ T, ∃ a m c, y.v = .slice a m c) :
  Calls Tryz.prog 251 #[v, .int .i64 (i : Int), .slice (some ⟨vb, 0, none⟩) 1 1] w fun e w' => InsPost B n v ((D ++ b :: T).flatMap BAt.cells) w e w' := by
 cases T with
 | nil =>
  rw [List.append_nil] at h hn
  have hin : i = n := by rw [← hD, ← hn]
  subst hin
  exact insert_end hB h hn hl hv hf
 | cons t T =>
  obtain ⟨va, vc, rfl, hvf⟩ := own_form h
  have hlt : i < n := by rw [← hn, ← hD]; simp
  obtain ⟨g, rfl⟩ : ∃ g, va = some ⟨g, 0, none⟩ := by
   rcases hvf with e | ⟨g, e⟩
   ·omega
   ·exact ⟨g, e⟩
  have hng : vb ≠ g := fun e => hne (by rw [e]; rfl)
  by_cases hr : n + 1 ≤ vc
  ·exact insert_shift h hn hD hlt hr hl hv hng hf hfo
  ·exact insert_grow h hn hD hlt hB (by omega) hl hv hng hf hfo
theorem Mem.box {B M : Nat} {w w' : World} {L : List MRow} {cs : Array Value} {T : TypeId} (h : Mem B w L) (hM : BlkAt w M cs T) (hT : ∀ r ∈ L, T ≠ r.e) (hg : w.grownBy w' (some M)) : Mem B w' L :=
 ⟨fun r hr => World.ownsRow.kept (h.1 r hr) hg (.inr (own_box hM (h.1 r hr) (hT r hr))), h.2⟩
theorem brows_types {v : Value} {bs : List BAt} {T : TypeId} (h1 : T ≠ 64) (h2 : T ≠ 82) (h3 : T ≠ 9) : ∀ r ∈ brows v bs, T ≠ r.e := by
 intro r hr
 unfold brows at hr
 rcases List.mem_cons.1 hr with rfl | hr
 ·exact h1
 ·obtain ⟨b, _, hr⟩ := List.mem_flatMap.1 hr
  unfold BAt.rows lrows at hr
  rcases List.mem_cons.1 hr with rfl | hr
  ·exact h2
  ·obtain ⟨x, _, rfl⟩ := List.mem_map.1 hr
   exact h3
def StdB (B : Nat) (w : World) : Prop := ∃ w0, StdAt w0 ∧ Below w0.heap.size w0 w ∧ w0.heap.size ≤ B
theorem StdB.at {B : Nat} {w : World} (h : StdB B w) : StdAt w := by
 obtain ⟨w0, h1, h2, _⟩ := h
 exact h1.below h2
theorem StdB.below {B : Nat} {w w' : World} (h : StdB B w) (hb : Below B w w') : StdB B w' := by
 obtain ⟨w0, h1, h2, h3⟩ := h
 exact ⟨w0, h1, h2.trans (hb.mono h3), h3⟩
structure Mk (B M : Nat) (p : Int) (w : World) (v : Value) (bs : List BAt) : Prop where
 box : BlkAt w M #[v, .int .i64 p] 233
 low : B ≤ M
 own : BlocksOwn B w v bs
 std : StdB B w
theorem Mk.below {B M : Nat} {p : Int} {w w' : World} {v : Value} {bs : List BAt} (h : Mk B M p w v bs) (hb : Below w.heap.size w w') : Mk B M p w' v bs :=
 ⟨h.box.below hb, h.low, h.own.below hb, h.std.below (hb.mono (by have := h.low; have := h.box.lt; omega))⟩
theorem Mk.size {B M : Nat} {p : Int} {w : World} {v : Value} {bs : List BAt} (h : Mk B M p w v bs) : B ≤ w.heap.size := by have := h.low; have := h.box.lt; omega
def MkPost (B M : Nat) (p : Int) (O : Option (List PBlock)) (w : World) (e : Ending) (w' : World) : Prop := Below B w w' ∧ ((O = none ∧ e = .panicked (stopE p)) ∨ ∃ A v' bs', O = some A ∧ e = .returned (.tuple #[]) ∧ bs'.map BAt.plain = A ∧ Mk B M p w' v' bs')
theorem Mk.lay {B M : Nat} {p : Int} {w w' : World} {v v' : Value} {bs' : List BAt} (hbx : BlkAt w M #[v, .int .i64 p] 233) (hl : B ≤ M) (hs : StdB B w) (ho : BlocksOwn B w v' bs') (he : w' = w.setCell ⟨M, 0, none⟩ v') : Mk B M p w' v' bs' ∧ Below B w w' := by
 subst he
 have hg := grown_setCell1 w M 0 v'
 have hb : Below B w (w.setCell ⟨M, 0, none⟩ v') := belowGrown (Below.refl B w) (by have := hbx.lt; omega) hl hg
 have h1 := hbx.set 0 v'
 simp only [List.setIfInBounds_toArray, List.set_cons_zero] at h1
 exact ⟨⟨h1, hl, Mem.box ho hbx (brows_types (by decide) (by decide) (by decide)) hg, hs.below hb⟩, hb⟩
end Go.Proofs.YtpdahhnjhggocabGreatDoor
namespace Go.Proofs.YtpdahhnjhggocabGreatDoor
open Go.RowKit
theorem reads_skip {P : Program} {ops : Array Oper} {S : World → Prop} {Q : Act → Prop} {a : Act} {o : Oper} {rest : List Oper} (hw : Region.wanted o (yielded ops a.tmps) = false) (h : wpReads P ops S Q rest (a.put o.dst undef)) : wpReads P ops S Q (o :: rest) a :=
 wpReads_step (fun K hK => by rw [if_neg (by rw [hw]; simp)]; exact hK _ h)
theorem blocks_insert {B n : Nat} {w w' : World} {v v' : Value} {D T : List BAt} {b : BAt} (h : Mem B w (b.rows ++ brows v (D ++ T))) (hn : (D ++ T).length = n) (ho : w'.ownsRow B 64 3 v' (n + 1) ((D ++ b :: T).flatMap BAt.cells)) (hg : w.grownBy w' v.ownBlock) (hv : v'.ownBlock = v.ownBlock ∨ v'.ownBlock = some w.heap.size) : BlocksOwn B w' v' (D ++ b :: T) := by
 have h1 : Mem B w (⟨v, 64, 3, (D ++ T).length, (D ++ T).flatMap BAt.cells⟩ :: (b.rows ++ (D ++ T).flatMap BAt.rows)) := h.perm (by unfold brows; exact List.perm_middle)
 have h2 := h1.grow (r' := ⟨v', 64, 3, n + 1, (D ++ b :: T).flatMap BAt.cells⟩) ho hg hv
 have h3 : Mem B w' (⟨v', 64, 3, n + 1, (D ++ b :: T).flatMap BAt.cells⟩ :: (D ++ b :: T).flatMap BAt.rows) := h2.perm (List.Perm.cons _ (by
  rw [List.flatMap_append, List.flatMap_append, List.flatMap_cons]
  rw [← List.append_assoc, ← List.append_assoc]
  exact List.Perm.append_right _ List.perm_append_comm))
 unfold BlocksOwn brows
 rw [show (D ++ b :: T).length = n + 1 by rw [← hn]; simp; omega]
 exact h3
set_option maxHeartbeats 8000000 in
set_option maxRecDepth 100000 in
theorem mkInsert_any {B M i : Nat} {p : Int} {w : World} {v : Value} {D T : List BAt} {b : BAt} (hm : Mk B M p w v (D ++ T)) (hb : Mem B w (b.rows ++ brows v (D ++ T))) (hD : D.length = i) (hl : (D ++ T).length ≤ 60) (hbs : LinesSmall b.ls) (hbn : b.name.size ≤ 1048576) :
  Calls Tryz.prog 221 #[.pointer (some ⟨M, 0, none⟩), .int .i64 (i : Int), .agg #[.string b.kind, .string b.name, b.v]] w fun e w' => MkPost B M p (if headFault ((D ++ T).map BAt.plain) b.kind b.name = 0 ∧ linesB (rulesOf b.kind) (b.ls.map LAt.plain) = true then some ((D ++ b :: T).map BAt.plain) else none) w e w' := by
 obtain ⟨bk, bn, bv, bl⟩ := b
 have hbl : LinesIn w bv bl := (show LinesOwn B w bv bl from hb.left).lin
 obtain ⟨ba, bc, rfl⟩ := hbl.1.form
 obtain ⟨va, vc, rfl, hvf⟩ := own_form hm.own.row
 have b0 := (Below.refl w.heap.size w).alloc (Nat.le_refl _) (.cells #[.string bk, .string bn, .slice ba bl.length bc] 64)
 have k0 := one_box (w := w) (cs := #[.string bk, .string bn, .slice ba bl.length bc]) (T := 64) 0
 have k1 := one_box (w := w) (cs := #[.string bk, .string bn, .slice ba bl.length bc]) (T := 64) 1
 have k2 := one_box (w := w) (cs := #[.string bk, .string bn, .slice ba bl.length bc]) (T := 64) 2
 have hm0 := hm.below b0
 have c0 := cell_of_block hm0.box 0
 have c1 := cell_of_block hm0.box 1
 simp only [List.getElem?_toArray, List.getElem?_cons_zero, List.getElem?_cons_succ] at k0 k1 k2 c0 c1
 have HMM := hid_in (hb.below b0)
 have HM := hid_in hm0
 have HBL := hid_in (hbl.below b0)
 have HBS := hid_in hbs
 have HH : ∀ W, Below (w.alloc (.cells #[.string bk, .string bn, .slice ba bl.length bc] 64)).heap.size (w.alloc (.cells #[.string bk, .string bn, .slice ba bl.length bc] 64)) W → Calls Tryz.prog 130 #[.slice va (D ++ T).length vc, .string bk, .string bn] W fun e w' => e = .returned (.int .i64 (headFault ((D ++ T).map BAt.plain) bk bn)) ∧ Below W.heap.size W w' := fun W hW => headFault_any bk bn (hm0.own.bin.below hW) (by omega) hbn
 have HVL : ∀ W, Below (w.alloc (.cells #[.string bk, .string bn, .slice ba bl.length bc] 64)).heap.size (w.alloc (.cells #[.string bk, .string bn, .slice ba bl.length bc] 64)) W → Calls Tryz.prog 131 #[.agg #[.string bk, .string bn, .slice ba bl.length bc]] W fun e w' => e = .returned (.bool (linesB (rulesOf bk) (bl.map LAt.plain))) ∧ Below W.heap.size W w' := fun W hW => validLines_any bk bn (HBL.out.below hW) hbs (hm0.std.below (hW.mono hm0.size)).at
 have HNN := hid_in (show ∀ W, W.ownsRow B 64 3 (.slice va (D ++ T).length vc) (D ++ T).length ((D ++ T).flatMap BAt.cells) → ∀ vb, BlkAt W vb #[.string bk, .string bn, .slice ba bl.length bc] 64 → B ≤ W.heap.size → (Value.slice va (D ++ T).length vc).ownBlock ≠ some vb → Calls Tryz.prog 251 #[.slice va (D ++ T).length vc, .int .i64 (i : Int), .slice (some ⟨vb, 0, none⟩) 1 1] W fun e w' => InsPost B (D ++ T).length (.slice va (D ++ T).length vc) ((D ++ (⟨bk, bn, .slice ba bl.length bc, bl⟩ : BAt) :: T).flatMap BAt.cells) W e w' from fun W h1 vb h2 h3 h4 => insertB_any h3 h1 rfl hD (by omega) h2 h4 ⟨_, _, _, rfl⟩ (fun y hy => by obtain ⟨a, c, e⟩ := (hm.own.bin.2 y hy).1.form; exact ⟨a, _, c, e⟩))
 have GX := hid_in (fun q (hq : (Value.slice va (D ++ T).length vc).ownBlock = some q) => (hm.own.row.lt q hq).2)
 have hB0 := hm.size
 have hMl := hm.box.lt
 obtain ⟨O, hO⟩ : ∃ O, (if headFault ((D ++ T).map BAt.plain) bk bn = 0 ∧ linesB (rulesOf bk) (bl.map LAt.plain) = true then some ((D ++ (⟨bk, bn, .slice ba bl.length bc, bl⟩ : BAt) :: T).map BAt.plain) else none) = O := ⟨_, rfl⟩
 rw [hO]
 have HO := hid_in hO
 clear hO hm hb hbl hbs hbn hm0 hvf
 generalize headFault ((D ++ T).map BAt.plain) bk bn = HF at *
 generalize linesB (rulesOf bk) (bl.map LAt.plain) = LB at *
 generalize hn : (D ++ T).length = n at *
 have en := hid_in hn
 clear hn hD
 generalize bl.length = ml at *
 have hsX : (w.alloc (.cells #[.string bk, .string bn, .slice ba ml bc] 64)).heap.size = w.heap.size + 1 := by simp
 generalize hW0 : w.alloc (.cells #[.string bk, .string bn, .slice ba ml bc] 64) = W0 at *
 have EW := hid_in hW0
 clear hW0
 have hKS := hid_in (show ∀ u, Below W0.heap.size W0 u → u.cell? ⟨M, 0, none⟩ = some (.slice va n vc) ∧ u.cell? ⟨M, 1, none⟩ = some (.int .i64 p) ∧ u.cell? ⟨w.heap.size, 0, none⟩ = some (.string bk) ∧ u.cell? ⟨w.heap.size, 1, none⟩ = some (.string bn) ∧ u.cell? ⟨w.heap.size, 2, none⟩ = some (.slice ba ml bc) from fun u hu => ⟨(hu.cell (World.block_lt_of_cell? W0 _ c0)).trans c0, (hu.cell (World.block_lt_of_cell? W0 _ c1)).trans c1, (hu.cell (World.block_lt_of_cell? W0 _ k0)).trans k0, (hu.cell (World.block_lt_of_cell? W0 _ k1)).trans k1, (hu.cell (World.block_lt_of_cell? W0 _ k2)).trans k2⟩)
 have t0 : ∀ q : { W : World // W.cell? ⟨M, 0, none⟩ = some (.slice va n vc) ∧ W.cell? ⟨M, 1, none⟩ = some (.int .i64 p) ∧ W.cell? ⟨w.heap.size, 0, none⟩ = some (.string bk) ∧ W.cell? ⟨w.heap.size, 1, none⟩ = some (.string bn) ∧ W.cell? ⟨w.heap.size, 2, none⟩ = some (.slice ba ml bc) }, q.1.cell? ⟨M, 0, none⟩ = some (.slice va n vc) := fun q => q.2.1
 have t2 : ∀ q : { W : World // W.cell? ⟨M, 0, none⟩ = some (.slice va n vc) ∧ W.cell? ⟨M, 1, none⟩ = some (.int .i64 p) ∧ W.cell? ⟨w.heap.size, 0, none⟩ = some (.string bk) ∧ W.cell? ⟨w.heap.size, 1, none⟩ = some (.string bn) ∧ W.cell? ⟨w.heap.size, 2, none⟩ = some (.slice ba ml bc) }, q.1.cell? ⟨w.heap.size, 0, none⟩ = some (.string bk) := fun q => q.2.2.2.1
 have t3 : ∀ q : { W : World // W.cell? ⟨M, 0, none⟩ = some (.slice va n vc) ∧ W.cell? ⟨M, 1, none⟩ = some (.int .i64 p) ∧ W.cell? ⟨w.heap.size, 0, none⟩ = some (.string bk) ∧ W.cell? ⟨w.heap.size, 1, none⟩ = some (.string bn) ∧ W.cell? ⟨w.heap.size, 2, none⟩ = some (.slice ba ml bc) }, q.1.cell? ⟨w.heap.size, 1, none⟩ = some (.string bn) := fun q => q.2.2.2.2.1
 have t4 : ∀ q : { W : World // W.cell? ⟨M, 0, none⟩ = some (.slice va n vc) ∧ W.cell? ⟨M, 1, none⟩ = some (.int .i64 p) ∧ W.cell? ⟨w.heap.size, 0, none⟩ = some (.string bk) ∧ W.cell? ⟨w.heap.size, 1, none⟩ = some (.string bn) ∧ W.cell? ⟨w.heap.size, 2, none⟩ = some (.slice ba ml bc) }, q.1.cell? ⟨w.heap.size, 2, none⟩ = some (.slice ba ml bc) := fun q => q.2.2.2.2.2
 letI I0 : Inhabited { W : World // W.cell? ⟨M, 0, none⟩ = some (.slice va n vc) ∧ W.cell? ⟨M, 1, none⟩ = some (.int .i64 p) ∧ W.cell? ⟨w.heap.size, 0, none⟩ = some (.string bk) ∧ W.cell? ⟨w.heap.size, 1, none⟩ = some (.string bn) ∧ W.cell? ⟨w.heap.size, 2, none⟩ = some (.slice ba ml bc) } := ⟨⟨W0, c0, c1, k0, k1, k2⟩⟩
 have Bd : Below W0.heap.size W0 W0.drew := (Below.refl _ _).drew
 go_enter Tryz.func221, Tryz.ntmps221
 go_upto_region 1 with fail
 rw [EW.out]
 refine wp_region_holdR (R := fun c w' => c = stopE p ∧ Below B w w' ∧ O = none) (S := fun W => W.cell? ⟨M, 0, none⟩ = some (.slice va n vc) ∧ W.cell? ⟨M, 1, none⟩ = some (.int .i64 p) ∧ W.cell? ⟨w.heap.size, 0, none⟩ = some (.string bk) ∧ W.cell? ⟨w.heap.size, 1, none⟩ = some (.string bn) ∧ W.cell? ⟨w.heap.size, 2, none⟩ = some (.slice ba ml bc)) 15 16 (by kernel_rfl) rfl (fun c a w' hd h => ⟨hd, h.2.1, .inl ⟨h.2.2, by rw [h.1]⟩⟩) ?_
 refine wpHoldR_mask [true, true, true, true, true, true, true, true, true, false, false, false, false, false, false, false] 7 rfl (by kernel_rfl) ⟨c0, c1, k0, k1, k2⟩ ?_
 simp only [maskL_t, maskL_f, maskL_n]
 iterate 9 (refine wpReads_step (fun K hK => ?_); go_simp; refine hK _ ?_; clear hK K)
 refine wpReads_nil ?_
 refine wpHold_branch (f := 6) (rs := [9]) (by kernel_rfl) (by simp) ?_
 refine AllHold.cons rfl (by decide) (fun K hK => ?_) AllHold.nil
 go_simp
 go_wp2_with (go_at_call 130; refine (HH _ Bd).mono ?_; first | rintro e u1 rfl b1 | rintro e u1 ⟨rfl, b1⟩)
 have B1 := Bd.trans b1
 refine hK.out _ _ (hKS.out _ B1) ?_
 clear hK K HH
 by_cases h0 : HF = 0
 ·subst h0
  refine wpHoldR_mask [false, false, false, false, false, false, false, false, false, false, true, true, true, false, false, false] 3 rfl (by kernel_rfl) (hKS.out _ B1) ?_
  simp only [maskL_t, maskL_f, maskL_n]
  iterate 2 (refine wpReads_step (fun K hK => ?_); go_simp; refine hK _ ?_; clear hK K)
  refine wpReads_step (fun K hK => ?_)
  rw [if_pos (by kernel_rfl)]
  go_simp
  refine hK _ ?_
  clear hK K
  refine wpReads_nil ?_
  refine wpHold_branch (f := 2) (rs := [13]) (by kernel_rfl) (by simp) ?_
  refine AllHold.cons rfl (by decide) (fun K hK => ?_) AllHold.nil
  rw [if_pos (by kernel_rfl)]
  go_simp
  go_wp2_with (go_at_call 131; refine (HVL _ B1).mono ?_; first | rintro e u2 rfl b2 | rintro e u2 ⟨rfl, b2⟩)
  have B2 := B1.trans (b2.mono B1.size)
  refine hK.out _ _ (hKS.out _ B2) ?_
  clear hK K HVL
  refine wpHoldR_mask [false, false, false, false, false, false, false, false, false, false, false, false, false, false, true, false] 1 rfl (by kernel_rfl) (hKS.out _ B2) ?_
  simp only [maskL_t, maskL_f, maskL_n]
  refine wpReads_step (fun K hK => ?_)
  go_simp
  refine hK _ ?_
  clear hK K
  refine wpReads_nil ?_
  refine wpHold_last (by kernel_rfl) rfl (by kernel_rfl) ?_
  intro K hK
  clear t0 t2 t3 t4
  have hcs := hKS.out _ B2
  have d1 := hcs.2.1
  cases LB
  ·have HN := hid_in (show O = none from by rw [← HO.out, if_neg (by simp)])
   have B3 := (b0.trans (B2.mono b0.size)).mono hB0
   go_simp
   go_wp2_with (go_at_call 222; refine (need_false (p := p) d1).mono ?_; rintro e w2 ⟨rfl, rfl⟩)
   exact PanicQ.panic rfl ⟨rfl, B3, HN.out⟩
  ·go_simp
   go_wp2_with (go_at_call 222; refine (need_true M _).mono ?_; rintro e w2 ⟨rfl, rfl⟩)
   refine hK.out _ _ (PanicQ.normal ?_)
   clear hK K hKS I0
   have hm2 := HM.out.below B2
   have d0 := hcs.1
   have d2 := hcs.2.2.1
   have d3 := hcs.2.2.2.1
   have d4 := hcs.2.2.2.2
   have b3 := (Below.refl w2.heap.size w2).alloc (Nat.le_refl _) (.cells #[.string bk, .string bn, .slice ba ml bc] 64)
   have b3' := b3.drew
   have hr3 := hm2.own.row
   rw [en.out] at hr3
   have hnb : (Value.slice va n vc).ownBlock ≠ some w2.heap.size := fun e => by have := (hr3.lt _ e).2; omega
   have HIn := HNN.out (w2.alloc (.cells #[.string bk, .string bn, .slice ba ml bc] 64)).drew (own_below hr3 b3') w2.heap.size (BlkAt.new w2 _ _) (Nat.le_trans hm2.size b3'.size) hnb
   have HM3 := hid_in (hm2.below b3')
   have HMM3 := hid_in ((HMM.out.below B2).below b3')
   have BB := ((b0.trans (B2.mono b0.size)).trans (b3'.mono (by have := b0.size; have := B2.size; omega))).mono hB0
   have hXl : w.heap.size < w2.heap.size := by have := B2.size; omega
   have hgX : (Value.slice va n vc).ownBlock ≠ some w.heap.size := fun e => absurd (GX.out _ e) (by omega)
   clear hcs hm2 hr3 hnb HMM HM c0 c1 k0 k1 k2 d1 HNN
   have t0 : ∀ q : { W : World // W.cell? ⟨M, 0, none⟩ = some (.slice va n vc) ∧ W.cell? ⟨w.heap.size, 0, none⟩ = some (.string bk) ∧ W.cell? ⟨w.heap.size, 1, none⟩ = some (.string bn) ∧ W.cell? ⟨w.heap.size, 2, none⟩ = some (.slice ba ml bc) }, q.1.cell? ⟨M, 0, none⟩ = some (.slice va n vc) := fun q => q.2.1
   have t2 : ∀ q : { W : World // W.cell? ⟨M, 0, none⟩ = some (.slice va n vc) ∧ W.cell? ⟨w.heap.size, 0, none⟩ = some (.string bk) ∧ W.cell? ⟨w.heap.size, 1, none⟩ = some (.string bn) ∧ W.cell? ⟨w.heap.size, 2, none⟩ = some (.slice ba ml bc) }, q.1.cell? ⟨w.heap.size, 0, none⟩ = some (.string bk) := fun q => q.2.2.1
   have t3 : ∀ q : { W : World // W.cell? ⟨M, 0, none⟩ = some (.slice va n vc) ∧ W.cell? ⟨w.heap.size, 0, none⟩ = some (.string bk) ∧ W.cell? ⟨w.heap.size, 1, none⟩ = some (.string bn) ∧ W.cell? ⟨w.heap.size, 2, none⟩ = some (.slice ba ml bc) }, q.1.cell? ⟨w.heap.size, 1, none⟩ = some (.string bn) := fun q => q.2.2.2.1
   have t4 : ∀ q : { W : World // W.cell? ⟨M, 0, none⟩ = some (.slice va n vc) ∧ W.cell? ⟨w.heap.size, 0, none⟩ = some (.string bk) ∧ W.cell? ⟨w.heap.size, 1, none⟩ = some (.string bn) ∧ W.cell? ⟨w.heap.size, 2, none⟩ = some (.slice ba ml bc) }, q.1.cell? ⟨w.heap.size, 2, none⟩ = some (.slice ba ml bc) := fun q => q.2.2.2.2
   letI I1 : Inhabited { W : World // W.cell? ⟨M, 0, none⟩ = some (.slice va n vc) ∧ W.cell? ⟨w.heap.size, 0, none⟩ = some (.string bk) ∧ W.cell? ⟨w.heap.size, 1, none⟩ = some (.string bn) ∧ W.cell? ⟨w.heap.size, 2, none⟩ = some (.slice ba ml bc) } := ⟨⟨w2, d0, d2, d3, d4⟩⟩
   go_upto_region 2 with fail
   refine wp_region_hold (S := fun W => W.cell? ⟨M, 0, none⟩ = some (.slice va n vc) ∧ W.cell? ⟨w.heap.size, 0, none⟩ = some (.string bk) ∧ W.cell? ⟨w.heap.size, 1, none⟩ = some (.string bn) ∧ W.cell? ⟨w.heap.size, 2, none⟩ = some (.slice ba ml bc)) 11 12 (by kernel_rfl) rfl ?_
   refine wpHold_mask [true, true, true, true, true, true, true, false, false, false, false, false] 5 rfl (by kernel_rfl) ⟨d0, d2, d3, d4⟩ ?_
   simp only [maskL_t, maskL_f, maskL_n]
   iterate 7 (refine wpReads_step (fun K hK => ?_); go_simp; refine hK _ ?_; clear hK K)
   refine wpReads_nil ?_
   clear t0 t2 t3 t4
   refine wpHold_branch (f := 4) (rs := [7]) (by kernel_rfl) (by simp) ?_
   refine AllHold.cons rfl (by decide) (fun K hK => ?_) AllHold.nil
   go_simp
   have b3d := b3.drew
   have s1 : (w2.alloc (.cells #[.string bk, .string bn, .slice ba ml bc] 64)).drew.cell? ⟨M, 0, none⟩ = some (.slice va n vc) := (b3.cell (World.block_lt_of_cell? w2 _ d0)).trans d0
   have s2 : (w2.alloc (.cells #[.string bk, .string bn, .slice ba ml bc] 64)).drew.cell? ⟨w.heap.size, 0, none⟩ = some (.string bk) := (b3.cell (World.block_lt_of_cell? w2 _ d2)).trans d2
   have s3 : (w2.alloc (.cells #[.string bk, .string bn, .slice ba ml bc] 64)).drew.cell? ⟨w.heap.size, 1, none⟩ = some (.string bn) := (b3.cell (World.block_lt_of_cell? w2 _ d3)).trans d3
   have s4 : (w2.alloc (.cells #[.string bk, .string bn, .slice ba ml bc] 64)).drew.cell? ⟨w.heap.size, 2, none⟩ = some (.slice ba ml bc) := (b3.cell (World.block_lt_of_cell? w2 _ d4)).trans d4
   refine hK.out _ _ ⟨s1, s2, s3, s4⟩ ?_
   clear hK K
   have hUz : w2.heap.size ≤ (w2.alloc (.cells #[.string bk, .string bn, .slice ba ml bc] 64)).drew.heap.size := b3d.size
   generalize (w2.alloc (.cells #[.string bk, .string bn, .slice ba ml bc] 64)).drew = U at *
   refine wpHold_branch (f := 3) (rs := [8]) (by kernel_rfl) (by simp) ?_
   refine AllHold.cons rfl (by decide) (fun K hK => ?_) AllHold.nil
   go_simp
   go_wp2_with (go_at_call 251; refine HIn.mono ?_; rintro e w3 ⟨ao, cap, rfl, ho, hg, hv⟩)
   have zM : BlkAt w3 M #[.slice va n vc, .int .i64 p] 233 := (hg.block M HM3.out.box.lt (fun e => own_box HM3.out.box (HM3.out.own.row) (by decide) e.symm)).trans HM3.out.box
   have q0 := cell_of_block zM 0
   have fr := frozen_of_block zM 0
   simp only [List.getElem?_toArray, List.getElem?_cons_zero] at q0
   refine hK.out _ _ ⟨q0, (hg.cell_far ⟨w.heap.size, 0, none⟩ (by show w.heap.size < U.heap.size; omega) (fun e => hgX e.symm)).trans s2, (hg.cell_far ⟨w.heap.size, 1, none⟩ (by show w.heap.size < U.heap.size; omega) (fun e => hgX e.symm)).trans s3, (hg.cell_far ⟨w.heap.size, 2, none⟩ (by show w.heap.size < U.heap.size; omega) (fun e => hgX e.symm)).trans s4⟩ ?_
   clear hK K
   have bg : Below B U w3 := (Below.refl B U).grown hg HM3.out.size (fun q hq => (HM3.out.own.row.lt q hq).1)
   have HBO := hid_in (blocks_insert HMM3.out en.out ho hg hv)
   have HP := hid_in (show MkPost B M p O w (.returned (.tuple #[])) (w3.setCell ⟨M, 0, none⟩ (.slice ao (n + 1) cap)) from by
    obtain ⟨h1, h2⟩ := Mk.lay zM HM3.out.low (HM3.out.std.below bg) HBO.out rfl
    exact ⟨(BB.trans bg).trans h2, .inr ⟨_, _, _, by rw [← HO.out, if_pos ⟨trivial, trivial⟩], rfl, rfl, h1⟩⟩)
   refine wpHold_mask [false, false, false, false, false, false, false, false, false, true, true, false] 1 rfl (by kernel_rfl) ⟨q0, (hg.cell_far ⟨w.heap.size, 0, none⟩ (by show w.heap.size < U.heap.size; omega) (fun e => hgX e.symm)).trans s2, (hg.cell_far ⟨w.heap.size, 1, none⟩ (by show w.heap.size < U.heap.size; omega) (fun e => hgX e.symm)).trans s3, (hg.cell_far ⟨w.heap.size, 2, none⟩ (by show w.heap.size < U.heap.size; omega) (fun e => hgX e.symm)).trans s4⟩ ?_
   simp only [maskL_t, maskL_f, maskL_n]
   iterate 2 (refine wpReads_step (fun K hK => ?_); go_simp; refine hK _ ?_; clear hK K)
   refine wpReads_nil ?_
   clear ho hg hv HIn HBO bg zM s1 s2 s3 s4
   refine wpHold_last (by kernel_rfl) rfl (by kernel_rfl) ?_
   intro K hK
   go_simp
   refine hK.out _ _ (NoPanic.normal ?_)
   clear hK K
   go_wp2
   go_end0
   exact HP.out
 ·have hh : (HF == 0) = false := by simpa using h0
  have HN := hid_in (show O = none from by rw [← HO.out, if_neg (fun h => h0 h.1)])
  refine wpHoldR_mask [false, false, false, false, false, false, false, false, false, false, true, true, true, true, true, false] 1 rfl (by kernel_rfl) (hKS.out _ B1) ?_
  simp only [maskL_t, maskL_f, maskL_n]
  iterate 2 (refine wpReads_step (fun K hK => ?_); go_simp; refine hK _ ?_; clear hK K)
  iterate 2 (refine reads_skip (by kernel_rfl) ?_; simp only [Act.put, List.setIfInBounds_toArray, List.set_cons_zero, List.set_cons_succ])
  refine wpReads_step (fun K hK => ?_)
  go_simp
  refine hK _ ?_
  clear hK K
  refine wpReads_nil ?_
  refine wpHold_last (by kernel_rfl) rfl (by kernel_rfl) ?_
  intro K hK
  clear t0 t2 t3 t4
  have d1 := (hKS.out _ B1).2.1
  have B3 := (b0.trans (B1.mono b0.size)).mono hB0
  go_simp
  go_wp2_with (go_at_call 222; refine (need_false (p := p) d1).mono ?_; rintro e w2 ⟨rfl, rfl⟩)
  exact PanicQ.panic rfl ⟨rfl, B3, HN.out⟩
end Go.Proofs.YtpdahhnjhggocabGreatDoor
