import Derived.Test.YtpdahhnjhggocabGreatDoorBun47
import Derived.Test.YtpdahhnjhggocabGreatDoorBun43
import Derived.Test.YtpdahhnjhggocabGreatDoorBun39
import Derived.Test.YtpdahhnjhggocabGreatDoorBun34
import Derived.Test.YtpdahhnjhggocabGreatDoorBun32
namespace Go.Proofs.YtpdahhnjhggocabGreatDoor
open Go.RowKit
theorem otherIs_any (x : LAt) (rk : ByteArray) (g : Nat) {w : World} (hx : ∃ a n c, x.v = .slice a n c) (hg : w.cell? ⟨g, 0, none⟩ = some (.string rk)) : Calls Tryz.prog 252 #[.agg #[.string x.key, x.v], .pointer (some ⟨g, 0, none⟩)] w fun e w' => e = .returned (.bool (notKey rk x)) ∧ Below w.heap.size w w' := by
 obtain ⟨a, n, c, e1⟩ := hx
 rw [e1]
 unfold notKey
 have G := (Below.refl w.heap.size w).alloc (Nat.le_refl _) (.cells #[.string x.key, .slice a n c] 82)
 have hg' := (G.cell (World.block_lt_of_cell? w _ hg)).trans hg
 have k0 := one_box (w := w) (cs := #[.string x.key, .slice a n c]) (T := 82) 0
 simp only [List.getElem?_toArray, List.getElem?_cons_zero] at k0
 generalize x.key = xk at *
 go_enter Tryz.func252, Tryz.ntmps252
 go_wp2
 go_ret
 exact ⟨rfl, G⟩
theorem set_mem {B : Nat} {w : World} {xv v : Value} {xs : List LAt} {D T : List BAt} {x : BAt} (p : LAt → Bool) (h : Mem B w (lrows xv xs ++ brows v (D ++ x :: T))) : Mem B w (⟨v, 64, 3, (D ++ x :: T).length, (D ++ x :: T).flatMap BAt.cells⟩ :: ((x.ls.filter p ++ xs).map LAt.row ++ (D.flatMap BAt.rows ++ T.flatMap BAt.rows))) := by
 have h1 : Mem B w (xs.map LAt.row ++ (⟨v, 64, 3, (D ++ x :: T).length, (D ++ x :: T).flatMap BAt.cells⟩ :: (D.flatMap BAt.rows ++ ((x.ls.filter p).map LAt.row ++ T.flatMap BAt.rows)))) := by
  refine h.sub ?_
  unfold lrows brows
  refine List.Sublist.append (List.sublist_cons_self _ _) (List.Sublist.cons_cons _ ?_)
  rw [List.flatMap_append, List.flatMap_cons]
  refine List.Sublist.append (List.Sublist.refl _) (List.Sublist.append ?_ (List.Sublist.refl _))
  unfold BAt.rows lrows
  exact List.Sublist.trans (List.Sublist.map _ List.filter_sublist) (List.sublist_cons_self _ _)
 refine h1.perm (List.perm_middle.trans (List.Perm.cons _ ?_))
 rw [List.map_append]
 have e1 : (xs.map LAt.row ++ (D.flatMap BAt.rows ++ ((x.ls.filter p).map LAt.row ++ T.flatMap BAt.rows))).Perm (xs.map LAt.row ++ ((x.ls.filter p).map LAt.row ++ (D.flatMap BAt.rows ++ T.flatMap BAt.rows))) := List.Perm.append_left _ (by
  rw [← List.append_assoc, ← List.append_assoc]
  exact List.Perm.append_right _ List.perm_append_comm)
 refine e1.trans ?_
 rw [← List.append_assoc]
 exact List.Perm.append_right _ List.perm_append_comm
theorem set_row {B g n cap : Nat} {w : World} {D T : List BAt} {x : BAt} {v2 : Value} {ls : List LAt} (h : w.ownsRow B 64 3 (.slice (some ⟨g, 0, none⟩) n cap) n ((D ++ x :: T).flatMap BAt.cells)) : (w.setCell ⟨g, D.length * 3 + 2, none⟩ v2).ownsRow B 64 3 (.slice (some ⟨g, 0, none⟩) n cap) n ((D ++ (⟨x.kind, x.name, v2, ls⟩ : BAt) :: T).flatMap BAt.cells) := by
 obtain ⟨ys, h1, _, h3⟩ := own_setCells [v2] (D.length * 3 + 2) w _ h
 have e := h3 (D.flatMap BAt.cells ++ [.string x.kind, .string x.name]) [x.v] (T.flatMap BAt.cells) (by rw [List.flatMap_append, List.flatMap_cons]; unfold BAt.cells; simp) (by rw [List.length_append, rowF_len BAt.cells 3 BAt.len]; simp) rfl
 have e2 : (D ++ (⟨x.kind, x.name, v2, ls⟩ : BAt) :: T).flatMap BAt.cells = ys := by rw [e, List.flatMap_append, List.flatMap_cons]; unfold BAt.cells; simp
 rw [e2]
 exact h1
theorem set_back {B : Nat} {w : World} {v v2 : Value} {D T : List BAt} {b : BAt} {ls M : List LAt} (hb : b.v = v2 ∧ b.ls = ls) (hp : ls.Perm M) (h : Mem B w (⟨v2, 82, 2, ls.length, ls.flatMap LAt.cells⟩ :: ⟨v, 64, 3, (D ++ b :: T).length, (D ++ b :: T).flatMap BAt.cells⟩ :: (M.map LAt.row ++ (D.flatMap BAt.rows ++ T.flatMap BAt.rows)))) : BlocksOwn B w v (D ++ b :: T) := by
 unfold BlocksOwn brows
 refine h.perm ((List.Perm.swap _ _ _).trans (List.Perm.cons _ ?_))
 have e : b.rows = ⟨v2, 82, 2, ls.length, ls.flatMap LAt.cells⟩ :: ls.map LAt.row := by unfold BAt.rows lrows; rw [hb.1, hb.2]
 rw [List.flatMap_append, List.flatMap_cons, e]
 have e1 : (⟨v2, 82, 2, ls.length, ls.flatMap LAt.cells⟩ :: (M.map LAt.row ++ (D.flatMap BAt.rows ++ T.flatMap BAt.rows))).Perm ((⟨v2, 82, 2, ls.length, ls.flatMap LAt.cells⟩ :: ls.map LAt.row) ++ (D.flatMap BAt.rows ++ T.flatMap BAt.rows)) := List.Perm.cons _ (List.Perm.append_right _ (hp.map _).symm)
 refine e1.trans ?_
 rw [← List.append_assoc, ← List.append_assoc]
 exact List.Perm.append_right _ List.perm_append_comm
end Go.Proofs.YtpdahhnjhggocabGreatDoor
namespace Go.Proofs.YtpdahhnjhggocabGreatDoor
open Go.RowKit
set_option maxHeartbeats 8000000 in
set_option maxRecDepth 100000 in
theorem setLines_any {B M g n cap i : Nat} {p : Int} {w : World} {D T : List BAt} {x : BAt} {xs : List LAt} {xv : Value} (key : ByteArray) (hm : Mk B M p w (.slice (some ⟨g, 0, none⟩) n cap) (D ++ x :: T)) (hn : (D ++ x :: T).length = n) (hD : D.length = i) (hx : Mem B w (lrows xv xs ++ brows (.slice (some ⟨g, 0, none⟩) n cap) (D ++ x :: T))) (hok : SheetOk ((D ++ x :: T).map BAt.plain)) (hxs : LinesSmall xs) (hbud : x.ls.length + xs.length ≤ 1048576) :
  Calls Tryz.prog 224 #[.pointer (some ⟨M, 0, none⟩), .pointer (some ⟨g, i * 3, none⟩), .string key, xv] w fun e w' => MkPost B M p (if linesB (rulesOf x.kind) (setL (rulesOf x.kind) (x.ls.map LAt.plain) key (xs.map LAt.plain)) = true then some ((D.map BAt.plain) ++ (⟨x.kind, x.name, setL (rulesOf x.kind) (x.ls.map LAt.plain) key (xs.map LAt.plain)⟩ : PBlock) :: T.map BAt.plain) else none) w e w' := by
 obtain ⟨xk, xn, xw, xl⟩ := x
 have hlo : LinesOwn B w xw xl := hm.own.lines ⟨xk, xn, xw, xl⟩ (by simp)
 obtain ⟨wa, wc, rfl⟩ := hlo.lin.1.form
 have hxo : LinesOwn B w xv xs := hx.left
 obtain ⟨xa, xc, rfl⟩ := hxo.lin.1.form
 have hsl : LinesSmall xl := ((ok_small hok).2 ⟨xk, xn, .slice wa xl.length wc, xl⟩ (by simp)).2
 have hB0 := hm.size
 have hrow := hm.own.row
 rw [hn] at hrow
 have hgl := hrow.lt g rfl
 have hMg : M ≠ g := fun e => own_box hm.box hrow (by decide) (by rw [e]; rfl)
 obtain ⟨g', off', e', r1, r2, r3⟩ := (show HasRow w (.slice (some ⟨g, 0, none⟩) n cap) n 3 ((D ++ (⟨xk, xn, .slice wa xl.length wc, xl⟩ : BAt) :: T).flatMap BAt.cells) from own_has hrow).block
 cases e'
 simp only [Nat.zero_add, hD] at r1 r2 r3
 have b0 := (Below.refl w.heap.size w).alloc (Nat.le_refl _) (.cells #[.string key] 9)
 have k0 := one_box (w := w) (cs := #[.string key]) (T := 9) 0
 simp only [List.getElem?_toArray, List.getElem?_cons_zero] at k0
 have l0 := World.block_lt_of_cell? _ _ k0
 have HK := keepLines_any (F := 252) (q := .pointer (some ⟨w.heap.size, 0, none⟩)) (notKey key) (hlo.lin.below b0) hsl.1 (fun y hy W hW => otherIs_any y key w.heap.size (by obtain ⟨a, c, e⟩ := HasRow.form (hlo.lin.2 y hy); exact ⟨a, _, c, e⟩) ((hW.cell l0).trans k0)) (enters_of Tryz.func252 (by kernel_rfl) rfl)
 have f3 := (b0.cell (World.block_lt_of_cell? w _ r3)).trans r3
 have HM := hid_in (hm.below b0)
 have HX := hid_in (hx.below b0)
 have HLO := hid_in hlo
 have HXO := hid_in hxo
 have HSL := hid_in hsl
 have HXS := hid_in hxs
 have HOK := hid_in hok
 have HBUD := hid_in hbud
 have HR3 := hid_in (And.intro r1 (And.intro r2 r3))
 obtain ⟨O, hO⟩ : ∃ O, (if linesB (rulesOf xk) (setL (rulesOf xk) (xl.map LAt.plain) key (xs.map LAt.plain)) = true then some ((D.map BAt.plain) ++ (⟨xk, xn, setL (rulesOf xk) (xl.map LAt.plain) key (xs.map LAt.plain)⟩ : PBlock) :: T.map BAt.plain) else none) = O := ⟨_, rfl⟩
 rw [hO]
 have HO := hid_in hO
 have EN := hid_in hn
 have ED := hid_in hD
 clear hO hm hx hlo hxo hsl hxs hok hbud hn hD r1 r2 r3 hrow
 generalize hW0 : w.alloc (.cells #[.string key] 9) = W0 at *
 have EW := hid_in hW0
 have hW0z : W0.heap.size = w.heap.size + 1 := by rw [← hW0]; simp
 clear hW0
 go_enter Tryz.func224, Tryz.ntmps224
 go_upto_region 1 with fail
 rw [EW.out]
 clear EW
 go_wp2_with (go_at_call 145; refine HK.mono ?_)
 first | rintro e w1 v1 rfl o1 b1 | rintro e w1 ⟨v1, rfl, o1, b1⟩
 obtain ⟨a1, c1, rfl, _⟩ := own_form o1
 have b1' : Below W0.heap.size W0 w1 := by rw [hW0z]; exact b1
 have B1 := b0.trans (b1'.mono b0.size)
 have x1 := (Below.refl w1.heap.size w1).alloc (Nat.le_refl _) (.cells #[.slice a1 (xl.filter (notKey key)).length c1, .slice xa xs.length xc] 41)
 have B2 := B1.trans (x1.mono B1.size)
 have hin1 := (own_has o1).below x1
 have hinX := HXO.out.lin.below B2
 have hfl : (xl.filter (notKey key)).length ≤ xl.length := List.length_filter_le _ _
 have HC := concatL_any (g := w1.heap.size) (BlkAt.new w1 #[.slice a1 (xl.filter (notKey key)).length c1, .slice xa xs.length xc] 41) hin1 hinX.1 (lcells_one (fun y hy => by obtain ⟨a, c, e⟩ := HasRow.form (HLO.out.lin.2 y (List.mem_filter.1 hy).1); exact ⟨a, _, c, e⟩)) (lcells_one (fun y hy => by obtain ⟨a, c, e⟩ := HasRow.form (HXO.out.lin.2 y hy); exact ⟨a, _, c, e⟩)) (by have := HBUD.out; show _ ≤ 2000000; have h1 : xl.length + xs.length ≤ 1048576 := this; omega)
 clear hin1 hinX HK o1 k0 l0 f3
 go_wp2_with (go_at_call 153; refine HC.mono ?_)
 rintro e w2 ⟨v2, rfl, o2, b2⟩
 obtain ⟨a2, c2, rfl, _⟩ := own_form o2
 have B3 := B2.trans (b2.mono B2.size)
 obtain ⟨ML, hML⟩ : ∃ ML, ML = xl.filter (notKey key) ++ xs := ⟨_, rfl⟩
 have hMl : (xl.filter (notKey key)).length + xs.length = ML.length := by rw [hML, List.length_append]
 have hMc : (xl.filter (notKey key)).flatMap LAt.cells ++ xs.flatMap LAt.cells = ML.flatMap LAt.cells := by rw [hML, List.flatMap_append]
 rw [hMl, hMc] at o2
 rw [hMl]
 have hMlen : ML.length ≤ 1048576 := by have h1 : xl.length + xs.length ≤ 1048576 := HBUD.out; omega
 have hmB := set_mem (notKey key) ((HX.out.below b1').below x1)
 rw [← hML] at hmB
 have hm2 := Mem.join hmB (N := [⟨.slice a2 ML.length c2, 82, 2, ML.length, ML.flatMap LAt.cells⟩]) ⟨fun r hr => by rw [List.mem_singleton.1 hr]; exact o2, by simp⟩ b2 (by have := B2.size; omega)
 have hr2 : w2.ownsRow B 64 3 (.slice (some ⟨g, 0, none⟩) n cap) n ((D ++ (⟨xk, xn, .slice wa xl.length wc, xl⟩ : BAt) :: T).flatMap BAt.cells) := by have := Mem.head hm2.tail; rw [EN.out] at this; exact this
 have z3 := (B3.cell (p := ⟨g, i * 3 + 2, none⟩) hgl.2).trans HR3.out.2.2
 have z1 := (B3.cell (p := ⟨g, i * 3, none⟩) hgl.2).trans HR3.out.1
 have z2 := (B3.cell (p := ⟨g, i * 3 + 1, none⟩) hgl.2).trans HR3.out.2.1
 have fr3 := hr2.frozenAt (i * 3 + 2)
 have gz := grown_setCell1 w2 g (i * 3 + 2) (.slice a2 ML.length c2)
 have hr3 := set_row (v2 := .slice a2 ML.length c2) (ls := ML) hr2
 rw [ED.out] at hr3
 have hm3 : Mem B (w2.setCell ⟨g, i * 3 + 2, none⟩ (.slice a2 ML.length c2)) (⟨.slice (some ⟨g, 0, none⟩) n cap, 64, 3, n, (D ++ (⟨xk, xn, .slice a2 ML.length c2, ML⟩ : BAt) :: T).flatMap BAt.cells⟩ :: ⟨.slice a2 ML.length c2, 82, 2, ML.length, ML.flatMap LAt.cells⟩ :: (ML.map LAt.row ++ (D.flatMap BAt.rows ++ T.flatMap BAt.rows))) := (hm2.perm (List.Perm.swap _ _ _)).grow hr3 gz (.inl rfl)
 have zM := (HM.out.box.below (b1'.trans ((x1.trans (b2.mono x1.size)).mono b1'.size))).grown gz hMg
 have B4 : Below B w (w2.setCell ⟨g, i * 3 + 2, none⟩ (.slice a2 ML.length c2)) := belowGrown (B3.mono hB0) (by have := B3.size; omega) hgl.1 gz
 have HST := hid_in (HM.out.std.below ((b1'.trans ((x1.trans (b2.mono x1.size)).mono b1'.size)).mono (by have := hW0z; omega)))
 have HST4 := hid_in (HST.out.below (belowGrown (Below.refl B w2) (by have := B3.size; omega) hgl.1 gz))
 have hz4 : (w2.setCell ⟨g, i * 3 + 2, none⟩ (.slice a2 ML.length c2)).heap.size = w2.heap.size := World.size_setCell ..
 have y3 : (w2.setCell ⟨g, i * 3 + 2, none⟩ (.slice a2 ML.length c2)).cell? ⟨g, i * 3 + 2, none⟩ = some (.slice a2 ML.length c2) := by
  have h7 := (show HasRow (w2.setCell ⟨g, i * 3 + 2, none⟩ (.slice a2 ML.length c2)) (.slice (some ⟨g, 0, none⟩) n cap) n 3 ((D ++ (⟨xk, xn, .slice a2 ML.length c2, ML⟩ : BAt) :: T).flatMap BAt.cells) from own_has hr3).block
  obtain ⟨g', off', e', _, _, h8⟩ := h7
  cases e'
  rw [Nat.zero_add, ED.out] at h8
  exact h8
 have y1 : (w2.setCell ⟨g, i * 3 + 2, none⟩ (.slice a2 ML.length c2)).cell? ⟨g, i * 3, none⟩ = some (.string xk) := by
  have h7 := (show HasRow (w2.setCell ⟨g, i * 3 + 2, none⟩ (.slice a2 ML.length c2)) (.slice (some ⟨g, 0, none⟩) n cap) n 3 ((D ++ (⟨xk, xn, .slice a2 ML.length c2, ML⟩ : BAt) :: T).flatMap BAt.cells) from own_has hr3).block
  obtain ⟨g', off', e', h8, _, _⟩ := h7
  cases e'
  rw [Nat.zero_add, ED.out] at h8
  exact h8
 have HM3 := hid_in hm3
 have hqa : ∀ q, (Value.slice a2 ML.length c2).ownBlock = some q → q < w2.heap.size ∧ B ≤ q := fun q hq => ⟨(o2.lt q hq).2, by have := (o2.lt q hq).1; have := B2.size; omega⟩
 have HQA := hid_in hqa
 have EML := hid_in hML
 have hMMl := HM.out.low
 clear hm3 hm2 hmB hr2 hr3 o2 HC HX hqa hML hMl hMc gz b1 b1' x1 b2 HM
 generalize hNL : ML.length = NL at *
 have ENL := hid_in hNL
 clear hNL
 generalize hW4 : w2.setCell ⟨g, i * 3 + 2, none⟩ (.slice a2 NL c2) = W4 at *
 have EW4 := hid_in hW4
 clear hW4
 go_upto_region 3 with fail
 rw [EW4.out]
 clear z1 z2 z3 fr3
 have hg4 : g < W4.heap.size := by have := B3.size; omega
 have hKS := hid_in (show ∀ u, Below W4.heap.size W4 u → u.cell? ⟨g, i * 3 + 2, none⟩ = some (.slice a2 NL c2) ∧ u.cell? ⟨g, i * 3, none⟩ = some (.string xk) from fun u hu => ⟨(hu.cell (p := ⟨g, i * 3 + 2, none⟩) hg4).trans y3, (hu.cell (p := ⟨g, i * 3, none⟩) hg4).trans y1⟩)
 have t0 : ∀ q : { W : World // W.cell? ⟨g, i * 3 + 2, none⟩ = some (.slice a2 NL c2) ∧ W.cell? ⟨g, i * 3, none⟩ = some (.string xk) }, q.1.cell? ⟨g, i * 3 + 2, none⟩ = some (.slice a2 NL c2) := fun q => q.2.1
 have t1 : ∀ q : { W : World // W.cell? ⟨g, i * 3 + 2, none⟩ = some (.slice a2 NL c2) ∧ W.cell? ⟨g, i * 3, none⟩ = some (.string xk) }, q.1.cell? ⟨g, i * 3, none⟩ = some (.string xk) := fun q => q.2.2
 letI I0 : Inhabited { W : World // W.cell? ⟨g, i * 3 + 2, none⟩ = some (.slice a2 NL c2) ∧ W.cell? ⟨g, i * 3, none⟩ = some (.string xk) } := ⟨⟨W4, y3, y1⟩⟩
 have Bd : Below W4.heap.size W4 W4.drew := (Below.refl _ _).drew
 have HRU := implRules_any xk W4.drew
 refine wp_region_hold (S := fun W => W.cell? ⟨g, i * 3 + 2, none⟩ = some (.slice a2 NL c2) ∧ W.cell? ⟨g, i * 3, none⟩ = some (.string xk)) 10 11 (by kernel_rfl) rfl ?_
 refine wpHold_mask [true, true, true, true, true, true, true, true, false, false, false] 3 rfl (by kernel_rfl) ⟨y3, y1⟩ ?_
 simp only [maskL_t, maskL_f, maskL_n]
 iterate 8 (refine wpReads_step (fun K hK => ?_); go_simp; refine hK _ ?_; clear hK K)
 refine wpReads_nil ?_
 clear t0 t1
 refine wpHold_branch (f := 2) (rs := [8]) (by kernel_rfl) (by simp) ?_
 refine AllHold.cons rfl (by decide) (fun K hK => ?_) AllHold.nil
 go_simp
 go_wp2_with (go_at_call 54; refine HRU.mono ?_; rintro e u1 ⟨vr, L, rfl, hpl, hrl, b4⟩)
 have b4' := Bd.trans b4
 refine hK.out _ _ (hKS.out _ b4') ?_
 clear hK K HRU
 have hrin := hrl.rin
 have hL12 := rulesOf_twelve xk hpl
 have hvrow := Mem.head hrl
 obtain ⟨ra, rc, rfl⟩ := hrin.1.form
 have HL := lineOrderOf_any (v := .slice ra L.length rc) ⟨_, _, _, rfl⟩ u1
 refine wpHold_branch (f := 1) (rs := [9]) (by kernel_rfl) (by simp) ?_
 refine AllHold.cons rfl (by decide) (fun K hK => ?_) AllHold.nil
 go_simp
 go_wp2_with (go_at_call 53; refine HL.mono ?_; rintro e u2 ⟨rfl, rfl⟩)
 have x5 := (Below.refl u1.heap.size u1).alloc (Nat.le_refl _) (.cells #[.slice ra L.length rc] 85)
 have b5 := b4'.trans (x5.mono b4'.size)
 refine hK.out _ _ (hKS.out _ b5) ?_
 clear hK K HL hKS I0
 have hzu1 := b4'.size
 have hm5 := (HM3.out.below b5).perm (List.Perm.swap _ _ _)
 have q5 := one_box (w := u1) (cs := #[.slice ra L.length rc]) (T := 85) 0
 simp only [List.getElem?_toArray, List.getElem?_cons_zero] at q5
 have hlin : ∀ y ∈ ML, LineIn (u1.alloc (.cells #[.slice ra L.length rc] 85)) y := fun y hy => own_has (hm5.1 (LAt.row y) (by simp; exact .inr (.inr (.inl ⟨y, hy, rfl⟩))))
 have hsmall : ∀ y ∈ ML, y.ws.length ≤ 1048576 ∧ ∀ z ∈ y.ws, z.length ≤ 1048576 := fun y hy => by
  rw [EML.out] at hy
  rcases List.mem_append.1 hy with hy | hy
  ·exact HSL.out.2 y (List.mem_filter.1 hy).1
  ·exact HXS.out.2 y hy
 have HS := sortLines_any (g := u1.heap.size) (ls := ML) (by have := Mem.head hm5; rw [ENL.out]; exact this) hL12 (hrin.below x5) q5 (fun y hy => ⟨hlin y hy, (hsmall y hy).1⟩)
  (fun q hq => ⟨FarV.above hvrow (by have := (HQA.out q hq).1; show q < W4.heap.size; omega), by have := (HQA.out q hq).1; omega, fun y hy => far_rows (s := LAt.row y) hm5 (by simp; exact .inr (.inl ⟨y, hy, rfl⟩)) hq⟩) (by rw [ENL.out]; omega)
 have HSM := hid_in hsmall
 have HM5 := hid_in hm5
 have HPL := hid_in hpl
 have zM5 := zM.below b5
 have B5 := B4.trans (b5.mono (by have := B3.size; omega))
 have HST5 := hid_in (HST4.out.below (b5.mono (by have := B3.size; omega)))
 have hU2z := b5.size
 clear hlin hsmall hm5 hrin hvrow hrl hpl zM HM3 HST4 y1 y3 q5
 generalize u1.alloc (.cells #[.slice ra L.length rc] 85) = U2 at *
 rw [ENL.out] at HS
 refine wpHold_last (by kernel_rfl) rfl (by kernel_rfl) ?_
 intro K hK
 go_simp
 go_wp2_with (go_at_call 52; refine HS.mono ?_; first | rintro e u3 rfl ls5 hp5 o5 hs5 g5 | rintro e u3 ⟨rfl, ls5, hp5, o5, hs5, g5⟩)
 refine hK.out _ _ (NoPanic.normal ?_)
 clear hK K HS
 have hl5 : ls5.length = NL := by rw [hp5.length_eq, ENL.out]
 have hm6 := HM5.out.grow (r' := ⟨.slice a2 NL c2, 82, 2, NL, ls5.flatMap LAt.cells⟩) o5 g5 (.inl rfl)
 have hown : BlocksOwn B u3 (.slice (some ⟨g, 0, none⟩) n cap) (D ++ (⟨xk, xn, .slice a2 NL c2, ls5⟩ : BAt) :: T) := set_back (b := ⟨xk, xn, .slice a2 NL c2, ls5⟩) (M := ML) (ls := ls5) ⟨rfl, rfl⟩ hp5 (by
  rw [hl5, show (D ++ (⟨xk, xn, .slice a2 NL c2, ls5⟩ : BAt) :: T).length = n by have := EN.out; simpa using this]
  have e7 : (D ++ (⟨xk, xn, .slice a2 NL c2, ls5⟩ : BAt) :: T).flatMap BAt.cells = (D ++ (⟨xk, xn, .slice a2 NL c2, ML⟩ : BAt) :: T).flatMap BAt.cells := by rw [List.flatMap_append, List.flatMap_cons, List.flatMap_append, List.flatMap_cons]; rfl
  rw [e7]
  exact hm6)
 have bU : Below B U2 u3 := (Below.refl B U2).grown g5 (by have := B3.size; omega) (fun q hq => (HQA.out q hq).2)
 have zM6 : BlkAt u3 M #[.slice (some ⟨g, 0, none⟩) n cap, .int .i64 p] 233 := (g5.block M zM5.lt (fun e => own_box (e := 82) zM5 (Mem.head HM5.out) (by decide) e.symm)).trans zM5
 have hMK : Mk B M p u3 (.slice (some ⟨g, 0, none⟩) n cap) (D ++ (⟨xk, xn, .slice a2 NL c2, ls5⟩ : BAt) :: T) := ⟨zM6, hMMl, hown, HST5.out.below bU⟩
 have B6 := B5.trans bU
 have hsm5 : LinesSmall ls5 := ⟨by rw [hl5]; exact hMlen, fun y hy => HSM.out y (hp5.mem_iff.1 hy)⟩
 have hpl5 := setL_sorted (R := rulesOf xk) (ls := xl.map LAt.plain) (xs := xs.map LAt.plain) (ms := ls5.map LAt.plain) (key := key) (by have := HOK.out.2.1 (BAt.plain ⟨xk, xn, .slice wa xl.length wc, xl⟩) (List.mem_map_of_mem (by simp)); exact this.2.2) (by
   rw [← without_plain, ← List.map_append, ← EML.out]; exact hp5.map _) (by
   intro a b hab y z hy hz
   rw [List.getElem?_map, Option.map_eq_some_iff] at hy hz
   obtain ⟨y', hy', rfl⟩ := hy
   obtain ⟨z', hz', rfl⟩ := hz
   have := hs5 a b hab y' z' hy' hz'
   rw [HPL.out] at this
   exact this)
 have HRES := hid_in (show (linesB (rulesOf xk) (ls5.map LAt.plain) = false → O = none) ∧ (linesB (rulesOf xk) (ls5.map LAt.plain) = true → O = some ((D ++ (⟨xk, xn, .slice a2 NL c2, ls5⟩ : BAt) :: T).map BAt.plain)) from ⟨fun h => by
   rw [← HO.out, if_neg (fun h2 => by rw [linesB_iff.2 (hpl5.1.2 (linesB_iff.1 h2))] at h; cases h)], fun h => by
   have h3 := linesB_iff.1 h
   rw [← HO.out, if_pos (linesB_iff.2 (hpl5.1.1 h3)), ← hpl5.2 h3, List.map_append, List.map_cons]
   rfl⟩)
 have hlin5 : LinesIn u3 (.slice a2 NL c2) ls5 := (hown.lines ⟨xk, xn, .slice a2 NL c2, ls5⟩ (by simp)).lin
 have HVL := validLines_any xk xn hlin5 hsm5 hMK.std.at
 have hrow6 := hown.row
 rw [show (D ++ (⟨xk, xn, .slice a2 NL c2, ls5⟩ : BAt) :: T).length = n by have := EN.out; simpa using this] at hrow6
 obtain ⟨g', off', e', r1, r2, r3⟩ := (show HasRow u3 (.slice (some ⟨g, 0, none⟩) n cap) n 3 ((D ++ (⟨xk, xn, .slice a2 NL c2, ls5⟩ : BAt) :: T).flatMap BAt.cells) from own_has hrow6).block
 cases e'
 simp only [Nat.zero_add, ED.out] at r1 r2 r3
 have HMK := hid_in hMK
 clear hpl5 hown hm6 hMK hlin5 hsm5 hrow6 hp5 o5 hs5 g5 zM5 zM6 bU B5 B4 HM5
 generalize linesB (rulesOf xk) (ls5.map LAt.plain) = LB at *
 go_wp2_with (go_at_call 131; refine HVL.mono ?_)
 first | rintro e u4 rfl c4 | rintro e u4 ⟨rfl, c4⟩
 have hMK4 := HMK.out.below c4
 have B7 := B6.trans (c4.mono HMK.out.size)
 have d1 := cell_of_block hMK4.box 1
 simp only [List.getElem?_toArray, List.getElem?_cons_zero, List.getElem?_cons_succ] at d1
 have HMK4 := hid_in hMK4
 clear hMK4 HVL HMK
 cases LB
 ·go_wp2_with (go_at_call 222; refine (need_false (p := p) d1).mono ?_; rintro e w9 ⟨rfl, rfl⟩)
  exact ⟨rfl, B7, .inl ⟨HRES.out.1 trivial, rfl⟩⟩
 ·go_wp2_with (go_at_call 222; refine (need_true M _).mono ?_; rintro e w9 ⟨rfl, rfl⟩)
  go_end0
  exact ⟨B7, .inr ⟨_, _, _, HRES.out.2 trivial, rfl, rfl, HMK4.out⟩⟩
end Go.Proofs.YtpdahhnjhggocabGreatDoor
namespace Go.Proofs.YtpdahhnjhggocabGreatDoor
open Go.RowKit
theorem ta_gone_new (p : Value) (W : World) : (Instr.typeAssert (.iface 217 p) 136 220 true).run Tryz.prog W = .ok (.tuple #[.agg #[.string ⟨#[]⟩, .string ⟨#[]⟩, .slice none 0 0], .bool false]) W := by kernel_rfl
theorem blocks_delete {B m : Nat} {w w' : World} {v v' : Value} {D T : List BAt} {x : BAt} (h : BlocksOwn B w v (D ++ x :: T)) (hn : (D ++ T).length = m) (ho : w'.ownsRow B 64 3 v' m ((D ++ T).flatMap BAt.cells)) (hg : w.grownBy w' v.ownBlock) (hv : v'.ownBlock = v.ownBlock) : BlocksOwn B w' v' (D ++ T) := by
 have h1 : Mem B w (⟨v, 64, 3, (D ++ x :: T).length, (D ++ x :: T).flatMap BAt.cells⟩ :: (D ++ T).flatMap BAt.rows) := Mem.sub h (by
  unfold brows
  refine List.Sublist.cons_cons _ ?_
  rw [List.flatMap_append, List.flatMap_append, List.flatMap_cons]
  exact List.Sublist.append (List.Sublist.refl _) (List.sublist_append_right _ _))
 have h2 := h1.grow (r' := ⟨v', 64, 3, m, (D ++ T).flatMap BAt.cells⟩) ho hg (.inl hv)
 unfold BlocksOwn brows
 rw [hn]
 exact h2
set_option maxHeartbeats 8000000 in
set_option maxRecDepth 100000 in
theorem take_gone {B M : Nat} {p : Int} {w : World} {v : Value} {bs : List BAt} (hm : Mk B M p w v bs) (hok : SheetOk (bs.map BAt.plain)) (ck cn : ByteArray) : Calls Tryz.prog 164 #[.pointer (some ⟨M, 0, none⟩), (.iface 217 (.agg #[.string ck, .string cn]))] w fun e w' => MkPost B M p (oneS (bs.map BAt.plain) ⟨1, ck, cn, ⟨#[]⟩, []⟩) w e w' := by
 obtain ⟨va, vc, rfl, hvf⟩ := own_form hm.own.row
 have hlb : bs.length ≤ 60 := by have := hok.1; rw [List.length_map] at this; exact this
 have m0 := cell_of_block hm.box 0
 have m1 := cell_of_block hm.box 1
 simp only [List.getElem?_toArray, List.getElem?_cons_zero, List.getElem?_cons_succ] at m0 m1
 have hB0 := hm.size
 have HFB : ∀ W, Below w.heap.size w W → Calls Tryz.prog 157 #[.slice va bs.length vc, .agg #[.string ck, .string cn]] W fun e w' => BsPost (bs.map BAt.plain) ck cn W e w' := fun W hW => findBlock_any ck cn (hm.own.bin.below hW) (by omega) (by have := sheet_mono (P := bs.map BAt.plain) hok.2.2 ck cn; rw [List.length_map] at this; exact this)
 have HH := fun W => head_any ck cn W
 have ta0 := fun W => ta_gone_new (.agg #[.string ck, .string cn]) W
 have ta1 := fun W => ta_gone_gone (.agg #[.string ck, .string cn]) W
 have hhf : ∀ W, (Instr.field 217 (.agg #[.string ck, .string cn]) 0).run Tryz.prog W = .ok (.agg #[.string ck, .string cn]) W := fun W => by kernel_rfl
 have HM := hid_in hm
 have HOK := hid_in hok
 obtain ⟨O, hO⟩ : ∃ O, (oneS (bs.map BAt.plain) ⟨1, ck, cn, ⟨#[]⟩, []⟩) = O := ⟨_, rfl⟩
 rw [hO]
 have HO := hid_in hO
 clear hO hm hok hvf
 obtain ⟨PP, hPP⟩ : ∃ PP, bs.map BAt.plain = PP := ⟨_, rfl⟩
 have EPP := hid_in hPP
 rw [hPP] at HFB
 clear hPP
 generalize hnb : bs.length = n at *
 have enb := hid_in hnb
 clear hnb
 have hKS := hid_in (show ∀ u, Below w.heap.size w u → u.cell? ⟨M, 0, none⟩ = some (.slice va n vc) from fun u hu => (hu.cell (World.block_lt_of_cell? w _ m0)).trans m0)
 have t0 : ∀ q : { W : World // W.cell? ⟨M, 0, none⟩ = some (.slice va n vc) }, q.1.cell? ⟨M, 0, none⟩ = some (.slice va n vc) := fun q => q.2
 letI I0 : Inhabited { W : World // W.cell? ⟨M, 0, none⟩ = some (.slice va n vc) } := ⟨⟨w, m0⟩⟩
 have Bd : Below w.heap.size w w.drew := (Below.refl _ _).drew
 go_enter Tryz.func164, Tryz.ntmps164
 go_upto_region 0 with fail
 refine wp_region_hold (S := fun W => W.cell? ⟨M, 0, none⟩ = some (.slice va n vc)) 11 12 (by kernel_rfl) rfl ?_
 refine wpHold_mask [true, true, true, true, true, false, false, false, false, false, false, false] 7 rfl (by kernel_rfl) m0 ?_
 simp only [maskL_t, maskL_f, maskL_n]
 iterate 5 (refine wpReads_step (fun K hK => ?_); go_simp; refine hK _ ?_; clear hK K)
 refine wpReads_nil ?_
 clear t0
 refine wpHold_branch (f := 6) (rs := [5]) (by kernel_rfl) (by simp) ?_
 refine AllHold.cons rfl (by decide) (fun K hK => ?_) AllHold.nil
 go_simp
 go_wp2_with (go_at_call 328; refine (HH _).mono ?_; rintro e u1 ⟨rfl, b1⟩)
 have B1 := Bd.trans b1
 refine hK.out _ _ (hKS.out _ B1) ?_
 clear hK K HH
 refine wpHold_branch (f := 5) (rs := [6]) (by kernel_rfl) (by simp) ?_
 refine AllHold.cons rfl (by decide) (fun K hK => ?_) AllHold.nil
 go_simp
 go_wp2_with (go_at_call 157; refine (HFB _ B1).mono ?_; rintro e u2 ⟨i, f, rfl, hbel, hfi, b2⟩)
 have B2 := B1.trans (b2.mono B1.size)
 refine hK.out _ _ (hKS.out _ B2) ?_
 clear hK K HFB
 refine wpHold_mask [false, false, false, false, false, false, false, true, true, true, true, false] 1 rfl (by kernel_rfl) (hKS.out _ B2) ?_
 simp only [maskL_t, maskL_f, maskL_n]
 iterate 4 (refine wpReads_step (fun K hK => ?_); go_simp; refine hK _ ?_; clear hK K)
 refine wpReads_nil ?_
 refine wpHold_last (by kernel_rfl) rfl (by kernel_rfl) ?_
 intro K hK
 go_simp
 refine hK.out _ _ (NoPanic.normal ?_)
 clear hK K hKS I0 Bd b1 b2 B1 m0 m1
 have HM2 := hid_in (HM.out.below B2)
 have HBEL := hid_in hbel
 have HFI := hid_in hfi
 have BB := B2.mono hB0
 have hz2 := B2.size
 have hMl := HM.out.box.lt
 clear hbel hfi HM
 have b3 := (Below.refl u2.heap.size u2).alloc (Nat.le_refl _) (.cells #[.string ck, .string cn] 217)
 have hm3 := HM2.out.below b3
 have d0 := cell_of_block hm3.box 0
 have d1 := cell_of_block hm3.box 1
 simp only [List.getElem?_toArray, List.getElem?_cons_zero, List.getElem?_cons_succ] at d0 d1
 have BB3 := BB.trans (b3.mono (by omega))
 have HM3 := hid_in hm3
 clear hm3
 cases f
 ·have hmiss : look (bs.map BAt.plain) ck cn = none := by
   rw [EPP.out]
   exact bs_miss (by have := HOK.out.2.2; rw [EPP.out] at this; exact this) HBEL.out (fun h => by have := HFI.out.2 h; cases this)
  have HN := hid_in (show O = none from by rw [← HO.out]; exact gone_none rfl (.inl hmiss))
  clear hmiss
  go_wp2_with (go_at_call 222; refine (need_false (p := p) d1).mono ?_; rintro e w9 ⟨rfl, rfl⟩)
  exact ⟨rfl, BB3, .inl ⟨HN.out, rfl⟩⟩
 ·obtain ⟨hil, hcm⟩ := HFI.out.1 rfl
  have hfind := bs_hit HBEL.out hil hcm
  obtain ⟨D, x, T, eb, hD, hhd, hlook⟩ := split_at EPP.out hfind
  obtain ⟨g, rfl⟩ : ∃ g, va = some ⟨g, 0, none⟩ := by
   obtain ⟨a', c', e', hf'⟩ := own_form HM2.out.own.row
   rw [enb.out] at e' hf'
   cases e'
   rcases hf' with e | ⟨g, e⟩
   ·exfalso
    have := enb.out
    rw [eb] at this
    simp at this
    omega
   ·exact ⟨g, e⟩
  have hOK := HOK.out
  have eP : bs.map BAt.plain = D.map BAt.plain ++ x.plain :: T.map BAt.plain := by rw [eb]; simp
  have HS := hid_in (show O = some ((D ++ T).map BAt.plain) from by
   rw [← HO.out, gone_some (A := bs.map BAt.plain) (b := x.plain) rfl (by rw [EPP.out]; exact hlook) rfl rfl]
   rw [eP] at hOK ⊢
   show some (dropH _ ck cn) = _
   rw [dropH_split hOK hhd, List.map_append])
  obtain ⟨m, rfl⟩ : ∃ m, n = m + 1 := ⟨n - 1, by have := enb.out; rw [eb] at this; simp at this; omega⟩
  have hml : (D ++ T).length = m := by have := enb.out; rw [eb] at this; simp at this ⊢; omega
  have hor := HM3.out.own
  rw [eb] at hor
  have hrr := hor.row
  have hlen : (D ++ x :: T).length = m + 1 := by rw [← eb]; exact enb.out
  rw [hlen] at hrr
  have HDel := delete_any (i := i) hrr hlen hD (fun y hy => by obtain ⟨a, c, e⟩ := (hor.bin.2 y hy).1.form; exact ⟨a, _, c, e⟩)
  have him : i ≤ m := by rw [← hD, ← hml]; simp
  have HOR := hid_in hor
  have HML := hid_in hml
  have hi60 : i ≤ 60 := by omega
  clear hor hrr hlen hml eP hOK eb hhd hlook hD hfind hcm
  go_wp2_with (first | (go_at_call 222; refine (need_true M _).mono ?_; rintro e w9 ⟨rfl, rfl⟩) | (go_at_call 223; refine HDel.mono ?_))
  first | rintro e w4 rfl o4 g4 | rintro e w4 ⟨rfl, o4, g4⟩
  have zM : BlkAt w4 M #[.slice (some ⟨g, 0, none⟩) (m + 1) vc, .int .i64 p] 233 := (g4.block M HM3.out.box.lt (fun e => own_box HM3.out.box HM3.out.own.row (by decide) e.symm)).trans HM3.out.box
  have q0 := cell_of_block zM 0
  have fr := frozen_of_block zM 0
  simp only [List.getElem?_toArray, List.getElem?_cons_zero] at q0
  have bg : Below B (u2.alloc (.cells #[.string ck, .string cn] 217)) w4 := (Below.refl B _).grown g4 HM3.out.size (fun q hq => (HM3.out.own.row.lt q hq).1)
  have HP := hid_in (show MkPost B M p O w (.returned (.tuple #[])) (w4.setCell ⟨M, 0, none⟩ (.slice (some ⟨g, 0, none⟩) m vc)) from by
   obtain ⟨h1, h2⟩ := Mk.lay zM HM3.out.low (HM3.out.std.below bg) (blocks_delete HOR.out HML.out o4 g4 rfl) rfl
   exact ⟨(BB3.trans bg).trans h2, .inr ⟨_, _, _, HS.out, rfl, rfl, h1⟩⟩)
  clear o4 g4 HDel bg zM
  go_wp2
  go_end0
  exact HP.out
end Go.Proofs.YtpdahhnjhggocabGreatDoor
namespace Go.Proofs.YtpdahhnjhggocabGreatDoor
open Go.RowKit
theorem new_is {P : List PBlock} (hok : SheetOk P) {ck cn : ByteArray} {i : Nat} (hb : Belongs P ck cn i) (L : List PLine) : (if headFault P ck cn = 0 ∧ linesB (rulesOf ck) L = true then some (P.take i ++ ⟨ck, cn, L⟩ :: P.drop i) else none) = oneS P ⟨2, ck, cn, ⟨#[]⟩, L⟩ := by
 by_cases h : headFault P ck cn = 0 ∧ linesB (rulesOf ck) L = true
 ·rw [if_pos h]
  obtain ⟨h1, h2⟩ := (sheet_put (b := ⟨ck, cn, L⟩) hok).2 ⟨h.1, linesB_iff.1 h.2⟩
  rw [new_some (c := ⟨2, ck, cn, ⟨#[]⟩, L⟩) rfl h1 rfl h2]
  have hs := putIn_split blockLt (⟨ck, cn, L⟩ : PBlock) (P.take i) (P.drop i) (fun y hy => by
   obtain ⟨t, ht, rfl⟩ := List.mem_iff_getElem.1 hy
   rw [List.length_take] at ht
   have h3 := hb.2.1 t (by omega)
   rw [cmpAt_get (show t < P.length by omega)] at h3
   rw [List.getElem_take]
   exact (blockCmp_lt P[t] ⟨ck, cn, L⟩).1 h3) (fun y hy => by
   rw [List.head?_drop] at hy
   obtain ⟨hi, rfl⟩ := List.getElem?_eq_some_iff.1 hy
   have h3 := hb.2.2 i (Nat.le_refl _) hi
   rw [cmpAt_get hi] at h3
   cases hh : blockLt P[i] ⟨ck, cn, L⟩
   ·rfl
   ·exact absurd ((blockCmp_lt P[i] ⟨ck, cn, L⟩).2 hh) h3)
  rw [List.take_append_drop] at hs
  rw [hs]
 ·rw [if_neg h]
  have h4 : ¬ (look P ck cn = none ∧ SheetOk (putIn blockLt ⟨ck, cn, L⟩ P)) := fun k => h (by
   obtain ⟨k1, k2⟩ := (sheet_put (b := ⟨ck, cn, L⟩) hok).1 k
   exact ⟨k1, linesB_iff.2 k2⟩)
  by_cases h5 : look P ck cn = none
  ·rw [new_none (c := ⟨2, ck, cn, ⟨#[]⟩, L⟩) rfl (.inr (.inr (fun h6 => h4 ⟨h5, h6⟩)))]
  ·rw [new_none (c := ⟨2, ck, cn, ⟨#[]⟩, L⟩) rfl (.inl h5)]
set_option maxHeartbeats 8000000 in
set_option maxRecDepth 100000 in
theorem take_new {B M : Nat} {p : Int} {w : World} {v : Value} {bs : List BAt} (hm : Mk B M p w v bs) (hok : SheetOk (bs.map BAt.plain)) (ck cn : ByteArray) {la : Option Addr} {nl lc : Nat} {cl : List LAt} (hcl : cl.length = nl) (hc : LinesIn w (.slice la nl lc) cl) (hcs : LinesSmall cl) (hcn : cn.size ≤ 1048576) : Calls Tryz.prog 164 #[.pointer (some ⟨M, 0, none⟩), (.iface 220 (.agg #[.string ck, .string cn, .slice la nl lc]))] w fun e w' => MkPost B M p (oneS (bs.map BAt.plain) ⟨2, ck, cn, ⟨#[]⟩, cl.map LAt.plain⟩) w e w' := by
 obtain ⟨va, vc, rfl, hvf⟩ := own_form hm.own.row
 have hlb : bs.length ≤ 60 := by have := hok.1; rw [List.length_map] at this; exact this
 have m0 := cell_of_block hm.box 0
 have m1 := cell_of_block hm.box 1
 simp only [List.getElem?_toArray, List.getElem?_cons_zero, List.getElem?_cons_succ] at m0 m1
 have hB0 := hm.size
 have HFB : ∀ W, Below w.heap.size w W → Calls Tryz.prog 157 #[.slice va bs.length vc, .agg #[.string ck, .string cn]] W fun e w' => BsPost (bs.map BAt.plain) ck cn W e w' := fun W hW => findBlock_any ck cn (hm.own.bin.below hW) (by omega) (by have := sheet_mono (P := bs.map BAt.plain) hok.2.2 ck cn; rw [List.length_map] at this; exact this)
 have HH := fun W => head_any ck cn W
 have ta0 := fun W => ta_new_new (.agg #[.string ck, .string cn, .slice la nl lc]) W
 have hhf : ∀ W, (Instr.field 220 (.agg #[.string ck, .string cn, .slice la nl lc]) 0).run Tryz.prog W = .ok (.agg #[.string ck, .string cn]) W := fun W => by kernel_rfl
 have HM := hid_in hm
 have HC := hid_in hc
 have HCS := hid_in hcs
 have HCN := hid_in hcn
 have HCL := hid_in hcl
 clear hc hcs hcn hcl
 have HOK := hid_in hok
 obtain ⟨O, hO⟩ : ∃ O, (oneS (bs.map BAt.plain) ⟨2, ck, cn, ⟨#[]⟩, cl.map LAt.plain⟩) = O := ⟨_, rfl⟩
 rw [hO]
 have HO := hid_in hO
 clear hO hm hok hvf
 obtain ⟨PP, hPP⟩ : ∃ PP, bs.map BAt.plain = PP := ⟨_, rfl⟩
 have EPP := hid_in hPP
 rw [hPP] at HFB
 clear hPP
 generalize hnb : bs.length = n at *
 have enb := hid_in hnb
 clear hnb
 have hKS := hid_in (show ∀ u, Below w.heap.size w u → u.cell? ⟨M, 0, none⟩ = some (.slice va n vc) from fun u hu => (hu.cell (World.block_lt_of_cell? w _ m0)).trans m0)
 have t0 : ∀ q : { W : World // W.cell? ⟨M, 0, none⟩ = some (.slice va n vc) }, q.1.cell? ⟨M, 0, none⟩ = some (.slice va n vc) := fun q => q.2
 letI I0 : Inhabited { W : World // W.cell? ⟨M, 0, none⟩ = some (.slice va n vc) } := ⟨⟨w, m0⟩⟩
 have Bd : Below w.heap.size w w.drew := (Below.refl _ _).drew
 go_enter Tryz.func164, Tryz.ntmps164
 go_upto_region 0 with fail
 refine wp_region_hold (S := fun W => W.cell? ⟨M, 0, none⟩ = some (.slice va n vc)) 11 12 (by kernel_rfl) rfl ?_
 refine wpHold_mask [true, true, true, true, true, false, false, false, false, false, false, false] 7 rfl (by kernel_rfl) m0 ?_
 simp only [maskL_t, maskL_f, maskL_n]
 iterate 5 (refine wpReads_step (fun K hK => ?_); go_simp; refine hK _ ?_; clear hK K)
 refine wpReads_nil ?_
 clear t0
 refine wpHold_branch (f := 6) (rs := [5]) (by kernel_rfl) (by simp) ?_
 refine AllHold.cons rfl (by decide) (fun K hK => ?_) AllHold.nil
 go_simp
 go_wp2_with (go_at_call 328; refine (HH _).mono ?_; rintro e u1 ⟨rfl, b1⟩)
 have B1 := Bd.trans b1
 refine hK.out _ _ (hKS.out _ B1) ?_
 clear hK K HH
 refine wpHold_branch (f := 5) (rs := [6]) (by kernel_rfl) (by simp) ?_
 refine AllHold.cons rfl (by decide) (fun K hK => ?_) AllHold.nil
 go_simp
 go_wp2_with (go_at_call 157; refine (HFB _ B1).mono ?_; rintro e u2 ⟨i, f, rfl, hbel, hfi, b2⟩)
 have B2 := B1.trans (b2.mono B1.size)
 refine hK.out _ _ (hKS.out _ B2) ?_
 clear hK K HFB
 refine wpHold_mask [false, false, false, false, false, false, false, true, true, true, true, false] 1 rfl (by kernel_rfl) (hKS.out _ B2) ?_
 simp only [maskL_t, maskL_f, maskL_n]
 iterate 4 (refine wpReads_step (fun K hK => ?_); go_simp; refine hK _ ?_; clear hK K)
 refine wpReads_nil ?_
 refine wpHold_last (by kernel_rfl) rfl (by kernel_rfl) ?_
 intro K hK
 go_simp
 refine hK.out _ _ (NoPanic.normal ?_)
 clear hK K hKS I0 Bd b1 b2 B1 m0 m1
 have HM2 := hid_in (HM.out.below B2)
 have HBEL := hid_in hbel
 have HFI := hid_in hfi
 have BB := B2.mono hB0
 have hz2 := B2.size
 have hMl := HM.out.box.lt
 clear hbel hfi HM
 have b3 := (Below.refl u2.heap.size u2).alloc (Nat.le_refl _) (.cells #[.string ck, .string cn, .slice la nl lc] 220)
 have hm3 := HM2.out.below b3
 have zX := BlkAt.new u2 #[.string ck, .string cn, .slice la nl lc] 220
 have x0 := cell_of_block zX 0
 have x1 := cell_of_block zX 1
 have x2 := cell_of_block zX 2
 simp only [List.getElem?_toArray, List.getElem?_cons_zero, List.getElem?_cons_succ] at x0 x1 x2
 have BB3 := BB.trans (b3.mono (by omega))
 have HM3 := hid_in hm3
 have hz3 := b3.size
 have HCp : ∀ W, Below (u2.alloc (.cells #[.string ck, .string cn, .slice la nl lc] 220)).heap.size (u2.alloc (.cells #[.string ck, .string cn, .slice la nl lc] 220)) W → Calls Tryz.prog 78 #[.slice la nl lc] W fun e w' => ∃ v' ls', e = .returned v' ∧ ls'.map LAt.plain = cl.map LAt.plain ∧ LinesOwn W.heap.size w' v' ls' ∧ Below W.heap.size W w' := fun W hW => copyLines_any (HC.out.below ((B2.trans (b3.mono hz2)).trans (hW.mono (by omega)))) HCS.out
 clear hm3 zX
 generalize hW3 : u2.alloc (.cells #[.string ck, .string cn, .slice la nl lc] 220) = W3 at *
 have EW3 := hid_in hW3
 clear hW3
 have hKS := hid_in (show ∀ u, Below W3.heap.size W3 u → u.cell? ⟨u2.heap.size, 0, none⟩ = some (.string ck) ∧ u.cell? ⟨u2.heap.size, 1, none⟩ = some (.string cn) ∧ u.cell? ⟨u2.heap.size, 2, none⟩ = some (.slice la nl lc) from fun u hu => ⟨(hu.cell (World.block_lt_of_cell? W3 _ x0)).trans x0, (hu.cell (World.block_lt_of_cell? W3 _ x1)).trans x1, (hu.cell (World.block_lt_of_cell? W3 _ x2)).trans x2⟩)
 have t0 : ∀ q : { W : World // W.cell? ⟨u2.heap.size, 0, none⟩ = some (.string ck) ∧ W.cell? ⟨u2.heap.size, 1, none⟩ = some (.string cn) ∧ W.cell? ⟨u2.heap.size, 2, none⟩ = some (.slice la nl lc) }, q.1.cell? ⟨u2.heap.size, 0, none⟩ = some (.string ck) := fun q => q.2.1
 have t1 : ∀ q : { W : World // W.cell? ⟨u2.heap.size, 0, none⟩ = some (.string ck) ∧ W.cell? ⟨u2.heap.size, 1, none⟩ = some (.string cn) ∧ W.cell? ⟨u2.heap.size, 2, none⟩ = some (.slice la nl lc) }, q.1.cell? ⟨u2.heap.size, 1, none⟩ = some (.string cn) := fun q => q.2.2.1
 have t2 : ∀ q : { W : World // W.cell? ⟨u2.heap.size, 0, none⟩ = some (.string ck) ∧ W.cell? ⟨u2.heap.size, 1, none⟩ = some (.string cn) ∧ W.cell? ⟨u2.heap.size, 2, none⟩ = some (.slice la nl lc) }, q.1.cell? ⟨u2.heap.size, 2, none⟩ = some (.slice la nl lc) := fun q => q.2.2.2
 letI I1 : Inhabited { W : World // W.cell? ⟨u2.heap.size, 0, none⟩ = some (.string ck) ∧ W.cell? ⟨u2.heap.size, 1, none⟩ = some (.string cn) ∧ W.cell? ⟨u2.heap.size, 2, none⟩ = some (.slice la nl lc) } := ⟨⟨W3, x0, x1, x2⟩⟩
 have Bd : Below W3.heap.size W3 W3.drew := (Below.refl _ _).drew
 go_upto_region 4 with fail
 rw [EW3.out]
 refine wp_region_holdR (R := fun c w' => c = stopE p ∧ Below B w w' ∧ O = none) (S := fun W => W.cell? ⟨u2.heap.size, 0, none⟩ = some (.string ck) ∧ W.cell? ⟨u2.heap.size, 1, none⟩ = some (.string cn) ∧ W.cell? ⟨u2.heap.size, 2, none⟩ = some (.slice la nl lc)) 12 13 (by kernel_rfl) rfl (fun c a w' hd h => ⟨hd, h.2.1, .inl ⟨h.2.2, by rw [h.1]⟩⟩) ?_
 refine wpHoldR_mask [true, true, true, true, true, true, true, true, true, true, false, false, false] 3 rfl (by kernel_rfl) ⟨x0, x1, x2⟩ ?_
 simp only [maskL_t, maskL_f, maskL_n]
 iterate 10 (refine wpReads_step (fun K hK => ?_); go_simp; refine hK _ ?_; clear hK K)
 refine wpReads_nil ?_
 clear t0 t1 t2
 refine wpHold_branch (f := 2) (rs := [10]) (by kernel_rfl) (by simp) ?_
 refine AllHold.cons rfl (by decide) (fun K hK => ?_) AllHold.nil
 go_simp
 go_wp2_with (go_at_call 78; refine (HCp _ Bd).mono ?_; rintro e u4 ⟨v4, ls4, rfl, hp4, o4, b4⟩; obtain ⟨a4, c4, rfl, _⟩ := own_form o4.row)
 have b4' := Bd.trans b4
 refine hK.out _ _ (hKS.out _ b4') ?_
 clear hK K HCp
 refine wpHoldR_mask [false, false, false, false, false, false, false, false, false, false, false, true, false] 1 rfl (by kernel_rfl) (hKS.out _ b4') ?_
 simp only [maskL_t, maskL_f, maskL_n]
 refine wpReads_step (fun K hK => ?_)
 go_simp
 refine hK _ ?_
 clear hK K
 refine wpReads_nil ?_
 have hiP : i ≤ n := by have := HBEL.out.1; rw [← EPP.out, List.length_map, enb.out] at this; exact this
 have hD : (bs.take i).length = i := by rw [List.length_take, enb.out]; omega
 have ebs : bs.take i ++ bs.drop i = bs := List.take_append_drop i bs
 have hm4 := HM3.out.below b4'
 have hmj := Mem.join (show Mem B W3.drew (brows (.slice va n vc) bs) from HM3.out.own.below Bd) (show Mem W3.drew.heap.size u4 (lrows (.slice a4 ls4.length c4) ls4) from o4) b4 HM3.out.size
 have HI := mkInsert_any (D := bs.take i) (T := bs.drop i) (b := ⟨ck, cn, .slice a4 ls4.length c4, ls4⟩) (by rw [ebs]; exact hm4) (by rw [ebs]; exact hmj) hD (by rw [ebs, enb.out]; exact hlb) (HCS.out.same hp4) HCN.out
 have HOI := hid_in (show (if headFault ((bs.take i ++ bs.drop i).map BAt.plain) ck cn = 0 ∧ linesB (rulesOf ck) (ls4.map LAt.plain) = true then some ((bs.take i ++ (⟨ck, cn, .slice a4 ls4.length c4, ls4⟩ : BAt) :: bs.drop i).map BAt.plain) else none) = O from by
  rw [← HO.out, ebs, hp4, ← new_is HOK.out (by rw [EPP.out]; exact HBEL.out), List.map_append, List.map_cons, List.map_take, List.map_drop]
  unfold BAt.plain
  rw [hp4])
 rw [HOI.out] at HI
 have BB4 := BB3.trans (b4'.mono (by omega))
 clear hm4 hmj hp4 o4 b4 HOI hKS I1 ebs hD
 generalize ls4.length = n4 at *
 refine wpHold_last (by kernel_rfl) rfl (by kernel_rfl) ?_
 intro K hK
 go_simp
 go_wp2_with (go_at_call 221; refine HI.mono ?_)
 rintro e u5 ⟨b5, h5⟩
 rcases h5 with ⟨hO, rfl⟩ | ⟨A, v', bs', hO, rfl, hpl, hmk⟩
 ·exact PanicQ.panic rfl ⟨rfl, BB4.trans b5, hO⟩
 ·have HP := hid_in (show MkPost B M p O w (.returned (.tuple #[])) u5 from ⟨BB4.trans b5, .inr ⟨A, v', bs', hO, rfl, hpl, hmk⟩⟩)
  clear hmk hpl hO HI
  refine hK.out _ _ (PanicQ.normal ?_)
  clear hK K
  go_wp2
  go_end0
  exact HP.out
end Go.Proofs.YtpdahhnjhggocabGreatDoor
namespace Go.Proofs.YtpdahhnjhggocabGreatDoor
open Go.RowKit
theorem set_is {D T : List PBlock} {b : PBlock} (hok : SheetOk (D ++ b :: T)) {ck cn cy : ByteArray} {L : List PLine} (hh : isHead ck cn b = true) (h1 : L ≠ []) (h2 : ∀ a ∈ L, a.key = cy) : (if linesB (rulesOf b.kind) (setL (rulesOf b.kind) b.lines cy L) = true then some (D ++ (⟨b.kind, b.name, setL (rulesOf b.kind) b.lines cy L⟩ : PBlock) :: T) else none) = oneS (D ++ b :: T) ⟨3, ck, cn, cy, L⟩ := by
 have hl := look_split hok hh
 by_cases h : linesB (rulesOf b.kind) (setL (rulesOf b.kind) b.lines cy L) = true
 ·rw [if_pos h, set_some (c := ⟨3, ck, cn, cy, L⟩) rfl hl h1 h2 (linesB_iff.1 h)]
  exact congrArg some (swapH_split hok hh _).symm
 ·rw [if_neg h, set_none (c := ⟨3, ck, cn, cy, L⟩) rfl (.inr (.inr (.inr ⟨b, hl, fun k => h (linesB_iff.2 k)⟩)))]
theorem unset_is {D T : List PBlock} {b : PBlock} (hok : SheetOk (D ++ b :: T)) {ck cn cy : ByteArray} (hh : isHead ck cn b = true) (h1 : hasK b.lines cy = true) : (if linesB (rulesOf b.kind) (setL (rulesOf b.kind) b.lines cy []) = true then some (D ++ (⟨b.kind, b.name, setL (rulesOf b.kind) b.lines cy []⟩ : PBlock) :: T) else none) = oneS (D ++ b :: T) ⟨4, ck, cn, cy, []⟩ := by
 have hl := look_split hok hh
 have hs : LinesOk (rulesOf b.kind) (setL (rulesOf b.kind) b.lines cy []) := (hok.2.1 b (by simp)).2.2.sub List.filter_sublist
 rw [if_pos (linesB_iff.2 hs), unset_some (c := ⟨4, ck, cn, cy, []⟩) rfl hl rfl h1]
 exact congrArg some (swapH_split hok hh _).symm
set_option maxHeartbeats 8000000 in
set_option maxRecDepth 100000 in
theorem take_set {B M : Nat} {p : Int} {w : World} {v : Value} {bs : List BAt} (hm : Mk B M p w v bs) (hok : SheetOk (bs.map BAt.plain)) (ck cn cy : ByteArray) {la : Option Addr} {nl lc : Nat} {cl : List LAt} (hcl : cl.length = nl) (hc : LinesIn w (.slice la nl lc) cl) (hcs : LinesSmall cl) (hne : cl ≠ []) (hky : ∀ y ∈ cl, y.key = cy) (hbud : ∀ b ∈ bs, b.ls.length + cl.length ≤ 1048576) : Calls Tryz.prog 164 #[.pointer (some ⟨M, 0, none⟩), (.iface 223 (.agg #[.string ck, .string cn, .string cy, .slice la nl lc]))] w fun e w' => MkPost B M p (oneS (bs.map BAt.plain) ⟨3, ck, cn, cy, cl.map LAt.plain⟩) w e w' := by
 obtain ⟨va, vc, rfl, hvf⟩ := own_form hm.own.row
 have hlb : bs.length ≤ 60 := by have := hok.1; rw [List.length_map] at this; exact this
 have m0 := cell_of_block hm.box 0
 have m1 := cell_of_block hm.box 1
 simp only [List.getElem?_toArray, List.getElem?_cons_zero, List.getElem?_cons_succ] at m0 m1
 have hB0 := hm.size
 have HFB : ∀ W, Below w.heap.size w W → Calls Tryz.prog 157 #[.slice va bs.length vc, .agg #[.string ck, .string cn]] W fun e w' => BsPost (bs.map BAt.plain) ck cn W e w' := fun W hW => findBlock_any ck cn (hm.own.bin.below hW) (by omega) (by have := sheet_mono (P := bs.map BAt.plain) hok.2.2 ck cn; rw [List.length_map] at this; exact this)
 have HH := fun W => head_any ck cn W
 have ta0 := fun W => ta_set_new (.agg #[.string ck, .string cn, .string cy, .slice la nl lc]) W
 have ta1 := fun W => ta_set_gone (.agg #[.string ck, .string cn, .string cy, .slice la nl lc]) W
 have ta2 := fun W => ta_set_set (.agg #[.string ck, .string cn, .string cy, .slice la nl lc]) W
 have hhf : ∀ W, (Instr.field 223 (.agg #[.string ck, .string cn, .string cy, .slice la nl lc]) 0).run Tryz.prog W = .ok (.agg #[.string ck, .string cn]) W := fun W => by kernel_rfl
 have HM := hid_in hm
 have HC := hid_in hc
 have HCS := hid_in hcs
 have HBUD := hid_in hbud
 have HCL := hid_in hcl
 have HNE := hid_in hne
 have HKY := hid_in hky
 clear hc hcs hbud hcl hne hky
 have HOK := hid_in hok
 obtain ⟨O, hO⟩ : ∃ O, (oneS (bs.map BAt.plain) ⟨3, ck, cn, cy, cl.map LAt.plain⟩) = O := ⟨_, rfl⟩
 rw [hO]
 have HO := hid_in hO
 clear hO hm hok hvf
 obtain ⟨PP, hPP⟩ : ∃ PP, bs.map BAt.plain = PP := ⟨_, rfl⟩
 have EPP := hid_in hPP
 rw [hPP] at HFB
 clear hPP
 generalize hnb : bs.length = n at *
 have enb := hid_in hnb
 clear hnb
 have hKS := hid_in (show ∀ u, Below w.heap.size w u → u.cell? ⟨M, 0, none⟩ = some (.slice va n vc) from fun u hu => (hu.cell (World.block_lt_of_cell? w _ m0)).trans m0)
 have t0 : ∀ q : { W : World // W.cell? ⟨M, 0, none⟩ = some (.slice va n vc) }, q.1.cell? ⟨M, 0, none⟩ = some (.slice va n vc) := fun q => q.2
 letI I0 : Inhabited { W : World // W.cell? ⟨M, 0, none⟩ = some (.slice va n vc) } := ⟨⟨w, m0⟩⟩
 have Bd : Below w.heap.size w w.drew := (Below.refl _ _).drew
 go_enter Tryz.func164, Tryz.ntmps164
 go_upto_region 0 with fail
 refine wp_region_hold (S := fun W => W.cell? ⟨M, 0, none⟩ = some (.slice va n vc)) 11 12 (by kernel_rfl) rfl ?_
 refine wpHold_mask [true, true, true, true, true, false, false, false, false, false, false, false] 7 rfl (by kernel_rfl) m0 ?_
 simp only [maskL_t, maskL_f, maskL_n]
 iterate 5 (refine wpReads_step (fun K hK => ?_); go_simp; refine hK _ ?_; clear hK K)
 refine wpReads_nil ?_
 clear t0
 refine wpHold_branch (f := 6) (rs := [5]) (by kernel_rfl) (by simp) ?_
 refine AllHold.cons rfl (by decide) (fun K hK => ?_) AllHold.nil
 go_simp
 go_wp2_with (go_at_call 328; refine (HH _).mono ?_; rintro e u1 ⟨rfl, b1⟩)
 have B1 := Bd.trans b1
 refine hK.out _ _ (hKS.out _ B1) ?_
 clear hK K HH
 refine wpHold_branch (f := 5) (rs := [6]) (by kernel_rfl) (by simp) ?_
 refine AllHold.cons rfl (by decide) (fun K hK => ?_) AllHold.nil
 go_simp
 go_wp2_with (go_at_call 157; refine (HFB _ B1).mono ?_; rintro e u2 ⟨i, f, rfl, hbel, hfi, b2⟩)
 have B2 := B1.trans (b2.mono B1.size)
 refine hK.out _ _ (hKS.out _ B2) ?_
 clear hK K HFB
 refine wpHold_mask [false, false, false, false, false, false, false, true, true, true, true, false] 1 rfl (by kernel_rfl) (hKS.out _ B2) ?_
 simp only [maskL_t, maskL_f, maskL_n]
 iterate 4 (refine wpReads_step (fun K hK => ?_); go_simp; refine hK _ ?_; clear hK K)
 refine wpReads_nil ?_
 refine wpHold_last (by kernel_rfl) rfl (by kernel_rfl) ?_
 intro K hK
 go_simp
 refine hK.out _ _ (NoPanic.normal ?_)
 clear hK K hKS I0 Bd b1 b2 B1 m0 m1
 have HM2 := hid_in (HM.out.below B2)
 have HBEL := hid_in hbel
 have HFI := hid_in hfi
 have BB := B2.mono hB0
 have hz2 := B2.size
 have hMl := HM.out.box.lt
 clear hbel hfi HM
 have b3 := (Below.refl u2.heap.size u2).alloc (Nat.le_refl _) (.cells #[.string ck, .string cn, .string cy, .slice la nl lc] 223)
 have hm3 := HM2.out.below b3
 have d1 := cell_of_block hm3.box 1
 simp only [List.getElem?_toArray, List.getElem?_cons_zero, List.getElem?_cons_succ] at d1
 have BB3 := BB.trans (b3.mono (by omega))
 have HM3 := hid_in hm3
 have hz3 := b3.size
 clear hm3
 cases f
 ·have hmiss : look (bs.map BAt.plain) ck cn = none := by
   rw [EPP.out]
   exact bs_miss (by have := HOK.out.2.2; rw [EPP.out] at this; exact this) HBEL.out (fun h => by have := HFI.out.2 h; cases this)
  have HN := hid_in (show O = none from by rw [← HO.out]; exact set_none rfl (.inl hmiss))
  clear hmiss
  go_wp2_with (go_at_call 222; refine (need_false (p := p) d1).mono ?_; rintro e w9 ⟨rfl, rfl⟩)
  exact ⟨rfl, BB3, .inl ⟨HN.out, rfl⟩⟩
 ·obtain ⟨hil, hcm⟩ := HFI.out.1 rfl
  have hfind := bs_hit HBEL.out hil hcm
  obtain ⟨D, x, T, eb, hD, hhd, hlook⟩ := split_at EPP.out hfind
  obtain ⟨g, rfl⟩ : ∃ g, va = some ⟨g, 0, none⟩ := by
   obtain ⟨a', c', e', hf'⟩ := own_form HM2.out.own.row
   rw [enb.out] at e' hf'
   cases e'
   rcases hf' with e | ⟨g, e⟩
   ·exfalso
    have := enb.out
    rw [eb] at this
    simp at this
    omega
   ·exact ⟨g, e⟩
  have hin : i < n := by rw [← EPP.out, List.length_map, enb.out] at hil; exact hil
  have hin' : (i : Int) < (n : Int) := by omega
  have hi0 : (0 : Int) ≤ (i : Int) := by omega
  have zX := BlkAt.new u2 #[.string ck, .string cn, .string cy, .slice la nl lc] 223
  have x2 := cell_of_block zX 2
  have x3 := cell_of_block zX 3
  have d0 := cell_of_block HM3.out.box 0
  simp only [List.getElem?_toArray, List.getElem?_cons_zero, List.getElem?_cons_succ] at x2 x3 d0
  have HCp : ∀ W, Below (u2.alloc (.cells #[.string ck, .string cn, .string cy, .slice la nl lc] 223)).heap.size (u2.alloc (.cells #[.string ck, .string cn, .string cy, .slice la nl lc] 223)) W → Calls Tryz.prog 78 #[.slice la nl lc] W fun e w' => ∃ v' ls', e = .returned v' ∧ ls'.map LAt.plain = cl.map LAt.plain ∧ LinesOwn W.heap.size w' v' ls' ∧ Below W.heap.size W w' := fun W hW => copyLines_any (HC.out.below ((B2.trans (b3.mono hz2)).trans (hW.mono (by omega)))) HCS.out
  have EB := hid_in eb
  have ED := hid_in hD
  have HHD := hid_in hhd
  clear zX hil hcm hfind eb hD hhd hlook d1
  generalize hW3 : u2.alloc (.cells #[.string ck, .string cn, .string cy, .slice la nl lc] 223) = W3 at *
  have EW3 := hid_in hW3
  clear hW3
  have hKS := hid_in (show ∀ u, Below W3.heap.size W3 u → u.cell? ⟨M, 0, none⟩ = some (.slice (some ⟨g, 0, none⟩) n vc) ∧ u.cell? ⟨u2.heap.size, 2, none⟩ = some (.string cy) ∧ u.cell? ⟨u2.heap.size, 3, none⟩ = some (.slice la nl lc) from fun u hu => ⟨(hu.cell (World.block_lt_of_cell? W3 _ d0)).trans d0, (hu.cell (World.block_lt_of_cell? W3 _ x2)).trans x2, (hu.cell (World.block_lt_of_cell? W3 _ x3)).trans x3⟩)
  have t0 : ∀ q : { W : World // W.cell? ⟨M, 0, none⟩ = some (.slice (some ⟨g, 0, none⟩) n vc) ∧ W.cell? ⟨u2.heap.size, 2, none⟩ = some (.string cy) ∧ W.cell? ⟨u2.heap.size, 3, none⟩ = some (.slice la nl lc) }, q.1.cell? ⟨M, 0, none⟩ = some (.slice (some ⟨g, 0, none⟩) n vc) := fun q => q.2.1
  have t1 : ∀ q : { W : World // W.cell? ⟨M, 0, none⟩ = some (.slice (some ⟨g, 0, none⟩) n vc) ∧ W.cell? ⟨u2.heap.size, 2, none⟩ = some (.string cy) ∧ W.cell? ⟨u2.heap.size, 3, none⟩ = some (.slice la nl lc) }, q.1.cell? ⟨u2.heap.size, 2, none⟩ = some (.string cy) := fun q => q.2.2.1
  have t2 : ∀ q : { W : World // W.cell? ⟨M, 0, none⟩ = some (.slice (some ⟨g, 0, none⟩) n vc) ∧ W.cell? ⟨u2.heap.size, 2, none⟩ = some (.string cy) ∧ W.cell? ⟨u2.heap.size, 3, none⟩ = some (.slice la nl lc) }, q.1.cell? ⟨u2.heap.size, 3, none⟩ = some (.slice la nl lc) := fun q => q.2.2.2
  letI I1 : Inhabited { W : World // W.cell? ⟨M, 0, none⟩ = some (.slice (some ⟨g, 0, none⟩) n vc) ∧ W.cell? ⟨u2.heap.size, 2, none⟩ = some (.string cy) ∧ W.cell? ⟨u2.heap.size, 3, none⟩ = some (.slice la nl lc) } := ⟨⟨W3, d0, x2, x3⟩⟩
  have Bd : Below W3.heap.size W3 W3.drew := (Below.refl _ _).drew
  go_upto_region 11 with fail
  rw [EW3.out]
  clear EW3
  go_wp2_with (go_at_call 222; refine (need_true M _).mono ?_; rintro e w9 ⟨rfl, rfl⟩)
  refine wp_region_holdR (R := fun c w' => c = stopE p ∧ Below B w w' ∧ O = none) (S := fun W => W.cell? ⟨M, 0, none⟩ = some (.slice (some ⟨g, 0, none⟩) n vc) ∧ W.cell? ⟨u2.heap.size, 2, none⟩ = some (.string cy) ∧ W.cell? ⟨u2.heap.size, 3, none⟩ = some (.slice la nl lc)) 12 13 (by kernel_rfl) rfl (fun c a w' hd h => ⟨hd, h.2.1, .inl ⟨h.2.2, by rw [h.1]⟩⟩) ?_
  refine wpHoldR_mask [true, true, true, true, true, true, true, true, true, true, true, false, false] 2 rfl (by kernel_rfl) ⟨d0, x2, x3⟩ ?_
  simp only [maskL_t, maskL_f, maskL_n]
  iterate 11 (refine wpReads_step (fun K hK => ?_); go_simp; refine hK _ ?_; clear hK K)
  refine wpReads_nil ?_
  clear t0 t1 t2
  refine wpHold_branch (f := 1) (rs := [11]) (by kernel_rfl) (by simp) ?_
  refine AllHold.cons rfl (by decide) (fun K hK => ?_) AllHold.nil
  go_simp
  go_wp2_with (go_at_call 78; refine (HCp _ Bd).mono ?_; rintro e u4 ⟨v4, ls4, rfl, hp4, o4, b4⟩; obtain ⟨a4, c4, rfl, _⟩ := own_form o4.row)
  have b4' := Bd.trans b4
  refine hK.out _ _ (hKS.out _ b4') ?_
  clear hK K HCp
  have hm4 := HM3.out.below b4'
  have hmj := Mem.join (show Mem B w9.drew (brows (.slice (some ⟨g, 0, none⟩) n vc) bs) from HM3.out.own.below Bd) (show Mem w9.drew.heap.size u4 (lrows (.slice a4 ls4.length c4) ls4) from o4) b4 HM3.out.size
  have hll : ls4.length = cl.length := by have := congrArg List.length hp4; simpa using this
  have hxb : x.ls.length + ls4.length ≤ 1048576 := by rw [hll]; exact HBUD.out x (by rw [EB.out]; simp)
  have HI := setLines_any (D := D) (T := T) (x := x) (i := i) (xs := ls4) (xv := .slice a4 ls4.length c4) cy (by rw [← EB.out]; exact hm4) (by rw [← EB.out]; exact enb.out) ED.out (by rw [← EB.out]; exact hmj) (by rw [← EB.out]; exact HOK.out) (HCS.out.same hp4) hxb
  have HOI := hid_in (show (if linesB (rulesOf x.kind) (setL (rulesOf x.kind) (x.ls.map LAt.plain) cy (ls4.map LAt.plain)) = true then some ((D.map BAt.plain) ++ (⟨x.kind, x.name, setL (rulesOf x.kind) (x.ls.map LAt.plain) cy (ls4.map LAt.plain)⟩ : PBlock) :: T.map BAt.plain) else none) = O from by
   have hOK := HOK.out
   have eP : bs.map BAt.plain = D.map BAt.plain ++ x.plain :: T.map BAt.plain := by rw [EB.out]; simp
   rw [eP] at hOK
   rw [← HO.out, eP, hp4]
   exact set_is (b := x.plain) hOK HHD.out (fun e => HNE.out (List.map_eq_nil_iff.1 e)) (fun z hz => by obtain ⟨y, hy, rfl⟩ := List.mem_map.1 hz; exact HKY.out y hy))
  rw [HOI.out] at HI
  have BB4 := BB3.trans (b4'.mono (by omega))
  clear hm4 hmj hp4 o4 b4 HOI hKS I1 hll hxb
  generalize ls4.length = n4 at *
  refine wpHold_last (by kernel_rfl) rfl (by kernel_rfl) ?_
  intro K hK
  go_simp
  go_wp2_with (go_at_call 224; refine HI.mono ?_)
  rintro e u5 ⟨b5, h5⟩
  rcases h5 with ⟨hO, rfl⟩ | ⟨A, v', bs', hO, rfl, hpl, hmk⟩
  ·exact PanicQ.panic rfl ⟨rfl, BB4.trans b5, hO⟩
  ·have HP := hid_in (show MkPost B M p O w (.returned (.tuple #[])) u5 from ⟨BB4.trans b5, .inr ⟨A, v', bs', hO, rfl, hpl, hmk⟩⟩)
   clear hmk hpl hO HI
   refine hK.out _ _ (PanicQ.normal ?_)
   clear hK K
   go_wp2
   go_end0
   exact HP.out
end Go.Proofs.YtpdahhnjhggocabGreatDoor
namespace Go.Proofs.YtpdahhnjhggocabGreatDoor
open Go.RowKit
set_option maxHeartbeats 8000000 in
set_option maxRecDepth 100000 in
theorem take_unset {B M : Nat} {p : Int} {w : World} {v : Value} {bs : List BAt} (hm : Mk B M p w v bs) (hok : SheetOk (bs.map BAt.plain)) (ck cn cy : ByteArray) : Calls Tryz.prog 164 #[.pointer (some ⟨M, 0, none⟩), (.iface 225 (.agg #[.string ck, .string cn, .string cy]))] w fun e w' => MkPost B M p (oneS (bs.map BAt.plain) ⟨4, ck, cn, cy, []⟩) w e w' := by
 obtain ⟨va, vc, rfl, hvf⟩ := own_form hm.own.row
 have hlb : bs.length ≤ 60 := by have := hok.1; rw [List.length_map] at this; exact this
 have m0 := cell_of_block hm.box 0
 have m1 := cell_of_block hm.box 1
 simp only [List.getElem?_toArray, List.getElem?_cons_zero, List.getElem?_cons_succ] at m0 m1
 have hB0 := hm.size
 have HFB : ∀ W, Below w.heap.size w W → Calls Tryz.prog 157 #[.slice va bs.length vc, .agg #[.string ck, .string cn]] W fun e w' => BsPost (bs.map BAt.plain) ck cn W e w' := fun W hW => findBlock_any ck cn (hm.own.bin.below hW) (by omega) (by have := sheet_mono (P := bs.map BAt.plain) hok.2.2 ck cn; rw [List.length_map] at this; exact this)
 have HH := fun W => head_any ck cn W
 have ta0 := fun W => ta_unset_new (.agg #[.string ck, .string cn, .string cy]) W
 have ta1 := fun W => ta_unset_gone (.agg #[.string ck, .string cn, .string cy]) W
 have ta2 := fun W => ta_unset_set (.agg #[.string ck, .string cn, .string cy]) W
 have ta3 := fun W => ta_unset_unset (.agg #[.string ck, .string cn, .string cy]) W
 have hhf : ∀ W, (Instr.field 225 (.agg #[.string ck, .string cn, .string cy]) 0).run Tryz.prog W = .ok (.agg #[.string ck, .string cn]) W := fun W => by kernel_rfl
 have HM := hid_in hm
 have HOK := hid_in hok
 obtain ⟨O, hO⟩ : ∃ O, (oneS (bs.map BAt.plain) ⟨4, ck, cn, cy, []⟩) = O := ⟨_, rfl⟩
 rw [hO]
 have HO := hid_in hO
 clear hO hm hok hvf
 obtain ⟨PP, hPP⟩ : ∃ PP, bs.map BAt.plain = PP := ⟨_, rfl⟩
 have EPP := hid_in hPP
 rw [hPP] at HFB
 clear hPP
 generalize hnb : bs.length = n at *
 have enb := hid_in hnb
 clear hnb
 have hKS := hid_in (show ∀ u, Below w.heap.size w u → u.cell? ⟨M, 0, none⟩ = some (.slice va n vc) from fun u hu => (hu.cell (World.block_lt_of_cell? w _ m0)).trans m0)
 have t0 : ∀ q : { W : World // W.cell? ⟨M, 0, none⟩ = some (.slice va n vc) }, q.1.cell? ⟨M, 0, none⟩ = some (.slice va n vc) := fun q => q.2
 letI I0 : Inhabited { W : World // W.cell? ⟨M, 0, none⟩ = some (.slice va n vc) } := ⟨⟨w, m0⟩⟩
 have Bd : Below w.heap.size w w.drew := (Below.refl _ _).drew
 go_enter Tryz.func164, Tryz.ntmps164
 go_upto_region 0 with fail
 refine wp_region_hold (S := fun W => W.cell? ⟨M, 0, none⟩ = some (.slice va n vc)) 11 12 (by kernel_rfl) rfl ?_
 refine wpHold_mask [true, true, true, true, true, false, false, false, false, false, false, false] 7 rfl (by kernel_rfl) m0 ?_
 simp only [maskL_t, maskL_f, maskL_n]
 iterate 5 (refine wpReads_step (fun K hK => ?_); go_simp; refine hK _ ?_; clear hK K)
 refine wpReads_nil ?_
 clear t0
 refine wpHold_branch (f := 6) (rs := [5]) (by kernel_rfl) (by simp) ?_
 refine AllHold.cons rfl (by decide) (fun K hK => ?_) AllHold.nil
 go_simp
 go_wp2_with (go_at_call 328; refine (HH _).mono ?_; rintro e u1 ⟨rfl, b1⟩)
 have B1 := Bd.trans b1
 refine hK.out _ _ (hKS.out _ B1) ?_
 clear hK K HH
 refine wpHold_branch (f := 5) (rs := [6]) (by kernel_rfl) (by simp) ?_
 refine AllHold.cons rfl (by decide) (fun K hK => ?_) AllHold.nil
 go_simp
 go_wp2_with (go_at_call 157; refine (HFB _ B1).mono ?_; rintro e u2 ⟨i, f, rfl, hbel, hfi, b2⟩)
 have B2 := B1.trans (b2.mono B1.size)
 refine hK.out _ _ (hKS.out _ B2) ?_
 clear hK K HFB
 refine wpHold_mask [false, false, false, false, false, false, false, true, true, true, true, false] 1 rfl (by kernel_rfl) (hKS.out _ B2) ?_
 simp only [maskL_t, maskL_f, maskL_n]
 iterate 4 (refine wpReads_step (fun K hK => ?_); go_simp; refine hK _ ?_; clear hK K)
 refine wpReads_nil ?_
 refine wpHold_last (by kernel_rfl) rfl (by kernel_rfl) ?_
 intro K hK
 go_simp
 refine hK.out _ _ (NoPanic.normal ?_)
 clear hK K hKS I0 Bd b1 b2 B1 m0 m1
 have HM2 := hid_in (HM.out.below B2)
 have HBEL := hid_in hbel
 have HFI := hid_in hfi
 have BB := B2.mono hB0
 have hz2 := B2.size
 have hMl := HM.out.box.lt
 clear hbel hfi HM
 have b3 := (Below.refl u2.heap.size u2).alloc (Nat.le_refl _) (.cells #[.string ck, .string cn, .string cy] 225)
 have hm3 := HM2.out.below b3
 have d0 := cell_of_block hm3.box 0
 have d1 := cell_of_block hm3.box 1
 simp only [List.getElem?_toArray, List.getElem?_cons_zero, List.getElem?_cons_succ] at d0 d1
 have BB3 := BB.trans (b3.mono (by omega))
 have HM3 := hid_in hm3
 have hz3 := b3.size
 clear hm3
 cases f
 ·have hmiss : look (bs.map BAt.plain) ck cn = none := by
   rw [EPP.out]
   exact bs_miss (by have := HOK.out.2.2; rw [EPP.out] at this; exact this) HBEL.out (fun h => by have := HFI.out.2 h; cases this)
  have HN := hid_in (show O = none from by rw [← HO.out]; exact unset_none rfl (.inl hmiss))
  clear hmiss
  generalize hW3 : u2.alloc (.cells #[.string ck, .string cn, .string cy] 225) = W3 at *
  have EW3 := hid_in hW3
  clear hW3
  have t0 : ∀ q : { W : World // W.cell? ⟨M, 0, none⟩ = some (.slice va n vc) ∧ W.cell? ⟨M, 1, none⟩ = some (.int .i64 p) }, q.1.cell? ⟨M, 0, none⟩ = some (.slice va n vc) := fun q => q.2.1
  letI I1 : Inhabited { W : World // W.cell? ⟨M, 0, none⟩ = some (.slice va n vc) ∧ W.cell? ⟨M, 1, none⟩ = some (.int .i64 p) } := ⟨⟨W3, d0, d1⟩⟩
  have Bd : Below W3.heap.size W3 W3.drew := (Below.refl _ _).drew
  go_upto_region 15 with fail
  rw [EW3.out]
  refine wp_region_holdR (R := fun c w' => c = stopE p ∧ Below B w w' ∧ O = none) (S := fun W => W.cell? ⟨M, 0, none⟩ = some (.slice va n vc) ∧ W.cell? ⟨M, 1, none⟩ = some (.int .i64 p)) 15 16 (by kernel_rfl) rfl (fun c a w' hd h => ⟨hd, h.2.1, .inl ⟨h.2.2, by rw [h.1]⟩⟩) ?_
  refine wpHoldR_box [true, true, true, true, true, true, true, true, true, true, true, true, true, true, true, false] 1 rfl (by kernel_rfl) ⟨d0, d1⟩ ?_
  simp only [maskL_t, maskL_f, maskL_n]
  iterate 3 (refine ReadsBox.step (fun K hK => ?_); go_simp; refine hK _ ?_; clear hK K)
  iterate 11 (refine ReadsBox.skip (by kernel_rfl) ?_; simp only [Act.put, List.setIfInBounds_toArray, List.set_cons_zero, List.set_cons_succ])
  refine ReadsBox.step (fun K hK => ?_)
  go_simp
  refine hK _ ?_
  clear hK K
  refine ReadsBox.nil ?_
  refine wpHold_last (by kernel_rfl) rfl (by kernel_rfl) ?_
  intro K hK
  clear t0
  have d1' : W3.drew.cell? ⟨M, 1, none⟩ = some (.int .i64 p) := d1
  have B5 := BB3.trans (Bd.mono (by omega))
  go_simp
  go_wp2_with (go_at_call 222; refine (need_false (p := p) d1').mono ?_; rintro e w9 ⟨rfl, rfl⟩)
  exact PanicQ.panic rfl ⟨rfl, B5, HN.out⟩
 ·obtain ⟨hil, hcm⟩ := HFI.out.1 rfl
  have hfind := bs_hit HBEL.out hil hcm
  obtain ⟨D, x, T, eb, hD, hhd, hlook⟩ := split_at EPP.out hfind
  obtain ⟨g, rfl⟩ : ∃ g, va = some ⟨g, 0, none⟩ := by
   obtain ⟨a', c', e', hf'⟩ := own_form HM2.out.own.row
   rw [enb.out] at e' hf'
   cases e'
   rcases hf' with e | ⟨g, e⟩
   ·exfalso
    have := enb.out
    rw [eb] at this
    simp at this
    omega
   ·exact ⟨g, e⟩
  have hin : i < n := by rw [← EPP.out, List.length_map, enb.out] at hil; exact hil
  have hin' : (i : Int) < (n : Int) := by omega
  have hi0 : (0 : Int) ≤ (i : Int) := by omega
  have zX := BlkAt.new u2 #[.string ck, .string cn, .string cy] 225
  have x2 := cell_of_block zX 2
  simp only [List.getElem?_toArray, List.getElem?_cons_zero, List.getElem?_cons_succ] at x2
  have hor := HM3.out.own.row
  rw [enb.out] at hor
  have hxlin : LinesIn (u2.alloc (.cells #[.string ck, .string cn, .string cy] 225)) x.v x.ls := (HM3.out.own.lines x (by rw [eb]; simp)).lin
  obtain ⟨xa, xc, ex⟩ := hxlin.1.form
  obtain ⟨g', off', e', r1, r2, r3⟩ := (show HasRow (u2.alloc (.cells #[.string ck, .string cn, .string cy] 225)) (.slice (some ⟨g, 0, none⟩) n vc) n 3 ((D ++ x :: T).flatMap BAt.cells) from by have := own_has hor; rw [eb] at this; exact this).block
  cases e'
  simp only [Nat.zero_add, hD] at r1 r2 r3
  rw [ex] at r3 hxlin
  have hxsm : LinesSmall x.ls := ((ok_small HOK.out).2 x (by rw [eb]; simp)).2
  have HHK : ∀ W, Below (u2.alloc (.cells #[.string ck, .string cn, .string cy] 225)).heap.size (u2.alloc (.cells #[.string ck, .string cn, .string cy] 225)) W → Calls Tryz.prog 141 #[.slice xa x.ls.length xc, .string cy] W fun e w' => e = .returned (.bool (hasK (x.ls.map LAt.plain) cy)) ∧ Below W.heap.size W w' := fun W hW => hasKey_any cy (hxlin.below hW) hxsm.1
  have EB := hid_in eb
  have ED := hid_in hD
  have HHD := hid_in hhd
  have HLK := hid_in hlook
  have HXS := hid_in hxsm
  clear zX hil hcm hfind eb hD hhd hlook hxlin hor r1 r2 hxsm
  generalize x.ls.length = nx at *
  generalize hHB : hasK (x.ls.map LAt.plain) cy = HB at *
  have EHB := hid_in hHB
  clear hHB
  generalize hW3 : u2.alloc (.cells #[.string ck, .string cn, .string cy] 225) = W3 at *
  have EW3 := hid_in hW3
  clear hW3
  have hKS := hid_in (show ∀ u, Below W3.heap.size W3 u → u.cell? ⟨M, 0, none⟩ = some (.slice (some ⟨g, 0, none⟩) n vc) ∧ u.cell? ⟨M, 1, none⟩ = some (.int .i64 p) ∧ u.cell? ⟨u2.heap.size, 2, none⟩ = some (.string cy) ∧ u.cell? ⟨g, i * 3 + 2, none⟩ = some (.slice xa nx xc) from fun u hu => ⟨(hu.cell (World.block_lt_of_cell? W3 _ d0)).trans d0, (hu.cell (World.block_lt_of_cell? W3 _ d1)).trans d1, (hu.cell (World.block_lt_of_cell? W3 _ x2)).trans x2, (hu.cell (World.block_lt_of_cell? W3 _ r3)).trans r3⟩)
  have t0 : ∀ q : { W : World // W.cell? ⟨M, 0, none⟩ = some (.slice (some ⟨g, 0, none⟩) n vc) ∧ W.cell? ⟨M, 1, none⟩ = some (.int .i64 p) ∧ W.cell? ⟨u2.heap.size, 2, none⟩ = some (.string cy) ∧ W.cell? ⟨g, i * 3 + 2, none⟩ = some (.slice xa nx xc) }, q.1.cell? ⟨M, 0, none⟩ = some (.slice (some ⟨g, 0, none⟩) n vc) := fun q => q.2.1
  have t1 : ∀ q : { W : World // W.cell? ⟨M, 0, none⟩ = some (.slice (some ⟨g, 0, none⟩) n vc) ∧ W.cell? ⟨M, 1, none⟩ = some (.int .i64 p) ∧ W.cell? ⟨u2.heap.size, 2, none⟩ = some (.string cy) ∧ W.cell? ⟨g, i * 3 + 2, none⟩ = some (.slice xa nx xc) }, q.1.cell? ⟨u2.heap.size, 2, none⟩ = some (.string cy) := fun q => q.2.2.2.1
  have t2 : ∀ q : { W : World // W.cell? ⟨M, 0, none⟩ = some (.slice (some ⟨g, 0, none⟩) n vc) ∧ W.cell? ⟨M, 1, none⟩ = some (.int .i64 p) ∧ W.cell? ⟨u2.heap.size, 2, none⟩ = some (.string cy) ∧ W.cell? ⟨g, i * 3 + 2, none⟩ = some (.slice xa nx xc) }, q.1.cell? ⟨g, i * 3 + 2, none⟩ = some (.slice xa nx xc) := fun q => q.2.2.2.2
  letI I1 : Inhabited { W : World // W.cell? ⟨M, 0, none⟩ = some (.slice (some ⟨g, 0, none⟩) n vc) ∧ W.cell? ⟨M, 1, none⟩ = some (.int .i64 p) ∧ W.cell? ⟨u2.heap.size, 2, none⟩ = some (.string cy) ∧ W.cell? ⟨g, i * 3 + 2, none⟩ = some (.slice xa nx xc) } := ⟨⟨W3, d0, d1, x2, r3⟩⟩
  have Bd : Below W3.heap.size W3 W3.drew := (Below.refl _ _).drew
  go_upto_region 15 with fail
  rw [EW3.out]
  refine wp_region_holdR (R := fun c w' => c = stopE p ∧ Below B w w' ∧ O = none) (S := fun W => W.cell? ⟨M, 0, none⟩ = some (.slice (some ⟨g, 0, none⟩) n vc) ∧ W.cell? ⟨M, 1, none⟩ = some (.int .i64 p) ∧ W.cell? ⟨u2.heap.size, 2, none⟩ = some (.string cy) ∧ W.cell? ⟨g, i * 3 + 2, none⟩ = some (.slice xa nx xc)) 15 16 (by kernel_rfl) rfl (fun c a w' hd h => ⟨hd, h.2.1, .inl ⟨h.2.2, by rw [h.1]⟩⟩) ?_
  refine wpHoldR_mask [true, true, true, true, true, true, true, true, true, true, true, true, true, false, false, false] 3 rfl (by kernel_rfl) ⟨d0, d1, x2, r3⟩ ?_
  simp only [maskL_t, maskL_f, maskL_n]
  iterate 3 (refine wpReads_step (fun K hK => ?_); go_simp; refine hK _ ?_; clear hK K)
  iterate 10 (refine wpReads_step (fun K hK => ?_); rw [if_pos (by kernel_rfl)]; go_simp; refine hK _ ?_; clear hK K)
  refine wpReads_nil ?_
  refine wpHold_branch (f := 2) (rs := [13]) (by kernel_rfl) (by simp) ?_
  refine AllHold.cons rfl (by decide) (fun K hK => ?_) AllHold.nil
  rw [if_pos (by kernel_rfl)]
  go_simp
  go_wp2_with (go_at_call 141; refine (HHK _ Bd).mono ?_; first | rintro e u4 rfl b4 | rintro e u4 ⟨rfl, b4⟩)
  have b4' := Bd.trans b4
  refine hK.out _ _ (hKS.out _ b4') ?_
  clear hK K HHK
  refine wpHoldR_mask [false, false, false, false, false, false, false, false, false, false, false, false, false, false, true, false] 1 rfl (by kernel_rfl) (hKS.out _ b4') ?_
  simp only [maskL_t, maskL_f, maskL_n]
  refine wpReads_step (fun K hK => ?_)
  go_simp
  refine hK _ ?_
  clear hK K
  refine wpReads_nil ?_
  refine wpHold_last (by kernel_rfl) rfl (by kernel_rfl) ?_
  intro K hK
  clear t0 t1 t2
  have hcs := hKS.out _ b4'
  have q1 := hcs.2.1
  have BB4 := BB3.trans (b4'.mono (by omega))
  have eP : bs.map BAt.plain = D.map BAt.plain ++ x.plain :: T.map BAt.plain := by rw [EB.out]; simp
  cases HB
  ·have HN := hid_in (show O = none from by rw [← HO.out]; exact unset_none rfl (.inr (.inr ⟨x.plain, by rw [EPP.out]; exact HLK.out, EHB.out⟩)))
   clear eP
   go_simp
   go_wp2_with (go_at_call 222; refine (need_false (p := p) q1).mono ?_; rintro e w9 ⟨rfl, rfl⟩)
   exact PanicQ.panic rfl ⟨rfl, BB4, HN.out⟩
  ·have hm4 := HM3.out.below b4'
   have hmj : Mem B u4 (lrows (.slice none 0 0) [] ++ brows (.slice (some ⟨g, 0, none⟩) n vc) bs) := by
    refine ⟨fun r hr => ?_, ?_⟩
    ·rcases List.mem_append.1 hr with hr | hr
     ·unfold lrows at hr
      rw [List.map_nil, List.mem_singleton] at hr
      rw [hr]
      exact World.ownsRow_nil _ _ _ _
     ·exact hm4.own.1 r hr
    ·unfold lrows
     exact List.pairwise_cons.2 ⟨fun _ _ => .inl rfl, hm4.own.2⟩
   have hxb : x.ls.length + ([] : List LAt).length ≤ 1048576 := HXS.out.1
   have HOI := hid_in (show (if linesB (rulesOf x.kind) (setL (rulesOf x.kind) (x.ls.map LAt.plain) cy (([] : List LAt).map LAt.plain)) = true then some ((D.map BAt.plain) ++ (⟨x.kind, x.name, setL (rulesOf x.kind) (x.ls.map LAt.plain) cy (([] : List LAt).map LAt.plain)⟩ : PBlock) :: T.map BAt.plain) else none) = O from by
    have hOK := HOK.out
    rw [eP] at hOK
    rw [← HO.out, eP]
    exact unset_is (b := x.plain) hOK HHD.out EHB.out)
   have HI : ∀ W, Below u4.heap.size u4 W → Calls Tryz.prog 224 #[.pointer (some ⟨M, 0, none⟩), .pointer (some ⟨g, i * 3, none⟩), .string cy, .slice none 0 0] W fun e w' => MkPost B M p O W e w' := fun W hW => by
    have h9 := setLines_any (D := D) (T := T) (x := x) (i := i) (xs := []) (xv := .slice none 0 0) cy (by rw [← EB.out]; exact hm4.below hW) (by rw [← EB.out]; exact enb.out) ED.out (by rw [← EB.out]; exact hmj.below hW) (by rw [← EB.out]; exact HOK.out) ⟨by simp, fun _ h => by cases h⟩ hxb
    rw [HOI.out] at h9
    exact h9
   have q0 := hcs.1
   have q2 := hcs.2.2.1
   have hu4 := hm4.size
   clear eP hmj hxb HOI hcs hKS I1 q1
   go_simp
   go_wp2_with (go_at_call 222; refine (need_true M _).mono ?_; rintro e w9 ⟨rfl, rfl⟩)
   refine hK.out _ _ (PanicQ.normal ?_)
   clear hK K
   have t0 : ∀ q : { W : World // W.cell? ⟨M, 0, none⟩ = some (.slice (some ⟨g, 0, none⟩) n vc) ∧ W.cell? ⟨u2.heap.size, 2, none⟩ = some (.string cy) }, q.1.cell? ⟨M, 0, none⟩ = some (.slice (some ⟨g, 0, none⟩) n vc) := fun q => q.2.1
   have t1 : ∀ q : { W : World // W.cell? ⟨M, 0, none⟩ = some (.slice (some ⟨g, 0, none⟩) n vc) ∧ W.cell? ⟨u2.heap.size, 2, none⟩ = some (.string cy) }, q.1.cell? ⟨u2.heap.size, 2, none⟩ = some (.string cy) := fun q => q.2.2
   letI I2 : Inhabited { W : World // W.cell? ⟨M, 0, none⟩ = some (.slice (some ⟨g, 0, none⟩) n vc) ∧ W.cell? ⟨u2.heap.size, 2, none⟩ = some (.string cy) } := ⟨⟨w9, q0, q2⟩⟩
   have Bd2 : Below w9.heap.size w9 w9.drew := (Below.refl _ _).drew
   go_upto_region 16 with fail
   refine wp_region_holdR (R := fun c w' => c = stopE p ∧ Below B w w' ∧ O = none) (S := fun W => W.cell? ⟨M, 0, none⟩ = some (.slice (some ⟨g, 0, none⟩) n vc) ∧ W.cell? ⟨u2.heap.size, 2, none⟩ = some (.string cy)) 9 10 (by kernel_rfl) rfl (fun c a w' hd h => ⟨hd, h.2.1, .inl ⟨h.2.2, by rw [h.1]⟩⟩) ?_
   refine wpHoldR_mask [true, true, true, true, true, true, true, true, true, false] 1 rfl (by kernel_rfl) ⟨q0, q2⟩ ?_
   simp only [maskL_t, maskL_f, maskL_n]
   iterate 9 (refine wpReads_step (fun K hK => ?_); go_simp; refine hK _ ?_; clear hK K)
   refine wpReads_nil ?_
   clear t0 t1
   refine wpHold_last (by kernel_rfl) rfl (by kernel_rfl) ?_
   intro K hK
   have BB5 := BB4.trans (Bd2.mono hu4)
   go_simp
   go_wp2_with (go_at_call 224; refine (HI _ Bd2).mono ?_)
   rintro e u5 ⟨b5, h5⟩
   rcases h5 with ⟨hO, rfl⟩ | ⟨A, v', bs', hO, rfl, hpl, hmk⟩
   ·exact PanicQ.panic rfl ⟨rfl, BB5.trans b5, hO⟩
   ·have HP := hid_in (show MkPost B M p O w (.returned (.tuple #[])) u5 from ⟨BB5.trans b5, .inr ⟨A, v', bs', hO, rfl, hpl, hmk⟩⟩)
    clear hmk hpl hO HI
    refine hK.out _ _ (PanicQ.normal ?_)
    clear hK K
    go_wp2
    go_end0
    exact HP.out
end Go.Proofs.YtpdahhnjhggocabGreatDoor
