import Derived.Test.YtpdahhnjhggocaaGreatDoorBun34
import Derived.Test.YtpdahhnjhggocaaGreatDoorBun31
import Derived.Test.YtpdahhnjhggocaaGreatDoorBun27
import Derived.Test.YtpdahhnjhggocaaGreatDoorBun16
namespace Go.Proofs.YtpdahhnjhggocaaGreatDoor
open Go.RowKit
set_option maxHeartbeats 2000000 in
theorem layIs_any {o : BAt} (x : LAt) (g : Nat) {w : World} (hx : ∃ a n c, x.v = .slice a n c) (h : BlockIn w o) (hl : o.ls.length ≤ 1048576) (hg : w.heap[g]? = some (.cells #[.string o.kind, .string o.name, o.v] 46 (0, 0))) : Calls Tryz.prog 110 #[.agg #[.string x.key, x.v], .pointer (some ⟨g, 0, none⟩)] w fun e w' => e = .returned (.bool (!hasK (o.ls.map LAt.plain) x.key)) ∧ Below w.heap.size w w' := by
  obtain ⟨a, n, c, e1⟩ := hx
  rw [e1]
  have G := (Below.refl w.heap.size w).alloc (Nat.le_refl _) (.cells #[.string x.key, .slice a n c] 115)
  have c2 := cell_of_block hg 2
  simp only [List.getElem?_toArray, List.getElem?_cons_zero, List.getElem?_cons_succ] at c2
  have hg' := (G.cell (World.block_lt_of_cell? w _ c2)).trans c2
  have k0 := one_box (w := w) (cs := #[.string x.key, .slice a n c]) (T := 115) 0
  simp only [List.getElem?_toArray, List.getElem?_cons_zero] at k0
  have H := hasKey_any x.key (BlockIn.below h G) hl
  generalize hasK (o.ls.map LAt.plain) x.key = K at *
  obtain ⟨av, cv, eo⟩ := h.1.form
  rw [eo] at hg' H
  clear h hg c2 e1 eo
  generalize o.ls.length = nl at *
  generalize x.key = xk at *
  go_enter Tryz.func110, Tryz.ntmps110
  go_wp2_with (go_at_call 111; refine H.mono ?_)
  first | rintro e w1 rfl b1 | rintro e w1 ⟨rfl, b1⟩
  clear H
  go_wp2
  go_ret
  exact ⟨rfl, G.trans (b1.mono (by simp))⟩
def LayPost (u o : BAt) (w : World) (e : Ending) (w' : World) : Prop := ∃ a n c ls, e = .returned (.agg #[.string o.kind, .string o.name, .slice a n c]) ∧ (ls.map LAt.plain = overL (rulesOf o.kind) (u.ls.map LAt.plain) (o.ls.map LAt.plain) ∧ LinesOwn w.heap.size w' (.slice a n c) ls ∧ LinesSmall ls) ∧ Below w.heap.size w w'
theorem left_plain (us os : List LAt) : (us.filter (fun x => !hasK (os.map LAt.plain) x.key)).map LAt.plain = leftL (us.map LAt.plain) (os.map LAt.plain) := by
  unfold leftL
  rw [List.filter_map]
  rfl
theorem LinesOwn.sorted {B : Nat} {w w' : World} {v : Value} {ls ls' : List LAt} (h : LinesOwn B w v ls) (hp : ls'.Perm ls) (ho : w'.ownsRow B 115 2 v ls.length (ls'.flatMap LAt.cells)) (hg : w.grownBy w' v.ownBlock) : LinesOwn B w' v ls' := by
  have ht := Mem.turn (r' := ⟨v, 115, 2, ls.length, ls'.flatMap LAt.cells⟩) h rfl ho hg
  unfold LinesOwn lrows
  rw [hp.length_eq]
  exact Mem.perm ht (List.Perm.cons _ (hp.symm.map _))
set_option maxHeartbeats 8000000 in
set_option maxRecDepth 100000 in
theorem layBlock_any {u o : BAt} {w : World} (hu : BlockIn w u) (ho : BlockIn w o) (hsu : LinesSmall u.ls) (hso : LinesSmall o.ls) (hl : o.ls.length + u.ls.length ≤ 100000) (hgood : GoodLs (rulesOf o.kind) (o.ls.map LAt.plain ++ leftL (u.ls.map LAt.plain) (o.ls.map LAt.plain))) : Calls Tryz.prog 48 #[.agg #[.string u.kind, .string u.name, u.v], .agg #[.string o.kind, .string o.name, o.v]] w fun e w' => LayPost u o w e w' := by
  obtain ⟨ua, uc, eu⟩ := hu.1.form
  obtain ⟨oa, oc, eo⟩ := ho.1.form
  obtain ⟨uk, un, uv, ul⟩ := u
  obtain ⟨ok, on, ov, ol⟩ := o
  simp only at eu eo hsu hso hl hgood
  subst eu eo
  have a3 := alloc3 (w := w) (o1 := .cells #[.string uk, .string un, .slice ua ul.length uc] 46) (o2 := .cells #[.string ok, .string on, .slice oa ol.length oc] 46) (o3 := .cells #[.string ⟨#[]⟩, .string ⟨#[]⟩, .slice none 0 0] 46)
  have b3 : Below w.heap.size w (((w.alloc (.cells #[.string uk, .string un, .slice ua ul.length uc] 46)).alloc (.cells #[.string ok, .string on, .slice oa ol.length oc] 46)).alloc (.cells #[.string ⟨#[]⟩, .string ⟨#[]⟩, .slice none 0 0] 46)) := (((Below.refl _ _).alloc (Nat.le_refl _) _).alloc (by simp) _).alloc (by simp; omega) _
  obtain ⟨s3, hub, hob, hrb⟩ := a3
  have hu3 := BlockIn.below hu b3
  have ho3 := BlockIn.below ho b3
  have HK := keepLines_any (F := 110) (q := .pointer (some ⟨w.heap.size + 1, 0, none⟩)) (fun x => !hasK (ol.map LAt.plain) x.key) hu3 (by simp only; omega) (fun x hx W hW => layIs_any (o := ⟨ok, on, .slice oa ol.length oc, ol⟩) x (w.heap.size + 1) (by obtain ⟨a, c, e⟩ := HasRow.form (hu3.2 x hx); exact ⟨a, _, c, e⟩) (BlockIn.below ho3 hW) (by simp only; omega) ((hW.block _ (by omega)).trans hob)) (enters_of Tryz.func110 (by kernel_rfl) rfl)
  have hLF := hid_in (left_plain ul ol)
  have hLm := hid_in (show ∀ x ∈ ul.filter (fun x => !hasK (ol.map LAt.plain) x.key), x ∈ ul from fun x hx => (List.mem_filter.1 hx).1)
  have hLl : (ul.filter (fun x => !hasK (ol.map LAt.plain) x.key)).length ≤ ul.length := List.length_filter_le _ _
  generalize hLE : ul.filter (fun x => !hasK (ol.map LAt.plain) x.key) = lf at *
  have cu := cell_of_block hub 2
  have co := cell_of_block hob 2
  have co0 := cell_of_block hob 0
  have co1 := cell_of_block hob 1
  simp only [List.getElem?_toArray, List.getElem?_cons_zero, List.getElem?_cons_succ] at cu co co0 co1
  have HU := hid_in hu
  have HO := hid_in ho
  have HSU := hid_in hsu
  have HSO := hid_in hso
  have HGD := hid_in hgood
  clear hu ho hsu hso hgood hu3 ho3 hLE
  generalize hnu : ul.length = nu at *
  generalize hno : ol.length = no at *
  have ENO := hid_in hno
  clear hnu hno
  generalize hW3 : ((w.alloc (.cells #[.string uk, .string un, .slice ua nu uc] 46)).alloc (.cells #[.string ok, .string on, .slice oa no oc] 46)).alloc (.cells #[.string ⟨#[]⟩, .string ⟨#[]⟩, .slice none 0 0] 46) = W3 at *
  go_enter Tryz.func48, Tryz.ntmps48
  go_wp2_with (go_at_call 109; (try rw [hW3]); refine HK.mono ?_)
  first | rintro e w1 v1 rfl o1 b1 | rintro e w1 ⟨v1, rfl, o1, b1⟩
  have b1' : Below W3.heap.size W3 w1 := by rw [s3]; exact b1
  have g1 := b3.trans (b1'.mono b3.size)
  obtain ⟨la, lc, rfl, _⟩ := own_form o1
  have O1 := hid_in (own_has o1)
  have ob1 := (b1'.block (w.heap.size + 1) (by omega)).trans hob
  have rb1 := (b1'.block (w.heap.size + 2) (by omega)).trans hrb
  have hz1 := b1'.size
  have e2 := cell_of_block ob1 2
  simp only [List.getElem?_toArray, List.getElem?_cons_zero, List.getElem?_cons_succ] at e2
  have hone1 := hid_in (lcells_one (ls := ol) (fun x hx => by obtain ⟨a, c, e⟩ := HasRow.form (HO.out.2 x hx); exact ⟨a, _, c, e⟩))
  have hone2 := hid_in (lcells_one (ls := lf) (fun x hx => by obtain ⟨a, c, e⟩ := HasRow.form (HU.out.2 x (hLm.out x hx)); exact ⟨a, _, c, e⟩))
  clear HK o1 b1 cu co co0 co1 hub hob hrb hW3 b3 b1'
  generalize hnl : lf.length = nlf at *
  have ENL := hid_in hnl
  clear hnl
  have x2 := (Below.refl w1.heap.size w1).alloc (Nat.le_refl _) (.cells #[.slice oa no oc, .slice la nlf lc] 44)
  have z2 := alloc_here w1 (.cells #[.slice oa no oc, .slice la nlf lc] 44)
  have g2 := g1.trans (x2.mono g1.size)
  have hz2 : (w1.alloc (.cells #[.slice oa no oc, .slice la nlf lc] 44)).heap.size = w1.heap.size + 1 := by simp
  have HC0 := concatL_any (g := w1.heap.size) (n1 := ol.length) (n2 := nlf) z2 (HasRow.below HO.out.1 g2) (O1.out.below x2) hone1.out hone2.out (by have := ENO.out; omega)
  have ob2 := (x2.block (w.heap.size + 1) (by omega)).trans ob1
  have rb2 := (x2.block (w.heap.size + 2) (by omega)).trans rb1
  clear x2 z2 ob1 rb1 O1 hone1 hone2
  generalize hW2 : w1.alloc (.cells #[.slice oa no oc, .slice la nlf lc] 44) = w2 at *
  go_wp2_with (go_at_call 112; (try rw [hW2]); refine HC0.mono ?_)
  rintro e w4 ⟨v4, rfl, o4, b4⟩
  have g4 := g2.trans (b4.mono g2.size)
  have hlin4 : LinesIn w4 v4 (ol ++ lf) := ⟨by
      have := own_has o4
      rw [← ENL.out] at this
      rw [List.length_append, List.flatMap_append]
      exact this, fun x hx => by
    rcases List.mem_append.1 hx with h | h
    · exact LineIn.below (HO.out.2 x h) g4
    · exact LineIn.below (HU.out.2 x (hLm.out x h)) g4⟩
  have hsm4 : LinesSmall (ol ++ lf) := ⟨by rw [List.length_append, ENO.out, ENL.out]; omega, fun x hx => by
    rcases List.mem_append.1 hx with h | h
    · exact HSO.out.2 x h
    · exact HSU.out.2 x (hLm.out x h)⟩
  have HC := copyLines_any hlin4 hsm4
  have HSM4 := hid_in hsm4
  have ob4 := (b4.block (w.heap.size + 1) (by omega)).trans ob2
  have rb4 := (b4.block (w.heap.size + 2) (by omega)).trans rb2
  have hz4 := b4.size
  obtain ⟨va4, vc4, rfl, _⟩ := own_form o4
  clear HC0 o4 b4 hlin4 hsm4 ob2 rb2 hW2 e2
  generalize hn4 : ol.length + nlf = n4 at *
  clear hn4
  go_wp2_with (go_at_call 94; refine HC.mono ?_)
  first | rintro e w5 v5 rfl ls5 hp5 o5 b5 | rintro e w5 v5 ls5 rfl hp5 o5 b5 | rintro e w5 ⟨v5, ls5, rfl, hp5, o5, b5⟩
  have g5 := g4.trans (b5.mono g4.size)
  have ob5 := (b5.block (w.heap.size + 1) (by omega)).trans ob4
  have rb5 := (b5.block (w.heap.size + 2) (by omega)).trans rb4
  have hz5 := b5.size
  have c50 := cell_of_block ob5 0
  have c51 := cell_of_block ob5 1
  simp only [List.getElem?_toArray, List.getElem?_cons_zero, List.getElem?_cons_succ] at c50 c51
  obtain ⟨a5, c5, rfl, _⟩ := own_form o5.row
  have O5 := hid_in o5
  have HP5 := hid_in hp5
  have hsm5 := hid_in (LinesSmall.same HSM4.out hp5)
  have HRU := implRules_any ok w5
  clear HC o5 hp5 b5 ob4 rb4
  generalize hn5 : ls5.length = n5 at *
  have EN5 := hid_in hn5
  clear hn5
  go_wp2_with (go_at_call 29; refine HRU.mono ?_)
  rintro e w6 ⟨vr, L, rfl, hpl, hrl, b6⟩
  have hl12 := rulesOf_twelve ok hpl
  obtain ⟨ra, rc, evr, _⟩ := own_form (show w6.ownsRow w5.heap.size 54 4 vr L.length (L.flatMap RAt.cells) from Mem.head hrl)
  subst evr
  have x7 := (Below.refl w6.heap.size w6).alloc (Nat.le_refl _) (.cells #[.slice ra L.length rc] 47)
  have q7 := one_box (w := w6) (cs := #[.slice ra L.length rc]) (T := 47) 0
  simp only [List.getElem?_toArray, List.getElem?_cons_zero] at q7
  have b67 := b6.trans (x7.mono b6.size)
  have g7 := g5.trans (b67.mono g5.size)
  have O7 := O5.out.below b67
  have HLO := lineOrderOf_any (v := .slice ra L.length rc) ⟨_, _, _, rfl⟩ w6
  have hz6 := b6.size
  have HS := sortLines_any (B := w4.heap.size) (g := w6.heap.size) (v := .slice a5 n5 c5) (ls := ls5) O7.row hl12 (hrl.rin.below x7) q7 (fun x hx => ⟨O7.lin.2 x hx, (hsm5.out.2 x hx).1⟩) (fun q hq => by
    have hqb := O5.out.row.lt q hq
    refine ⟨FarV.above (Mem.head hrl) hqb.2, by omega, fun x hx => ?_⟩
    exact far_rows (r := ⟨.slice a5 n5 c5, 115, 2, ls5.length, ls5.flatMap LAt.cells⟩) (s := x.row) O5.out (List.mem_map_of_mem hx) hq) (Nat.le_trans hsm5.out.1 (by decide))
  have HPR := hid_in hpl
  have O7H := hid_in O7
  have ob7 := (b67.block (w.heap.size + 1) (by omega)).trans ob5
  have rb7 := (b67.block (w.heap.size + 2) (by omega)).trans rb5
  have hB5 := hid_in (show ∀ k, (Value.slice a5 n5 c5).ownBlock = some k → w4.heap.size ≤ k from fun k hk => (O5.out.row.lt k hk).1)
  clear O5 HRU hrl hpl b6 x7 b67 ob5 rb5 O7
  go_wp2_with (first | (go_at_call 75; refine HLO.mono ?_; rintro e w7 ⟨rfl, rfl⟩) | (go_at_call 74; refine HS.mono ?_))
  first | rintro e w8 rfl ls8 hp8 o8 hs8 g8 | rintro e w8 ⟨rfl, ls8, hp8, o8, hs8, g8⟩
  have hpl8 : ls8.map LAt.plain = overL (rulesOf ok) (ul.map LAt.plain) (ol.map LAt.plain) := by
    refine normLs_unique HGD.out ?_ ?_
    · rw [← hLF.out, ← List.map_append, ← HP5.out]
      exact hp8.map _
    · intro i k hik a b ha hb
      rw [List.getElem?_map, Option.map_eq_some_iff] at ha hb
      obtain ⟨a', ha', rfl⟩ := ha
      obtain ⟨b', hb', rfl⟩ := hb
      have := hs8 i k hik a' b' ha' hb'
      rw [HPR.out] at this
      exact this
  have O8 := (O7H.out.sorted hp8 o8 g8)
  have B8 := g7.grown g8 g7.size (fun k hk => by have := hB5.out k hk; omega)
  have hsm8 : LinesSmall ls8 := ⟨by rw [hp8.length_eq]; exact hsm5.out.1, fun x hx => hsm5.out.2 x (hp8.mem_iff.1 hx)⟩
  have hz7 := g7.size
  have rb8 := (g8.block (w.heap.size + 2) (Array.getElem?_eq_some_iff.1 rb7).1 (by intro e; have := hB5.out _ e.symm; omega)).trans rb7
  have ob8 := (g8.block (w.heap.size + 1) (Array.getElem?_eq_some_iff.1 ob7).1 (by intro e; have := hB5.out _ e.symm; omega)).trans ob7
  have d0 := cell_of_block ob8 0
  have d1 := cell_of_block ob8 1
  simp only [List.getElem?_toArray, List.getElem?_cons_zero, List.getElem?_cons_succ] at d0 d1
  have HO8 := hid_in (show LayPost ⟨uk, un, .slice ua nu uc, ul⟩ ⟨ok, on, .slice oa no oc, ol⟩ w (.returned (.agg #[.string ok, .string on, .slice a5 n5 c5])) (w8.setRow (w.heap.size + 2) #[.string ok, .string on, .slice a5 n5 c5]) from
    ⟨a5, n5, c5, ls8, rfl, ⟨hpl8, (O8.setRow (w.heap.size + 2) (by omega) _).mono (by omega), hsm8⟩, belowGrown B8 B8.size (by omega) (grown_setRow w8 (w.heap.size + 2) _)⟩)
  clear HS HLO hpl8 O8 B8 hsm8 hp8 o8 hs8 g8 O7H ob8 ob7 rb7 q7 c50 c51
  go_wp2_with (with_reducible show wpList _ _ _ (Oper.mk _ (Op.store _ (Operand.tmp 4) _) _ _ _ _ :: _) _ _; refine wpList_store_row rfl 46 _ _ rfl (w.heap.size + 2) #[.string ok, .string on, .slice a5 n5 c5] ?_ ?_ 46 _ rb8 ?_ ?_ ?_ ?_)
  all_goals (first | rfl | kernel_rfl | exact ⟨rfl, rfl, rfl⟩ | (obtain ⟨i9, e9, _, s9, _⟩ := info_parts infoBlock; exact ⟨i9, e9, s9⟩) | skip)
  have z9 : (w8.setRow (w.heap.size + 2) #[.string ok, .string on, .slice a5 n5 c5]).heap[w.heap.size + 2]? = some (.cells #[.string ok, .string on, .slice a5 n5 c5] 46 (0, 0)) := setRow_heap _ _ _ _ _ _ rb8
  have y0 := cell_of_block z9 0
  have y1 := cell_of_block z9 1
  have y2 := cell_of_block z9 2
  simp only [List.getElem?_toArray, List.getElem?_cons_zero, List.getElem?_cons_succ] at y0 y1 y2
  generalize w8.setRow (w.heap.size + 2) #[.string ok, .string on, .slice a5 n5 c5] = W at HO8 y0 y1 y2 z9 ⊢
  exact bodyPost_ret (v := .agg #[.string ok, .string on, .slice a5 n5 c5]) (by simp [results, Tryz.results48, go_sem, y0, y1, y2]) rfl HO8.out
end Go.Proofs.YtpdahhnjhggocaaGreatDoor
