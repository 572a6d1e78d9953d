import Derived.Test.YtpdahhnjhggocabGreatDoorBun27
import Derived.Test.YtpdahhnjhggocabGreatDoorBun26
import Derived.Test.YtpdahhnjhggocabGreatDoorBun24
import Derived.Test.YtpdahhnjhggocabGreatDoorBun10
import Derived.Deep.MidRow
namespace Go.Proofs.YtpdahhnjhggocabGreatDoor
open Go.RowKit
def mixR (ys xs : List Value) (j : Nat) : List Value := ys.take j ++ xs.drop j
theorem mixR_zero (ys xs : List Value) : mixR ys xs 0 = xs := by simp [mixR]
theorem mixR_all {ys xs : List Value} {n : Nat} (h1 : ys.length = n) (h2 : xs.length = n) : mixR ys xs n = ys := by simp [mixR, ← h1, List.drop_eq_nil_of_le (by omega : xs.length ≤ ys.length)]
theorem mixR_set {ys xs : List Value} {n : Nat} (h1 : ys.length = n) (h2 : xs.length = n) (j : Nat) (hj : j < n) (y : Value) (hy : ys[j]? = some y) : (mixR ys xs j).set j y = mixR ys xs (j + 1) := by
 unfold mixR
 have e : (ys.take j).length = j := by simp; omega
 rw [List.set_append_right _ _ (by omega), e, Nat.sub_self, List.drop_eq_getElem_cons (by omega : j < xs.length), List.set_cons_zero]
 have hy' : ys[j]'(by omega) = y := by rw [List.getElem?_eq_getElem (by omega)] at hy; exact Option.some.inj hy
 rw [List.take_succ_eq_append_getElem (by omega : j < ys.length), hy', List.append_assoc]; rfl
set_option maxHeartbeats 1000000 in
set_option maxRecDepth 100000 in
theorem toWords_any {a : Option Addr} {len cap : Nat} {ws : List (List UInt8)} {w : World} (h : HasRow w (.slice a len cap) ws.length 1 (strs ws)) (hl : len ≤ 1048576) : Calls Tryz.prog 250 #[.slice a len cap] w fun e w' => ∃ v, e = .returned v ∧ w'.ownsRow w.heap.size 9 1 v ws.length (strs ws) ∧ Below w.heap.size w w' := by
 have en := hid_in (show len = ws.length by obtain ⟨_, _, _, e, _⟩ := h; cases e; rfl)
 obtain ⟨i0, hi, hz0, hz1, hz2⟩ := info_parts info9
 go_enter Tryz.func250, Tryz.ntmps250
 go_wp2_with (with_reducible show wpList _ _ _ (Oper.mk _ (Op.makeSlice _ _ _) _ _ _ _ :: _) _ _; refine wpList_make_full w rfl _ _ _ rfl w.heap.size 9 i0 _ 1 Tryz.underlying61 hi hz0 hz1 .i64 .i64 (len : Int) (len : Int) len ?_ ?_ rfl rfl (by rw [hz2]; omega) (by unfold maxLen; omega) (Nat.le_refl _) ?_)
 ·rfl
 ·rfl
 intro w1 own1 gr1
 have b1 := below_madeR gr1
 have hmadeL : (madeCells #[Value.string ⟨#[]⟩] len).toList.length = len := by have := own1.1; omega
 generalize (madeCells #[Value.string ⟨#[]⟩] len).toList = zs at *
 clear gr1
 go_wp2
 go_loopw [4] (fun i wr => ∃ j : Nat, j ≤ len ∧ i = .int .i64 (j : Int) ∧ wr.ownsRow w.heap.size 9 1 (.slice (some ⟨w.heap.size, 0, none⟩) len len) len (mixR (strs ws) zs j) ∧ Below w.heap.size w wr) (fun i _ => len - (intOf i).toNat)
 case atStart => exact ⟨0, by omega, rfl, by rw [mixR_zero]; exact own1, b1⟩
 case round =>
  obtain ⟨j, hj, rfl, hown, hbw⟩ := hrel
  by_cases hlt : j < len
  ·have lj : j < ws.length := by have := en.out; omega
   obtain ⟨b, off, rfl, c1⟩ := (h.below hbw).word j lj
   have hc2 := hown.cellAt j (by omega)
   obtain ⟨u, hu⟩ : ∃ u, (mixR (strs ws) zs j)[j]? = some u := ⟨_, List.getElem?_eq_getElem (by have := hown.1; omega)⟩
   rw [hu] at hc2
   have hf := hown.frozenAt j
   have hst := hown.stored j (.string ⟨ws[j].toArray⟩)
   have HP : Hid _ := mixR_set (show (strs ws).length = len by rw [strs_length, en.out]) hmadeL j hlt (.string ⟨ws[j].toArray⟩) (strs_at ws j lj)
   generalize (⟨ws[j].toArray⟩ : ByteArray) = y at *
   clear own1 b1 hu h
   go_wp2
   go_roundw
   case rel =>
    refine ⟨j + 1, by omega, by go_num, ?_, below_grownR hbw hst.2⟩
    rw [← HP.out]; exact hst.1
   case measure => simp [intOf]; omega
  ·obtain rfl : j = len := by omega
   rw [mixR_all (show (strs ws).length = j by rw [strs_length, en.out]) hmadeL] at hown
   have ho := hid_in (show wr.ownsRow w.heap.size 9 1 (.slice (some ⟨w.heap.size, 0, none⟩) j j) ws.length (strs ws) from en.out ▸ hown)
   clear hown h own1
   go_wp2
   go_ret
   exact ⟨_, rfl, ho.out, hbw⟩
set_option maxHeartbeats 2000000 in
set_option maxRecDepth 100000 in
theorem toLine_any {x : LAt} {w : World} (h : LineIn w x) (hs : LineSmall x) : Calls Tryz.prog 220 #[.agg #[.string x.key, x.v]] w fun e w' => ∃ v, e = .returned (.agg #[.string x.key, v]) ∧ w'.ownsRow w.heap.size 9 1 v x.ws.length (strs x.ws) ∧ Below w.heap.size w w' := by
 obtain ⟨ax, cx, e1⟩ := HasRow.form h
 unfold LineIn at h
 rw [e1] at h ⊢
 have b0 : Below w.heap.size w (((w.alloc (.cells #[.string x.key, .slice ax x.ws.length cx] 290)).alloc (.cells #[.string ⟨#[]⟩, .slice none 0 0] 82)).alloc (.cells #[.string x.key, .slice none 0 0] 82)) := (((Below.refl _ _).alloc (Nat.le_refl _) _).alloc (by simp) _).alloc (by simp; omega) _
 obtain ⟨hsz, -, hz1, hz2⟩ := alloc3 (w := w) (o1 := .cells #[.string x.key, .slice ax x.ws.length cx] 290) (o2 := .cells #[.string ⟨#[]⟩, .slice none 0 0] 82) (o3 := .cells #[.string x.key, .slice none 0 0] 82)
 have HW := toWords_any (h.below b0) hs.1
 generalize hWS : strs x.ws = WS at *
 clear h e1 hs hWS
 generalize x.ws.length = nx at *
 generalize x.key = xk at *
 go_enter Tryz.func220, Tryz.ntmps220
 go_wp2_with (go_at_call 250; refine HW.mono ?_)
 rintro e w2 ⟨v, rfl, o2, b2⟩
 rw [hsz] at o2 b2
 have z1 := (b2.block (w.heap.size + 1) (by omega)).trans hz1
 have z2 := (b2.block (w.heap.size + 2) (by omega)).trans hz2
 have hw2 : w.heap.size + 3 ≤ w2.heap.size := by have := b2.size; rw [hsz] at this; exact this
 have b02 := b0.trans (b2.mono (by omega))
 have c0 := cell_of_block z2 0
 have c1 := cell_of_block z2 1
 have f1 := frozen_of_block z2 1
 simp only [List.getElem?_toArray, List.getElem?_cons_zero, List.getElem?_cons_succ] at c0 c1
 obtain ⟨av, cv, rfl, _⟩ := own_form o2
 have z1' : (w2.setCell ⟨w.heap.size + 2, 1, none⟩ (.slice av nx cv)).heap[w.heap.size + 1]? = some (.cells #[.string ⟨#[]⟩, .slice none 0 0] 82 (0, 0)) := by rw [Below.heap_setCell _ _ _ _ (by simp)]; exact z1
 clear HW hz1 hz2 hsz
 go_wp2_with (with_reducible show wpList _ _ _ (Oper.mk _ (Op.store _ (Operand.tmp 2) _) _ _ _ _ :: _) _ _; refine wpList_store_row rfl 82 _ _ rfl (w.heap.size + 1) #[.string xk, .slice av nx cv] ?_ ?_ 82 _ z1' ?_ ?_ ?_ ?_)
 all_goals (first | rfl | kernel_rfl | skip)
 have z5 : ((w2.setCell ⟨w.heap.size + 2, 1, none⟩ (.slice av nx cv)).setRow (w.heap.size + 1) #[.string xk, .slice av nx cv]).heap[w.heap.size + 1]? = some (.cells #[.string xk, .slice av nx cv] 82 (0, 0)) := setRow_heap _ _ _ _ _ _ z1'
 have o5 := own_mono (own_setRow (own_setCell o2 ⟨w.heap.size + 2, 1, none⟩ (by simp) (.slice av nx cv)) (w.heap.size + 1) (by omega) #[.string xk, .slice av nx cv]) (show w.heap.size ≤ w.heap.size + 3 by omega)
 have b5 : Below w.heap.size w ((w2.setCell ⟨w.heap.size + 2, 1, none⟩ (.slice av nx cv)).setRow (w.heap.size + 1) #[.string xk, .slice av nx cv]) :=
  ⟨b02.os, b02.tape, b02.output, by rw [setRow_size]; simp; omega, fun k hk => by rw [setRow_other _ _ _ _ (by omega), Below.heap_setCell _ _ _ _ (by simp; omega)]; exact b02.block k hk⟩
 have y0 := cell_of_block z5 0
 have y1 := cell_of_block z5 1
 simp only [List.getElem?_toArray, List.getElem?_cons_zero, List.getElem?_cons_succ] at y0 y1
 rw [show w.heap.size + 1 + 1 = w.heap.size + 2 from rfl]
 generalize (w2.setCell ⟨w.heap.size + 2, 1, none⟩ (.slice av nx cv)).setRow (w.heap.size + 1) #[.string xk, .slice av nx cv] = W at *
 exact bodyPost_ret (v := .agg #[.string xk, .slice av nx cv]) (by simp [results, Tryz.results220, go_sem, y0, y1]) rfl ⟨_, rfl, o5, b5⟩
set_option maxHeartbeats 2000000 in
set_option maxRecDepth 100000 in
theorem toLines_any {v : Value} {ls : List LAt} {w : World} (h : LinesIn w v ls) (hs : LinesSmall ls) : Calls Tryz.prog 161 #[v] w fun e w' => ∃ v' ls', e = .returned v' ∧ ls'.map LAt.plain = ls.map LAt.plain ∧ LinesOwn w.heap.size w' v' ls' ∧ Below w.heap.size w w' := by
 obtain ⟨ao, cap, rfl⟩ := h.1.form
 have hl := hs.1
 generalize hn : ls.length = len at *
 have en := hid_in hn
 clear hn
 obtain ⟨i0, hi, hz0, hz1, hz2⟩ := info_parts infoLine
 go_enter Tryz.func161, Tryz.ntmps161
 go_wp2_with (with_reducible show wpList _ _ _ (Oper.mk _ (Op.makeSlice _ _ _) _ _ _ _ :: _) _ _; refine wpList_make_full w rfl _ _ _ rfl w.heap.size 82 i0 _ 2 Tryz.underlying41 hi hz0 hz1 .i64 .i64 (len : Int) (len : Int) len ?_ ?_ rfl rfl (by rw [hz2]; omega) (by unfold maxLen; omega) (Nat.le_refl _) ?_)
 ·rfl
 ·rfl
 intro w1 own1 gr1
 have b1 := below_madeR gr1
 have hgt1 := (own1.lt w.heap.size rfl).2
 obtain ⟨zs, own1, hmadeL⟩ : ∃ zs : List Value, w1.ownsRow w.heap.size 82 2 (.slice (some ⟨w.heap.size, 0, none⟩) len len) len zs ∧ zs.length = len * 2 := ⟨_, own1, own1.1⟩
 clear gr1
 go_wp2
 go_loopw [4] (fun i wr => ∃ (j : Nat) (done : List LAt), j ≤ len ∧ i = .int .i64 (j : Int) ∧ done.map LAt.plain = (ls.take j).map LAt.plain ∧ wr.ownsRow w.heap.size 82 2 (.slice (some ⟨w.heap.size, 0, none⟩) len len) len (done.flatMap LAt.cells ++ zs.drop (j * 2)) ∧ Mem (w.heap.size + 1) wr (done.map LAt.row) ∧ Below w.heap.size w wr ∧ w.heap.size < wr.heap.size) (fun i _ => len - (intOf i).toNat)
 case atStart => exact ⟨0, [], by omega, rfl, by simp, by simpa using own1, Mem.nil _ _, b1, hgt1⟩
 case round =>
  obtain ⟨j, done, hj, rfl, hdn, hown, hdw, bw, hgt⟩ := hrel
  have hdl : done.length = j := by have := congrArg List.length hdn; simp at this; have := en.out; omega
  by_cases hlt : j < len
  ·obtain ⟨D, x, T, e0, hD⟩ := split1 ls j (by have := en.out; omega)
   have h5 := h.below bw
   have hxm : x ∈ ls := by rw [e0]; simp
   have h6 := h5
   rw [e0] at h6
   obtain ⟨g, off, rfl, c1, c2⟩ := h6.1.line
   obtain ⟨ax, cx, e1⟩ := HasRow.form (h5.2 x hxm)
   have HX := toLine_any (h5.2 x hxm) (hs.2 x hxm)
   rw [hD] at c1 c2
   rw [e1] at c2 HX
   have hstep := hid_in (show ∀ v', (done ++ [⟨x.key, v', x.ws⟩] : List LAt).map LAt.plain = (ls.take (j + 1)).map LAt.plain from by
    intro v'
    rw [List.map_append, hdn, e0, ← hD, take_front, take_one, List.map_append]; rfl)
   have hcell := hid_in (show ∀ v', (done.flatMap LAt.cells ++ [.string x.key, v']) ++ zs.drop (j * 2 + 2) = (done ++ [⟨x.key, v', x.ws⟩] : List LAt).flatMap LAt.cells ++ zs.drop ((j + 1) * 2) from by
    intro v'
    rw [List.flatMap_append, List.flatMap_singleton, show (j + 1) * 2 = j * 2 + 2 by omega]; rfl)
   have hsplit := hid_in (show done.flatMap LAt.cells ++ zs.drop (j * 2) = done.flatMap LAt.cells ++ (zs.drop (j * 2)).take 2 ++ zs.drop (j * 2 + 2) from by
    rw [List.append_assoc, ← List.drop_drop, List.take_append_drop])
   have hAl := hid_in (show (done.flatMap LAt.cells).length = j * 2 from by rw [rowF_len _ 2 LAt.len, hdl])
   have hBl := hid_in (show ((zs.drop (j * 2)).take 2).length = 2 from by simp; omega)
   have hT := fun v' W (hW : W.ownsRow w.heap.size 82 2 (.slice (some ⟨w.heap.size, 0, none⟩) len len) len (done.flatMap LAt.cells ++ zs.drop (j * 2))) => own_setCells [.string x.key, v'] (j * 2) W _ hW
   have hdw' := hid_in hdw
   have hown' := hid_in hown
   have hB0 : (0 : Int) ≤ (j : Int) := by omega
   have hB1 : (j : Int) < (len : Int) := by omega
   clear h h5 h6 hs hdn own1 b1 hmadeL hown hdw e0 e1 hD hxm
   go_wp2_with (go_at_call 220; refine HX.mono ?_)
   rintro e w2 ⟨v', rfl, o2, b2⟩
   have hown2 := own_below hown'.out b2
   obtain ⟨av, cv, rfl, _⟩ := own_form o2
   obtain ⟨u0, k1⟩ := Option.isSome_iff_exists.1 (row_there hown2 (j * 2) 2 (by omega) 0 (by omega)).1
   have k2 := (hown2.frozenAt (j * 2))
   have hs0 := (hown2.stored (j * 2) (.string x.key)).1
   obtain ⟨u1, k3⟩ := Option.isSome_iff_exists.1 (row_there hs0 (j * 2) 2 (by omega) 1 (by omega)).1
   have k4 := hs0.frozenAt (j * 2 + 1)
   rw [Nat.add_zero] at k1
   obtain ⟨ys, y1, y2, y3⟩ := hT (.slice av x.ws.length cv) w2 hown2
   have hy := y3 _ _ _ hsplit.out hAl.out hBl.out
   rw [hy, hcell.out] at y1
   have hdw2 := hid_in (show Mem (w.heap.size + 1) (w2.setCells w.heap.size (j * 2) [.string x.key, .slice av x.ws.length cv]) ((done ++ [⟨x.key, .slice av x.ws.length cv, x.ws⟩] : List LAt).map LAt.row) from by
    rw [List.map_append]
    exact ((hdw'.out.join (N := [LAt.row ⟨x.key, .slice av x.ws.length cv, x.ws⟩]) ⟨fun s hs => by rw [List.mem_singleton.1 hs]; exact o2, by simp⟩ b2 (by omega)).perm List.perm_append_comm).other y2 (by omega))
   have b3 := below_grownR (bw.trans (b2.mono bw.size)) y2
   have hgt3 : w.heap.size < (w2.setCells w.heap.size (j * 2) [.string x.key, .slice av x.ws.length cv]).heap.size := by have := b2.size; have := y2.size; omega
   have Y1 := hid_in y1
   have HST := hid_in (hstep.out (.slice av x.ws.length cv))
   clear hT y1 y2 y3 hy hsplit hcell hAl hBl hdw' hown' hown2 HX c1 c2 o2 hstep hs0
   go_wp2
   go_roundw
   case rel => exact ⟨j + 1, _, by omega, by go_num, HST.out, Y1.out, hdw2.out, b3, hgt3⟩
   case measure => simp [intOf]; omega
  ·obtain rfl : j = len := by omega
   have hls : ls.take j = ls := by rw [← en.out, List.take_length]
   rw [hls] at hdn
   have hz : zs.drop (j * 2) = [] := List.drop_eq_nil_of_le (by omega)
   rw [hz, List.append_nil] at hown
   have HO := hid_in (show LinesOwn w.heap.size wr (.slice (some ⟨w.heap.size, 0, none⟩) j j) done from Mem.low hdw (show wr.ownsRow w.heap.size 82 2 (.slice (some ⟨w.heap.size, 0, none⟩) j j) done.length (done.flatMap LAt.cells) by rw [hdl]; exact hown) rfl (by omega))
   have HD := hid_in hdn
   clear h hs hown hdw hdn own1
   go_wp2
   go_ret
   exact ⟨_, done, rfl, HD.out, HO.out, bw⟩
end Go.Proofs.YtpdahhnjhggocabGreatDoor
namespace Go.Proofs.YtpdahhnjhggocabGreatDoor
open Go.RowKit
set_option maxHeartbeats 2000000 in
set_option maxRecDepth 100000 in
theorem toBlock_any {x : BAt} {w : World} (h : BlockIn w x) (hs : LinesSmall x.ls) : Calls Tryz.prog 129 #[.agg #[.string x.kind, .string x.name, x.v]] w fun e w' => ∃ v ls', e = .returned (.agg #[.string x.kind, .string x.name, v]) ∧ ls'.map LAt.plain = x.ls.map LAt.plain ∧ LinesOwn w.heap.size w' v ls' ∧ Below w.heap.size w w' := by
 obtain ⟨ax, cx, e1⟩ := h.1.form
 unfold BlockIn at h
 rw [e1] at h ⊢
 have b0 : Below w.heap.size w (((w.alloc (.cells #[.string x.kind, .string x.name, .slice ax x.ls.length cx] 189)).alloc (.cells #[.string ⟨#[]⟩, .string ⟨#[]⟩, .slice none 0 0] 64)).alloc (.cells #[.string x.kind, .string x.name, .slice none 0 0] 64)) := (((Below.refl _ _).alloc (Nat.le_refl _) _).alloc (by simp) _).alloc (by simp; omega) _
 obtain ⟨hsz, -, hz1, hz2⟩ := alloc3 (w := w) (o1 := .cells #[.string x.kind, .string x.name, .slice ax x.ls.length cx] 189) (o2 := .cells #[.string ⟨#[]⟩, .string ⟨#[]⟩, .slice none 0 0] 64) (o3 := .cells #[.string x.kind, .string x.name, .slice none 0 0] 64)
 have HW := toLines_any (h.below b0) hs
 generalize x.ls.map LAt.plain = PL at *
 clear h e1 hs
 generalize x.ls.length = nx at *
 generalize x.kind = xk at *
 generalize x.name = xn at *
 go_enter Tryz.func129, Tryz.ntmps129
 go_wp2_with (go_at_call 161; refine HW.mono ?_)
 rintro e w2 ⟨v, ls', rfl, hpl, o2, b2⟩
 rw [hsz] at o2 b2
 have z1 := (b2.block (w.heap.size + 1) (by omega)).trans hz1
 have z2 := (b2.block (w.heap.size + 2) (by omega)).trans hz2
 have hw2 : w.heap.size + 3 ≤ w2.heap.size := by have := b2.size; rw [hsz] at this; exact this
 have b02 := b0.trans (b2.mono (by omega))
 have c0 := cell_of_block z2 0
 have c1 := cell_of_block z2 1
 have c2 := cell_of_block z2 2
 have f1 := frozen_of_block z2 2
 simp only [List.getElem?_toArray, List.getElem?_cons_zero, List.getElem?_cons_succ] at c0 c1 c2
 obtain ⟨av, cv, rfl, _⟩ := own_form o2.row
 have HPL := hid_in hpl
 clear hpl
 have hO2 := hid_in o2
 clear o2
 generalize ls'.length = nv at *
 have z1' : (w2.setCell ⟨w.heap.size + 2, 2, none⟩ (.slice av nv cv)).heap[w.heap.size + 1]? = some (.cells #[.string ⟨#[]⟩, .string ⟨#[]⟩, .slice none 0 0] 64 (0, 0)) := by rw [Below.heap_setCell _ _ _ _ (by simp)]; exact z1
 clear HW hz1 hz2 hsz
 go_wp2_with (with_reducible show wpList _ _ _ (Oper.mk _ (Op.store _ (Operand.tmp 2) _) _ _ _ _ :: _) _ _; refine wpList_store_row rfl 64 _ _ rfl (w.heap.size + 1) #[.string xk, .string xn, .slice av nv cv] ?_ ?_ 64 _ z1' ?_ ?_ ?_ ?_)
 all_goals (first | rfl | kernel_rfl | skip)
 have z5 : ((w2.setCell ⟨w.heap.size + 2, 2, none⟩ (.slice av nv cv)).setRow (w.heap.size + 1) #[.string xk, .string xn, .slice av nv cv]).heap[w.heap.size + 1]? = some (.cells #[.string xk, .string xn, .slice av nv cv] 64 (0, 0)) := setRow_heap _ _ _ _ _ _ z1'
 have o5 := ((hO2.out.setCell ⟨w.heap.size + 2, 2, none⟩ (by simp) (.slice av nv cv)).setRow (w.heap.size + 1) (by omega) #[.string xk, .string xn, .slice av nv cv]).mono (show w.heap.size ≤ w.heap.size + 3 by omega)
 have b5 : Below w.heap.size w ((w2.setCell ⟨w.heap.size + 2, 2, none⟩ (.slice av nv cv)).setRow (w.heap.size + 1) #[.string xk, .string xn, .slice av nv cv]) :=
  ⟨b02.os, b02.tape, b02.output, by rw [setRow_size]; simp; omega, fun k hk => by rw [setRow_other _ _ _ _ (by omega), Below.heap_setCell _ _ _ _ (by simp; omega)]; exact b02.block k hk⟩
 have y0 := cell_of_block z5 0
 have y1 := cell_of_block z5 1
 have y2 := cell_of_block z5 2
 simp only [List.getElem?_toArray, List.getElem?_cons_zero, List.getElem?_cons_succ] at y0 y1 y2
 rw [show w.heap.size + 1 + 1 = w.heap.size + 2 from rfl]
 generalize (w2.setCell ⟨w.heap.size + 2, 2, none⟩ (.slice av nv cv)).setRow (w.heap.size + 1) #[.string xk, .string xn, .slice av nv cv] = W at *
 exact bodyPost_ret (v := .agg #[.string xk, .string xn, .slice av nv cv]) (by simp [results, Tryz.results129, go_sem, y0, y1, y2]) rfl ⟨_, ls', rfl, HPL.out, o5, b5⟩
set_option maxHeartbeats 2000000 in
set_option maxRecDepth 100000 in
theorem toBlocks_any {v : Value} {ls : List BAt} {w : World} (h : BlocksIn w v ls) (hs : BlocksSmall ls) : Calls Tryz.prog 63 #[v] w fun e w' => ∃ v' ls', e = .returned v' ∧ ls'.map BAt.plain = ls.map BAt.plain ∧ BlocksOwn w.heap.size w' v' ls' ∧ Below w.heap.size w w' := by
 obtain ⟨ao, cap, rfl⟩ := h.1.form
 have hl := hs.1
 generalize hn : ls.length = len at *
 have en := hid_in hn
 clear hn
 obtain ⟨i0, hi, hz0, hz1, hz2⟩ := info_parts infoBlock
 go_enter Tryz.func63, Tryz.ntmps63
 go_wp2_with (with_reducible show wpList _ _ _ (Oper.mk _ (Op.makeSlice _ _ _) _ _ _ _ :: _) _ _; refine wpList_make_full w rfl _ _ _ rfl w.heap.size 64 i0 _ 3 Tryz.underlying22 hi hz0 hz1 .i64 .i64 (len : Int) (len : Int) len ?_ ?_ rfl rfl (by rw [hz2]; omega) (by unfold maxLen; omega) (Nat.le_refl _) ?_)
 ·rfl
 ·rfl
 intro w1 own1 gr1
 have b1 := below_madeR gr1
 have hgt1 := (own1.lt w.heap.size rfl).2
 obtain ⟨zs, own1, hmadeL⟩ : ∃ zs : List Value, w1.ownsRow w.heap.size 64 3 (.slice (some ⟨w.heap.size, 0, none⟩) len len) len zs ∧ zs.length = len * 3 := ⟨_, own1, own1.1⟩
 clear gr1
 go_wp2
 go_loopw [4] (fun i wr => ∃ (j : Nat) (done : List BAt), j ≤ len ∧ i = .int .i64 (j : Int) ∧ done.map BAt.plain = (ls.take j).map BAt.plain ∧ wr.ownsRow w.heap.size 64 3 (.slice (some ⟨w.heap.size, 0, none⟩) len len) len (done.flatMap BAt.cells ++ zs.drop (j * 3)) ∧ Mem (w.heap.size + 1) wr (done.flatMap BAt.rows) ∧ Below w.heap.size w wr ∧ w.heap.size < wr.heap.size) (fun i _ => len - (intOf i).toNat)
 case atStart => exact ⟨0, [], by omega, rfl, by simp, by simpa using own1, Mem.nil _ _, b1, hgt1⟩
 case round =>
  obtain ⟨j, done, hj, rfl, hdn, hown, hdw, bw, hgt⟩ := hrel
  have hdl : done.length = j := by have := congrArg List.length hdn; simp at this; have := en.out; omega
  by_cases hlt : j < len
  ·obtain ⟨D, x, T, e0, hD⟩ := split1 ls j (by have := en.out; omega)
   have h5 := h.below bw
   have hxm : x ∈ ls := by rw [e0]; simp
   have h6 := h5
   rw [e0] at h6
   obtain ⟨g, off, rfl, c1, c2, c3⟩ := h6.1.block
   obtain ⟨ax, cx, e1⟩ := (h5.2 x hxm).1.form
   have HX := toBlock_any (h5.2 x hxm) (hs.2 x hxm).2
   rw [hD] at c1 c2 c3
   rw [e1] at c3 HX
   have hstep := hid_in (show ∀ v' ls', ls'.map LAt.plain = x.ls.map LAt.plain → (done ++ [⟨x.kind, x.name, v', ls'⟩] : List BAt).map BAt.plain = (ls.take (j + 1)).map BAt.plain from by
    intro v' ls' hpl
    rw [List.map_append, hdn, e0, ← hD, take_front, take_one, List.map_append, List.map_singleton, List.map_singleton, show BAt.plain ⟨x.kind, x.name, v', ls'⟩ = x.plain from by unfold BAt.plain; rw [hpl]])
   have hcell := hid_in (show ∀ v' ls', (done.flatMap BAt.cells ++ [.string x.kind, .string x.name, v']) ++ zs.drop (j * 3 + 3) = (done ++ [⟨x.kind, x.name, v', ls'⟩] : List BAt).flatMap BAt.cells ++ zs.drop ((j + 1) * 3) from by
    intro v' ls'
    rw [List.flatMap_append, List.flatMap_singleton, show (j + 1) * 3 = j * 3 + 3 by omega]; rfl)
   have hsplit := hid_in (show done.flatMap BAt.cells ++ zs.drop (j * 3) = done.flatMap BAt.cells ++ (zs.drop (j * 3)).take 3 ++ zs.drop (j * 3 + 3) from by
    rw [List.append_assoc, ← List.drop_drop, List.take_append_drop])
   have hAl := hid_in (show (done.flatMap BAt.cells).length = j * 3 from by rw [rowF_len _ 3 BAt.len, hdl])
   have hBl := hid_in (show ((zs.drop (j * 3)).take 3).length = 3 from by simp; omega)
   have hT := fun v' W (hW : W.ownsRow w.heap.size 64 3 (.slice (some ⟨w.heap.size, 0, none⟩) len len) len (done.flatMap BAt.cells ++ zs.drop (j * 3))) => own_setCells [.string x.kind, .string x.name, v'] (j * 3) W _ hW
   have hdw' := hid_in hdw
   have hown' := hid_in hown
   have hB0 : (0 : Int) ≤ (j : Int) := by omega
   have hB1 : (j : Int) < (len : Int) := by omega
   clear h h5 h6 hs hdn own1 b1 hmadeL hown hdw e0 e1 hD hxm
   go_wp2_with (go_at_call 129; refine HX.mono ?_)
   rintro e w2 ⟨v', ls', rfl, hpl, o2, b2⟩
   have hown2 := own_below hown'.out b2
   obtain ⟨av, cv, rfl, _⟩ := own_form o2.row
   obtain ⟨u0, k1⟩ := Option.isSome_iff_exists.1 (row_there hown2 (j * 3) 3 (by omega) 0 (by omega)).1
   have k2 := (hown2.frozenAt (j * 3))
   have hs0 := (hown2.stored (j * 3) (.string x.kind)).1
   obtain ⟨u1, k3⟩ := Option.isSome_iff_exists.1 (row_there hs0 (j * 3) 3 (by omega) 1 (by omega)).1
   have k4 := hs0.frozenAt (j * 3 + 1)
   have hs1 := (hs0.stored (j * 3 + 1) (.string x.name)).1
   obtain ⟨u2, k5⟩ := Option.isSome_iff_exists.1 (row_there hs1 (j * 3) 3 (by omega) 2 (by omega)).1
   have k6 := hs1.frozenAt (j * 3 + 2)
   rw [Nat.add_zero] at k1
   obtain ⟨ys, y1, y2, y3⟩ := hT (.slice av ls'.length cv) w2 hown2
   have hy := y3 _ _ _ hsplit.out hAl.out hBl.out
   rw [hy, hcell.out _ ls'] at y1
   have hdw2 := hid_in (show Mem (w.heap.size + 1) (w2.setCells w.heap.size (j * 3) [.string x.kind, .string x.name, .slice av ls'.length cv]) ((done ++ [⟨x.kind, x.name, .slice av ls'.length cv, ls'⟩] : List BAt).flatMap BAt.rows) from by
    rw [List.flatMap_append, List.flatMap_singleton]
    exact ((hdw'.out.join (N := lrows (.slice av ls'.length cv) ls') o2 b2 (by omega)).perm List.perm_append_comm).other y2 (by omega))
   have b3 := below_grownR (bw.trans (b2.mono bw.size)) y2
   have hgt3 : w.heap.size < (w2.setCells w.heap.size (j * 3) [.string x.kind, .string x.name, .slice av ls'.length cv]).heap.size := by have := b2.size; have := y2.size; omega
   have Y1 := hid_in y1
   have HST := hid_in (hstep.out (.slice av ls'.length cv) ls' hpl)
   clear hT y1 y2 y3 hy hsplit hcell hAl hBl hdw' hown' hown2 HX c1 c2 c3 o2 hstep hs0 hs1 hpl
   go_wp2
   go_roundw
   case rel => exact ⟨j + 1, _, by omega, by go_num, HST.out, Y1.out, hdw2.out, b3, hgt3⟩
   case measure => simp [intOf]; omega
  ·obtain rfl : j = len := by omega
   have hls : ls.take j = ls := by rw [← en.out, List.take_length]
   rw [hls] at hdn
   have hz : zs.drop (j * 3) = [] := List.drop_eq_nil_of_le (by omega)
   rw [hz, List.append_nil] at hown
   have HO := hid_in (show BlocksOwn w.heap.size wr (.slice (some ⟨w.heap.size, 0, none⟩) j j) done from Mem.low hdw (show wr.ownsRow w.heap.size 64 3 (.slice (some ⟨w.heap.size, 0, none⟩) j j) done.length (done.flatMap BAt.cells) by rw [hdl]; exact hown) rfl (by omega))
   have HD := hid_in hdn
   clear h hs hown hdw hdn own1
   go_wp2
   go_ret
   exact ⟨_, done, rfl, HD.out, HO.out, bw⟩
end Go.Proofs.YtpdahhnjhggocabGreatDoor
namespace Go.Proofs.YtpdahhnjhggocabGreatDoor
open Go.RowKit
set_option maxHeartbeats 2000000 in
set_option maxRecDepth 100000 in
theorem toSheet_any {v : Value} {bs : List BAt} {w : World} (h : BlocksIn w v bs) (hs : BlocksSmall bs) : Calls Tryz.prog 20 #[.agg #[v]] w fun e w' => ∃ v' bs', e = .returned (.agg #[v']) ∧ bs'.map BAt.plain = bs.map BAt.plain ∧ BlocksOwn w.heap.size w' v' bs' ∧ Below w.heap.size w w' := by
 obtain ⟨ax, cx, rfl⟩ := h.1.form
 have b0 : Below w.heap.size w (((w.alloc (.cells #[.slice ax bs.length cx] 35)).alloc (.cells #[.slice none 0 0] 24)).alloc (.cells #[.slice none 0 0] 24)) := (((Below.refl _ _).alloc (Nat.le_refl _) _).alloc (by simp) _).alloc (by simp; omega) _
 obtain ⟨hsz, -, hz1, hz2⟩ := alloc3 (w := w) (o1 := .cells #[.slice ax bs.length cx] 35) (o2 := .cells #[.slice none 0 0] 24) (o3 := .cells #[.slice none 0 0] 24)
 have HW := toBlocks_any (h.below b0) hs
 generalize bs.map BAt.plain = PL at *
 clear h hs
 generalize bs.length = nx at *
 go_enter Tryz.func20, Tryz.ntmps20
 go_wp2_with (go_at_call 63; refine HW.mono ?_)
 rintro e w2 ⟨v, bs', rfl, hpl, o2, b2⟩
 rw [hsz] at o2 b2
 have z1 := (b2.block (w.heap.size + 1) (by omega)).trans hz1
 have z2 := (b2.block (w.heap.size + 2) (by omega)).trans hz2
 have hw2 : w.heap.size + 3 ≤ w2.heap.size := by have := b2.size; rw [hsz] at this; exact this
 have b02 := b0.trans (b2.mono (by omega))
 have c0 := cell_of_block z2 0
 have f1 := frozen_of_block z2 0
 simp only [List.getElem?_toArray, List.getElem?_cons_zero] at c0
 obtain ⟨av, cv, rfl, _⟩ := own_form o2.row
 have HPL := hid_in hpl
 clear hpl
 have hO2 := hid_in o2
 clear o2
 generalize bs'.length = nv at *
 have z1' : (w2.setCell ⟨w.heap.size + 2, 0, none⟩ (.slice av nv cv)).heap[w.heap.size + 1]? = some (.cells #[.slice none 0 0] 24 (0, 0)) := by rw [Below.heap_setCell _ _ _ _ (by simp)]; exact z1
 clear HW hz1 hz2 hsz
 go_wp2_with (with_reducible show wpList _ _ _ (Oper.mk _ (Op.store _ (Operand.tmp 2) _) _ _ _ _ :: _) _ _; refine wpList_store_row rfl 24 _ _ rfl (w.heap.size + 1) #[.slice av nv cv] ?_ ?_ 24 _ z1' ?_ ?_ ?_ ?_)
 all_goals (first | rfl | kernel_rfl | skip)
 have z5 : ((w2.setCell ⟨w.heap.size + 2, 0, none⟩ (.slice av nv cv)).setRow (w.heap.size + 1) #[.slice av nv cv]).heap[w.heap.size + 1]? = some (.cells #[.slice av nv cv] 24 (0, 0)) := setRow_heap _ _ _ _ _ _ z1'
 have o5 := ((hO2.out.setCell ⟨w.heap.size + 2, 0, none⟩ (by simp) (.slice av nv cv)).setRow (w.heap.size + 1) (by omega) #[.slice av nv cv]).mono (show w.heap.size ≤ w.heap.size + 3 by omega)
 have b5 : Below w.heap.size w ((w2.setCell ⟨w.heap.size + 2, 0, none⟩ (.slice av nv cv)).setRow (w.heap.size + 1) #[.slice av nv cv]) :=
  ⟨b02.os, b02.tape, b02.output, by rw [setRow_size]; simp; omega, fun k hk => by rw [setRow_other _ _ _ _ (by omega), Below.heap_setCell _ _ _ _ (by simp; omega)]; exact b02.block k hk⟩
 have y0 := cell_of_block z5 0
 simp only [List.getElem?_toArray, List.getElem?_cons_zero] at y0
 rw [show w.heap.size + 1 + 1 = w.heap.size + 2 from rfl]
 generalize (w2.setCell ⟨w.heap.size + 2, 0, none⟩ (.slice av nv cv)).setRow (w.heap.size + 1) #[.slice av nv cv] = W at *
 exact bodyPost_ret (v := .agg #[.slice av nv cv]) (by simp [results, Tryz.results20, go_sem, y0]) rfl ⟨_, bs', rfl, HPL.out, o5, b5⟩
set_option maxHeartbeats 1000000 in
set_option maxRecDepth 100000 in
theorem eqWords_any {n m ca cb : Nat} {ao bo : Option Addr} {xs : List (List UInt8)} {w : World} (h1 : HasRow w (.slice ao n ca) xs.length 1 (strs xs)) (h2 : HasRow w (.slice bo m cb) xs.length 1 (strs xs)) (hn : n ≤ 1048576) : Calls Tryz.prog 150 #[.slice ao n ca, .slice bo m cb] w fun e w' => e = .returned (.bool true) ∧ Below w.heap.size w w' := by
 have en := hid_in (show n = xs.length by obtain ⟨_, _, _, e, _⟩ := h1; cases e; rfl)
 have em : m = n := by rw [en.out]; obtain ⟨_, _, _, e, _⟩ := h2; cases e; rfl
 subst em
 have hn0 : ((m : Int) != (m : Int)) = false := by simp
 go_enter Tryz.func150, Tryz.ntmps150
 go_wp2
 go_loopw [5] (fun i wr => ∃ j q : Nat, j ≤ m ∧ i = .int .i64 (j : Int) ∧ wr = w.drewN q) (fun i _ => m - (intOf i).toNat)
 case atStart => exact ⟨0, 0, by omega, rfl, rfl⟩
 case round =>
  obtain ⟨j, q, hj, rfl, rfl⟩ := hrel
  by_cases hlt : j < m
  ·have lk : j < xs.length := by have := en.out; omega
   obtain ⟨b, off, rfl, c1⟩ := h1.word j lk
   obtain ⟨b2, off2, rfl, c2⟩ := h2.word j lk
   generalize (⟨xs[j].toArray⟩ : ByteArray) = x at *
   clear h1 h2
   go_wp2
   go_quiet (fail)
   go_wp2
   go_roundw
   case rel => exact ⟨j + 1, _, by omega, by go_num, by first | rfl | exact World.drewN_drewN _ _ _⟩
   case measure => simp [intOf]; omega
  ·obtain rfl : j = m := by omega
   clear h1 h2
   go_wp2
   go_ret
   exact ⟨rfl, below_drewN (Below.refl _ _) q⟩
set_option maxHeartbeats 1000000 in
set_option maxRecDepth 100000 in
theorem eqLine_any {x y : LAt} {w : World} (hx : LineIn w x) (hy : LineIn w y) (he : x.plain = y.plain) (hn : x.ws.length ≤ 1048576) : Calls Tryz.prog 80 #[.agg #[.string x.key, x.v], .agg #[.string y.key, y.v]] w fun e w' => e = .returned (.bool true) ∧ Below w.heap.size w w' := by
 obtain ⟨xk, xv, xw⟩ := x
 obtain ⟨yk, yv, yw⟩ := y
 simp only [LAt.plain, PLine.mk.injEq] at he
 obtain ⟨rfl, rfl⟩ := he
 unfold LineIn at hx hy
 simp only at hx hy hn ⊢
 obtain ⟨ax, cx, rfl⟩ := hx.form
 obtain ⟨ay, cy, rfl⟩ := hy.form
 have G := ((Below.refl w.heap.size w).alloc (Nat.le_refl _) (.cells #[.string xk, .slice ax xw.length cx] 82)).alloc (by simp) (.cells #[.string xk, .slice ay xw.length cy] 82)
 have hc := two_boxes (w := w) (cs := #[.string xk, .slice ax xw.length cx]) (ds := #[.string xk, .slice ay xw.length cy]) (T := 82) (U := 82)
 have c0 := hc.1 0
 have c1 := hc.1 1
 have d0 := hc.2 0
 have d1 := hc.2 1
 simp only [List.getElem?_toArray, List.getElem?_cons_zero, List.getElem?_cons_succ] at c0 c1 d0 d1
 have HE := eqWords_any (hx.below G) (hy.below G) hn
 clear hc hx hy
 generalize xw.length = n at *
 go_enter Tryz.func80, Tryz.ntmps80
 go_wp2_with (go_at_call 150; refine HE.mono ?_; rintro e w2 ⟨rfl, b2⟩)
 go_ret
 exact ⟨rfl, G.trans (b2.mono G.size)⟩
theorem same_at {α β : Type} {f : α → β} {xs ys : List α} (h : xs.map f = ys.map f) (j : Nat) (hj : j < xs.length) : ∃ D x T D' y T', xs = D ++ x :: T ∧ ys = D' ++ y :: T' ∧ D.length = j ∧ D'.length = j ∧ f x = f y := by
 have hl : xs.length = ys.length := by have := congrArg List.length h; simpa using this
 obtain ⟨D, x, T, rfl, hD⟩ := split1 xs j hj
 obtain ⟨D', y, T', rfl, hD'⟩ := split1 ys j (by omega)
 refine ⟨D, x, T, D', y, T', rfl, rfl, hD, hD', ?_⟩
 rw [List.map_append, List.map_append, List.map_cons, List.map_cons] at h
 have := (List.append_inj h (by simp; omega)).2
 simp only [List.cons.injEq] at this
 exact this.1
set_option maxHeartbeats 2000000 in
set_option maxRecDepth 100000 in
theorem eqLines_any {v u : Value} {xs ys : List LAt} {w : World} (h1 : LinesIn w v xs) (h2 : LinesIn w u ys) (he : xs.map LAt.plain = ys.map LAt.plain) (hs : LinesSmall xs) : Calls Tryz.prog 28 #[v, u] w fun e w' => e = .returned (.bool true) ∧ Below w.heap.size w w' := by
 obtain ⟨ao, ca, rfl⟩ := h1.1.form
 obtain ⟨bo, cb, rfl⟩ := h2.1.form
 have hl : ys.length = xs.length := by have := congrArg List.length he; simpa using this.symm
 rw [hl]
 rw [hl] at h2
 have hn := hs.1
 generalize hN : xs.length = n at *
 have en := hid_in hN
 clear hN hl
 have hn0 : ((n : Int) != (n : Int)) = false := by simp
 go_enter Tryz.func28, Tryz.ntmps28
 go_wp2
 go_loopw [5] (fun i wr => ∃ j : Nat, j ≤ n ∧ i = .int .i64 (j : Int) ∧ Below w.heap.size w wr) (fun i _ => n - (intOf i).toNat)
 case atStart => exact ⟨0, by omega, rfl, Below.refl _ _⟩
 case round =>
  obtain ⟨j, hj, rfl, bw⟩ := hrel
  by_cases hlt : j < n
  ·obtain ⟨D, x, T, D', y, T', e1, e2, hD, hD', hxy⟩ := same_at he j (by have := en.out; omega)
   have h5 := h1.below bw
   have h6 := h2.below bw
   have hxm : x ∈ xs := by rw [e1]; simp
   have hym : y ∈ ys := by rw [e2]; simp
   have h7 := h5
   have h8 := h6
   rw [e1] at h7
   rw [e2] at h8
   obtain ⟨g, off, rfl, c1, c2⟩ := h7.1.line
   obtain ⟨g', off', rfl, d1, d2⟩ := h8.1.line
   rw [hD] at c1 c2
   rw [hD'] at d1 d2
   have HX := fun p : Gr wr => eqLine_any ((h5.2 x hxm).below p.h) ((h6.2 y hym).below p.h) hxy (hs.2 x hxm).1
   have k1 := fun p : Gr wr => gr_cell c1 p
   have k2 := fun p : Gr wr => gr_cell c2 p
   have k3 := fun p : Gr wr => gr_cell d1 p
   have k4 := fun p : Gr wr => gr_cell d2 p
   obtain ⟨ax, cx, ex⟩ := HasRow.form (h5.2 x hxm)
   obtain ⟨ay, cy, ey⟩ := HasRow.form (h6.2 y hym)
   rw [ex] at k2
   rw [ey] at k4
   simp only [ex, ey] at HX
   have i0 : (0 : Int) ≤ (j : Int) := by omega
   have i1 : (j : Int) < (n : Int) := by omega
   clear h1 h2 h5 h6 h7 h8 hs he e1 e2 hxy c1 c2 d1 d2 hxm hym ex ey
   generalize x.ws.length = nx at *
   generalize y.ws.length = ny at *
   generalize x.key = xk at *
   generalize y.key = yk at *
   go_wp2
   refine wp_region_gr (by kernel_rfl) (by kernel_rfl) ?_
   iterate 8 quiet_step (fail)
   quiet_step ((go_at_call 80; refine gr_of (HX _)))
   quiet_step (fail)
   refine wpQuiet_nil ?_
   rintro _ ⟨⟨wq, bq⟩, rfl⟩
   go_wp2
   go_roundw
   case rel => exact ⟨j + 1, by omega, by go_num, bw.trans (bq.mono bw.size)⟩
   case measure => simp [intOf]; omega
  ·obtain rfl : j = n := by omega
   clear h1 h2 hs he
   go_wp2
   go_ret
   exact ⟨rfl, bw⟩
set_option maxHeartbeats 1000000 in
set_option maxRecDepth 100000 in
theorem eqBlock_any {x y : BAt} {w : World} (hx : BlockIn w x) (hy : BlockIn w y) (he : x.plain = y.plain) (hs : LinesSmall x.ls) : Calls Tryz.prog 125 #[.agg #[.string x.kind, .string x.name, x.v], .agg #[.string y.kind, .string y.name, y.v]] w fun e w' => e = .returned (.bool true) ∧ Below w.heap.size w w' := by
 obtain ⟨xk, xn, xv, xl⟩ := x
 obtain ⟨yk, yn, yv, yl⟩ := y
 simp only [BAt.plain, PBlock.mk.injEq] at he
 obtain ⟨rfl, rfl, hl⟩ := he
 unfold BlockIn at hx hy
 simp only at hx hy hs ⊢
 obtain ⟨ax, cx, rfl⟩ := hx.1.form
 obtain ⟨ay, cy, rfl⟩ := hy.1.form
 have G := ((Below.refl w.heap.size w).alloc (Nat.le_refl _) (.cells #[.string xk, .string xn, .slice ax xl.length cx] 64)).alloc (by simp) (.cells #[.string xk, .string xn, .slice ay yl.length cy] 64)
 have hc := two_boxes (w := w) (cs := #[.string xk, .string xn, .slice ax xl.length cx]) (ds := #[.string xk, .string xn, .slice ay yl.length cy]) (T := 64) (U := 64)
 have c0 := hc.1 0
 have c1 := hc.1 1
 have c2 := hc.1 2
 have d0 := hc.2 0
 have d1 := hc.2 1
 have d2 := hc.2 2
 simp only [List.getElem?_toArray, List.getElem?_cons_zero, List.getElem?_cons_succ] at c0 c1 c2 d0 d1 d2
 have HE := eqLines_any (hx.below G) (hy.below G) hl hs
 clear hc hx hy hl hs
 generalize xl.length = n at *
 generalize yl.length = m at *
 go_enter Tryz.func125, Tryz.ntmps125
 go_wp2_with (go_at_call 28; refine HE.mono ?_; rintro e w2 ⟨rfl, b2⟩)
 go_ret
 exact ⟨rfl, G.trans (b2.mono G.size)⟩
set_option maxHeartbeats 2000000 in
set_option maxRecDepth 100000 in
theorem eqBlocks_any {v u : Value} {xs ys : List BAt} {w : World} (h1 : BlocksIn w v xs) (h2 : BlocksIn w u ys) (he : xs.map BAt.plain = ys.map BAt.plain) (hs : xs.length ≤ 1048576 ∧ ∀ x ∈ xs, LinesSmall x.ls) : Calls Tryz.prog 57 #[v, u] w fun e w' => e = .returned (.bool true) ∧ Below w.heap.size w w' := by
 obtain ⟨ao, ca, rfl⟩ := h1.1.form
 obtain ⟨bo, cb, rfl⟩ := h2.1.form
 have hl : ys.length = xs.length := by have := congrArg List.length he; simpa using this.symm
 rw [hl]
 rw [hl] at h2
 have hn := hs.1
 generalize hN : xs.length = n at *
 have en := hid_in hN
 clear hN hl
 have hn0 : ((n : Int) != (n : Int)) = false := by simp
 go_enter Tryz.func57, Tryz.ntmps57
 go_wp2
 go_loopw [5] (fun i wr => ∃ j : Nat, j ≤ n ∧ i = .int .i64 (j : Int) ∧ Below w.heap.size w wr) (fun i _ => n - (intOf i).toNat)
 case atStart => exact ⟨0, by omega, rfl, Below.refl _ _⟩
 case round =>
  obtain ⟨j, hj, rfl, bw⟩ := hrel
  by_cases hlt : j < n
  ·obtain ⟨D, x, T, D', y, T', e1, e2, hD, hD', hxy⟩ := same_at he j (by have := en.out; omega)
   have h5 := h1.below bw
   have h6 := h2.below bw
   have hxm : x ∈ xs := by rw [e1]; simp
   have hym : y ∈ ys := by rw [e2]; simp
   have h7 := h5
   have h8 := h6
   rw [e1] at h7
   rw [e2] at h8
   obtain ⟨g, off, rfl, c1, c2, c3⟩ := h7.1.block
   obtain ⟨g', off', rfl, d1, d2, d3⟩ := h8.1.block
   rw [hD] at c1 c2 c3
   rw [hD'] at d1 d2 d3
   have HX := fun p : Gr wr => eqBlock_any ((h5.2 x hxm).below p.h) ((h6.2 y hym).below p.h) hxy (hs.2 x hxm)
   have k1 := fun p : Gr wr => gr_cell c1 p
   have k2 := fun p : Gr wr => gr_cell c2 p
   have k3 := fun p : Gr wr => gr_cell c3 p
   have k4 := fun p : Gr wr => gr_cell d1 p
   have k5 := fun p : Gr wr => gr_cell d2 p
   have k6 := fun p : Gr wr => gr_cell d3 p
   obtain ⟨ax, cx, ex⟩ := (h5.2 x hxm).1.form
   obtain ⟨ay, cy, ey⟩ := (h6.2 y hym).1.form
   rw [ex] at k3
   rw [ey] at k6
   simp only [ex, ey] at HX
   have i0 : (0 : Int) ≤ (j : Int) := by omega
   have i1 : (j : Int) < (n : Int) := by omega
   clear h1 h2 h5 h6 h7 h8 hs he e1 e2 hxy c1 c2 c3 d1 d2 d3 hxm hym ex ey
   generalize x.ls.length = nx at *
   generalize y.ls.length = ny at *
   generalize x.kind = xk at *
   generalize y.kind = yk at *
   generalize x.name = xn at *
   generalize y.name = yn at *
   go_wp2
   refine wp_region_gr (by kernel_rfl) (by kernel_rfl) ?_
   iterate 8 quiet_step (fail)
   quiet_step ((go_at_call 125; refine gr_of (HX _)))
   quiet_step (fail)
   refine wpQuiet_nil ?_
   rintro _ ⟨⟨wq, bq⟩, rfl⟩
   go_wp2
   go_roundw
   case rel => exact ⟨j + 1, by omega, by go_num, bw.trans (bq.mono bw.size)⟩
   case measure => simp [intOf]; omega
  ·obtain rfl : j = n := by omega
   clear h1 h2 hs he
   go_wp2
   go_ret
   exact ⟨rfl, bw⟩
set_option maxHeartbeats 1000000 in
set_option maxRecDepth 100000 in
theorem eqSheet_any {v u : Value} {xs ys : List BAt} {w : World} (h1 : BlocksIn w v xs) (h2 : BlocksIn w u ys) (he : xs.map BAt.plain = ys.map BAt.plain) (hs : xs.length ≤ 1048576 ∧ ∀ x ∈ xs, LinesSmall x.ls) : Calls Tryz.prog 14 #[.agg #[v], .agg #[u]] w fun e w' => e = .returned (.bool true) ∧ Below w.heap.size w w' := by
 obtain ⟨ax, cx, rfl⟩ := h1.1.form
 obtain ⟨ay, cy, rfl⟩ := h2.1.form
 have G := ((Below.refl w.heap.size w).alloc (Nat.le_refl _) (.cells #[.slice ax xs.length cx] 24)).alloc (by simp) (.cells #[.slice ay ys.length cy] 24)
 have hc := two_boxes (w := w) (cs := #[.slice ax xs.length cx]) (ds := #[.slice ay ys.length cy]) (T := 24) (U := 24)
 have c0 := hc.1 0
 have d0 := hc.2 0
 simp only [List.getElem?_toArray, List.getElem?_cons_zero] at c0 d0
 have HE := eqBlocks_any (h1.below G) (h2.below G) he hs
 clear hc h1 h2 he hs
 generalize xs.length = n at *
 generalize ys.length = m at *
 go_enter Tryz.func14, Tryz.ntmps14
 go_wp2_with (go_at_call 57; refine HE.mono ?_; rintro e w2 ⟨rfl, b2⟩)
 go_ret
 exact ⟨rfl, G.trans (b2.mono G.size)⟩
end Go.Proofs.YtpdahhnjhggocabGreatDoor
namespace Go.Proofs.YtpdahhnjhggocabGreatDoor
open Go.RowKit
def markLn (k : Nat) (r : LAt) : LAt := { r with key := ⟨(markL k).toArray⟩, ws := marks (k + 1) r.ws.length }
def nextL (k : Nat) (r : LAt) : Nat := k + 1 + r.ws.length
def markLs : Nat → List LAt → List LAt
 | _, [] => []
 | k, r :: L => markLn k r :: markLs (nextL k r) L
def endL : Nat → List LAt → Nat
 | k, [] => k
 | k, r :: L => endL (nextL k r) L
theorem endL_le : ∀ (L : List LAt) (k : Nat), k ≤ endL k L
 | [], k => Nat.le_refl _
 | r :: L, k => Nat.le_trans (by unfold nextL; omega) (endL_le L (nextL k r))
theorem markLs_length : ∀ (L : List LAt) (k : Nat), (markLs k L).length = L.length
 | [], k => rfl
 | r :: L, k => by simp [markLs, markLs_length L]
theorem endL_small : ∀ (L : List LAt) (k : Nat), (∀ r ∈ L, r.ws.length ≤ 1048576) → endL k L ≤ k + 1048577 * L.length
 | [], k, _ => by simp [endL]
 | r :: L, k, h => by
  have h1 := h r (by simp)
  have h2 := endL_small L (nextL k r) (fun x hx => h x (by simp [hx]))
  simp only [endL, List.length_cons]
  unfold nextL at h2 ⊢
  omega
set_option maxHeartbeats 400000 in
theorem markLines_zero (ao : Option Addr) (cap k : Nat) (w : World) : Calls Tryz.prog 29 #[.slice ao 0 cap, .int .i64 (k : Int)] w fun e w' => e = .returned (.int .i64 (k : Int)) ∧ w' = w := by
 go_enter Tryz.func29, Tryz.ntmps29
 go_wp2
 refine wp_loop_rounds 1 ?_
 rw [rounds_succ]
 go_wp2
 go_ret
 exact ⟨rfl, rfl⟩
set_option maxHeartbeats 400000 in
theorem heldLines_zero (ao : Option Addr) (cap k : Nat) (w : World) : Calls Tryz.prog 30 #[.slice ao 0 cap, .int .i64 (k : Int)] w fun e w' => e = .returned (.int .i64 (k : Int)) ∧ w' = w := by
 go_enter Tryz.func30, Tryz.ntmps30
 go_wp2
 refine wp_loop_rounds 1 ?_
 rw [rounds_succ]
 go_wp2
 go_ret
 exact ⟨rfl, rfl⟩
set_option maxHeartbeats 1000000 in
set_option maxRecDepth 100000 in
theorem markLines_any {B g n cap k : Nat} {L : List LAt} {rest : List MRow} {w : World} (hB : B ≤ w.heap.size) (h : LM B w (.slice (some ⟨g, 0, none⟩) n cap) L rest) (hn : L.length = n) (hn2 : n ≤ 1048576) (h1 : 1 ≤ k) (h2 : endL k L ≤ 4611686018427387904) :
  Calls Tryz.prog 29 #[.slice (some ⟨g, 0, none⟩) n cap, .int .i64 (k : Int)] w fun e w' => e = .returned (.int .i64 (endL k L : Int)) ∧ LM B w' (.slice (some ⟨g, 0, none⟩) n cap) (markLs k L) rest ∧ Below B w w' := by
 obtain ⟨E, hE⟩ : ∃ E, endL k L = E := ⟨_, rfl⟩
 obtain ⟨F, hF⟩ : ∃ F, markLs k L = F := ⟨_, rfl⟩
 have HE : Hid (endL k L = E) := hE
 have HF : Hid (markLs k L = F) := hF
 rw [hE] at h2
 rw [hE, hF]
 clear hE hF
 go_enter Tryz.func29, Tryz.ntmps29
 go_wp2
 go_loopw [1, 5] (fun q i wr => ∃ (kk : Nat) (D T : List LAt), i = .int .i64 (D.length : Int) ∧ q = .int .i64 (kk : Int) ∧ 1 ≤ kk ∧ D.length + T.length = n ∧ LM B wr (.slice (some ⟨g, 0, none⟩) n cap) (D ++ T) rest ∧ Below B w wr ∧ Hid (endL kk T = E) ∧ Hid (D ++ markLs kk T = F)) (fun _ i _ => n - (intOf i).toNat)
 case atStart => exact ⟨k, [], L, rfl, rfl, h1, by simpa using hn, h, Below.refl _ _, HE, HF⟩
 case round =>
  obtain ⟨kk, D, T, rfl, rfl, hk1, hDT, hm, hbw, hE, hF⟩ := hrel
  cases T with
  | nil =>
   have e1 := hE.out
   have e2 := hF.out
   simp only [endL, markLs, List.append_nil] at e1 e2 hm
   subst e1 e2
   simp only [List.length_nil, Nat.add_zero] at hDT
   clear hE hF HE HF h
   have hlt : ¬ ((D.length : Int) < (n : Int)) := by omega
   go_wp2
   go_ret
   exact ⟨rfl, hm, hbw⟩
  | cons r T =>
   have hE' : Hid (endL (nextL kk r) T = E) := hE.out
   have hF' : Hid (D ++ markLn kk r :: markLs (nextL kk r) T = F) := hF.out
   have hkE : nextL kk r ≤ E := by have := endL_le T (nextL kk r); rw [hE'.out] at this; exact this
   clear hE hF HE HF h
   simp only [List.length_cons] at hDT
   unfold nextL at hkE
   have HM := fun W => markText_any kk W hk1 (by omega)
   have hlt : ((D.length : Int) < (n : Int)) := by omega
   go_wp2_with (go_at_call 81; refine (HM _).mono ?_)
   rintro e w1 ⟨rfl, b1⟩
   have m1 := hm.below b1
   have hnn : (D ++ r :: T).length = n := by simp; omega
   have c0 := m1.cell 0 (by decide)
   have c1 := m1.cell 1 (by decide)
   have f0 := (m1.size hnn).frozenAt (D.length * 2)
   have m2 := m1.set hnn 0 (.string ⟨(markL kk).toArray⟩) { r with key := ⟨(markL kk).toArray⟩ } (by decide) rfl rfl
   have d1 := m2.cell 1 (by decide)
   simp only [LAt.cells, List.getElem?_cons_zero, List.getElem?_cons_succ, Nat.add_zero] at c0 c1 d1 m2
   have o2 : World.ownsRow _ B 9 1 r.v r.ws.length (strs r.ws) := m2.words
   have B2 := (hbw.trans (b1.mono (Nat.le_trans hB hbw.size))).setCell (p := ⟨g, D.length * 2, none⟩) hm.own_lt (.string ⟨(markL kk).toArray⟩)
   have HS := markStrings_own (k := kk + 1) o2 (by omega) (by omega)
   rw [show ((kk + 1 : Nat) : Int) = (kk : Int) + 1 from by omega] at HS
   clear HM hm b1 m1
   go_wp2_with (go_at_call 82; refine HS.mono ?_)
   rintro e w5 ⟨rfl, o5, g5⟩
   have m5 := m2.turn (marks (kk + 1) r.ws.length) (marks_length _ _) o5 g5
   have B5 := B2.grown g5 (Nat.le_trans hB B2.size) (fun x hx => (o2.lt x hx).1)
   clear m2 o2 o5 g5 HS c0 c1 d1 f0
   go_wp2
   go_roundw
   case rel =>
    refine ⟨nextL kk r, D ++ [markLn kk r], T, by simp, by unfold nextL; go_num, by unfold nextL; omega, by simp; omega, ?_, B5, hE', by rw [List.append_assoc]; exact hF'⟩
    rw [List.append_assoc]; exact m5
   case measure => simp [intOf]; omega
set_option maxHeartbeats 1000000 in
set_option maxRecDepth 100000 in
theorem heldLines_any {B g n cap k : Nat} {L : List LAt} {w : World} (h : LinesOwn B w (.slice (some ⟨g, 0, none⟩) n cap) (markLs k L)) (hn : L.length = n) (hn2 : n ≤ 1048576) (h1 : 1 ≤ k) (h2 : endL k L ≤ 4611686018427387904) :
  Calls Tryz.prog 30 #[.slice (some ⟨g, 0, none⟩) n cap, .int .i64 (k : Int)] w fun e w' => e = .returned (.int .i64 (endL k L : Int)) ∧ Below w.heap.size w w' := by
 obtain ⟨E, hE⟩ : ∃ E, endL k L = E := ⟨_, rfl⟩
 obtain ⟨F, hF⟩ : ∃ F, markLs k L = F := ⟨_, rfl⟩
 have HE : Hid (endL k L = E) := hE
 have HF : Hid (markLs k L = F) := hF
 rw [hE] at h2
 rw [hF] at h
 rw [hE]
 clear hE hF
 go_enter Tryz.func30, Tryz.ntmps30
 go_wp2
 go_loopw [1, 5] (fun q i wr => ∃ (kk : Nat) (D T : List LAt), i = .int .i64 (D.length : Int) ∧ q = .int .i64 (kk : Int) ∧ 1 ≤ kk ∧ D.length + T.length = n ∧ Below w.heap.size w wr ∧ Hid (endL kk T = E) ∧ Hid (D ++ markLs kk T = F)) (fun _ i _ => n - (intOf i).toNat)
 case atStart => exact ⟨k, [], L, rfl, rfl, h1, by simpa using hn, Below.refl _ _, HE, HF⟩
 case round =>
  obtain ⟨kk, D, T, rfl, rfl, hk1, hDT, hbw, hE, hF⟩ := hrel
  cases T with
  | nil =>
   have e1 := hE.out
   simp only [endL] at e1
   subst e1
   simp only [List.length_nil, Nat.add_zero] at hDT
   clear hE hF HE HF h
   have hlt : ¬ ((D.length : Int) < (n : Int)) := by omega
   go_wp2
   go_ret
   exact ⟨rfl, hbw⟩
  | cons r T =>
   have hE' : Hid (endL (nextL kk r) T = E) := hE.out
   have hF' : Hid (D ++ markLn kk r :: markLs (nextL kk r) T = F) := hF.out
   have hkE : nextL kk r ≤ E := by have := endL_le T (nextL kk r); rw [hE'.out] at this; exact this
   have m0 : LM B wr (.slice (some ⟨g, 0, none⟩) n cap) (D ++ markLn kk r :: markLs (nextL kk r) T) [] := by rw [hF'.out]; exact h.lm.below hbw
   clear hE hF HE HF h
   simp only [List.length_cons] at hDT
   unfold nextL at hkE
   have HM := fun W => markText_any kk W hk1 (by omega)
   have hlt : ((D.length : Int) < (n : Int)) := by omega
   have c0 := m0.cell 0 (by decide)
   simp only [LAt.cells, markLn, List.getElem?_cons_zero, Nat.add_zero] at c0
   have lg := World.block_lt_of_cell? wr _ c0
   generalize (⟨(markL kk).toArray⟩ : ByteArray) = M at HM c0
   have hMM : (M.toList != M.toList) = false := by simp
   go_wp2
   go_region_held3 (fun W => W.cell? ⟨g, D.length * 2, none⟩ = some (.string M)) (first | go_keep | (exact (b1.cell lg).trans c0))
    (first | (go_at_call 81; refine (HM _).mono ?_; rintro e w1 ⟨rfl, b1⟩))
   all_goals
    have m1 := m0.below ((Below.refl wr.heap.size wr).drew.trans b1)
    have B1 := hbw.trans (((Below.refl wr.heap.size wr).drew.trans b1).mono hbw.size)
    have c1 := m1.cell 1 (by decide)
    have o2 : w1.ownsRow B 9 1 r.v (marks (kk + 1) r.ws.length).length (strs (marks (kk + 1) r.ws.length)) := m1.words
    rw [marks_length] at o2
    simp only [LAt.cells, markLn, List.getElem?_cons_zero, List.getElem?_cons_succ] at c1
    have HS := heldStrings_own (k := kk + 1) o2 (by omega) (by omega)
    rw [show ((kk + 1 : Nat) : Int) = (kk : Int) + 1 from by omega] at HS
    have hpos2 : ¬ ((kk : Int) + 1 + (r.ws.length : Int) < 0) := by omega
    clear m0 m1 b1 HM c0 o2
    go_wp2_with (go_at_call 83; refine HS.mono ?_)
    first | rintro e w2 rfl b2 | rintro e w2 ⟨rfl, b2⟩
    have B2 := B1.trans (b2.mono B1.size)
    clear HS c1
    go_wp2
    go_roundw
    case rel => exact ⟨nextL kk r, D ++ [markLn kk r], T, by simp, by unfold nextL; go_num, by unfold nextL; omega, by simp; omega, B2, hE', by rw [List.append_assoc]; exact hF'⟩
    case measure => simp [intOf]; omega
theorem LM.form {B : Nat} {w : World} {v : Value} {C : List LAt} {rest : List MRow} (h : LM B w v C rest) : ∃ ao cap, v = .slice ao C.length cap ∧ (C = [] ∨ ∃ g, ao = some ⟨g, 0, none⟩) := by
 obtain ⟨ao, cap, e, hf⟩ := own_form h.own.row
 exact ⟨ao, cap, e, hf.imp (fun h0 => List.length_eq_zero_iff.1 h0) id⟩
theorem markLines_own {B k : Nat} {v : Value} {L : List LAt} {rest : List MRow} {w : World} (hB : B ≤ w.heap.size) (h : LM B w v L rest) (hn2 : L.length ≤ 1048576) (h1 : 1 ≤ k) (h2 : endL k L ≤ 4611686018427387904) :
  Calls Tryz.prog 29 #[v, .int .i64 (k : Int)] w fun e w' => e = .returned (.int .i64 (endL k L : Int)) ∧ LM B w' v (markLs k L) rest ∧ Below B w w' := by
 obtain ⟨ao, cap, rfl, hf⟩ := h.form
 rcases hf with rfl | ⟨g, rfl⟩
 ·exact (markLines_zero ao cap k w).mono fun e w' h' => ⟨h'.1, by rw [h'.2]; exact h, by rw [h'.2]; exact Below.refl _ _⟩
 ·exact markLines_any hB h rfl hn2 h1 h2
theorem heldLines_own {B k : Nat} {v : Value} {L : List LAt} {w : World} (h : LinesOwn B w v (markLs k L)) (hn2 : L.length ≤ 1048576) (h1 : 1 ≤ k) (h2 : endL k L ≤ 4611686018427387904) :
  Calls Tryz.prog 30 #[v, .int .i64 (k : Int)] w fun e w' => e = .returned (.int .i64 (endL k L : Int)) ∧ Below w.heap.size w w' := by
 obtain ⟨ao, cap, rfl, hf⟩ := h.lm.form
 rw [markLs_length] at *
 rcases hf with h0 | ⟨g, rfl⟩
 ·obtain rfl : L = [] := List.length_eq_zero_iff.1 (by rw [← markLs_length L k, h0]; rfl)
  exact (heldLines_zero ao cap k w).mono fun e w' h' => ⟨h'.1, by rw [h'.2]; exact Below.refl _ _⟩
 ·exact heldLines_any h rfl hn2 h1 h2
end Go.Proofs.YtpdahhnjhggocabGreatDoor
namespace Go.Proofs.YtpdahhnjhggocabGreatDoor
open Go.RowKit
def markBn (k : Nat) (r : BAt) : BAt := { r with kind := ⟨(markL k).toArray⟩, name := ⟨(markL (k + 1)).toArray⟩, ls := markLs (k + 2) r.ls }
def nextB (k : Nat) (r : BAt) : Nat := endL (k + 2) r.ls
def markBs : Nat → List BAt → List BAt
 | _, [] => []
 | k, r :: L => markBn k r :: markBs (nextB k r) L
def endB : Nat → List BAt → Nat
 | k, [] => k
 | k, r :: L => endB (nextB k r) L
theorem nextB_le (k : Nat) (r : BAt) : k + 2 ≤ nextB k r := endL_le _ _
theorem endB_le : ∀ (L : List BAt) (k : Nat), k ≤ endB k L
 | [], k => Nat.le_refl _
 | r :: L, k => Nat.le_trans (by have := nextB_le k r; omega) (endB_le L (nextB k r))
theorem markBs_length : ∀ (L : List BAt) (k : Nat), (markBs k L).length = L.length
 | [], k => rfl
 | r :: L, k => by simp [markBs, markBs_length L]
theorem endB_small : ∀ (L : List BAt) (k : Nat), (∀ r ∈ L, LinesSmall r.ls) → endB k L ≤ k + 1099512676354 * L.length
 | [], k, _ => by simp [endB]
 | r :: L, k, h => by
  have h1 := h r (by simp)
  have h2 := endB_small L (nextB k r) (fun x hx => h x (by simp [hx]))
  have h3 := endL_small r.ls (k + 2) (fun x hx => (h1.2 x hx).1)
  have h4 := h1.1
  simp only [endB, List.length_cons]
  unfold nextB at h2 ⊢
  omega
theorem endB_fits {L : List BAt} (h : BlocksSmall L) : endB 1 L ≤ 2305843009213693952 := by
 have h1 := endB_small L 1 (fun x hx => (h.2 x hx).2)
 have h2 := h.1
 omega
set_option maxHeartbeats 400000 in
theorem markBlocks_zero (ao : Option Addr) (cap k : Nat) (w : World) : Calls Tryz.prog 58 #[.slice ao 0 cap, .int .i64 (k : Int)] w fun e w' => e = .returned (.int .i64 (k : Int)) ∧ w' = w := by
 go_enter Tryz.func58, Tryz.ntmps58
 go_wp2
 refine wp_loop_rounds 1 ?_
 rw [rounds_succ]
 go_wp2
 go_ret
 exact ⟨rfl, rfl⟩
set_option maxHeartbeats 400000 in
theorem heldBlocks_zero (ao : Option Addr) (cap k : Nat) (w : World) : Calls Tryz.prog 59 #[.slice ao 0 cap, .int .i64 (k : Int)] w fun e w' => e = .returned (.int .i64 (k : Int)) ∧ w' = w := by
 go_enter Tryz.func59, Tryz.ntmps59
 go_wp2
 refine wp_loop_rounds 1 ?_
 rw [rounds_succ]
 go_wp2
 go_ret
 exact ⟨rfl, rfl⟩
set_option maxHeartbeats 2000000 in
set_option maxRecDepth 100000 in
theorem markBlocks_any {B g n cap k : Nat} {L : List BAt} {rest : List MRow} {w : World} (hB : B ≤ w.heap.size) (h : BM B w (.slice (some ⟨g, 0, none⟩) n cap) L rest) (hn : L.length = n) (hn2 : n ≤ 1048576) (hs : ∀ x ∈ L, x.ls.length ≤ 1048576) (h1 : 1 ≤ k) (h2 : endB k L ≤ 4611686018427387904) :
  Calls Tryz.prog 58 #[.slice (some ⟨g, 0, none⟩) n cap, .int .i64 (k : Int)] w fun e w' => e = .returned (.int .i64 (endB k L : Int)) ∧ BM B w' (.slice (some ⟨g, 0, none⟩) n cap) (markBs k L) rest ∧ Below B w w' := by
 obtain ⟨E, hE⟩ : ∃ E, endB k L = E := ⟨_, rfl⟩
 obtain ⟨F, hF⟩ : ∃ F, markBs k L = F := ⟨_, rfl⟩
 have HE : Hid (endB k L = E) := hE
 have HF : Hid (markBs k L = F) := hF
 rw [hE] at h2
 rw [hE, hF]
 clear hE hF
 have HSM := hid_in hs
 clear hs
 go_enter Tryz.func58, Tryz.ntmps58
 go_wp2
 go_loopw [1, 5] (fun q i wr => ∃ (kk : Nat) (D T : List BAt), i = .int .i64 (D.length : Int) ∧ q = .int .i64 (kk : Int) ∧ 1 ≤ kk ∧ D.length + T.length = n ∧ BM B wr (.slice (some ⟨g, 0, none⟩) n cap) (D ++ T) rest ∧ Below B w wr ∧ Hid (∀ x ∈ T, x.ls.length ≤ 1048576) ∧ Hid (endB kk T = E) ∧ Hid (D ++ markBs kk T = F)) (fun _ i _ => n - (intOf i).toNat)
 case atStart => exact ⟨k, [], L, rfl, rfl, h1, by simpa using hn, h, Below.refl _ _, HSM, HE, HF⟩
 case round =>
  obtain ⟨kk, D, T, rfl, rfl, hk1, hDT, hm, hbw, hsm, hE, hF⟩ := hrel
  cases T with
  | nil =>
   have e1 := hE.out
   have e2 := hF.out
   simp only [endB, markBs, List.append_nil] at e1 e2 hm
   subst e1 e2
   simp only [List.length_nil, Nat.add_zero] at hDT
   clear hE hF HE HF h hsm HSM
   have hlt : ¬ ((D.length : Int) < (n : Int)) := by omega
   go_wp2
   go_ret
   exact ⟨rfl, hm, hbw⟩
  | cons r T =>
   have hE' : Hid (endB (nextB kk r) T = E) := hE.out
   have hF' : Hid (D ++ markBn kk r :: markBs (nextB kk r) T = F) := hF.out
   have hkE : nextB kk r ≤ E := by have := endB_le T (nextB kk r); rw [hE'.out] at this; exact this
   have hsm' := hid_in (show ∀ x ∈ T, x.ls.length ≤ 1048576 from fun x hx => hsm.out x (by simp [hx]))
   have hrl : r.ls.length ≤ 1048576 := hsm.out r (by simp)
   have hNB := nextB_le kk r
   clear hE hF HE HF h hsm HSM
   simp only [List.length_cons] at hDT
   have HM := fun W => markText_any kk W hk1 (by omega)
   have HM2 := fun W => markText_any (kk + 1) W (by omega) (by omega)
   rw [show ((kk + 1 : Nat) : Int) = (kk : Int) + 1 from by omega] at HM2
   have hlt : ((D.length : Int) < (n : Int)) := by omega
   go_wp2_with (go_at_call 81; refine (HM _).mono ?_)
   rintro e w1 ⟨rfl, b1⟩
   have m1 := hm.below b1
   have hnn : ∀ x : BAt, (D ++ x :: T).length = n := fun x => by simp; omega
   have c0 := m1.cell 0 (by decide)
   have f0 := (m1.size (hnn _)).frozenAt (D.length * 3)
   have m2 := m1.set (hnn _) 0 (.string ⟨(markL kk).toArray⟩) { r with kind := ⟨(markL kk).toArray⟩ } (by decide) rfl rfl
   simp only [BAt.cells, List.getElem?_cons_zero, Nat.add_zero] at c0 m2
   have B2 := (hbw.trans (b1.mono (Nat.le_trans hB hbw.size))).setCell (p := ⟨g, D.length * 3, none⟩) hm.own_lt (.string ⟨(markL kk).toArray⟩)
   clear HM hm b1 m1
   generalize hw2 : w1.setCell ⟨g, D.length * 3, none⟩ (.string ⟨(markL kk).toArray⟩) = w2 at *
   go_wp2_with (go_at_call 81; refine (HM2 _).mono ?_)
   first | rintro e w3 rfl b3 | rintro e w3 ⟨rfl, b3⟩
   clear hw2
   have m3 := m2.below b3
   have d0 := m3.cell 1 (by decide)
   have f1 := (m3.size (hnn _)).frozenAt (D.length * 3 + 1)
   have m4 := m3.set (hnn _) 1 (.string ⟨(markL (kk + 1)).toArray⟩) { r with kind := ⟨(markL kk).toArray⟩, name := ⟨(markL (kk + 1)).toArray⟩ } (by decide) rfl rfl
   have d2 := m4.cell 2 (by decide)
   have e2 := m3.cell 2 (by decide)
   simp only [BAt.cells, List.getElem?_cons_zero, List.getElem?_cons_succ] at d0 d2 e2
   have B4 := (B2.trans (b3.mono (Nat.le_trans hB B2.size))).setCell (p := ⟨g, D.length * 3 + 1, none⟩) m3.own_lt (.string ⟨(markL (kk + 1)).toArray⟩)
   have m4l := m4.lines
   have HS := markLines_own (k := kk + 2) (Nat.le_trans hB B4.size) m4l hrl (by omega) (by show nextB kk r ≤ _; omega)
   rw [show ((kk + 2 : Nat) : Int) = (kk : Int) + 1 + 1 from by omega] at HS
   clear m2 m3 b3 c0 f0
   go_wp2_with (go_at_call 29; refine HS.mono ?_)
   first | rintro e w5 rfl l5 b5 | rintro e w5 ⟨rfl, l5, b5⟩
   have m5 := hid_in (BM.back (r := { r with kind := ⟨(markL kk).toArray⟩, name := ⟨(markL (kk + 1)).toArray⟩ }) l5)
   have B5 := B4.trans b5
   have hE2 := hid_in (show endL (kk + 2) r.ls = nextB kk r from rfl)
   clear m4 m4l HS d0 d2 e2 f1 l5
   go_wp2
   go_roundw
   case rel =>
    refine ⟨nextB kk r, D ++ [markBn kk r], T, by simp, rfl, by omega, by simp; omega, ?_, B5, hsm', hE', by rw [List.append_assoc]; exact hF'⟩
    rw [List.append_assoc]; exact m5.out
   case measure => simp [intOf]; omega
set_option maxHeartbeats 2000000 in
set_option maxRecDepth 100000 in
theorem heldBlocks_any {B g n cap k : Nat} {L : List BAt} {w : World} (h : BlocksOwn B w (.slice (some ⟨g, 0, none⟩) n cap) (markBs k L)) (hn : L.length = n) (hn2 : n ≤ 1048576) (hs : ∀ x ∈ L, x.ls.length ≤ 1048576) (h1 : 1 ≤ k) (h2 : endB k L ≤ 4611686018427387904) :
  Calls Tryz.prog 59 #[.slice (some ⟨g, 0, none⟩) n cap, .int .i64 (k : Int)] w fun e w' => e = .returned (.int .i64 (endB k L : Int)) ∧ Below w.heap.size w w' := by
 obtain ⟨E, hE⟩ : ∃ E, endB k L = E := ⟨_, rfl⟩
 obtain ⟨F, hF⟩ : ∃ F, markBs k L = F := ⟨_, rfl⟩
 have HE : Hid (endB k L = E) := hE
 have HF : Hid (markBs k L = F) := hF
 rw [hE] at h2
 rw [hF] at h
 rw [hE]
 clear hE hF
 have HSM := hid_in hs
 clear hs
 go_enter Tryz.func59, Tryz.ntmps59
 go_wp2
 go_loopw [1, 5] (fun q i wr => ∃ (kk : Nat) (D T : List BAt), i = .int .i64 (D.length : Int) ∧ q = .int .i64 (kk : Int) ∧ 1 ≤ kk ∧ D.length + T.length = n ∧ Below w.heap.size w wr ∧ Hid (∀ x ∈ T, x.ls.length ≤ 1048576) ∧ Hid (endB kk T = E) ∧ Hid (D ++ markBs kk T = F)) (fun _ i _ => n - (intOf i).toNat)
 case atStart => exact ⟨k, [], L, rfl, rfl, h1, by simpa using hn, Below.refl _ _, HSM, HE, HF⟩
 case round =>
  obtain ⟨kk, D, T, rfl, rfl, hk1, hDT, hbw, hsm, hE, hF⟩ := hrel
  cases T with
  | nil =>
   have e1 := hE.out
   simp only [endB] at e1
   subst e1
   simp only [List.length_nil, Nat.add_zero] at hDT
   clear hE hF HE HF h hsm HSM
   have hlt : ¬ ((D.length : Int) < (n : Int)) := by omega
   go_wp2
   go_ret
   exact ⟨rfl, hbw⟩
  | cons r T =>
   have hE' : Hid (endB (nextB kk r) T = E) := hE.out
   have hF' : Hid (D ++ markBn kk r :: markBs (nextB kk r) T = F) := hF.out
   have hkE : nextB kk r ≤ E := by have := endB_le T (nextB kk r); rw [hE'.out] at this; exact this
   have hsm' := hid_in (show ∀ x ∈ T, x.ls.length ≤ 1048576 from fun x hx => hsm.out x (by simp [hx]))
   have hrl : r.ls.length ≤ 1048576 := hsm.out r (by simp)
   have hNB := nextB_le kk r
   have m0 : BM B wr (.slice (some ⟨g, 0, none⟩) n cap) (D ++ markBn kk r :: markBs (nextB kk r) T) [] := by rw [hF'.out]; exact h.bm.below hbw
   clear hE hF HE HF h hsm HSM
   simp only [List.length_cons] at hDT
   have HM := fun W => markText_any kk W hk1 (by omega)
   have HM2 := fun W => markText_any (kk + 1) W (by omega) (by omega)
   rw [show ((kk + 1 : Nat) : Int) = (kk : Int) + 1 from by omega] at HM2
   have hlt : ((D.length : Int) < (n : Int)) := by omega
   have c0 := m0.cell 0 (by decide)
   simp only [BAt.cells, markBn, List.getElem?_cons_zero, Nat.add_zero] at c0
   have lg := World.block_lt_of_cell? wr _ c0
   generalize (⟨(markL kk).toArray⟩ : ByteArray) = M at HM c0
   have hMM : (M.toList != M.toList) = false := by simp
   go_wp2
   go_region_held3 (fun W => W.cell? ⟨g, D.length * 3, none⟩ = some (.string M)) (first | go_keep | (exact (b1.cell lg).trans c0))
    (first | (go_at_call 81; refine (HM _).mono ?_; rintro e w1 ⟨rfl, b1⟩))
   all_goals
    have m1 := m0.below ((Below.refl wr.heap.size wr).drew.trans b1)
    have B1 := hbw.trans (((Below.refl wr.heap.size wr).drew.trans b1).mono hbw.size)
    have c1 := m1.cell 1 (by decide)
    simp only [BAt.cells, markBn, List.getElem?_cons_zero, List.getElem?_cons_succ] at c1
    have lg1 := World.block_lt_of_cell? w1 _ c1
    generalize (⟨(markL (kk + 1)).toArray⟩ : ByteArray) = M2 at HM2 c1
    have hMM2 : (M2.toList != M2.toList) = false := by simp
    clear m0 b1 HM c0
    go_wp2
    go_region_held3 (fun W => W.cell? ⟨g, D.length * 3 + 1, none⟩ = some (.string M2)) (first | go_keep | (exact (b2.cell lg1).trans c1))
     (first | (go_at_call 81; refine (HM2 _).mono ?_; rintro e w2 ⟨rfl, b2⟩))
    all_goals
     have m2 := m1.below ((Below.refl w1.heap.size w1).drew.trans b2)
     have B2 := B1.trans (((Below.refl w1.heap.size w1).drew.trans b2).mono B1.size)
     have c2 := m2.cell 2 (by decide)
     simp only [BAt.cells, markBn, List.getElem?_cons_zero, List.getElem?_cons_succ] at c2
     have l2 : LinesOwn B w2 r.v (markLs (kk + 2) r.ls) := m2.lines.own
     have HS := heldLines_own (k := kk + 2) l2 hrl (by omega) (by show nextB kk r ≤ _; omega)
     rw [show ((kk + 2 : Nat) : Int) = (kk : Int) + 1 + 1 from by omega] at HS
     have hpos2 : ¬ ((endL (kk + 2) r.ls : Int) < 0) := by omega
     clear m1 m2 b2 HM2 c1 l2
     go_wp2_with (go_at_call 30; refine HS.mono ?_)
     first | rintro e w3 rfl b3 | rintro e w3 ⟨rfl, b3⟩
     have B3 := B2.trans (b3.mono B2.size)
     clear HS c2
     go_wp2
     go_roundw
     case rel => exact ⟨nextB kk r, D ++ [markBn kk r], T, by simp, rfl, by omega, by simp; omega, B3, hsm', hE', by rw [List.append_assoc]; exact hF'⟩
     case measure => simp [intOf]; omega
theorem BM.form {B : Nat} {w : World} {v : Value} {C : List BAt} {rest : List MRow} (h : BM B w v C rest) : ∃ ao cap, v = .slice ao C.length cap ∧ (C = [] ∨ ∃ g, ao = some ⟨g, 0, none⟩) := by
 obtain ⟨ao, cap, e, hf⟩ := own_form h.own.row
 exact ⟨ao, cap, e, hf.imp (fun h0 => List.length_eq_zero_iff.1 h0) id⟩
theorem markBlocks_own {B k : Nat} {v : Value} {L : List BAt} {rest : List MRow} {w : World} (hB : B ≤ w.heap.size) (h : BM B w v L rest) (hn2 : L.length ≤ 1048576) (hs : ∀ x ∈ L, x.ls.length ≤ 1048576) (h1 : 1 ≤ k) (h2 : endB k L ≤ 4611686018427387904) :
  Calls Tryz.prog 58 #[v, .int .i64 (k : Int)] w fun e w' => e = .returned (.int .i64 (endB k L : Int)) ∧ BM B w' v (markBs k L) rest ∧ Below B w w' := by
 obtain ⟨ao, cap, rfl, hf⟩ := h.form
 rcases hf with rfl | ⟨g, rfl⟩
 ·exact (markBlocks_zero ao cap k w).mono fun e w' h' => ⟨h'.1, by rw [h'.2]; exact h, by rw [h'.2]; exact Below.refl _ _⟩
 ·exact markBlocks_any hB h rfl hn2 hs h1 h2
theorem heldBlocks_own {B k : Nat} {v : Value} {L : List BAt} {w : World} (h : BlocksOwn B w v (markBs k L)) (hn2 : L.length ≤ 1048576) (hs : ∀ x ∈ L, x.ls.length ≤ 1048576) (h1 : 1 ≤ k) (h2 : endB k L ≤ 4611686018427387904) :
  Calls Tryz.prog 59 #[v, .int .i64 (k : Int)] w fun e w' => e = .returned (.int .i64 (endB k L : Int)) ∧ Below w.heap.size w w' := by
 obtain ⟨ao, cap, rfl, hf⟩ := h.bm.form
 rw [markBs_length] at *
 rcases hf with h0 | ⟨g, rfl⟩
 ·obtain rfl : L = [] := List.length_eq_zero_iff.1 (by rw [← markBs_length L k, h0]; rfl)
  exact (heldBlocks_zero ao cap k w).mono fun e w' h' => ⟨h'.1, by rw [h'.2]; exact Below.refl _ _⟩
 ·exact heldBlocks_any h rfl hn2 hs h1 h2
set_option maxHeartbeats 1000000 in
set_option maxRecDepth 100000 in
theorem markSheet_own {B k : Nat} {v : Value} {L : List BAt} {rest : List MRow} {w : World} (hB : B ≤ w.heap.size) (h : BM B w v L rest) (hn2 : L.length ≤ 1048576) (hs : ∀ x ∈ L, x.ls.length ≤ 1048576) (h1 : 1 ≤ k) (h2 : endB k L ≤ 4611686018427387904) :
  Calls Tryz.prog 16 #[.agg #[v], .int .i64 (k : Int)] w fun e w' => e = .returned (.int .i64 (endB k L : Int)) ∧ BM B w' v (markBs k L) rest ∧ Below B w w' := by
 have G := (Below.refl w.heap.size w).alloc (Nat.le_refl _) (.cells #[v] 24)
 have k0 := one_box (w := w) (cs := #[v]) (T := 24) 0
 simp only [List.getElem?_toArray, List.getElem?_cons_zero] at k0
 have HE := markBlocks_own (k := k) (Nat.le_trans hB G.size) (h.below G) hn2 hs h1 h2
 obtain ⟨ao, cap, rfl, _⟩ := h.form
 generalize endB k L = E at *
 generalize markBs k L = F at *
 clear h hs hn2
 generalize L.length = n at *
 go_enter Tryz.func16, Tryz.ntmps16
 go_wp2_with (go_at_call 58; refine HE.mono ?_)
 first | rintro e w2 rfl b2 b3 | rintro e w2 ⟨rfl, b2, b3⟩
 go_wp2
 go_ret
 exact ⟨rfl, b2, (G.mono hB).trans b3⟩
set_option maxHeartbeats 1000000 in
set_option maxRecDepth 100000 in
theorem heldSheet_own {B k : Nat} {v : Value} {L : List BAt} {w : World} (h : BlocksOwn B w v (markBs k L)) (hn2 : L.length ≤ 1048576) (hs : ∀ x ∈ L, x.ls.length ≤ 1048576) (h1 : 1 ≤ k) (h2 : endB k L ≤ 4611686018427387904) :
  Calls Tryz.prog 17 #[.agg #[v], .int .i64 (k : Int)] w fun e w' => e = .returned (.int .i64 (endB k L : Int)) ∧ Below w.heap.size w w' := by
 have G := (Below.refl w.heap.size w).alloc (Nat.le_refl _) (.cells #[v] 24)
 have k0 := one_box (w := w) (cs := #[v]) (T := 24) 0
 simp only [List.getElem?_toArray, List.getElem?_cons_zero] at k0
 have HE := heldBlocks_own (k := k) (h.below G) hn2 hs h1 h2
 obtain ⟨ao, cap, rfl, _⟩ := own_form h.row
 have hpos : ¬ ((endB k L : Int) < 0) := by omega
 generalize endB k L = E at *
 clear h hs hn2
 generalize (markBs k L).length = n at *
 go_enter Tryz.func17, Tryz.ntmps17
 go_wp2_with (go_at_call 59; refine HE.mono ?_)
 first | rintro e w2 rfl b2 | rintro e w2 ⟨rfl, b2⟩
 go_wp2
 go_ret
 exact ⟨rfl, G.trans (b2.mono (by simp))⟩
end Go.Proofs.YtpdahhnjhggocabGreatDoor
namespace Go.Proofs.YtpdahhnjhggocabGreatDoor
open Go.RowKit
def ShPost (P : List PBlock) (w : World) (e : Ending) (w' : World) : Prop := ∃ v' bs', e = .returned (.agg #[v']) ∧ bs'.map BAt.plain = P ∧ BlocksOwn w.heap.size w' v' bs' ∧ Below w.heap.size w w'
def BoolPost (b : Bool) (w : World) (e : Ending) (w' : World) : Prop := e = .returned (.bool b) ∧ Below w.heap.size w w'
def IntPost (n : Nat) (w : World) (e : Ending) (w' : World) : Prop := e = .returned (.int .i64 (n : Int)) ∧ Below w.heap.size w w'
theorem toSheet_p {v : Value} {bs : List BAt} {w : World} (h : BlocksIn w v bs) (hs : BlocksSmall bs) : Calls Tryz.prog 20 #[.agg #[v]] w fun e w' => ShPost (bs.map BAt.plain) w e w' := toSheet_any h hs
theorem eqSheet_p {v u : Value} {xs ys : List BAt} {w : World} (h1 : BlocksIn w v xs) (h2 : BlocksIn w u ys) (he : xs.map BAt.plain = ys.map BAt.plain) (hs : xs.length ≤ 1048576 ∧ ∀ x ∈ xs, LinesSmall x.ls) : Calls Tryz.prog 14 #[.agg #[v], .agg #[u]] w fun e w' => BoolPost true w e w' := eqSheet_any h1 h2 he hs
theorem heldSheet_p {B : Nat} {v : Value} {L : List BAt} {w : World} (h : BlocksOwn B w v (markBs 1 L)) (hs : BlocksSmall L) : Calls Tryz.prog 17 #[.agg #[v], .int .i64 1] w fun e w' => IntPost (endB 1 L) w e w' :=
 heldSheet_own (k := 1) h hs.1 (fun x hx => (hs.2 x hx).2.1) (Nat.le_refl _) (Nat.le_trans (endB_fits hs) (by decide))
theorem box_row (w : World) (v : Value) (T : TypeId) : (w.alloc (.cells #[v] T)).ownsRow w.heap.size T 1 (.slice (some ⟨w.heap.size, 0, none⟩) 1 1) 1 [v] := World.ownsRow_lit (base := w.heap.size) (e := T) (size := 1) w #[v] 1 (Nat.le_refl _) (by decide) rfl
theorem row_box {B g : Nat} {w : World} {T : TypeId} {v : Value} (h : w.ownsRow B T 1 (.slice (some ⟨g, 0, none⟩) 1 1) 1 [v]) : w.cell? ⟨g, 0, none⟩ = some v := by
 have := h.cells (g := g) rfl 0 v rfl
 rwa [add_off] at this
end Go.Proofs.YtpdahhnjhggocabGreatDoor
namespace Go.Proofs.YtpdahhnjhggocabGreatDoor
open Go.RowKit
def bx (g : Nat) (v : Value) : MRow := ⟨.slice (some ⟨g, 0, none⟩) 1 1, 24, 1, 1, [v]⟩
def LwJ (w3 : World) (L : List MRow) (W : World) : Prop := Mem w3.heap.size W L ∧ Below w3.heap.size w3 W
theorem LwJ.below {w3 W W' : World} {L : List MRow} (h : LwJ w3 L W) (hb : Below W.heap.size W W') : LwJ w3 L W' := ⟨Mem.below h.1 hb, h.2.trans (hb.mono h.2.size)⟩
theorem LwJ.add {w3 W w' : World} {L : List MRow} {v : Value} {bs : List BAt} (h : LwJ w3 L W) (ho : BlocksOwn W.heap.size w' v bs) (hb : Below W.heap.size W w') : LwJ w3 (bx w'.heap.size v :: (brows v bs ++ L)) (w'.alloc (.cells #[v] 24)) := by
 have hx := (Below.refl w'.heap.size w').alloc (Nat.le_refl _) (.cells #[v] 24)
 have h1 := h.2.size
 have h2 := hb.size
 exact ⟨Mem.cons (r := bx w'.heap.size v) (Mem.join h.1 ho hb h1) (box_row w' v 24) hx (by omega), (h.2.trans (hb.mono h1)).trans (hx.mono (by omega))⟩
theorem LwJ.cell {w3 W : World} {L : List MRow} {g : Nat} {v : Value} (h : LwJ w3 L W) (hm : bx g v ∈ L) : W.cell? ⟨g, 0, none⟩ = some v := row_box (h.1.1 _ hm)
theorem LwJ.perm {w3 W : World} {L N : List MRow} (h : LwJ w3 L W) (hp : L.Perm N) : LwJ w3 N W := ⟨Mem.perm h.1 hp, h.2⟩
theorem LwJ.own {w3 W : World} {v : Value} {bs : List BAt} {N : List MRow} (h : LwJ w3 (brows v bs ++ N) W) : BlocksOwn w3.heap.size W v bs := Mem.left h.1
theorem LwJ.right {w3 W : World} {L N : List MRow} (h : LwJ w3 (N ++ L) W) : LwJ w3 L W := ⟨Mem.right h.1, h.2⟩
theorem LwJ.left {w3 W : World} {L N : List MRow} (h : LwJ w3 (N ++ L) W) : LwJ w3 N W := ⟨Mem.left h.1, h.2⟩
theorem LwJ.tail {w3 W : World} {L : List MRow} {r : MRow} (h : LwJ w3 (r :: L) W) : LwJ w3 L W := ⟨Mem.tail h.1, h.2⟩
theorem LwJ.old {w3 W : World} {L : List MRow} {p : Addr} {v : Value} (h : LwJ w3 L W) (c : w3.cell? p = some v) : W.cell? p = some v := (h.2.cell (World.block_lt_of_cell? _ _ c)).trans c
theorem LwJ.from {w w3 W : World} {L : List MRow} (h : LwJ w3 L W) (g : Below w.heap.size w w3) : Below w.heap.size w W := g.trans (h.2.mono g.size)
theorem LwJ.bin {w3 W : World} {v : Value} {bs : List BAt} (h : LwJ w3 (brows v bs) W) : BlocksIn W v bs := BlocksOwn.bin (B := w3.heap.size) h.1
def MarkJ (w3 : World) (k : Nat) (v : Value) (bs : List BAt) (N : List MRow) (e : Ending) (w' : World) : Prop := e = .returned (.int .i64 (endB k bs : Int)) ∧ LwJ w3 (brows v (markBs k bs) ++ N) w'
theorem LwJ.mark {w3 W : World} {v : Value} {bs : List BAt} {N : List MRow} (h : LwJ w3 (brows v bs ++ N) W) (hs : BlocksSmall bs) (k : Nat) (h1 : 1 ≤ k) (h2 : k ≤ 2305843009213693952) : Calls Tryz.prog 16 #[.agg #[v], .int .i64 (k : Int)] W fun e w' => MarkJ w3 k v bs N e w' := by
 have h3 := endB_small bs k (fun x hx => (hs.2 x hx).2)
 have h4 := hs.1
 refine (markSheet_own h.2.size h.1 hs.1 (fun x hx => (hs.2 x hx).2.1) h1 (by omega)).mono ?_
 rintro e w' ⟨he, hm, hb⟩
 exact ⟨he, hm, h.2.trans hb⟩
theorem LwJ.mark1 {w3 W : World} {v : Value} {bs : List BAt} {N : List MRow} (h : LwJ w3 (brows v bs ++ N) W) (hs : BlocksSmall bs) : Calls Tryz.prog 16 #[.agg #[v], .int .i64 1] W fun e w' => MarkJ w3 1 v bs N e w' := h.mark hs 1 (Nat.le_refl _) (by decide)
end Go.Proofs.YtpdahhnjhggocabGreatDoor
