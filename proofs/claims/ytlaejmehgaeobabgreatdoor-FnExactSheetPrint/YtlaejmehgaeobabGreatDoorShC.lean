import Derived.Test.YtlaejmehgaeobabGreatDoorShB
import Derived.Deep.MidRow
namespace Go.Proofs.YtlaejmehgaeobabGreatDoor
open Go.RowKit
def mixR (ys xs : List Value) (j : Nat) : List Value := ys.take j ++ xs.drop j
theorem mixR_zero (ys xs : List Value) : mixR ys xs 0 = xs := by simp [mixR]
theorem mixR_all {ys xs : List Value} {n : Nat} (h1 : ys.length = n) (h2 : xs.length = n) : mixR ys xs n = ys := by simp [mixR, ← h1, List.drop_eq_nil_of_le (by omega : xs.length ≤ ys.length)]
theorem mixR_len {ys xs : List Value} {n : Nat} (h1 : ys.length = n) (h2 : xs.length = n) (j : Nat) (hj : j ≤ n) : (mixR ys xs j).length = n := by simp [mixR]; omega
theorem mixR_set {ys xs : List Value} {n : Nat} (h1 : ys.length = n) (h2 : xs.length = n) (j : Nat) (hj : j < n) (y : Value) (hy : ys[j]? = some y) : (mixR ys xs j).set j y = mixR ys xs (j + 1) := by
  unfold mixR
  have e : (ys.take j).length = j := by simp; omega
  rw [List.set_append_right _ _ (by omega), e, Nat.sub_self, List.drop_eq_getElem_cons (by omega : j < xs.length), List.set_cons_zero]
  have hy' : ys[j]'(by omega) = y := by rw [List.getElem?_eq_getElem (by omega)] at hy; exact Option.some.inj hy
  rw [List.take_succ_eq_append_getElem (by omega : j < ys.length), hy', List.append_assoc]; rfl
theorem below_grownR {w wr wr' : World} (hb : Below w.heap.size w wr) (hg : wr.grownBy wr' (some w.heap.size)) : Below w.heap.size w wr' := by
  obtain ⟨g1, g2, g3, g4, g5⟩ := hg
  have hs := hb.size
  exact ⟨g1.trans hb.os, g2.trans hb.tape, g3.trans hb.output, Nat.le_trans hs g4, fun k hk => (g5 k (by omega) (by intro h; cases h; omega)).trans (hb.block k hk)⟩
theorem below_madeR {w w' : World} (hg : w.grownBy w' none) : Below w.heap.size w w' := by
  obtain ⟨g1, g2, g3, g4, g5⟩ := hg
  exact ⟨g1, g2, g3, g4, fun k hk => g5 k hk (by intro h; cases h)⟩
set_option maxHeartbeats 1000000 in
set_option maxRecDepth 100000 in
theorem toWords_any {a : Option Addr} {len cap : Nat} {ws : List (List UInt8)} {w : World} (h : HasRow w (.slice a len cap) ws.length 1 (strs ws)) (hl : len ≤ 1048576) : Calls Tryz.prog 168 #[.slice a len cap] w fun e w' => ∃ v, e = .returned v ∧ w'.ownsRow w.heap.size 9 1 v ws.length (strs ws) ∧ Below w.heap.size w w' := by
  have en := hid_in (show len = ws.length by obtain ⟨_, _, _, e, _⟩ := h; cases e; rfl)
  obtain ⟨i0, hi, hz0, hz1, hz2⟩ := info_parts info9
  go_enter Tryz.func168, Tryz.ntmps168
  go_wp2_with (with_reducible show wpList _ _ _ (Oper.mk _ (Op.makeSlice _ _ _) _ _ _ _ :: _) _ _; refine wpList_make_full w rfl _ _ _ rfl w.heap.size 9 i0 _ 1 Tryz.underlying40 hi hz0 hz1 .i64 .i64 (len : Int) (len : Int) len ?_ ?_ rfl rfl (by rw [hz2]; omega) (by unfold maxLen; omega) (Nat.le_refl _) ?_)
  · rfl
  · rfl
  intro w1 own1 gr1
  have b1 := below_madeR gr1
  have hmadeL : (madeCells #[Value.string ⟨#[]⟩] len).toList.length = len := by have := own1.1; omega
  generalize (madeCells #[Value.string ⟨#[]⟩] len).toList = zs at *
  clear gr1
  go_wp2
  go_loopw [4] (fun i wr => ∃ j : Nat, j ≤ len ∧ i = .int .i64 (j : Int) ∧ wr.ownsRow w.heap.size 9 1 (.slice (some ⟨w.heap.size, 0, none⟩) len len) len (mixR (strs ws) zs j) ∧ Below w.heap.size w wr) (fun i _ => len - (intOf i).toNat)
  case atStart => exact ⟨0, by omega, rfl, by rw [mixR_zero]; exact own1, b1⟩
  case round =>
    obtain ⟨j, hj, rfl, hown, hbw⟩ := hrel
    by_cases hlt : j < len
    · have lj : j < ws.length := by have := en.out; omega
      obtain ⟨b, off, rfl, c1⟩ := (h.below hbw).word j lj
      have hc2 := hown.cellAt j (by omega)
      obtain ⟨u, hu⟩ : ∃ u, (mixR (strs ws) zs j)[j]? = some u := ⟨_, List.getElem?_eq_getElem (by have := hown.1; omega)⟩
      rw [hu] at hc2
      have hf := hown.frozenAt j
      have hst := hown.stored j (.string ⟨ws[j].toArray⟩)
      have HP : Hid _ := mixR_set (show (strs ws).length = len by rw [strs_length, en.out]) hmadeL j hlt (.string ⟨ws[j].toArray⟩) (strs_at ws j lj)
      generalize (⟨ws[j].toArray⟩ : ByteArray) = y at *
      clear own1 b1 hu h
      go_wp2
      go_roundw
      case rel =>
        refine ⟨j + 1, by omega, by go_num, ?_, below_grownR hbw hst.2⟩
        rw [← HP.out]; exact hst.1
      case measure => simp [intOf]; omega
    · obtain rfl : j = len := by omega
      rw [mixR_all (show (strs ws).length = j by rw [strs_length, en.out]) hmadeL] at hown
      have ho := hid_in (show wr.ownsRow w.heap.size 9 1 (.slice (some ⟨w.heap.size, 0, none⟩) j j) ws.length (strs ws) from en.out ▸ hown)
      clear hown h own1
      go_wp2
      go_ret
      exact ⟨_, rfl, ho.out, hbw⟩
theorem own_setRow {w : World} {base : Nat} {e : TypeId} {size : Nat} {v : Value} {n : Nat} {xs : List Value} (h : w.ownsRow base e size v n xs) (g : Nat) (hg : g < base) (cs : Array Value) : (w.setRow g cs).ownsRow base e size v n xs := by
  refine ⟨h.1, ?_⟩
  rcases h.2 with h2 | ⟨g', cap, cur, hv, hb, hh, hrest⟩
  · exact Or.inl h2
  · exact Or.inr ⟨g', cap, cur, hv, hb, by rw [setRow_other _ _ _ _ (by omega)]; exact hh, hrest⟩
theorem alloc3 {w : World} {o1 o2 o3 : Obj} : (((w.alloc o1).alloc o2).alloc o3).heap.size = w.heap.size + 3 ∧ (((w.alloc o1).alloc o2).alloc o3).heap[w.heap.size]? = some o1 ∧ (((w.alloc o1).alloc o2).alloc o3).heap[w.heap.size + 1]? = some o2 ∧ (((w.alloc o1).alloc o2).alloc o3).heap[w.heap.size + 2]? = some o3 := by
  refine ⟨by simp, ?_, ?_, ?_⟩
  · rw [alloc_there _ _ _ (by simp; omega), alloc_there _ _ _ (by simp), alloc_here]
  · rw [alloc_there _ _ _ (by simp)]
    have := alloc_here (w.alloc o1) o2
    rwa [size_alloc'] at this
  · have := alloc_here ((w.alloc o1).alloc o2) o3
    rwa [size_alloc', size_alloc'] at this
theorem cell_of_block {w : World} {g : Nat} {cs : Array Value} {T : TypeId} (h : w.heap[g]? = some (.cells cs T (0, 0))) (j : Nat) : w.cell? ⟨g, j, none⟩ = cs[j]? := by
  unfold World.cell?; rw [h]; rfl
theorem frozen_of_block {w : World} {g : Nat} {cs : Array Value} {T : TypeId} (h : w.heap[g]? = some (.cells cs T (0, 0))) (j : Nat) : w.frozen? ⟨g, j, none⟩ = false := by
  unfold World.frozen?; rw [h]; simp
set_option maxHeartbeats 2000000 in
set_option maxRecDepth 100000 in
theorem toLine_any {x : LAt} {w : World} (h : LineIn w x) (hs : LineSmall x) : Calls Tryz.prog 149 #[.agg #[.string x.key, x.v]] w fun e w' => ∃ v, e = .returned (.agg #[.string x.key, v]) ∧ w'.ownsRow w.heap.size 9 1 v x.ws.length (strs x.ws) ∧ Below w.heap.size w w' := by
  obtain ⟨ax, cx, e1⟩ := HasRow.form h
  unfold LineIn at h
  rw [e1] at h ⊢
  have b0 : Below w.heap.size w (((w.alloc (.cells #[.string x.key, .slice ax x.ws.length cx] 213)).alloc (.cells #[.string ⟨#[]⟩, .slice none 0 0] 63)).alloc (.cells #[.string x.key, .slice none 0 0] 63)) := (((Below.refl _ _).alloc (Nat.le_refl _) _).alloc (by simp) _).alloc (by simp; omega) _
  obtain ⟨hsz, -, hz1, hz2⟩ := alloc3 (w := w) (o1 := .cells #[.string x.key, .slice ax x.ws.length cx] 213) (o2 := .cells #[.string ⟨#[]⟩, .slice none 0 0] 63) (o3 := .cells #[.string x.key, .slice none 0 0] 63)
  have HW := toWords_any (h.below b0) hs.1
  generalize hWS : strs x.ws = WS at *
  clear h e1 hs hWS
  generalize x.ws.length = nx at *
  generalize x.key = xk at *
  go_enter Tryz.func149, Tryz.ntmps149
  go_wp2_with (go_at_call 168; refine HW.mono ?_)
  rintro e w2 ⟨v, rfl, o2, b2⟩
  rw [hsz] at o2 b2
  have z1 := (b2.block (w.heap.size + 1) (by omega)).trans hz1
  have z2 := (b2.block (w.heap.size + 2) (by omega)).trans hz2
  have hw2 : w.heap.size + 3 ≤ w2.heap.size := by have := b2.size; rw [hsz] at this; exact this
  have b02 := b0.trans (b2.mono (by omega))
  have c0 := cell_of_block z2 0
  have c1 := cell_of_block z2 1
  have f1 := frozen_of_block z2 1
  simp only [List.getElem?_toArray, List.getElem?_cons_zero, List.getElem?_cons_succ] at c0 c1
  obtain ⟨av, cv, rfl, _⟩ := own_form o2
  have z1' : (w2.setCell ⟨w.heap.size + 2, 1, none⟩ (.slice av nx cv)).heap[w.heap.size + 1]? = some (.cells #[.string ⟨#[]⟩, .slice none 0 0] 63 (0, 0)) := by rw [Below.heap_setCell _ _ _ _ (by simp)]; exact z1
  clear HW hz1 hz2 hsz
  go_wp2_with (with_reducible show wpList _ _ _ (Oper.mk _ (Op.store _ (Operand.tmp 2) _) _ _ _ _ :: _) _ _; refine wpList_store_row rfl 63 _ _ rfl (w.heap.size + 1) #[.string xk, .slice av nx cv] ?_ ?_ 63 _ z1' ?_ ?_ ?_ ?_)
  all_goals (first | rfl | kernel_rfl | skip)
  have z5 : ((w2.setCell ⟨w.heap.size + 2, 1, none⟩ (.slice av nx cv)).setRow (w.heap.size + 1) #[.string xk, .slice av nx cv]).heap[w.heap.size + 1]? = some (.cells #[.string xk, .slice av nx cv] 63 (0, 0)) := setRow_heap _ _ _ _ _ _ z1'
  have o5 := own_mono (own_setRow (own_setCell o2 ⟨w.heap.size + 2, 1, none⟩ (by simp) (.slice av nx cv)) (w.heap.size + 1) (by omega) #[.string xk, .slice av nx cv]) (show w.heap.size ≤ w.heap.size + 3 by omega)
  have b5 : Below w.heap.size w ((w2.setCell ⟨w.heap.size + 2, 1, none⟩ (.slice av nx cv)).setRow (w.heap.size + 1) #[.string xk, .slice av nx cv]) :=
    ⟨b02.os, b02.tape, b02.output, by rw [setRow_size]; simp; omega, fun k hk => by rw [setRow_other _ _ _ _ (by omega), Below.heap_setCell _ _ _ _ (by simp; omega)]; exact b02.block k hk⟩
  have y0 := cell_of_block z5 0
  have y1 := cell_of_block z5 1
  simp only [List.getElem?_toArray, List.getElem?_cons_zero, List.getElem?_cons_succ] at y0 y1
  rw [show w.heap.size + 1 + 1 = w.heap.size + 2 from rfl]
  generalize (w2.setCell ⟨w.heap.size + 2, 1, none⟩ (.slice av nx cv)).setRow (w.heap.size + 1) #[.string xk, .slice av nx cv] = W at *
  exact bodyPost_ret (v := .agg #[.string xk, .slice av nx cv]) (by simp [results, Tryz.results149, go_sem, y0, y1]) rfl ⟨_, rfl, o5, b5⟩
/-- A row of structs of k cells, one of them turned. -/
theorem own_setCells {base g n cap size : Nat} {e : TypeId} (vs : List Value) : ∀ (o : Nat) (w : World) (xs : List Value), w.ownsRow base e size (.slice (some ⟨g, 0, none⟩) n cap) n xs → ∃ ys, (w.setCells g o vs).ownsRow base e size (.slice (some ⟨g, 0, none⟩) n cap) n ys ∧ w.grownBy (w.setCells g o vs) (some g) ∧ ∀ A B C, xs = A ++ B ++ C → A.length = o → B.length = vs.length → ys = A ++ vs ++ C := by
  induction vs with
  | nil =>
    intro o w xs h
    refine ⟨xs, h, ⟨rfl, rfl, rfl, Nat.le_refl _, fun _ _ _ => rfl⟩, fun A B C hx hA hB => ?_⟩
    rw [hx, List.length_eq_zero_iff.1 hB]
  | cons v vs ih =>
    intro o w xs h
    have hst := h.stored o v
    obtain ⟨ys, h1, h2, h3⟩ := ih (o + 1) _ _ hst.1
    refine ⟨ys, h1, grown_trans hst.2 h2, fun A B C hx hA hB => ?_⟩
    match B, hB with
    | b :: B, hB =>
      have := h3 (A ++ [v]) B C (by rw [hx]; rw [List.append_assoc, List.set_append_right _ _ (by omega), hA, Nat.sub_self]; simp) (by simp; omega) (by simpa using hB)
      rw [this]; simp
theorem row_there {w : World} {base g n cap size : Nat} {e : TypeId} {xs : List Value} (h : w.ownsRow base e size (.slice (some ⟨g, 0, none⟩) n cap) n xs) (o k : Nat) (hk : o + k ≤ n * size) : w.there g o k := by
  intro j hj
  refine ⟨?_, h.frozenAt (o + j)⟩
  rw [h.cellAt (o + j) (by omega), List.getElem?_eq_getElem (by have := h.1; omega)]
  rfl
/-- Lines that the call has made. -/
def LinesOwn (B : Nat) (w : World) (v : Value) (ls : List LAt) : Prop := w.ownsRow B 63 2 v ls.length (ls.flatMap LAt.cells) ∧ ∀ x ∈ ls, w.ownsRow B 9 1 x.v x.ws.length (strs x.ws)
theorem LinesOwn.lin {B : Nat} {w : World} {v : Value} {ls : List LAt} (h : LinesOwn B w v ls) : LinesIn w v ls := ⟨own_has h.1, fun x hx => own_has (h.2 x hx)⟩
theorem LinesOwn.below {B : Nat} {w w' : World} {v : Value} {ls : List LAt} (h : LinesOwn B w v ls) (hb : Below w.heap.size w w') : LinesOwn B w' v ls := ⟨own_below h.1 hb, fun x hx => own_below (h.2 x hx) hb⟩
theorem LinesOwn.mono {B B' : Nat} {w : World} {v : Value} {ls : List LAt} (h : LinesOwn B w v ls) (hB : B' ≤ B) : LinesOwn B' w v ls := ⟨own_mono h.1 hB, fun x hx => own_mono (h.2 x hx) hB⟩
theorem own_other {w w' : World} {base g : Nat} {e : TypeId} {size : Nat} {v : Value} {n : Nat} {xs : List Value} (h : w.ownsRow base e size v n xs) (hg : w.grownBy w' (some g)) (hb : g < base) : w'.ownsRow base e size v n xs := by
  refine World.ownsRow.kept h hg ?_
  cases hv : v.ownBlock with
  | none => exact Or.inl rfl
  | some q =>
    right
    have := (h.lt q hv).1
    intro e
    cases e
    omega
theorem infoLine : (Tryz.prog.info? 63).map (fun i => (i.zero, i.size, i.bytes)) = some (some (.agg #[.string ⟨#[]⟩, .slice none 0 0]), 2, 40) := by kernel_rfl
set_option maxHeartbeats 2000000 in
set_option maxRecDepth 100000 in
theorem toLines_any {v : Value} {ls : List LAt} {w : World} (h : LinesIn w v ls) (hs : LinesSmall ls) : Calls Tryz.prog 122 #[v] w fun e w' => ∃ v' ls', e = .returned v' ∧ ls'.map LAt.plain = ls.map LAt.plain ∧ LinesOwn w.heap.size w' v' ls' ∧ Below w.heap.size w w' := by
  obtain ⟨ao, cap, rfl⟩ := h.1.form
  have hl := hs.1
  generalize hn : ls.length = len at *
  have en := hid_in hn
  clear hn
  obtain ⟨i0, hi, hz0, hz1, hz2⟩ := info_parts infoLine
  go_enter Tryz.func122, Tryz.ntmps122
  go_wp2_with (with_reducible show wpList _ _ _ (Oper.mk _ (Op.makeSlice _ _ _) _ _ _ _ :: _) _ _; refine wpList_make_full w rfl _ _ _ rfl w.heap.size 63 i0 _ 2 Tryz.underlying42 hi hz0 hz1 .i64 .i64 (len : Int) (len : Int) len ?_ ?_ rfl rfl (by rw [hz2]; omega) (by unfold maxLen; omega) (Nat.le_refl _) ?_)
  · rfl
  · rfl
  intro w1 own1 gr1
  have b1 := below_madeR gr1
  have hgt1 := (own1.lt w.heap.size rfl).2
  obtain ⟨zs, own1, hmadeL⟩ : ∃ zs : List Value, w1.ownsRow w.heap.size 63 2 (.slice (some ⟨w.heap.size, 0, none⟩) len len) len zs ∧ zs.length = len * 2 := ⟨_, own1, own1.1⟩
  clear gr1
  go_wp2
  go_loopw [4] (fun i wr => ∃ (j : Nat) (done : List LAt), j ≤ len ∧ i = .int .i64 (j : Int) ∧ done.map LAt.plain = (ls.take j).map LAt.plain ∧ wr.ownsRow w.heap.size 63 2 (.slice (some ⟨w.heap.size, 0, none⟩) len len) len (done.flatMap LAt.cells ++ zs.drop (j * 2)) ∧ (∀ x ∈ done, wr.ownsRow (w.heap.size + 1) 9 1 x.v x.ws.length (strs x.ws)) ∧ Below w.heap.size w wr ∧ w.heap.size < wr.heap.size) (fun i _ => len - (intOf i).toNat)
  case atStart => exact ⟨0, [], by omega, rfl, by simp, by simpa using own1, by simp, b1, hgt1⟩
  case round =>
    obtain ⟨j, done, hj, rfl, hdn, hown, hdw, bw, hgt⟩ := hrel
    have hdl : done.length = j := by have := congrArg List.length hdn; simp at this; have := en.out; omega
    by_cases hlt : j < len
    · obtain ⟨D, x, T, e0, hD⟩ := split1 ls j (by have := en.out; omega)
      have h5 := h.below bw
      have hxm : x ∈ ls := by rw [e0]; simp
      have h6 := h5
      rw [e0] at h6
      obtain ⟨g, off, rfl, c1, c2⟩ := h6.1.line
      obtain ⟨ax, cx, e1⟩ := HasRow.form (h5.2 x hxm)
      have HX := toLine_any (h5.2 x hxm) (hs.2 x hxm)
      rw [hD] at c1 c2
      rw [e1] at c2 HX
      have hstep := hid_in (show ∀ v', (done ++ [⟨x.key, v', x.ws⟩] : List LAt).map LAt.plain = (ls.take (j + 1)).map LAt.plain from by
        intro v'
        rw [List.map_append, hdn, e0, ← hD, take_front, take_one, List.map_append]; rfl)
      have hcell := hid_in (show ∀ v', (done.flatMap LAt.cells ++ [.string x.key, v']) ++ zs.drop (j * 2 + 2) = (done ++ [⟨x.key, v', x.ws⟩] : List LAt).flatMap LAt.cells ++ zs.drop ((j + 1) * 2) from by
        intro v'
        rw [List.flatMap_append, List.flatMap_singleton, show (j + 1) * 2 = j * 2 + 2 by omega]; rfl)
      have hsplit := hid_in (show done.flatMap LAt.cells ++ zs.drop (j * 2) = done.flatMap LAt.cells ++ (zs.drop (j * 2)).take 2 ++ zs.drop (j * 2 + 2) from by
        rw [List.append_assoc, ← List.drop_drop, List.take_append_drop])
      have hAl := hid_in (show (done.flatMap LAt.cells).length = j * 2 from by rw [rowF_len _ 2 LAt.len, hdl])
      have hBl := hid_in (show ((zs.drop (j * 2)).take 2).length = 2 from by simp; omega)
      have hT := fun v' W (hW : W.ownsRow w.heap.size 63 2 (.slice (some ⟨w.heap.size, 0, none⟩) len len) len (done.flatMap LAt.cells ++ zs.drop (j * 2))) => own_setCells [.string x.key, v'] (j * 2) W _ hW
      have hdw' := hid_in hdw
      have hown' := hid_in hown
      have hB0 : (0 : Int) ≤ (j : Int) := by omega
      have hB1 : (j : Int) < (len : Int) := by omega
      clear h h5 h6 hs hdn own1 b1 hmadeL hown hdw e0 e1 hD hxm
      go_wp2_with (go_at_call 149; refine HX.mono ?_)
      rintro e w2 ⟨v', rfl, o2, b2⟩
      have hown2 := own_below hown'.out b2
      obtain ⟨av, cv, rfl, _⟩ := own_form o2
      obtain ⟨u0, k1⟩ := Option.isSome_iff_exists.1 (row_there hown2 (j * 2) 2 (by omega) 0 (by omega)).1
      have k2 := (hown2.frozenAt (j * 2))
      have hs0 := (hown2.stored (j * 2) (.string x.key)).1
      obtain ⟨u1, k3⟩ := Option.isSome_iff_exists.1 (row_there hs0 (j * 2) 2 (by omega) 1 (by omega)).1
      have k4 := hs0.frozenAt (j * 2 + 1)
      rw [Nat.add_zero] at k1
      obtain ⟨ys, y1, y2, y3⟩ := hT (.slice av x.ws.length cv) w2 hown2
      have hy := y3 _ _ _ hsplit.out hAl.out hBl.out
      rw [hy, hcell.out] at y1
      have hdw2 := hid_in (show ∀ y ∈ (done ++ [⟨x.key, .slice av x.ws.length cv, x.ws⟩] : List LAt), (w2.setCells w.heap.size (j * 2) [.string x.key, .slice av x.ws.length cv]).ownsRow (w.heap.size + 1) 9 1 y.v y.ws.length (strs y.ws) from by
        intro y hy
        rcases List.mem_append.1 hy with hy | hy
        · exact own_other (own_below (hdw'.out y hy) b2) y2 (by omega)
        · rw [List.mem_singleton.1 hy]
          exact own_other (own_mono o2 (by omega)) y2 (by omega))
      have b3 := below_grownR (bw.trans (b2.mono bw.size)) y2
      have hgt3 : w.heap.size < (w2.setCells w.heap.size (j * 2) [.string x.key, .slice av x.ws.length cv]).heap.size := by have := b2.size; have := y2.size; omega
      have Y1 := hid_in y1
      have HST := hid_in (hstep.out (.slice av x.ws.length cv))
      clear hT y1 y2 y3 hy hsplit hcell hAl hBl hdw' hown' hown2 HX c1 c2 o2 hstep hs0
      go_wp2
      go_roundw
      case rel => exact ⟨j + 1, _, by omega, by go_num, HST.out, Y1.out, hdw2.out, b3, hgt3⟩
      case measure => simp [intOf]; omega
    · obtain rfl : j = len := by omega
      have hls : ls.take j = ls := by rw [← en.out, List.take_length]
      rw [hls] at hdn
      have hz : zs.drop (j * 2) = [] := List.drop_eq_nil_of_le (by omega)
      rw [hz, List.append_nil] at hown
      have HO := hid_in (show LinesOwn w.heap.size wr (.slice (some ⟨w.heap.size, 0, none⟩) j j) done from ⟨by rw [hdl]; exact hown, fun x hx => own_mono (hdw x hx) (by omega)⟩)
      have HD := hid_in hdn
      clear h hs hown hdw hdn own1
      go_wp2
      go_ret
      exact ⟨_, done, rfl, HD.out, HO.out, bw⟩
end Go.Proofs.YtlaejmehgaeobabGreatDoor
