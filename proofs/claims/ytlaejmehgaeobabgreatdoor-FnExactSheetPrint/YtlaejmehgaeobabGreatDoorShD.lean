import Derived.Test.YtlaejmehgaeobabGreatDoorShC
namespace Go.Proofs.YtlaejmehgaeobabGreatDoor
open Go.RowKit
/-- What lines keep where a block ahead of them turns. -/
theorem LinesOwn.setCell {B : Nat} {w : World} {v : Value} {ls : List LAt} (h : LinesOwn B w v ls) (p : Addr) (hp : p.block < B) (u : Value) : LinesOwn B (w.setCell p u) v ls := ⟨own_setCell h.1 p hp u, fun x hx => own_setCell (h.2 x hx) p hp u⟩
theorem LinesOwn.setRow {B : Nat} {w : World} {v : Value} {ls : List LAt} (h : LinesOwn B w v ls) (g : Nat) (hg : g < B) (cs : Array Value) : LinesOwn B (w.setRow g cs) v ls := ⟨own_setRow h.1 g hg cs, fun x hx => own_setRow (h.2 x hx) g hg cs⟩
theorem LinesOwn.other {B g : Nat} {w w' : World} {v : Value} {ls : List LAt} (h : LinesOwn B w v ls) (hg : w.grownBy w' (some g)) (hb : g < B) : LinesOwn B w' v ls := ⟨own_other h.1 hg hb, fun x hx => own_other (h.2 x hx) hg hb⟩
set_option maxHeartbeats 2000000 in
set_option maxRecDepth 100000 in
theorem toBlock_any {x : BAt} {w : World} (h : BlockIn w x) (hs : LinesSmall x.ls) : Calls Tryz.prog 72 #[.agg #[.string x.kind, .string x.name, x.v]] w fun e w' => ∃ v ls', e = .returned (.agg #[.string x.kind, .string x.name, v]) ∧ ls'.map LAt.plain = x.ls.map LAt.plain ∧ LinesOwn w.heap.size w' v ls' ∧ Below w.heap.size w w' := by
  obtain ⟨ax, cx, e1⟩ := h.1.form
  unfold BlockIn at h
  rw [e1] at h ⊢
  have b0 : Below w.heap.size w (((w.alloc (.cells #[.string x.kind, .string x.name, .slice ax x.ls.length cx] 129)).alloc (.cells #[.string ⟨#[]⟩, .string ⟨#[]⟩, .slice none 0 0] 44)).alloc (.cells #[.string x.kind, .string x.name, .slice none 0 0] 44)) := (((Below.refl _ _).alloc (Nat.le_refl _) _).alloc (by simp) _).alloc (by simp; omega) _
  obtain ⟨hsz, -, hz1, hz2⟩ := alloc3 (w := w) (o1 := .cells #[.string x.kind, .string x.name, .slice ax x.ls.length cx] 129) (o2 := .cells #[.string ⟨#[]⟩, .string ⟨#[]⟩, .slice none 0 0] 44) (o3 := .cells #[.string x.kind, .string x.name, .slice none 0 0] 44)
  have HW := toLines_any (h.below b0) hs
  generalize x.ls.map LAt.plain = PL at *
  clear h e1 hs
  generalize x.ls.length = nx at *
  generalize x.kind = xk at *
  generalize x.name = xn at *
  go_enter Tryz.func72, Tryz.ntmps72
  go_wp2_with (go_at_call 122; refine HW.mono ?_)
  rintro e w2 ⟨v, ls', rfl, hpl, o2, b2⟩
  rw [hsz] at o2 b2
  have z1 := (b2.block (w.heap.size + 1) (by omega)).trans hz1
  have z2 := (b2.block (w.heap.size + 2) (by omega)).trans hz2
  have hw2 : w.heap.size + 3 ≤ w2.heap.size := by have := b2.size; rw [hsz] at this; exact this
  have b02 := b0.trans (b2.mono (by omega))
  have c0 := cell_of_block z2 0
  have c1 := cell_of_block z2 1
  have c2 := cell_of_block z2 2
  have f1 := frozen_of_block z2 2
  simp only [List.getElem?_toArray, List.getElem?_cons_zero, List.getElem?_cons_succ] at c0 c1 c2
  obtain ⟨av, cv, rfl, _⟩ := own_form o2.1
  have HPL := hid_in hpl
  clear hpl
  have hO2 := hid_in o2
  clear o2
  generalize ls'.length = nv at *
  have z1' : (w2.setCell ⟨w.heap.size + 2, 2, none⟩ (.slice av nv cv)).heap[w.heap.size + 1]? = some (.cells #[.string ⟨#[]⟩, .string ⟨#[]⟩, .slice none 0 0] 44 (0, 0)) := by rw [Below.heap_setCell _ _ _ _ (by simp)]; exact z1
  clear HW hz1 hz2 hsz
  go_wp2_with (with_reducible show wpList _ _ _ (Oper.mk _ (Op.store _ (Operand.tmp 2) _) _ _ _ _ :: _) _ _; refine wpList_store_row rfl 44 _ _ rfl (w.heap.size + 1) #[.string xk, .string xn, .slice av nv cv] ?_ ?_ 44 _ z1' ?_ ?_ ?_ ?_)
  all_goals (first | rfl | kernel_rfl | skip)
  have z5 : ((w2.setCell ⟨w.heap.size + 2, 2, none⟩ (.slice av nv cv)).setRow (w.heap.size + 1) #[.string xk, .string xn, .slice av nv cv]).heap[w.heap.size + 1]? = some (.cells #[.string xk, .string xn, .slice av nv cv] 44 (0, 0)) := setRow_heap _ _ _ _ _ _ z1'
  have o5 := ((hO2.out.setCell ⟨w.heap.size + 2, 2, none⟩ (by simp) (.slice av nv cv)).setRow (w.heap.size + 1) (by omega) #[.string xk, .string xn, .slice av nv cv]).mono (show w.heap.size ≤ w.heap.size + 3 by omega)
  have b5 : Below w.heap.size w ((w2.setCell ⟨w.heap.size + 2, 2, none⟩ (.slice av nv cv)).setRow (w.heap.size + 1) #[.string xk, .string xn, .slice av nv cv]) :=
    ⟨b02.os, b02.tape, b02.output, by rw [setRow_size]; simp; omega, fun k hk => by rw [setRow_other _ _ _ _ (by omega), Below.heap_setCell _ _ _ _ (by simp; omega)]; exact b02.block k hk⟩
  have y0 := cell_of_block z5 0
  have y1 := cell_of_block z5 1
  have y2 := cell_of_block z5 2
  simp only [List.getElem?_toArray, List.getElem?_cons_zero, List.getElem?_cons_succ] at y0 y1 y2
  rw [show w.heap.size + 1 + 1 = w.heap.size + 2 from rfl]
  generalize (w2.setCell ⟨w.heap.size + 2, 2, none⟩ (.slice av nv cv)).setRow (w.heap.size + 1) #[.string xk, .string xn, .slice av nv cv] = W at *
  exact bodyPost_ret (v := .agg #[.string xk, .string xn, .slice av nv cv]) (by simp [results, Tryz.results72, go_sem, y0, y1, y2]) rfl ⟨_, ls', rfl, HPL.out, o5, b5⟩
/-- Blocks that the call has made. -/
def BlocksOwn (B : Nat) (w : World) (v : Value) (bs : List BAt) : Prop := w.ownsRow B 44 3 v bs.length (bs.flatMap BAt.cells) ∧ ∀ x ∈ bs, LinesOwn B w x.v x.ls
theorem BlocksOwn.bin {B : Nat} {w : World} {v : Value} {bs : List BAt} (h : BlocksOwn B w v bs) : BlocksIn w v bs := ⟨own_has h.1, fun x hx => (h.2 x hx).lin⟩
theorem BlocksOwn.below {B : Nat} {w w' : World} {v : Value} {bs : List BAt} (h : BlocksOwn B w v bs) (hb : Below w.heap.size w w') : BlocksOwn B w' v bs := ⟨own_below h.1 hb, fun x hx => (h.2 x hx).below hb⟩
theorem BlocksOwn.mono {B B' : Nat} {w : World} {v : Value} {bs : List BAt} (h : BlocksOwn B w v bs) (hB : B' ≤ B) : BlocksOwn B' w v bs := ⟨own_mono h.1 hB, fun x hx => (h.2 x hx).mono hB⟩
theorem infoBlock : (Tryz.prog.info? 44).map (fun i => (i.zero, i.size, i.bytes)) = some (some (.agg #[.string ⟨#[]⟩, .string ⟨#[]⟩, .slice none 0 0]), 3, 56) := by kernel_rfl
set_option maxHeartbeats 2000000 in
set_option maxRecDepth 100000 in
theorem toBlocks_any {v : Value} {ls : List BAt} {w : World} (h : BlocksIn w v ls) (hs : BlocksSmall ls) : Calls Tryz.prog 34 #[v] w fun e w' => ∃ v' ls', e = .returned v' ∧ ls'.map BAt.plain = ls.map BAt.plain ∧ BlocksOwn w.heap.size w' v' ls' ∧ Below w.heap.size w w' := by
  obtain ⟨ao, cap, rfl⟩ := h.1.form
  have hl := hs.1
  generalize hn : ls.length = len at *
  have en := hid_in hn
  clear hn
  obtain ⟨i0, hi, hz0, hz1, hz2⟩ := info_parts infoBlock
  go_enter Tryz.func34, Tryz.ntmps34
  go_wp2_with (with_reducible show wpList _ _ _ (Oper.mk _ (Op.makeSlice _ _ _) _ _ _ _ :: _) _ _; refine wpList_make_full w rfl _ _ _ rfl w.heap.size 44 i0 _ 3 Tryz.underlying22 hi hz0 hz1 .i64 .i64 (len : Int) (len : Int) len ?_ ?_ rfl rfl (by rw [hz2]; omega) (by unfold maxLen; omega) (Nat.le_refl _) ?_)
  · rfl
  · rfl
  intro w1 own1 gr1
  have b1 := below_madeR gr1
  have hgt1 := (own1.lt w.heap.size rfl).2
  obtain ⟨zs, own1, hmadeL⟩ : ∃ zs : List Value, w1.ownsRow w.heap.size 44 3 (.slice (some ⟨w.heap.size, 0, none⟩) len len) len zs ∧ zs.length = len * 3 := ⟨_, own1, own1.1⟩
  clear gr1
  go_wp2
  go_loopw [4] (fun i wr => ∃ (j : Nat) (done : List BAt), j ≤ len ∧ i = .int .i64 (j : Int) ∧ done.map BAt.plain = (ls.take j).map BAt.plain ∧ wr.ownsRow w.heap.size 44 3 (.slice (some ⟨w.heap.size, 0, none⟩) len len) len (done.flatMap BAt.cells ++ zs.drop (j * 3)) ∧ (∀ x ∈ done, LinesOwn (w.heap.size + 1) wr x.v x.ls) ∧ Below w.heap.size w wr ∧ w.heap.size < wr.heap.size) (fun i _ => len - (intOf i).toNat)
  case atStart => exact ⟨0, [], by omega, rfl, by simp, by simpa using own1, by simp, b1, hgt1⟩
  case round =>
    obtain ⟨j, done, hj, rfl, hdn, hown, hdw, bw, hgt⟩ := hrel
    have hdl : done.length = j := by have := congrArg List.length hdn; simp at this; have := en.out; omega
    by_cases hlt : j < len
    · obtain ⟨D, x, T, e0, hD⟩ := split1 ls j (by have := en.out; omega)
      have h5 := h.below bw
      have hxm : x ∈ ls := by rw [e0]; simp
      have h6 := h5
      rw [e0] at h6
      obtain ⟨g, off, rfl, c1, c2, c3⟩ := h6.1.block
      obtain ⟨ax, cx, e1⟩ := (h5.2 x hxm).1.form
      have HX := toBlock_any (h5.2 x hxm) (hs.2 x hxm).2
      rw [hD] at c1 c2 c3
      rw [e1] at c3 HX
      have hstep := hid_in (show ∀ v' ls', ls'.map LAt.plain = x.ls.map LAt.plain → (done ++ [⟨x.kind, x.name, v', ls'⟩] : List BAt).map BAt.plain = (ls.take (j + 1)).map BAt.plain from by
        intro v' ls' hpl
        rw [List.map_append, hdn, e0, ← hD, take_front, take_one, List.map_append, List.map_singleton, List.map_singleton, show BAt.plain ⟨x.kind, x.name, v', ls'⟩ = x.plain from by unfold BAt.plain; rw [hpl]])
      have hcell := hid_in (show ∀ v' ls', (done.flatMap BAt.cells ++ [.string x.kind, .string x.name, v']) ++ zs.drop (j * 3 + 3) = (done ++ [⟨x.kind, x.name, v', ls'⟩] : List BAt).flatMap BAt.cells ++ zs.drop ((j + 1) * 3) from by
        intro v' ls'
        rw [List.flatMap_append, List.flatMap_singleton, show (j + 1) * 3 = j * 3 + 3 by omega]; rfl)
      have hsplit := hid_in (show done.flatMap BAt.cells ++ zs.drop (j * 3) = done.flatMap BAt.cells ++ (zs.drop (j * 3)).take 3 ++ zs.drop (j * 3 + 3) from by
        rw [List.append_assoc, ← List.drop_drop, List.take_append_drop])
      have hAl := hid_in (show (done.flatMap BAt.cells).length = j * 3 from by rw [rowF_len _ 3 BAt.len, hdl])
      have hBl := hid_in (show ((zs.drop (j * 3)).take 3).length = 3 from by simp; omega)
      have hT := fun v' W (hW : W.ownsRow w.heap.size 44 3 (.slice (some ⟨w.heap.size, 0, none⟩) len len) len (done.flatMap BAt.cells ++ zs.drop (j * 3))) => own_setCells [.string x.kind, .string x.name, v'] (j * 3) W _ hW
      have hdw' := hid_in hdw
      have hown' := hid_in hown
      have hB0 : (0 : Int) ≤ (j : Int) := by omega
      have hB1 : (j : Int) < (len : Int) := by omega
      clear h h5 h6 hs hdn own1 b1 hmadeL hown hdw e0 e1 hD hxm
      go_wp2_with (go_at_call 72; refine HX.mono ?_)
      rintro e w2 ⟨v', ls', rfl, hpl, o2, b2⟩
      have hown2 := own_below hown'.out b2
      obtain ⟨av, cv, rfl, _⟩ := own_form o2.1
      obtain ⟨u0, k1⟩ := Option.isSome_iff_exists.1 (row_there hown2 (j * 3) 3 (by omega) 0 (by omega)).1
      have k2 := (hown2.frozenAt (j * 3))
      have hs0 := (hown2.stored (j * 3) (.string x.kind)).1
      obtain ⟨u1, k3⟩ := Option.isSome_iff_exists.1 (row_there hs0 (j * 3) 3 (by omega) 1 (by omega)).1
      have k4 := hs0.frozenAt (j * 3 + 1)
      have hs1 := (hs0.stored (j * 3 + 1) (.string x.name)).1
      obtain ⟨u2, k5⟩ := Option.isSome_iff_exists.1 (row_there hs1 (j * 3) 3 (by omega) 2 (by omega)).1
      have k6 := hs1.frozenAt (j * 3 + 2)
      rw [Nat.add_zero] at k1
      obtain ⟨ys, y1, y2, y3⟩ := hT (.slice av ls'.length cv) w2 hown2
      have hy := y3 _ _ _ hsplit.out hAl.out hBl.out
      rw [hy, hcell.out _ ls'] at y1
      have hdw2 := hid_in (show ∀ y ∈ (done ++ [⟨x.kind, x.name, .slice av ls'.length cv, ls'⟩] : List BAt), LinesOwn (w.heap.size + 1) (w2.setCells w.heap.size (j * 3) [.string x.kind, .string x.name, .slice av ls'.length cv]) y.v y.ls from by
        intro y hy
        rcases List.mem_append.1 hy with hy | hy
        · exact ((hdw'.out y hy).below b2).other y2 (by omega)
        · rw [List.mem_singleton.1 hy]
          exact (o2.mono (by omega)).other y2 (by omega))
      have b3 := below_grownR (bw.trans (b2.mono bw.size)) y2
      have hgt3 : w.heap.size < (w2.setCells w.heap.size (j * 3) [.string x.kind, .string x.name, .slice av ls'.length cv]).heap.size := by have := b2.size; have := y2.size; omega
      have Y1 := hid_in y1
      have HST := hid_in (hstep.out (.slice av ls'.length cv) ls' hpl)
      clear hT y1 y2 y3 hy hsplit hcell hAl hBl hdw' hown' hown2 HX c1 c2 c3 o2 hstep hs0 hs1 hpl
      go_wp2
      go_roundw
      case rel => exact ⟨j + 1, _, by omega, by go_num, HST.out, Y1.out, hdw2.out, b3, hgt3⟩
      case measure => simp [intOf]; omega
    · obtain rfl : j = len := by omega
      have hls : ls.take j = ls := by rw [← en.out, List.take_length]
      rw [hls] at hdn
      have hz : zs.drop (j * 3) = [] := List.drop_eq_nil_of_le (by omega)
      rw [hz, List.append_nil] at hown
      have HO := hid_in (show BlocksOwn w.heap.size wr (.slice (some ⟨w.heap.size, 0, none⟩) j j) done from ⟨by rw [hdl]; exact hown, fun x hx => (hdw x hx).mono (by omega)⟩)
      have HD := hid_in hdn
      clear h hs hown hdw hdn own1
      go_wp2
      go_ret
      exact ⟨_, done, rfl, HD.out, HO.out, bw⟩
end Go.Proofs.YtlaejmehgaeobabGreatDoor
