import Derived.Test.YtpdahhnjhggocabGreatDoorBun23
import Derived.Test.YtpdahhnjhggocabGreatDoorBun18
import Derived.Test.YtpdahhnjhggocabGreatDoorBun13
import Derived.Shelf.Abstract
namespace Go.Proofs.YtpdahhnjhggocabGreatDoor
open Go.RowKit
set_option maxHeartbeats 2000000 in
set_option maxRecDepth 100000 in
/-- The filter at lines, whatever is asked of each. -/
theorem keepLines_any {F : FuncId} {q v : Value} {ls : List LAt} (p : LAt → Bool) {w : World} (h : LinesIn w v ls) (hl : ls.length ≤ 1048576) (hF : ∀ x ∈ ls, ∀ W, Below w.heap.size w W → Calls Tryz.prog F #[.agg #[.string x.key, x.v], q] W fun e w' => e = .returned (.bool (p x)) ∧ Below W.heap.size W w') (hE : ∀ args w, (callFunc F args).run Tryz.prog w = .ok (.enter F args) w) :
    Calls Tryz.prog 145 #[v, .func (.func F) #[] #[q]] w fun e w' => ∃ v', e = .returned v' ∧ w'.ownsRow w.heap.size 82 2 v' (ls.filter p).length ((ls.filter p).flatMap LAt.cells) ∧ Below w.heap.size w w' := by
  obtain ⟨ao, cap, rfl⟩ := h.1.form
  generalize hn : ls.length = len at *
  have en := hid_in hn
  clear hn
  obtain ⟨i0, hi, hz0, hz1, hz2⟩ := info_parts infoLine
  go_enter Tryz.func145, Tryz.ntmps145
  go_wp2
  go_loopw [5, 10] (fun u i wr => ∃ (j : Nat) (done : List LAt), j ≤ len ∧ i = .int .i64 (j : Int) ∧ done = (ls.take j).filter p ∧ wr.ownsRow w.heap.size 82 2 u done.length (done.flatMap LAt.cells) ∧ Below w.heap.size w wr) (fun _ i _ => len - (intOf i).toNat)
  case atStart => exact ⟨0, [], by omega, rfl, by simp, World.ownsRow_nil _ _ _ _, Below.refl _ _⟩
  case round =>
    obtain ⟨j, done, hj, rfl, hdn, hm, bw⟩ := hrel
    obtain ⟨qa, qc, rfl, _⟩ := own_form hm
    have hdl : done.length ≤ j := by rw [hdn]; exact Nat.le_trans (List.length_filter_le _ _) (by simp; omega)
    by_cases hlt : j < len
    · obtain ⟨D, x, T, e0, hD⟩ := split1 ls j (by have := en.out; omega)
      have h5 := h.below bw
      have hxm : x ∈ ls := by rw [e0]; simp
      have h6 := h5
      rw [e0] at h6
      obtain ⟨g, off, rfl, c1, c2⟩ := h6.1.line
      obtain ⟨ax, cx, e1⟩ := HasRow.form (h5.2 x hxm)
      have hst := hid_in (show (ls.take (j + 1)).filter p = done ++ [x].filter p from by rw [hdn, e0, ← hD, take_front, take_one, List.filter_append])
      have bx := (Below.refl wr.heap.size wr).alloc (Nat.le_refl _) (.cells #[.string x.key, .slice ax x.ws.length cx] 82)
      have k0 := one_box (w := wr) (cs := #[.string x.key, .slice ax x.ws.length cx]) (T := 82) 0
      have k1 := one_box (w := wr) (cs := #[.string x.key, .slice ax x.ws.length cx]) (T := 82) 1
      simp only [List.getElem?_toArray, List.getElem?_cons_zero, List.getElem?_cons_succ] at k0 k1
      have HC := hF x hxm _ (bw.trans (bx.mono bw.size))
      rw [e1] at HC c2
      rw [hD] at c1 c2
      have hB0 : (0 : Int) ≤ (j : Int) := by omega
      have hB1 : (j : Int) < (len : Int) := by omega
      have hcells := hid_in (show (LAt.cells x) = [.string x.key, .slice ax x.ws.length cx] from by unfold LAt.cells; rw [e1])
      have hm' := hid_in hm
      have hszw := bw.size
      have hbase := hid_in (show ∀ k, (Value.slice qa done.length qc).ownBlock = some k → w.heap.size ≤ k from fun k hk => (hm.lt k hk).1)
      cases hp : p x
      · have hst' := hid_in (show (ls.take (j + 1)).filter p = done from by rw [hst.out]; simp [hp])
        rw [hp] at HC
        clear h h5 h6 hF hdn hm e0 e1 hD hxm hst hcells hp
        generalize x.key = xk at *
        generalize x.ws.length = nx at *
        go_wp2_with (go_at_fn F; refine HC.mono ?_; rintro e w2 ⟨rfl, b2⟩)
        have b3 := bx.trans (b2.mono bx.size)
        have hm3 := own_below hm'.out b3
        clear HC
        go_roundw
        case rel => exact ⟨j + 1, done, by omega, by go_num, hst'.out.symm, hm3, bw.trans (b3.mono hszw)⟩
        case measure => simp [intOf]; omega
      · have hst' := hid_in (show (ls.take (j + 1)).filter p = done ++ [x] from by rw [hst.out]; simp [hp])
        rw [hp] at HC
        have hone := lcells_one (ls := [x]) (fun y hy => by rw [List.mem_singleton.1 hy]; exact ⟨_, _, _, e1⟩)
        rw [List.flatMap_singleton, hcells.out] at hone
        clear h h5 h6 hF hdn hm e0 e1 hD hxm hst hp
        go_wp2_with (go_at_fn F; refine HC.mono ?_)
        first | rintro e w2 rfl b2 | rintro e w2 ⟨rfl, b2⟩
        have b3 := bx.trans (b2.mono (by simp))
        have m0 := (b2.cell (p := ⟨wr.heap.size, 0, none⟩) (by simp)).trans k0
        have m1 := (b2.cell (p := ⟨wr.heap.size, 1, none⟩) (by simp)).trans k1
        have hm3 := (own_below hm'.out b3).alloc (.cells #[.string x.key, .slice ax x.ws.length cx] 82)
        have b4 := b3.alloc b3.size (.cells #[.string x.key, .slice ax x.ws.length cx] 82)
        have hrow := lit_has w2 #[.string x.key, .slice ax x.ws.length cx] 82 2 rfl
        have hz3 := b3.size
        clear HC k0 k1
        go_wp2_with (at_builtin; refine wpList_append_has (by rfl) _ _ 41 (by rfl) w.heap.size 82 i0 _ 2 40 Tryz.underlying41 hi hz0 hz1 hz2 rfl (by decide) _ done.length _ (by rfl) hm3 _ 1 _ (by rfl) hrow hone ?c3 ?c4 (Nat.le_trans hszw (Nat.le_trans hz3 (by simp))) ?_)
        case c3 => unfold maxLen; omega
        case c4 => omega
        intro ao' cap' w5 hown5 hg5 _
        have hB5 := (bw.trans (b4.mono hszw)).grown hg5 (by simp; omega) hbase.out
        have HO := hid_in (show w5.ownsRow w.heap.size 82 2 (.slice ao' (done.length + 1) cap') (done ++ [x]).length ((done ++ [x]).flatMap LAt.cells) from by
          rw [List.flatMap_append, List.flatMap_singleton, hcells.out, List.length_append]; exact hown5)
        clear hm3 hrow hone hown5 hg5 m0 m1 hbase hm'
        go_wp2
        go_roundw
        case rel => exact ⟨j + 1, done ++ [x], by omega, by go_num, hst'.out.symm, HO.out, hB5⟩
        case measure => simp [intOf]; omega
    · obtain rfl : j = len := by omega
      have hls : ls.take j = ls := by rw [← en.out, List.take_length]
      have HO := hid_in (show wr.ownsRow w.heap.size 82 2 (.slice qa done.length qc) (ls.filter p).length ((ls.filter p).flatMap LAt.cells) from by rw [← hls, ← hdn]; exact hm)
      clear h hF hm hdn
      go_wp2
      go_ret
      exact ⟨_, rfl, HO.out, bw⟩
end Go.Proofs.YtpdahhnjhggocabGreatDoor
namespace Go.Proofs.YtpdahhnjhggocabGreatDoor
open Go.RowKit
set_option maxHeartbeats 1000000 in
theorem ofKey_any (x : LAt) (rk : ByteArray) (g : Nat) {w : World} (hx : ∃ a n c, x.v = .slice a n c) (hg : w.cell? ⟨g, 0, none⟩ = some (.string rk)) : Calls Tryz.prog 213 #[.agg #[.string x.key, x.v], .pointer (some ⟨g, 0, none⟩)] w fun e w' => e = .returned (.bool (x.key.toList == rk.toList)) ∧ Below w.heap.size w w' := by
  obtain ⟨a, n, c, e1⟩ := hx
  rw [e1]
  have G := (Below.refl w.heap.size w).alloc (Nat.le_refl _) (.cells #[.string x.key, .slice a n c] 82)
  have hg' := (G.cell (World.block_lt_of_cell? w _ hg)).trans hg
  have k0 := one_box (w := w) (cs := #[.string x.key, .slice a n c]) (T := 82) 0
  simp only [List.getElem?_toArray, List.getElem?_cons_zero] at k0
  generalize x.key = xk at *
  go_enter Tryz.func213, Tryz.ntmps213
  go_wp2
  go_ret
  exact ⟨rfl, G⟩
set_option maxHeartbeats 1000000 in
set_option maxRecDepth 100000 in
theorem defaultLine_any (rk : ByteArray) (va vd : Value) (many : Bool) {w : World} (hva : ∃ a n c, va = .slice a n c) (hvd : ∃ a n c, vd = .slice a n c) : Calls Tryz.prog 143 #[.agg #[.string rk, va, .bool many, vd]] w fun e w' => e = .returned (.agg #[.string rk, vd]) ∧ Below w.heap.size w w' := by
  obtain ⟨a, n, c, rfl⟩ := hva
  obtain ⟨a', n', c', rfl⟩ := hvd
  have hc := two_boxes (w := w) (cs := #[.string rk, .slice a n c, .bool many, .slice a' n' c']) (ds := #[.string ⟨#[]⟩, .slice none 0 0]) (T := 105) (U := 82)
  have c0 := hc.1 0
  have c3 := hc.1 3
  simp only [List.getElem?_toArray, List.getElem?_cons_zero, List.getElem?_cons_succ] at c0 c3
  have b1 : Below w.heap.size w ((w.alloc (.cells #[.string rk, .slice a n c, .bool many, .slice a' n' c'] 105)).alloc (.cells #[.string ⟨#[]⟩, .slice none 0 0] 82)) := ((Below.refl _ _).alloc (Nat.le_refl _) _).alloc (by simp) _
  have hz := alloc_here (w.alloc (.cells #[.string rk, .slice a n c, .bool many, .slice a' n' c'] 105)) (.cells #[.string ⟨#[]⟩, .slice none 0 0] 82)
  simp only [World.size_alloc] at hz
  clear hc
  go_enter Tryz.func143, Tryz.ntmps143
  go_wp2_with (with_reducible show wpList _ _ _ (Oper.mk _ (Op.store _ (Operand.tmp 2) _) _ _ _ _ :: _) _ _; refine wpList_store_row rfl 82 _ _ rfl (w.heap.size + 1) #[.string rk, .slice a' n' c'] ?_ ?_ 82 _ hz ?_ ?_ ?_ ?_)
  all_goals (first | rfl | kernel_rfl | skip)
  have hsz := b1.size
  have z5 : (World.setRow ((w.alloc (.cells #[.string rk, .slice a n c, .bool many, .slice a' n' c'] 105)).alloc (.cells #[.string ⟨#[]⟩, .slice none 0 0] 82)) (w.heap.size + 1) #[.string rk, .slice a' n' c']).heap[w.heap.size + 1]? = some (.cells #[.string rk, .slice a' n' c'] 82 (0, 0)) := setRow_heap _ _ _ _ _ _ hz
  have b5 : Below w.heap.size w (World.setRow ((w.alloc (.cells #[.string rk, .slice a n c, .bool many, .slice a' n' c'] 105)).alloc (.cells #[.string ⟨#[]⟩, .slice none 0 0] 82)) (w.heap.size + 1) #[.string rk, .slice a' n' c']) :=
    ⟨b1.os, b1.tape, b1.output, by rw [setRow_size]; exact hsz, fun k hk => by rw [setRow_other _ _ _ _ (by omega)]; exact b1.block k hk⟩
  have y0 := cell_of_block z5 0
  have y1 := cell_of_block z5 1
  simp only [List.getElem?_toArray, List.getElem?_cons_zero, List.getElem?_cons_succ] at y0 y1
  generalize World.setRow _ _ _ = W at b5 y0 y1 z5 ⊢
  exact bodyPost_ret (v := .agg #[.string rk, .slice a' n' c']) (by simp [results, Tryz.results143, go_sem, y0, y1]) rfl ⟨rfl, b5⟩
/-- What a filter by a key leaves. -/
def KeptPost (fl : List LAt) (w : World) (e : Ending) (w' : World) : Prop := ∃ v', e = .returned v' ∧ w'.ownsRow w.heap.size 82 2 v' fl.length (fl.flatMap LAt.cells) ∧ Below w.heap.size w w'
def withKey (ls : List LAt) (k : ByteArray) : List LAt := ls.filter fun x => x.key.toList == k.toList
theorem withKey_plain (ls : List LAt) (k : ByteArray) : (withKey ls k).map LAt.plain = ofK (ls.map LAt.plain) k := by
  unfold ofK withKey; rw [List.filter_map]; rfl
set_option maxHeartbeats 1000000 in
set_option maxRecDepth 100000 in
theorem linesWithKey_any {v : Value} {ls : List LAt} (rk : ByteArray) {w : World} (h : LinesIn w v ls) (hl : ls.length ≤ 1048576) : Calls Tryz.prog 149 #[v, .string rk] w fun e w' => KeptPost (withKey ls rk) w e w' := by
  have B0 := (Below.refl w.heap.size w).alloc (Nat.le_refl _) (.cells #[.string rk] 9)
  have d0 := one_box (w := w) (cs := #[.string rk]) (T := 9) 0
  simp only [List.getElem?_toArray, List.getElem?_cons_zero] at d0
  have HK := keepLines_any (F := 213) (q := .pointer (some ⟨w.heap.size, 0, none⟩)) (fun x => x.key.toList == rk.toList) (h.below B0) hl (fun x hx W hW => ofKey_any x rk w.heap.size (by obtain ⟨a, c, e⟩ := HasRow.form (h.2 x hx); exact ⟨a, _, c, e⟩) ((hW.cell (World.block_lt_of_cell? _ _ d0)).trans d0)) (enters_of Tryz.func213 (by kernel_rfl) rfl)
  obtain ⟨ao, cap, rfl⟩ := h.1.form
  rw [show ls.filter (fun x => x.key.toList == rk.toList) = withKey ls rk from rfl] at HK
  generalize withKey ls rk = fl at *
  clear h hl d0
  generalize ls.length = n at *
  go_enter Tryz.func149, Tryz.ntmps149
  go_wp2_with (go_at_call 145; refine HK.mono ?_)
  first | rintro e w2 v2 rfl o2 b2 | rintro e w2 ⟨v2, rfl, o2, b2⟩
  have B2 := B0.trans (b2.mono B0.size)
  have O2 := hid_in (own_mono o2 B0.size)
  obtain ⟨a2, c2, rfl, _⟩ := own_form o2
  clear HK o2 b2
  go_wp2
  go_ret
  exact ⟨_, rfl, O2.out, B2⟩
set_option maxHeartbeats 2000000 in
set_option maxRecDepth 100000 in
theorem linesOf_any {b : BAt} {r : RAt} {w : World} (hb : BlockIn w b) (hs : LinesSmall b.ls) (hva : ∃ a n c, r.va = .slice a n c) (hvd : HasRow w r.vd r.ds.length 1 (strs r.ds)) (hds : r.ds.length ≤ 1048576 ∧ ∀ y ∈ r.ds, y.length ≤ 1048576) :
    Calls Tryz.prog 79 #[.agg #[.string b.kind, .string b.name, b.v], .agg #[.string r.key, r.va, .bool r.many, r.vd]] w fun e w' => ∃ v' ls', e = .returned v' ∧ ls'.map LAt.plain = tellL r.plain (b.ls.map LAt.plain) ∧ LinesIn w' v' ls' ∧ LinesSmall ls' ∧ Below w.heap.size w w' := by
  obtain ⟨bk, bn, bv, bl⟩ := b
  obtain ⟨rk, va, ns, many, vd, ds⟩ := r
  unfold BlockIn at hb
  simp only [RAt.plain] at *
  obtain ⟨ab, cb, rfl⟩ := hb.1.form
  obtain ⟨av, nv, cv, rfl⟩ := hva
  obtain ⟨ad, cd, rfl⟩ := hvd.form
  have hof : (bl.filter fun x => x.key.toList == rk.toList).map LAt.plain = ofK (bl.map LAt.plain) rk := by
    unfold ofK; rw [List.filter_map]; rfl
  have hc := two_boxes (w := w) (cs := #[.string bk, .string bn, .slice ab bl.length cb]) (ds := #[.string rk, .slice av nv cv, .bool many, .slice ad ds.length cd]) (T := 64) (U := 105)
  have c2 := hc.1 2
  have d0 := hc.2 0
  have d1 := hc.2 1
  have d2 := hc.2 2
  have d3 := hc.2 3
  simp only [List.getElem?_toArray, List.getElem?_cons_zero, List.getElem?_cons_succ] at c2 d0 d1 d2 d3
  have B0 : Below w.heap.size w ((w.alloc (.cells #[.string bk, .string bn, .slice ab bl.length cb] 64)).alloc (.cells #[.string rk, .slice av nv cv, .bool many, .slice ad ds.length cd] 105)) := ((Below.refl _ _).alloc (Nat.le_refl _) _).alloc (by simp) _
  have HK := linesWithKey_any rk (hb.below B0) hs.1
  have l1 := World.block_lt_of_cell? _ _ d0
  have HD := fun W => defaultLine_any rk (.slice av nv cv) (.slice ad ds.length cd) many (w := W) ⟨_, _, _, rfl⟩ ⟨_, _, _, rfl⟩
  unfold withKey at HK
  have hkeep := hid_in (show ∀ x ∈ bl.filter (fun x => x.key.toList == rk.toList), x ∈ bl from fun x hx => (List.mem_filter.1 hx).1)
  have hflen : (bl.filter (fun x => x.key.toList == rk.toList)).length ≤ 1048576 := Nat.le_trans (List.length_filter_le _ _) hs.1
  generalize bl.filter (fun x => x.key.toList == rk.toList) = fl at *
  have hgone := hid_in (show fl = [] → many = false → tellL (rk, ns, many, ds) (bl.map LAt.plain) = [⟨rk, ds⟩] from fun h hm => by
    unfold tellL
    rw [show ((rk, ns, many, ds) : Plain).1 = rk from rfl, ← hof, h]
    simp [defL, hm])
  have hstay := hid_in (show fl ≠ [] ∨ many = true → tellL (rk, ns, many, ds) (bl.map LAt.plain) = fl.map LAt.plain from fun h => by
    unfold tellL
    rw [show ((rk, ns, many, ds) : Plain).1 = rk from rfl, ← hof]
    rcases h with h | h
    · cases fl with
      | nil => exact absurd rfl h
      | cons a l => rfl
    · simp [h])
  generalize tellL (rk, ns, many, ds) (bl.map LAt.plain) = TL at *
  have hB2 := hid_in hb
  have hVD := hid_in hvd
  have hDS := hid_in hds
  have hSM := hid_in hs
  clear hb hvd hds hs hc hof
  generalize bl.length = nb at *
  generalize hnd : ds.length = nd at *
  have ednd := hid_in hnd
  clear hnd
  go_enter Tryz.func79, Tryz.ntmps79
  go_wp2_with (go_at_call 149; refine HK.mono ?_)
  first | rintro e w2 v2 rfl o2 b2 | rintro e w2 ⟨v2, rfl, o2, b2⟩
  obtain ⟨a2, c2', rfl, _⟩ := own_form o2
  have m0 := (b2.cell (p := ⟨w.heap.size + 1, 0, none⟩) (by simp)).trans d0
  have m1 := (b2.cell (p := ⟨w.heap.size + 1, 1, none⟩) (by simp)).trans d1
  have m2 := (b2.cell (p := ⟨w.heap.size + 1, 2, none⟩) (by simp)).trans d2
  have m3 := (b2.cell (p := ⟨w.heap.size + 1, 3, none⟩) (by simp)).trans d3
  have B2 := B0.trans (b2.mono (by first | omega | (simp; done) | (simp; omega)))
  have HIN := hid_in (show LinesIn w2 (.slice a2 fl.length c2') fl from ⟨own_has o2, fun x hx => (hB2.out.2 x (hkeep.out x hx)).below B2⟩)
  have HSM := hid_in (show LinesSmall fl from ⟨hflen, fun x hx => hSM.out.2 x (hkeep.out x hx)⟩)
  have hVD2 := hid_in (hVD.out.below B2)
  clear HK d0 d1 d2 d3 c2 o2 hSM hB2 hVD hkeep b2
  by_cases h0 : fl.length = 0
  · have hfe : fl = [] := List.length_eq_zero_iff.1 h0
    cases many
    · have HG := hid_in (hgone.out hfe rfl)
      rw [h0]
      clear hstay hgone HIN HSM hfe
      go_wp2_with (go_at_call 143; refine (HD _).mono ?_)
      first | rintro e w3 rfl b3 | rintro e w3 ⟨rfl, b3⟩
      have hV3 := (hVD2.out.below b3).below ((Below.refl w3.heap.size w3).alloc (Nat.le_refl _) (.cells #[.string rk, .slice ad nd cd] 82))
      have hrow := lit_has w3 #[.string rk, .slice ad nd cd] 82 2 rfl
      have B3 := (B2.trans (b3.mono B2.size)).alloc (by have := B2.size; have := b3.size; omega) (.cells #[.string rk, .slice ad nd cd] 82)
      have HL := hid_in (show LinesIn (w3.alloc (.cells #[.string rk, .slice ad nd cd] 82)) (.slice (some ⟨w3.heap.size, 0, none⟩) 1 1) [⟨rk, .slice ad nd cd, ds⟩] from ⟨hrow, fun x hx => by rw [List.mem_singleton.1 hx]; unfold LineIn; rw [ednd.out]; exact hV3⟩)
      clear HD hV3 hrow m0 m1 m2 m3
      go_wp2
      go_ret
      first | exact ⟨_, [⟨rk, .slice ad nd cd, ds⟩], rfl, HG.out.symm, HL.out, ⟨by simp, fun x hx => by rw [List.mem_singleton.1 hx]; exact ednd.out ▸ hDS.out⟩, B3⟩ | exact ⟨_, rfl, [⟨rk, .slice ad nd cd, ds⟩], HG.out.symm, HL.out, ⟨by simp, fun x hx => by rw [List.mem_singleton.1 hx]; exact ednd.out ▸ hDS.out⟩, B3⟩
    · have HG := hid_in (hstay.out (.inr rfl))
      clear hstay hgone hfe HD
      rw [h0] at HIN ⊢
      go_wp2
      go_ret
      first | exact ⟨_, fl, rfl, HG.out.symm, HIN.out, HSM.out, B2⟩ | exact ⟨_, rfl, fl, HG.out.symm, HIN.out, HSM.out, B2⟩
  · have HG := hid_in (hstay.out (.inl (fun e => h0 (by rw [e]; rfl))))
    have h0' : ((fl.length : Int) == 0) = false := by rw [beq_eq_false_iff_ne]; omega
    clear hstay hgone HD
    go_wp2
    go_ret
    first | exact ⟨_, fl, rfl, HG.out.symm, HIN.out, HSM.out, B2⟩ | exact ⟨_, rfl, fl, HG.out.symm, HIN.out, HSM.out, B2⟩
end Go.Proofs.YtpdahhnjhggocabGreatDoor
namespace Go.Proofs.YtpdahhnjhggocabGreatDoor
open Go.RowKit
theorem lines_none (B : Nat) (w : World) : LinesOwn B w (.slice none 0 0) [] := Mem.own1 (World.ownsRow_nil _ _ _ _)
theorem small_none : LinesSmall [] := ⟨by simp, by simp⟩
theorem rulesOf_twelve (kind : ByteArray) {L : List RAt} (h : L.map RAt.plain = rulesOf kind) : L.length ≤ 12 := by
  have := (rulesOf_like kind).1
  rw [← h, List.length_map] at this
  exact this
theorem defs_small {kind : ByteArray} {L : List RAt} (h : L.map RAt.plain = rulesOf kind) {r : RAt} (hr : r ∈ L) : r.ds.length ≤ 1048576 ∧ ∀ y ∈ r.ds, y.length ≤ 1048576 := by
  have hm : r.plain ∈ rulesOf kind := by rw [← h]; exact List.mem_map_of_mem hr
  have := rulesOf_smallD kind r.plain hm
  exact ⟨Nat.le_trans this.1 (by decide), fun y hy => Nat.le_trans (this.2 y hy) (by decide)⟩
set_option maxHeartbeats 4000000 in
set_option maxRecDepth 100000 in
theorem implGet_any {v : Value} {bs : List BAt} (kind name key : ByteArray) {w : World} (hbs : BlocksIn w v bs) (hsm : BlocksSmall bs) (hst : StdAt w) : Calls Tryz.prog 27 #[.agg #[v], .string kind, .string name, .string key] w fun e w' => ∃ v' ls' bl, e = .returned (.tuple #[v', .bool bl]) ∧ (bl, ls'.map LAt.plain) = getS (bs.map BAt.plain) kind name key ∧ LinesOwn w.heap.size w' v' ls' ∧ LinesSmall ls' ∧ Below w.heap.size w w' := by
  obtain ⟨ao, cap, rfl⟩ := hbs.1.form
  have g0 := (Below.refl w.heap.size w).alloc (Nat.le_refl _) (.cells #[.slice ao bs.length cap] 24)
  have k0 := one_box (w := w) (cs := #[.slice ao bs.length cap]) (T := 24) 0
  simp only [List.getElem?_toArray, List.getElem?_cons_zero] at k0
  have l0 := World.block_lt_of_cell? _ _ k0
  have HR := implRules_any kind (w.alloc (.cells #[.slice ao bs.length cap] 24))
  generalize hnb : bs.length = nb at *
  have enb := hid_in hnb
  clear hnb
  go_enter Tryz.func27, Tryz.ntmps27
  go_wp2_with (go_at_call 54; refine HR.mono ?_)
  rintro e w1 ⟨vr, L, rfl, hp, hr, b1⟩
  have hl := rulesOf_twelve kind hp
  have HF := findRule_any key hr hl
  obtain ⟨ra, rc, rfl, _⟩ := own_form (show w1.ownsRow _ 105 4 vr L.length (L.flatMap RAt.cells) from Mem.head hr)
  have k1 := (b1.cell (p := ⟨w.heap.size, 0, none⟩) l0).trans k0
  have g1 := g0.trans (b1.mono g0.size)
  clear HR
  go_wp2_with (go_at_call 77; refine HF.mono ?_)
  rintro e w2 ⟨b2, hf⟩
  have k2 := (b2.cell (p := ⟨w.heap.size, 0, none⟩) (World.block_lt_of_cell? w1 _ k1)).trans k1
  have g2 := g1.trans (b2.mono g1.size)
  rcases hf with ⟨hnone, rfl⟩ | ⟨r, hrm, hpick, rfl⟩
  · rw [hp] at hnone
    have HG := hid_in (getS_key (bs := bs.map BAt.plain) (name := name) hnone)
    clear HF hr hbs hsm hst hnone hp
    go_wp2
    go_ret2
    exact ⟨_, [], false, rfl, HG.out.symm, lines_none _ _, small_none, g2.alloc g2.size _⟩
  · rw [hp] at hpick
    have hrs := (show RulesIn w1 _ L from hr.rin).2 r hrm
    obtain ⟨D0, T0, hDT⟩ := List.append_of_mem hrm
    have hdef : HasRow w1 r.vd r.ds.length 1 (strs r.ds) := own_has (by have := hr.rm; rw [hDT] at this; exact this.defs)
    have hds := defs_small hp hrm
    obtain ⟨rk, rva, rns, rm, rvd, rds⟩ := r
    simp only [RAt.plain] at *
    obtain ⟨⟨av, nv, cv, rfl⟩, ⟨ad, nd, cd, rfl⟩⟩ := hrs
    have bR := (Below.refl w2.heap.size w2).alloc (Nat.le_refl _) (.cells #[.string rk, .slice av nv cv, .bool rm, .slice ad nd cd] 105)
    have g3 := g2.trans (bR.mono g2.size)
    have k3 := (bR.cell (p := ⟨w.heap.size, 0, none⟩) (World.block_lt_of_cell? w2 _ k2)).trans k2
    have q0 := one_box (w := w2) (cs := #[.string rk, .slice av nv cv, .bool rm, .slice ad nd cd]) (T := 105) 0
    have q1 := one_box (w := w2) (cs := #[.string rk, .slice av nv cv, .bool rm, .slice ad nd cd]) (T := 105) 1
    have q2 := one_box (w := w2) (cs := #[.string rk, .slice av nv cv, .bool rm, .slice ad nd cd]) (T := 105) 2
    have q3 := one_box (w := w2) (cs := #[.string rk, .slice av nv cv, .bool rm, .slice ad nd cd]) (T := 105) 3
    simp only [List.getElem?_toArray, List.getElem?_cons_zero, List.getElem?_cons_succ] at q0 q1 q2 q3
    have HV := implValid_any (enb.out ▸ hbs.below g3) hsm (hst.below g3)
    rw [enb.out] at HV
    have hdef2 := hid_in ((hdef.below b2).below bR)
    have hbs3 := hid_in hbs
    have hsm3 := hid_in hsm
    have hds3 := hid_in hds
    have hl0 := World.block_lt_of_cell? _ _ q0
    have hl3 := World.block_lt_of_cell? _ _ k3
    have hpk := hid_in hpick
    have hkey := hid_in (getS_bad (bs := bs.map BAt.plain) kind name key)
    clear HF hr hst hp hpick hdef hds hDT hrm hbs hsm k0 k1 k2 b1 b2 g0 g1
    go_wp2_with (go_at_call 64; refine HV.mono ?_)
    first | rintro e w4 rfl b4 | rintro e w4 ⟨rfl, b4⟩
    have b4' : Below (w2.alloc (.cells #[.string rk, .slice av nv cv, .bool rm, .slice ad nd cd] 105)).heap.size (w2.alloc (.cells #[.string rk, .slice av nv cv, .bool rm, .slice ad nd cd] 105)) w4 := by simpa using b4
    clear b4
    have k4 := (b4'.cell (p := ⟨w.heap.size, 0, none⟩) hl3).trans k3
    have p0 := (b4'.cell (p := ⟨w2.heap.size, 0, none⟩) hl0).trans q0
    have p1 := (b4'.cell (p := ⟨w2.heap.size, 1, none⟩) hl0).trans q1
    have p2 := (b4'.cell (p := ⟨w2.heap.size, 2, none⟩) hl0).trans q2
    have p3 := (b4'.cell (p := ⟨w2.heap.size, 3, none⟩) hl0).trans q3
    have g4 := g3.trans (b4'.mono g3.size)
    have hdef4 := hid_in (hdef2.out.below b4')
    clear HV q0 q1 q2 q3 k3 hdef2 b4' bR
    cases hok : sheetB (bs.map BAt.plain)
    · have HG := hid_in (hkey.out hok)
      clear hkey
      go_wp2
      go_ret2
      exact ⟨_, [], false, rfl, HG.out.symm, lines_none _ _, small_none, g4⟩
    · have HOK := hid_in hok
      clear hkey hok
      have hnb2 : nb ≤ 1048576 := by rw [← enb.out]; exact hsm3.out.1
      go_wp2
      go_loopw [31] (fun i wr => ∃ j : Nat, j ≤ nb ∧ i = .int .i64 (j : Int) ∧ Below w4.heap.size w4 wr ∧ NoHead (bs.map BAt.plain) kind name j) (fun i _ => nb - (intOf i).toNat)
      case atStart => exact ⟨0, by omega, rfl, Below.refl _ _, NoHead.zero _ _ _⟩
      case round =>
        obtain ⟨j, hj, rfl, bw, hA⟩ := hrel
        by_cases hlt : j < nb
        · obtain ⟨D, x, T, e0, hD⟩ := split1 bs j (by have := enb.out; omega)
          have g5 := g4.trans (bw.mono g4.size)
          have h5 := hbs3.out.below g5
          have hxm : x ∈ bs := by rw [e0]; simp
          have h6 := h5
          rw [e0] at h6
          obtain ⟨g, off, rfl, c1, c2, c3⟩ := h6.1.block
          have hA2 : NoHead (D.map BAt.plain ++ x.plain :: T.map BAt.plain) kind name (D.map BAt.plain).length := by rw [List.length_map, hD]; simpa [e0] using hA
          have hyes := hid_in (show isHead kind name x.plain = true → (bs.map BAt.plain).find? (isHead kind name) = some x.plain from fun hh => by rw [e0]; simpa using hA2.hit hh)
          have hno := hid_in (show isHead kind name x.plain = false → NoHead (bs.map BAt.plain) kind name (j + 1) from fun hh => by have := hA2.succ hh; rw [List.length_map, hD] at this; rw [e0]; simpa using this)
          rw [hD] at c1 c2 c3
          have hd : isHead kind name x.plain = ((x.kind.toList == kind.toList) && (x.name.toList == name.toList)) := rfl
          rw [hd] at hyes hno
          have hx := hid_in (h5.2 x hxm)
          have hxs := hid_in (hsm3.out.2 x hxm).2
          have i1 : (0 : Int) ≤ (j : Int) := by omega
          have i2 : (j : Int) < (nb : Int) := by omega
          have r0 := (bw.cell (p := ⟨w2.heap.size, 0, none⟩) (World.block_lt_of_cell? w4 _ p0)).trans p0
          have r1 := (bw.cell (p := ⟨w2.heap.size, 1, none⟩) (World.block_lt_of_cell? w4 _ p1)).trans p1
          have r2 := (bw.cell (p := ⟨w2.heap.size, 2, none⟩) (World.block_lt_of_cell? w4 _ p2)).trans p2
          have r3 := (bw.cell (p := ⟨w2.heap.size, 3, none⟩) (World.block_lt_of_cell? w4 _ p3)).trans p3
          have hdef5 := hid_in (hdef4.out.below bw)
          obtain ⟨xa, xc, ex⟩ := (h5.2 x hxm).1.form
          clear h5 h6 hA hA2 hd hD e0 hxm p0 p1 p2 p3 hdef4 k4
          obtain ⟨xk, xn, xv, xl⟩ := x
          simp only [BAt.plain] at *
          subst ex
          generalize hnl : xl.length = nl at *
          have enl := hid_in hnl
          clear hnl
          have bx := (Below.refl wr.heap.size wr).alloc (Nat.le_refl _) (.cells #[.string xk, .string xn, .slice xa nl xc] 64)
          cases h1 : (xk.toList == kind.toList)
          · have HN := hid_in (hno.out (by rw [h1]; rfl))
            clear hyes hno
            go_wp2
            go_roundw
            case rel => exact ⟨j + 1, by omega, by go_num, bw.trans (bx.mono bw.size), HN.out⟩
            case measure => simp [intOf]; omega
          · cases h2 : (xn.toList == name.toList)
            · have HN := hid_in (hno.out (by rw [h1, h2]; rfl))
              clear hyes hno
              go_wp2
              go_roundw
              case rel => exact ⟨j + 1, by omega, by go_num, bw.trans (bx.mono bw.size), HN.out⟩
              case measure => simp [intOf]; omega
            · have HN := hid_in (getS_hit HOK.out hpk.out (hyes.out (by rw [h1, h2]; rfl)))
              have HL := linesOf_any (b := ⟨xk, xn, .slice xa nl xc, xl⟩) (r := ⟨rk, .slice av nv cv, rns, rm, .slice ad nd cd, rds⟩) (hx.out.below bx) hxs.out ⟨_, _, _, rfl⟩ (hdef5.out.below bx) hds3.out
              have g6 := g5.trans (bx.mono g5.size)
              have s0 := (bx.cell (p := ⟨w2.heap.size, 0, none⟩) (World.block_lt_of_cell? wr _ r0)).trans r0
              have s1 := (bx.cell (p := ⟨w2.heap.size, 1, none⟩) (World.block_lt_of_cell? wr _ r1)).trans r1
              have s2 := (bx.cell (p := ⟨w2.heap.size, 2, none⟩) (World.block_lt_of_cell? wr _ r2)).trans r2
              have s3 := (bx.cell (p := ⟨w2.heap.size, 3, none⟩) (World.block_lt_of_cell? wr _ r3)).trans r3
              clear hyes hno hdef5 hx hxs hds3
              go_wp2_with (go_at_call 79; refine HL.mono ?_)
              first | rintro e w6 v6 rfl ls6 hp6 hin6 hs6 b6 | rintro e w6 v6 ls6 rfl hp6 hin6 hs6 b6 | rintro e w6 ⟨v6, ls6, rfl, hp6, hin6, hs6, b6⟩
              have HC := copyLines_any hin6 hs6
              obtain ⟨va6, vc6, rfl⟩ := hin6.1.form
              have b6' : Below (wr.alloc (.cells #[.string xk, .string xn, .slice xa nl xc] 64)).heap.size (wr.alloc (.cells #[.string xk, .string xn, .slice xa nl xc] 64)) w6 := by simpa using b6
              have g7 := g6.trans (b6'.mono g6.size)
              have hp6' := hid_in hp6
              have hs6' := hid_in hs6
              clear HL b6 b6' hin6 hp6 hs6
              generalize ls6.length = n6 at *
              go_wp2_with (go_at_call 78; refine HC.mono ?_)
              first | rintro e w7 v7 rfl ls7 hp7 o7 b7 | rintro e w7 v7 ls7 rfl hp7 o7 b7 | rintro e w7 ⟨v7, ls7, rfl, hp7, o7, b7⟩
              have HG := hid_in (show (true, ls7.map LAt.plain) = getS (bs.map BAt.plain) kind name key from by rw [hp7, hp6'.out]; exact HN.out.symm)
              have o7' := hid_in (o7.mono g7.size)
              have g8 := g7.trans (b7.mono g7.size)
              have hs7 := hid_in (hs6'.out.same hp7)
              obtain ⟨va7, vc7, rfl, _⟩ := own_form o7.row
              clear HC o7 hp7 b7 HN
              go_wp2
              go_ret2
              exact ⟨_, ls7, true, rfl, HG.out, o7'.out, hs7.out, g8⟩
        · obtain rfl : j = nb := by omega
          have HG := hid_in (getS_head (key := key) (NoHead.none (show NoHead (bs.map BAt.plain) kind name (bs.map BAt.plain).length by rw [List.length_map, enb.out]; exact hA)))
          have g5 := g4.trans (bw.mono g4.size)
          clear hA
          go_wp2
          go_ret2
          exact ⟨_, [], false, rfl, HG.out.symm, lines_none _ _, small_none, g5⟩
end Go.Proofs.YtpdahhnjhggocabGreatDoor
