import Derived.Test.YtpdahhnjhggocabGreatDoorBun30
import Derived.Test.YtpdahhnjhggocabGreatDoorBun24
import Derived.Test.YtpdahhnjhggocabGreatDoorBun20
import Derived.Shelf.Abstract
import Derived.Deep.RegionLaw
namespace Go.Proofs.YtpdahhnjhggocabGreatDoor
open Go.RowKit
set_option maxHeartbeats 2000000 in
set_option maxRecDepth 100000 in
theorem keepLines_any {F : FuncId} {q v : Value} {ls : List LAt} (p : LAt → Bool) {w : World} (h : LinesIn w v ls) (hl : ls.length ≤ 1048576) (hF : ∀ x ∈ ls, ∀ W, Below w.heap.size w W → Calls Tryz.prog F #[.agg #[.string x.key, x.v], q] W fun e w' => e = .returned (.bool (p x)) ∧ Below W.heap.size W w') (hE : ∀ args w, (callFunc F args).run Tryz.prog w = .ok (.enter F args) w) :
  Calls Tryz.prog 145 #[v, .func (.func F) #[] #[q]] w fun e w' => ∃ v', e = .returned v' ∧ w'.ownsRow w.heap.size 82 2 v' (ls.filter p).length ((ls.filter p).flatMap LAt.cells) ∧ Below w.heap.size w w' := by
 obtain ⟨ao, cap, rfl⟩ := h.1.form
 generalize hn : ls.length = len at *
 have en := hid_in hn
 clear hn
 obtain ⟨i0, hi, hz0, hz1, hz2⟩ := info_parts infoLine
 go_enter Tryz.func145, Tryz.ntmps145
 go_wp2
 go_loopw [5, 10] (fun u i wr => ∃ (j : Nat) (done : List LAt), j ≤ len ∧ i = .int .i64 (j : Int) ∧ done = (ls.take j).filter p ∧ wr.ownsRow w.heap.size 82 2 u done.length (done.flatMap LAt.cells) ∧ Below w.heap.size w wr) (fun _ i _ => len - (intOf i).toNat)
 case atStart => exact ⟨0, [], by omega, rfl, by simp, World.ownsRow_nil _ _ _ _, Below.refl _ _⟩
 case round =>
  obtain ⟨j, done, hj, rfl, hdn, hm, bw⟩ := hrel
  obtain ⟨qa, qc, rfl, _⟩ := own_form hm
  have hdl : done.length ≤ j := by rw [hdn]; exact Nat.le_trans (List.length_filter_le _ _) (by simp; omega)
  by_cases hlt : j < len
  ·obtain ⟨D, x, T, e0, hD⟩ := split1 ls j (by have := en.out; omega)
   have h5 := h.below bw
   have hxm : x ∈ ls := by rw [e0]; simp
   have h6 := h5
   rw [e0] at h6
   obtain ⟨g, off, rfl, c1, c2⟩ := h6.1.line
   obtain ⟨ax, cx, e1⟩ := HasRow.form (h5.2 x hxm)
   have hst := hid_in (show (ls.take (j + 1)).filter p = done ++ [x].filter p from by rw [hdn, e0, ← hD, take_front, take_one, List.filter_append])
   have bx := (Below.refl wr.heap.size wr).alloc (Nat.le_refl _) (.cells #[.string x.key, .slice ax x.ws.length cx] 82)
   have k0 := one_box (w := wr) (cs := #[.string x.key, .slice ax x.ws.length cx]) (T := 82) 0
   have k1 := one_box (w := wr) (cs := #[.string x.key, .slice ax x.ws.length cx]) (T := 82) 1
   simp only [List.getElem?_toArray, List.getElem?_cons_zero, List.getElem?_cons_succ] at k0 k1
   have HC := hF x hxm _ (bw.trans (bx.mono bw.size))
   rw [e1] at HC c2
   rw [hD] at c1 c2
   have hB0 : (0 : Int) ≤ (j : Int) := by omega
   have hB1 : (j : Int) < (len : Int) := by omega
   have hcells := hid_in (show (LAt.cells x) = [.string x.key, .slice ax x.ws.length cx] from by unfold LAt.cells; rw [e1])
   have hm' := hid_in hm
   have hszw := bw.size
   have hbase := hid_in (show ∀ k, (Value.slice qa done.length qc).ownBlock = some k → w.heap.size ≤ k from fun k hk => (hm.lt k hk).1)
   cases hp : p x
   ·have hst' := hid_in (show (ls.take (j + 1)).filter p = done from by rw [hst.out]; simp [hp])
    rw [hp] at HC
    clear h h5 h6 hF hdn hm e0 e1 hD hxm hst hcells hp
    generalize x.key = xk at *
    generalize x.ws.length = nx at *
    go_wp2_with (go_at_fn F; refine HC.mono ?_; rintro e w2 ⟨rfl, b2⟩)
    have b3 := bx.trans (b2.mono bx.size)
    have hm3 := own_below hm'.out b3
    clear HC
    go_roundw
    case rel => exact ⟨j + 1, done, by omega, by go_num, hst'.out.symm, hm3, bw.trans (b3.mono hszw)⟩
    case measure => simp [intOf]; omega
   ·have hst' := hid_in (show (ls.take (j + 1)).filter p = done ++ [x] from by rw [hst.out]; simp [hp])
    rw [hp] at HC
    have hone := lcells_one (ls := [x]) (fun y hy => by rw [List.mem_singleton.1 hy]; exact ⟨_, _, _, e1⟩)
    rw [List.flatMap_singleton, hcells.out] at hone
    clear h h5 h6 hF hdn hm e0 e1 hD hxm hst hp
    go_wp2_with (go_at_fn F; refine HC.mono ?_)
    first | rintro e w2 rfl b2 | rintro e w2 ⟨rfl, b2⟩
    have b3 := bx.trans (b2.mono (by simp))
    have m0 := (b2.cell (p := ⟨wr.heap.size, 0, none⟩) (by simp)).trans k0
    have m1 := (b2.cell (p := ⟨wr.heap.size, 1, none⟩) (by simp)).trans k1
    have hm3 := (own_below hm'.out b3).alloc (.cells #[.string x.key, .slice ax x.ws.length cx] 82)
    have b4 := b3.alloc b3.size (.cells #[.string x.key, .slice ax x.ws.length cx] 82)
    have hrow := lit_has w2 #[.string x.key, .slice ax x.ws.length cx] 82 2 rfl
    have hz3 := b3.size
    clear HC k0 k1
    go_wp2_with (at_builtin; refine wpList_append_has (by rfl) _ _ 41 (by rfl) w.heap.size 82 i0 _ 2 40 Tryz.underlying41 hi hz0 hz1 hz2 rfl (by decide) _ done.length _ (by rfl) hm3 _ 1 _ (by rfl) hrow hone ?c3 ?c4 (Nat.le_trans hszw (Nat.le_trans hz3 (by simp))) ?_)
    case c3 => unfold maxLen; omega
    case c4 => omega
    intro ao' cap' w5 hown5 hg5 _
    have hB5 := (bw.trans (b4.mono hszw)).grown hg5 (by simp; omega) hbase.out
    have HO := hid_in (show w5.ownsRow w.heap.size 82 2 (.slice ao' (done.length + 1) cap') (done ++ [x]).length ((done ++ [x]).flatMap LAt.cells) from by
     rw [List.flatMap_append, List.flatMap_singleton, hcells.out, List.length_append]; exact hown5)
    clear hm3 hrow hone hown5 hg5 m0 m1 hbase hm'
    go_wp2
    go_roundw
    case rel => exact ⟨j + 1, done ++ [x], by omega, by go_num, hst'.out.symm, HO.out, hB5⟩
    case measure => simp [intOf]; omega
  ·obtain rfl : j = len := by omega
   have hls : ls.take j = ls := by rw [← en.out, List.take_length]
   have HO := hid_in (show wr.ownsRow w.heap.size 82 2 (.slice qa done.length qc) (ls.filter p).length ((ls.filter p).flatMap LAt.cells) from by rw [← hls, ← hdn]; exact hm)
   clear h hF hm hdn
   go_wp2
   go_ret
   exact ⟨_, rfl, HO.out, bw⟩
end Go.Proofs.YtpdahhnjhggocabGreatDoor
namespace Go.Proofs.YtpdahhnjhggocabGreatDoor
open Go.RowKit
set_option maxHeartbeats 1000000 in
theorem ofKey_any (x : LAt) (rk : ByteArray) (g : Nat) {w : World} (hx : ∃ a n c, x.v = .slice a n c) (hg : w.cell? ⟨g, 0, none⟩ = some (.string rk)) : Calls Tryz.prog 213 #[.agg #[.string x.key, x.v], .pointer (some ⟨g, 0, none⟩)] w fun e w' => e = .returned (.bool (x.key.toList == rk.toList)) ∧ Below w.heap.size w w' := by
 obtain ⟨a, n, c, e1⟩ := hx
 rw [e1]
 have G := (Below.refl w.heap.size w).alloc (Nat.le_refl _) (.cells #[.string x.key, .slice a n c] 82)
 have hg' := (G.cell (World.block_lt_of_cell? w _ hg)).trans hg
 have k0 := one_box (w := w) (cs := #[.string x.key, .slice a n c]) (T := 82) 0
 simp only [List.getElem?_toArray, List.getElem?_cons_zero] at k0
 generalize x.key = xk at *
 go_enter Tryz.func213, Tryz.ntmps213
 go_wp2
 go_ret
 exact ⟨rfl, G⟩
set_option maxHeartbeats 1000000 in
set_option maxRecDepth 100000 in
theorem defaultLine_any (rk : ByteArray) (va vd : Value) (many : Bool) {w : World} (hva : ∃ a n c, va = .slice a n c) (hvd : ∃ a n c, vd = .slice a n c) : Calls Tryz.prog 143 #[.agg #[.string rk, va, .bool many, vd]] w fun e w' => e = .returned (.agg #[.string rk, vd]) ∧ Below w.heap.size w w' := by
 obtain ⟨a, n, c, rfl⟩ := hva
 obtain ⟨a', n', c', rfl⟩ := hvd
 have hc := two_boxes (w := w) (cs := #[.string rk, .slice a n c, .bool many, .slice a' n' c']) (ds := #[.string ⟨#[]⟩, .slice none 0 0]) (T := 105) (U := 82)
 have c0 := hc.1 0
 have c3 := hc.1 3
 simp only [List.getElem?_toArray, List.getElem?_cons_zero, List.getElem?_cons_succ] at c0 c3
 have b1 : Below w.heap.size w ((w.alloc (.cells #[.string rk, .slice a n c, .bool many, .slice a' n' c'] 105)).alloc (.cells #[.string ⟨#[]⟩, .slice none 0 0] 82)) := ((Below.refl _ _).alloc (Nat.le_refl _) _).alloc (by simp) _
 have hz := alloc_here (w.alloc (.cells #[.string rk, .slice a n c, .bool many, .slice a' n' c'] 105)) (.cells #[.string ⟨#[]⟩, .slice none 0 0] 82)
 simp only [World.size_alloc] at hz
 clear hc
 go_enter Tryz.func143, Tryz.ntmps143
 go_wp2_with (with_reducible show wpList _ _ _ (Oper.mk _ (Op.store _ (Operand.tmp 2) _) _ _ _ _ :: _) _ _; refine wpList_store_row rfl 82 _ _ rfl (w.heap.size + 1) #[.string rk, .slice a' n' c'] ?_ ?_ 82 _ hz ?_ ?_ ?_ ?_)
 all_goals (first | rfl | kernel_rfl | skip)
 have hsz := b1.size
 have z5 : (World.setRow ((w.alloc (.cells #[.string rk, .slice a n c, .bool many, .slice a' n' c'] 105)).alloc (.cells #[.string ⟨#[]⟩, .slice none 0 0] 82)) (w.heap.size + 1) #[.string rk, .slice a' n' c']).heap[w.heap.size + 1]? = some (.cells #[.string rk, .slice a' n' c'] 82 (0, 0)) := setRow_heap _ _ _ _ _ _ hz
 have b5 : Below w.heap.size w (World.setRow ((w.alloc (.cells #[.string rk, .slice a n c, .bool many, .slice a' n' c'] 105)).alloc (.cells #[.string ⟨#[]⟩, .slice none 0 0] 82)) (w.heap.size + 1) #[.string rk, .slice a' n' c']) :=
  ⟨b1.os, b1.tape, b1.output, by rw [setRow_size]; exact hsz, fun k hk => by rw [setRow_other _ _ _ _ (by omega)]; exact b1.block k hk⟩
 have y0 := cell_of_block z5 0
 have y1 := cell_of_block z5 1
 simp only [List.getElem?_toArray, List.getElem?_cons_zero, List.getElem?_cons_succ] at y0 y1
 generalize World.setRow _ _ _ = W at b5 y0 y1 z5 ⊢
 exact bodyPost_ret (v := .agg #[.string rk, .slice a' n' c']) (by simp [results, Tryz.results143, go_sem, y0, y1]) rfl ⟨rfl, b5⟩
def KeptPost (fl : List LAt) (w : World) (e : Ending) (w' : World) : Prop := ∃ v', e = .returned v' ∧ w'.ownsRow w.heap.size 82 2 v' fl.length (fl.flatMap LAt.cells) ∧ Below w.heap.size w w'
def withKey (ls : List LAt) (k : ByteArray) : List LAt := ls.filter fun x => x.key.toList == k.toList
theorem withKey_plain (ls : List LAt) (k : ByteArray) : (withKey ls k).map LAt.plain = ofK (ls.map LAt.plain) k := by
 unfold ofK withKey; rw [List.filter_map]; rfl
set_option maxHeartbeats 1000000 in
set_option maxRecDepth 100000 in
theorem linesWithKey_any {v : Value} {ls : List LAt} (rk : ByteArray) {w : World} (h : LinesIn w v ls) (hl : ls.length ≤ 1048576) : Calls Tryz.prog 149 #[v, .string rk] w fun e w' => KeptPost (withKey ls rk) w e w' := by
 have B0 := (Below.refl w.heap.size w).alloc (Nat.le_refl _) (.cells #[.string rk] 9)
 have d0 := one_box (w := w) (cs := #[.string rk]) (T := 9) 0
 simp only [List.getElem?_toArray, List.getElem?_cons_zero] at d0
 have HK := keepLines_any (F := 213) (q := .pointer (some ⟨w.heap.size, 0, none⟩)) (fun x => x.key.toList == rk.toList) (h.below B0) hl (fun x hx W hW => ofKey_any x rk w.heap.size (by obtain ⟨a, c, e⟩ := HasRow.form (h.2 x hx); exact ⟨a, _, c, e⟩) ((hW.cell (World.block_lt_of_cell? _ _ d0)).trans d0)) (enters_of Tryz.func213 (by kernel_rfl) rfl)
 obtain ⟨ao, cap, rfl⟩ := h.1.form
 rw [show ls.filter (fun x => x.key.toList == rk.toList) = withKey ls rk from rfl] at HK
 generalize withKey ls rk = fl at *
 clear h hl d0
 generalize ls.length = n at *
 go_enter Tryz.func149, Tryz.ntmps149
 go_wp2_with (go_at_call 145; refine HK.mono ?_)
 first | rintro e w2 v2 rfl o2 b2 | rintro e w2 ⟨v2, rfl, o2, b2⟩
 have B2 := B0.trans (b2.mono B0.size)
 have O2 := hid_in (own_mono o2 B0.size)
 obtain ⟨a2, c2, rfl, _⟩ := own_form o2
 clear HK o2 b2
 go_wp2
 go_ret
 exact ⟨_, rfl, O2.out, B2⟩
end Go.Proofs.YtpdahhnjhggocabGreatDoor
namespace Go.Proofs.YtpdahhnjhggocabGreatDoor
open Go.RowKit
theorem rulesOf_twelve (kind : ByteArray) {L : List RAt} (h : L.map RAt.plain = rulesOf kind) : L.length ≤ 12 := by
 have := (rulesOf_like kind).1
 rw [← h, List.length_map] at this
 exact this
theorem defs_small {kind : ByteArray} {L : List RAt} (h : L.map RAt.plain = rulesOf kind) {r : RAt} (hr : r ∈ L) : r.ds.length ≤ 1048576 ∧ ∀ y ∈ r.ds, y.length ≤ 1048576 := by
 have hm : r.plain ∈ rulesOf kind := by rw [← h]; exact List.mem_map_of_mem hr
 have := rulesOf_smallD kind r.plain hm
 exact ⟨Nat.le_trans this.1 (by decide), fun y hy => Nat.le_trans (this.2 y hy) (by decide)⟩
end Go.Proofs.YtpdahhnjhggocabGreatDoor
namespace Go.Proofs.YtpdahhnjhggocabGreatDoor
open Go.RowKit
end Go.Proofs.YtpdahhnjhggocabGreatDoor
namespace Go.Proofs.YtpdahhnjhggocabGreatDoor
open Go.RowKit
theorem three_cells {B : Nat} {w W : World} {g : Nat} {u1 u2 u3 : Value} (hb : Below B w W) (c : w.cell? ⟨g, 0, none⟩ = some u1 ∧ w.cell? ⟨g, 1, none⟩ = some u2 ∧ w.cell? ⟨g, 2, none⟩ = some u3) (hg : g < B) : W.cell? ⟨g, 0, none⟩ = some u1 ∧ W.cell? ⟨g, 1, none⟩ = some u2 ∧ W.cell? ⟨g, 2, none⟩ = some u3 :=
 ⟨(hb.cell (p := ⟨g, 0, none⟩) hg).trans c.1, (hb.cell (p := ⟨g, 1, none⟩) hg).trans c.2.1, (hb.cell (p := ⟨g, 2, none⟩) hg).trans c.2.2⟩
noncomputable def changeS (Gf : List Plain → List PLine → List PLine) (bs : List PBlock) : List PBlock := if sheetB bs = true then bs.map (fun b => ⟨b.kind, b.name, Gf (rulesOf b.kind) b.lines⟩) else []
theorem blocks_none (B : Nat) (w : World) : BlocksOwn B w (.slice none 0 0) [] := Mem.own1 (World.ownsRow_nil _ _ _ _)
theorem infoSheet : (Tryz.prog.info? 24).map (fun i => (i.zero, i.size, i.bytes)) = some (some (.agg #[.slice none 0 0]), 1, 24) := by kernel_rfl
theorem sheet_size : ∃ a, Tryz.prog.info? 24 = some a ∧ a.size = 1 := by
 obtain ⟨i, hi, _, hs, _⟩ := info_parts infoSheet
 exact ⟨i, hi, hs⟩
set_option maxHeartbeats 8000000 in
set_option maxRecDepth 100000 in
theorem changeLines_any {F : FuncId} (Gf : List Plain → List PLine → List PLine) {v : Value} {bs : List BAt} {w : World} (hbs : BlocksIn w v bs) (hsm : BlocksSmall bs) (hst : StdAt w) (hE : ∀ args w, (callFunc F args).run Tryz.prog w = .ok (.enter F args) w)
  (hF : sheetB (bs.map BAt.plain) = true → ∀ (W : World) (B : Nat) (vr : Value) (L : List RAt) (x : BAt), x ∈ bs → L.map RAt.plain = rulesOf x.kind → RulesAt B W vr L → LinesIn W x.v x.ls → Calls Tryz.prog F #[vr, x.v] W fun e w' => ∃ v' ls', e = .returned v' ∧ ls'.map LAt.plain = Gf (rulesOf x.kind) (x.ls.map LAt.plain) ∧ LinesIn w' v' ls' ∧ LinesSmall ls' ∧ Below W.heap.size W w') :
  Calls Tryz.prog 71 #[.agg #[v], .func (.func F) #[] #[]] w fun e w' => ∃ v' bs', e = .returned (.agg #[v']) ∧ bs'.map BAt.plain = changeS Gf (bs.map BAt.plain) ∧ BlocksOwn w.heap.size w' v' bs' ∧ Below w.heap.size w w' := by
 obtain ⟨ao, cap, rfl⟩ := hbs.1.form
 have hl := hsm.1
 generalize hn : bs.length = len at *
 have en := hid_in hn
 clear hn
 have hc := two_boxes (w := w) (cs := #[.slice ao len cap]) (ds := #[.slice none 0 0]) (T := 24) (U := 24)
 have c0 := hc.1 0
 simp only [List.getElem?_toArray, List.getElem?_cons_zero] at c0
 clear hc
 have G0 : Below w.heap.size w ((w.alloc (.cells #[.slice ao len cap] 24)).alloc (.cells #[.slice none 0 0] 24)) := ((Below.refl _ _).alloc (Nat.le_refl _) _).alloc (by simp) _
 have hz := alloc_here (w.alloc (.cells #[.slice ao len cap] 24)) (.cells #[.slice none 0 0] 24)
 simp only [World.size_alloc] at hz
 have HV := implValid_any (hbs.below G0) hsm (hst.below G0)
 have hBS := hid_in hbs
 have hSM := hid_in hsm
 have hFF := hid_in hF
 clear hbs hsm hst hF
 generalize hW0 : (w.alloc (.cells #[.slice ao len cap] 24)).alloc (.cells #[.slice none 0 0] 24) = W0 at *
 have hsz0 : W0.heap.size = w.heap.size + 2 := by rw [← hW0]; simp
 go_enter Tryz.func71, Tryz.ntmps71
 go_wp2_with (go_at_call 64; (try rw [hW0]); refine HV.mono ?_)
 first | rintro e w1 rfl b1 | rintro e w1 ⟨rfl, b1⟩
 have c1 := (b1.cell (p := ⟨w.heap.size, 0, none⟩) (by simp; omega)).trans c0
 have z1 := (b1.block (w.heap.size + 1) (by omega)).trans hz
 have hsz1 := b1.size
 have g1 := G0.trans (b1.mono G0.size)
 clear HV c0 hz
 cases hok : sheetB (bs.map BAt.plain)
 ·have HG := hid_in (show ([] : List BAt).map BAt.plain = changeS Gf (bs.map BAt.plain) from by unfold changeS; rw [hok]; rfl)
  clear hok hFF
  go_wp2_with (with_reducible show wpList _ _ _ (Oper.mk _ (Op.store _ (Operand.tmp 4) _) _ _ _ _ :: _) _ _; refine wpList_store_row rfl 24 _ _ rfl (w.heap.size + 1) #[.slice none 0 0] ?_ ?_ 24 _ z1 ?_ ?_ ?_ ?_)
  all_goals (first | rfl | kernel_rfl | exact sheet_size | skip)
  have z5 : (w1.setRow (w.heap.size + 1) #[.slice none 0 0]).heap[w.heap.size + 1]? = some (.cells #[.slice none 0 0] 24 (0, 0)) := setRow_heap _ _ _ _ _ _ z1
  have b5 : Below w.heap.size w (w1.setRow (w.heap.size + 1) #[.slice none 0 0]) :=
   ⟨g1.os, g1.tape, g1.output, by rw [setRow_size]; exact g1.size, fun k hk => by rw [setRow_other _ _ _ _ (by omega)]; exact g1.block k hk⟩
  have y0 := cell_of_block z5 0
  simp only [List.getElem?_toArray, List.getElem?_cons_zero] at y0
  generalize w1.setRow (w.heap.size + 1) #[.slice none 0 0] = W at b5 y0 z5 ⊢
  first | exact bodyPost_ret (v := .agg #[.slice none 0 0]) (by simp [results, Tryz.results71, go_sem, y0]) rfl ⟨_, [], rfl, HG.out, blocks_none _ _, b5⟩ | exact bodyPost_ret (v := .agg #[.slice none 0 0]) (by simp [results, Tryz.results71, go_sem, y0]) rfl ⟨_, rfl, [], HG.out, blocks_none _ _, b5⟩
 ·have HOK := hid_in hok
  have hlen2 : len ≤ 60 := by rw [← en.out, ← List.length_map (f := BAt.plain)]; exact (sheetB_iff.1 hok).1
  clear hok
  obtain ⟨i0, hi, hz0, hz1, hz2⟩ := info_parts infoBlock
  go_wp2
  go_loopw [5, 16] (fun q i wr => ∃ (j : Nat) (done : List BAt), j ≤ len ∧ i = .int .i64 (j : Int) ∧ done.map BAt.plain = ((bs.take j).map BAt.plain).map (fun b => ⟨b.kind, b.name, Gf (rulesOf b.kind) b.lines⟩) ∧ BlocksOwn (w.heap.size + 2) wr q done ∧ Below (w.heap.size + 2) w1 wr) (fun _ i _ => len - (intOf i).toNat)
  case atStart => exact ⟨0, [], by omega, rfl, by simp, blocks_none _ _, Below.refl _ _⟩
  case round =>
   obtain ⟨j, done, hj, rfl, hdn, hm, bw⟩ := hrel
   obtain ⟨qa, qc, rfl, _⟩ := own_form hm.row
   have hdl : done.length = j := by have := congrArg List.length hdn; simp at this; have := en.out; omega
   subst hdl
   have hszw := bw.size
   have gw := g1.trans (bw.mono (by omega))
   by_cases hlt : done.length < len
   ·obtain ⟨D, x, T, e0, hD⟩ := split1 bs done.length (by have := en.out; omega)
    have h5 := hBS.out.below gw
    have hxm : x ∈ bs := by rw [e0]; simp
    have h6 := h5
    rw [e0] at h6
    obtain ⟨g, off, rfl, d1, d2, d3⟩ := h6.1.block
    rw [hD] at d1 d2 d3
    have hstep := hid_in (show ∀ (v' : Value) (ls' : List LAt), ls'.map LAt.plain = Gf (rulesOf x.kind) (x.ls.map LAt.plain) → (done ++ [⟨x.kind, x.name, v', ls'⟩] : List BAt).map BAt.plain = ((bs.take (done.length + 1)).map BAt.plain).map (fun b => ⟨b.kind, b.name, Gf (rulesOf b.kind) b.lines⟩) from by
     intro v' ls' hp
     rw [List.map_append, hdn, e0, ← hD, take_front, take_one, List.map_append, List.map_append, List.map_singleton, List.map_singleton, List.map_singleton]
     unfold BAt.plain
     rw [hp])
    have hx := hid_in (h5.2 x hxm)
    have hCH := hid_in (fun W B vr L => hFF.out HOK.out W B vr L x hxm)
    obtain ⟨xa, xc, ex⟩ := (h5.2 x hxm).1.form
    have bx := (Below.refl wr.heap.size wr).alloc (Nat.le_refl _) (.cells #[.string x.kind, .string x.name, .slice xa x.ls.length xc] 64)
    have k0 := one_box (w := wr) (cs := #[.string x.kind, .string x.name, .slice xa x.ls.length xc]) (T := 64) 0
    have k1 := one_box (w := wr) (cs := #[.string x.kind, .string x.name, .slice xa x.ls.length xc]) (T := 64) 1
    have k2 := one_box (w := wr) (cs := #[.string x.kind, .string x.name, .slice xa x.ls.length xc]) (T := 64) 2
    simp only [List.getElem?_toArray, List.getElem?_cons_zero, List.getElem?_cons_succ] at k0 k1 k2
    have bd := bx.drew
    have hK : (wr.alloc (.cells #[.string x.kind, .string x.name, .slice xa x.ls.length xc] 64)).drew.cell? ⟨wr.heap.size, 0, none⟩ = some (.string x.kind) ∧ (wr.alloc (.cells #[.string x.kind, .string x.name, .slice xa x.ls.length xc] 64)).drew.cell? ⟨wr.heap.size, 1, none⟩ = some (.string x.name) ∧ (wr.alloc (.cells #[.string x.kind, .string x.name, .slice xa x.ls.length xc] 64)).drew.cell? ⟨wr.heap.size, 2, none⟩ = some (.slice xa x.ls.length xc) := ⟨k0, k1, k2⟩
    have hx1 := hid_in (show LinesIn (wr.alloc (.cells #[.string x.kind, .string x.name, .slice xa x.ls.length xc] 64)).drew x.v x.ls from LinesIn.below hx.out bd)
    have HR := implRules_any x.kind (wr.alloc (.cells #[.string x.kind, .string x.name, .slice xa x.ls.length xc] 64)).drew
    have hdsz : (wr.alloc (.cells #[.string x.kind, .string x.name, .slice xa x.ls.length xc] 64)).drew.heap.size = wr.heap.size + 1 := by simp
    have hHM := hid_in hm
    have i1 : (0 : Int) ≤ (done.length : Int) := by omega
    have i2 : (done.length : Int) < (len : Int) := by omega
    obtain ⟨xk, xn, xv, xl⟩ := x
    simp only at *
    subst ex
    clear h5 h6 hm hdn e0 hD hxm k0 k1 k2 hx
    generalize hnl : xl.length = nl at *
    go_wp2
    go_region_held3 (fun W => W.cell? ⟨wr.heap.size, 0, none⟩ = some (.string xk) ∧ W.cell? ⟨wr.heap.size, 1, none⟩ = some (.string xn) ∧ W.cell? ⟨wr.heap.size, 2, none⟩ = some (.slice xa nl xc))
     (first | exact hK | exact hK5 | exact hK6)
     (first
       | (go_at_call 54
          refine HR.mono ?_
          rintro e w5 ⟨vr, L, rfl, hpl, hr, B5⟩
          have hK5 := three_cells B5 hK (by omega)
          have HC := hCH.out w5 _ vr L hpl hr (hx1.out.below B5)
          obtain ⟨ra, rc, rfl, _⟩ := own_form (show w5.ownsRow _ 105 4 vr L.length (L.flatMap RAt.cells) from Mem.head hr))
       | (go_at_fn F
          refine HC.mono ?_
          rintro e w6 ⟨v6, ls6, rfl, hp6, hin6, hs6, B6⟩
          have hK6 := three_cells B6 hK5 (by have := B5.size; omega)))
    obtain ⟨a6, c6, rfl⟩ := hin6.1.form
    have hz5 := B5.size
    have hz6 := B6.size
    have B6d := B6.drew
    have hK7 := three_cells B6d hK5 (by omega)
    have HCp := copyLines_any (hin6.below ((Below.refl w6.heap.size w6).drew)) hs6
    have Brd : Below wr.heap.size wr w6.drew := bd.trans ((B5.trans (B6d.mono hz5)).mono (by omega))
    have hMD : BlocksOwn (w.heap.size + 2) w6.drew (.slice qa done.length qc) done := hHM.out.below Brd
    have hszd : w.heap.size + 2 ≤ w6.drew.heap.size := Nat.le_trans (by omega) Brd.size
    have HOUT := hid_in (show ∀ w7, Below w6.drew.heap.size w6.drew w7 → ∀ cs, (w7.alloc (.cells cs 64)).ownsRow (w.heap.size + 2) 64 3 (.slice qa done.length qc) done.length (done.flatMap BAt.cells) from fun w7 b7 cs => (own_below hMD.row b7).alloc _)
    have HMD := hid_in hMD
    have hfar := hid_in (show ∀ (w4 w3 : World), w4.grownBy w3 (Value.slice qa done.length qc).ownBlock → wr.heap.size < w4.heap.size → ∀ o, w3.cell? ⟨wr.heap.size, o, none⟩ = w4.cell? ⟨wr.heap.size, o, none⟩ from fun w4 w3 hg hl o => hg.cell_far _ hl (fun e => by have := (hHM.out.row.lt _ e.symm).2; simp at this))
    have hp6' := hid_in hp6
    clear hin6 hs6 hp6 hMD HC hr hpl hK hK5 hK6 HR hx1 hCH hFF
    generalize ls6.length = n6 at *
    go_wp2
    go_region_held3 (fun W => W.cell? ⟨wr.heap.size, 0, none⟩ = some (.string xk) ∧ W.cell? ⟨wr.heap.size, 1, none⟩ = some (.string xn) ∧ W.cell? ⟨wr.heap.size, 2, none⟩ = some (.slice xa nl xc))
     (first | exact hK7 | exact hK8 | exact hK8a | exact hK9)
     (first
       | (go_at_call 78
          refine HCp.mono ?_
          rintro e w7 ⟨v7, ls7, rfl, hp7, o7, B7⟩
          obtain ⟨a7, c7, rfl, _⟩ := own_form o7.row
          have hz7 := B7.size
          have hK8 := three_cells B7 hK7 (by simp; omega)
          have hK8a := three_cells (B7.alloc hz7 (.cells #[.string xk, .string xn, .slice a7 ls7.length c7] 64)) hK7 (by simp; omega))
       | (refine step_append_has (by rfl) _ _ 22 (by rfl) (w.heap.size + 2) 64 i0 _ 3 56 Tryz.underlying22 hi hz0 hz1 hz2 rfl (by decide) _ done.length _ (by rfl) (HOUT.out w7 B7 _) _ 1 _ (by rfl) (lit_has w7 #[.string xk, .string xn, .slice a7 ls7.length c7] 64 3 rfl) (by intro y hy; simp at hy; rcases hy with rfl | rfl | rfl <;> rfl) (by unfold maxLen; omega) (by omega) (Nat.le_trans (Nat.le_trans hszd hz7) (by simp)) ?_
          intro ao8 cap8 w8 o8 g8 v8
          have P8 := blocks_push (x := ⟨xk, xn, .slice a7 ls7.length c7, ls7⟩) HMD.out hszd o7 B7 o8 g8 v8
          have hl4 : wr.heap.size < (w7.alloc (.cells #[.string xk, .string xn, .slice a7 ls7.length c7] 64)).heap.size := by simp at hz7 ⊢; omega
          have hK9 := And.intro ((hfar.out _ _ g8 hl4 0).trans hK8a.1) (And.intro ((hfar.out _ _ g8 hl4 1).trans hK8a.2.1) ((hfar.out _ _ g8 hl4 2).trans hK8a.2.2))))
    have HST := hid_in (hstep.out (.slice a7 ls7.length c7) ls7 (hp7.trans hp6'.out))
    have BF : Below (w.heap.size + 2) w1 w8 := bw.trans ((Brd.mono (by omega)).trans P8.2)
    clear hstep HOUT HMD hfar hK7 hK8 hK8a hK9 o7 o8 g8 v8 HCp
    go_wp2
    go_roundw
    case rel => exact ⟨done.length + 1, _, by omega, by go_num, HST.out, P8.1, BF⟩
    case measure => simp [intOf]; omega
   ·have ej : done.length = len := by omega
    have hls : bs.take done.length = bs := by rw [ej, ← en.out, List.take_length]
    rw [hls] at hdn
    have HG := hid_in (show done.map BAt.plain = changeS Gf (bs.map BAt.plain) from by unfold changeS; rw [if_pos HOK.out]; exact hdn)
    have hlt' : ¬ ((done.length : Int) < (len : Int)) := by omega
    have z2 := (bw.block (w.heap.size + 1) (by omega)).trans z1
    have HM := hid_in hm
    clear hm hdn hls ej
    go_wp2_with (with_reducible show wpList _ _ _ (Oper.mk _ (Op.store _ (Operand.tmp 4) _) _ _ _ _ :: _) _ _; refine wpList_store_row rfl 24 _ _ rfl (w.heap.size + 1) #[.slice qa done.length qc] ?_ ?_ 24 _ z2 ?_ ?_ ?_ ?_)
    all_goals (first | rfl | kernel_rfl | exact sheet_size | skip)
    have z5 : (wr.setRow (w.heap.size + 1) #[.slice qa done.length qc]).heap[w.heap.size + 1]? = some (.cells #[.slice qa done.length qc] 24 (0, 0)) := setRow_heap _ _ _ _ _ _ z2
    have b5 : Below w.heap.size w (wr.setRow (w.heap.size + 1) #[.slice qa done.length qc]) :=
     ⟨gw.os, gw.tape, gw.output, by rw [setRow_size]; exact gw.size, fun k hk => by rw [setRow_other _ _ _ _ (by omega)]; exact gw.block k hk⟩
    have o5 := (HM.out.setRow (w.heap.size + 1) (by omega) #[.slice qa done.length qc]).mono (show w.heap.size ≤ w.heap.size + 2 by omega)
    have y0 := cell_of_block z5 0
    simp only [List.getElem?_toArray, List.getElem?_cons_zero] at y0
    generalize wr.setRow (w.heap.size + 1) #[.slice qa done.length qc] = W at b5 y0 z5 o5 ⊢
    first | exact bodyPost_ret (v := .agg #[.slice qa done.length qc]) (by simp [results, Tryz.results71, go_sem, y0]) rfl ⟨_, done, rfl, HG.out, o5, b5⟩ | exact bodyPost_ret (v := .agg #[.slice qa done.length qc]) (by simp [results, Tryz.results71, go_sem, y0]) rfl ⟨_, rfl, done, HG.out, o5, b5⟩
end Go.Proofs.YtpdahhnjhggocabGreatDoor
namespace Go.Proofs.YtpdahhnjhggocabGreatDoor
open Go.RowKit
set_option maxHeartbeats 2000000 in
set_option maxRecDepth 100000 in
theorem l3Block_any {x : BAt} {w : World} (h : BlockIn w x) (hs : LinesSmall x.ls) : Calls Tryz.prog 109 #[.agg #[.string x.kind, .string x.name, x.v]] w fun e w' => ∃ v ls', e = .returned (.agg #[.string x.kind, .string x.name, v]) ∧ ls'.map LAt.plain = x.ls.map LAt.plain ∧ LinesOwn w.heap.size w' v ls' ∧ Below w.heap.size w w' := by
 obtain ⟨ax, cx, e1⟩ := h.1.form
 unfold BlockIn at h
 rw [e1] at h ⊢
 have b0 : Below w.heap.size w ((w.alloc (.cells #[.string x.kind, .string x.name, .slice ax x.ls.length cx] 64)).alloc (.cells #[.string ⟨#[]⟩, .string ⟨#[]⟩, .slice none 0 0] 64)) := ((Below.refl _ _).alloc (Nat.le_refl _) _).alloc (by simp) _
 have hsz : ((w.alloc (.cells #[.string x.kind, .string x.name, .slice ax x.ls.length cx] 64)).alloc (.cells #[.string ⟨#[]⟩, .string ⟨#[]⟩, .slice none 0 0] 64)).heap.size = w.heap.size + 2 := by simp
 have hz0 : ((w.alloc (.cells #[.string x.kind, .string x.name, .slice ax x.ls.length cx] 64)).alloc (.cells #[.string ⟨#[]⟩, .string ⟨#[]⟩, .slice none 0 0] 64)).heap[w.heap.size]? = some (.cells #[.string x.kind, .string x.name, .slice ax x.ls.length cx] 64 (0, 0)) := by rw [alloc_there _ _ _ (by simp), alloc_here]
 have hz1 : ((w.alloc (.cells #[.string x.kind, .string x.name, .slice ax x.ls.length cx] 64)).alloc (.cells #[.string ⟨#[]⟩, .string ⟨#[]⟩, .slice none 0 0] 64)).heap[w.heap.size + 1]? = some (.cells #[.string ⟨#[]⟩, .string ⟨#[]⟩, .slice none 0 0] 64 (0, 0)) := by
  have := alloc_here (w.alloc (.cells #[.string x.kind, .string x.name, .slice ax x.ls.length cx] 64)) (.cells #[.string ⟨#[]⟩, .string ⟨#[]⟩, .slice none 0 0] 64)
  rwa [World.size_alloc] at this
 have HW := l3Lines_any (h.below b0) hs
 have q2 := cell_of_block hz0 2
 simp only [List.getElem?_toArray, List.getElem?_cons_zero, List.getElem?_cons_succ] at q2
 generalize x.ls.map LAt.plain = PL at *
 clear h e1 hs
 generalize x.ls.length = nx at *
 generalize x.kind = xk at *
 generalize x.name = xn at *
 go_enter Tryz.func109, Tryz.ntmps109
 go_wp2_with (go_at_call 90; refine HW.mono ?_)
 first | rintro e w2 v rfl ls' hpl o2 b2 | rintro e w2 v ls' rfl hpl o2 b2 | rintro e w2 ⟨v, ls', rfl, hpl, o2, b2⟩
 first | rw [hsz] at o2 b2 | skip
 have z0 := (b2.block w.heap.size (by omega)).trans hz0
 have z1 := (b2.block (w.heap.size + 1) (by omega)).trans hz1
 have hw2 : w.heap.size + 2 ≤ w2.heap.size := by have := b2.size; rw [hsz] at this; exact this
 have b02 := b0.trans (b2.mono (by omega))
 have c0 := cell_of_block z0 0
 have c1 := cell_of_block z0 1
 have c2 := cell_of_block z0 2
 have f2 := frozen_of_block z0 2
 simp only [List.getElem?_toArray, List.getElem?_cons_zero, List.getElem?_cons_succ] at c0 c1 c2
 obtain ⟨av, cv, rfl, _⟩ := own_form o2.row
 have HPL := hid_in hpl
 have hO2 := hid_in o2
 clear hpl o2
 generalize ls'.length = nv at *
 have z1' : (w2.setCell ⟨w.heap.size, 2, none⟩ (.slice av nv cv)).heap[w.heap.size + 1]? = some (.cells #[.string ⟨#[]⟩, .string ⟨#[]⟩, .slice none 0 0] 64 (0, 0)) := by rw [Below.heap_setCell _ _ _ _ (by simp)]; exact z1
 clear HW hz0 hz1 hsz q2
 go_wp2_with (with_reducible show wpList _ _ _ (Oper.mk _ (Op.store _ (Operand.tmp 2) _) _ _ _ _ :: _) _ _; refine wpList_store_row rfl 64 _ _ rfl (w.heap.size + 1) #[.string xk, .string xn, .slice av nv cv] ?_ ?_ 64 _ z1' ?_ ?_ ?_ ?_)
 all_goals (first | rfl | kernel_rfl | skip)
 have z5 : ((w2.setCell ⟨w.heap.size, 2, none⟩ (.slice av nv cv)).setRow (w.heap.size + 1) #[.string xk, .string xn, .slice av nv cv]).heap[w.heap.size + 1]? = some (.cells #[.string xk, .string xn, .slice av nv cv] 64 (0, 0)) := setRow_heap _ _ _ _ _ _ z1'
 have o5 := ((hO2.out.setCell ⟨w.heap.size, 2, none⟩ (by simp) (.slice av nv cv)).setRow (w.heap.size + 1) (by omega) #[.string xk, .string xn, .slice av nv cv]).mono (show w.heap.size ≤ w.heap.size + 2 by omega)
 have b5 : Below w.heap.size w ((w2.setCell ⟨w.heap.size, 2, none⟩ (.slice av nv cv)).setRow (w.heap.size + 1) #[.string xk, .string xn, .slice av nv cv]) :=
  ⟨b02.os, b02.tape, b02.output, by rw [setRow_size]; simp; omega, fun k hk => by rw [setRow_other _ _ _ _ (by omega), Below.heap_setCell _ _ _ _ (by simp; omega)]; exact b02.block k hk⟩
 have y0 := cell_of_block z5 0
 have y1 := cell_of_block z5 1
 have y2 := cell_of_block z5 2
 simp only [List.getElem?_toArray, List.getElem?_cons_zero, List.getElem?_cons_succ] at y0 y1 y2
 generalize (w2.setCell ⟨w.heap.size, 2, none⟩ (.slice av nv cv)).setRow (w.heap.size + 1) #[.string xk, .string xn, .slice av nv cv] = W at *
 first | exact bodyPost_ret (v := .agg #[.string xk, .string xn, .slice av nv cv]) (by simp [results, Tryz.results109, go_sem, y0, y1, y2]) rfl ⟨_, ls', rfl, HPL.out, o5, b5⟩ | exact bodyPost_ret (v := .agg #[.string xk, .string xn, .slice av nv cv]) (by simp [results, Tryz.results109, go_sem, y0, y1, y2]) rfl ⟨_, rfl, ls', HPL.out, o5, b5⟩
theorem below_setCell {B : Nat} {w w' : World} (h : Below B w w') (p : Addr) (hp : B ≤ p.block) (u : Value) : Below B w (w'.setCell p u) := h.setCell (p := p) hp u
theorem box_set {w : World} {g : Nat} {v u : Value} (hc : w.cell? ⟨g, 0, none⟩ = some v) (hf : w.frozen? ⟨g, 0, none⟩ = false) : (w.setCell ⟨g, 0, none⟩ u).cell? ⟨g, 0, none⟩ = some u ∧ (w.setCell ⟨g, 0, none⟩ u).frozen? ⟨g, 0, none⟩ = false :=
 ⟨World.cell?_setCell_same' _ _ _ (by rw [hc]; rfl), by rw [World.frozen?_setCell]; exact hf⟩
theorem keepB {B : Nat} {w w' : World} {p : Addr} {v : Value} (h : w.cell? p = some v ∧ w.frozen? p = false) (hb : Below B w w') (hp : p.block < B) : w'.cell? p = some v ∧ w'.frozen? p = false := ⟨(hb.cell hp).trans h.1, (hb.frozen hp).trans h.2⟩
set_option maxHeartbeats 8000000 in
set_option maxRecDepth 100000 in
theorem l3Copy_any {v : Value} {bs : List BAt} {w : World} (h : BlocksIn w v bs) (hs : BlocksSmall bs) : Calls Tryz.prog 49 #[.agg #[v]] w fun e w' => ∃ v' bs', e = .returned (.agg #[v']) ∧ bs'.map BAt.plain = bs.map BAt.plain ∧ BlocksOwn w.heap.size w' v' bs' ∧ Below w.heap.size w w' := by
 obtain ⟨ao, cap, rfl⟩ := h.1.form
 have hl := hs.1
 obtain ⟨i0, hi, hz0, hz1, hz2⟩ := info_parts infoBlock
 have b0 : Below w.heap.size w (((w.alloc (.cells #[.slice ao bs.length cap] 24)).alloc (.cells #[.slice none 0 0] 24)).alloc (.cells #[.slice none 0 0] 24)) := (((Below.refl _ _).alloc (Nat.le_refl _) _).alloc (by simp) _).alloc (by simp; omega) _
 obtain ⟨hsz, hy0, hy1, hy2⟩ := alloc3 (w := w) (o1 := .cells #[.slice ao bs.length cap] 24) (o2 := .cells #[.slice none 0 0] 24) (o3 := .cells #[.slice none 0 0] 24)
 have k0 := cell_of_block hy0 0
 have k2 := cell_of_block hy2 0
 have f2 := frozen_of_block hy2 0
 simp only [List.getElem?_toArray, List.getElem?_cons_zero] at k0 k2
 generalize hn : bs.length = len at *
 have en := hid_in hn
 clear hn
 have hbs := hid_in h
 have hsm := hid_in hs
 clear h hs hy0 hy2
 go_enter Tryz.func49, Tryz.ntmps49
 go_wp2
 go_loopw [4] (fun i wr => ∃ (j : Nat) (done : List BAt) (qa : Option Addr) (qc : Nat), j ≤ len ∧ i = .int .i64 (j : Int) ∧ done.map BAt.plain = (bs.take j).map BAt.plain ∧ BlocksOwn (w.heap.size + 3) wr (.slice qa done.length qc) done ∧ Below w.heap.size w wr ∧ w.heap.size + 3 ≤ wr.heap.size ∧ wr.cell? ⟨w.heap.size, 0, none⟩ = some (.slice ao len cap) ∧ wr.heap[w.heap.size + 1]? = some (.cells #[.slice none 0 0] 24 (0, 0)) ∧ wr.cell? ⟨w.heap.size + 2, 0, none⟩ = some (.slice qa done.length qc) ∧ wr.frozen? ⟨w.heap.size + 2, 0, none⟩ = false) (fun i _ => len - (intOf i).toNat)
 case atStart => exact ⟨0, [], none, 0, by omega, rfl, by simp, blocks_none _ _, b0, by simp, k0, hy1, k2, f2⟩
 case round =>
  obtain ⟨j, done, qa, qc, hj, rfl, hdn, hm, bw, hszw, c0, z1, c2, f2'⟩ := hrel
  clear k0 k2 hy1 f2 b0 hsz
  have hdl : done.length = j := by have := congrArg List.length hdn; simp at this; have := en.out; omega
  subst hdl
  by_cases hlt : done.length < len
  ·obtain ⟨D, x, T, e0, hD⟩ := split1 bs done.length (by have := en.out; omega)
   have h5 := hbs.out.below bw
   have hxm : x ∈ bs := by rw [e0]; simp
   have h6 := h5
   rw [e0] at h6
   obtain ⟨g, off, rfl, d1, d2, d3⟩ := h6.1.block
   rw [hD] at d1 d2 d3
   have hstep := hid_in (show ∀ (v' : Value) (ls' : List LAt), ls'.map LAt.plain = x.ls.map LAt.plain → (done ++ [⟨x.kind, x.name, v', ls'⟩] : List BAt).map BAt.plain = (bs.take (done.length + 1)).map BAt.plain from by
    intro v' ls' hp
    rw [List.map_append, hdn, e0, ← hD, take_front, take_one, List.map_append, List.map_singleton, List.map_singleton]
    unfold BAt.plain
    rw [hp])
   have hx := h5.2 x hxm
   obtain ⟨xa, xc, ex⟩ := hx.1.form
   have bd : Below wr.heap.size wr wr.drew := (Below.refl _ _).drew
   have HB := l3Block_any (BlockIn.below hx bd) (hsm.out.2 x hxm).2
   have hmd : BlocksOwn (w.heap.size + 3) wr.drew (.slice qa done.length qc) done := hm.below bd
   have HOUT := hid_in (show ∀ w7, Below wr.heap.size wr.drew w7 → ∀ cs, (w7.alloc (.cells cs 64)).ownsRow (w.heap.size + 3) 64 3 (.slice qa done.length qc) done.length (done.flatMap BAt.cells) from fun w7 b7 cs => (own_below hmd.row b7).alloc _)
   have HMD := hid_in hmd
   have i1 : (0 : Int) ≤ (done.length : Int) := by omega
   have i2 : (done.length : Int) < (len : Int) := by omega
   have ho : (wr.drew).cell? ⟨w.heap.size + 2, 0, none⟩ = some (.slice qa done.length qc) ∧ (wr.drew).frozen? ⟨w.heap.size + 2, 0, none⟩ = false := ⟨c2, f2'⟩
   obtain ⟨xk, xn, xv, xl⟩ := x
   simp only at *
   subst ex
   clear h5 h6 hm hdn e0 hD hxm hx hmd
   generalize hnl : xl.length = nl at *
   go_wp2
   go_region_law (first
    | (refine step_append_has (by rfl) _ _ 22 (by rfl) (w.heap.size + 3) 64 i0 _ 3 56 Tryz.underlying22 hi hz0 hz1 hz2 rfl (by decide) _ done.length _ (by rfl) (HOUT.out w7 B7 _) _ 1 _ (by rfl) (lit_has w7 #[.string xk, .string xn, .slice a7 ls7.length c7] 64 3 rfl) (by intro y hy; simp at hy; rcases hy with rfl | rfl | rfl <;> rfl) (by unfold maxLen; omega) (by omega) (Nat.le_trans (Nat.le_trans hszw hz7) (by simp)) ?_
       intro ao8 cap8 w8 o8 g8 v8
       have P8 := blocks_push (x := ⟨xk, xn, .slice a7 ls7.length c7, ls7⟩) HMD.out hszw o7 B7 o8 g8 v8
       have ho8 := keepB ho P8.2 (by simp)
       have ho8a := ho8.1
       have ho8b := ho8.2)
    | (go_simp
       go_wp2_with (go_at_call 109; refine HB.mono ?_; rintro e w7 ⟨v7, ls7, rfl, hp7, o7, B7⟩; obtain ⟨a7, c7, rfl, _⟩ := own_form o7.row; have hz7 := B7.size; have ho7 := keepB ho B7 (by simp; omega); have ho7a := ho7.1; have ho7c := (keepB ho (B7.alloc hz7 (.cells #[.string xk, .string xn, .slice a7 ls7.length c7] 64)) (by simp; omega)).1)))
   all_goals
    have HST := hid_in (hstep.out (.slice a7 ls7.length c7) ls7 hp7)
    have HP := hid_in P8.1
    have B8 := P8.2
    have hz8 := B8.size
    have r0 := (World.cell?_setCell_far w8 ⟨w.heap.size + 2, 0, none⟩ ⟨w.heap.size, 0, none⟩ (.slice ao8 (done.length + 1) cap8) (by simp)).trans ((B8.cell (p := ⟨w.heap.size, 0, none⟩) (by simp)).trans c0)
    have r1 : (w8.setCell ⟨w.heap.size + 2, 0, none⟩ (.slice ao8 (done.length + 1) cap8)).heap[w.heap.size + 1]? = some (.cells #[.slice none 0 0] 24 (0, 0)) := by rw [Below.heap_setCell _ _ _ _ (by simp)]; exact (B8.block (w.heap.size + 1) (by omega)).trans z1
    have r2 := hid_in (box_set (u := .slice ao8 (done.length + 1) cap8) ho8a ho8b)
    have rb := (bw.drew.trans (B8.mono (show w.heap.size ≤ w.heap.size + 3 by omega))).setCell (p := ⟨w.heap.size + 2, 0, none⟩) (by simp) (.slice ao8 (done.length + 1) cap8)
    clear HB HOUT HMD hstep ho o7 o8 g8 v8 P8 hp7 d1 d2 d3 c0 c2 f2' ho7 ho7a ho7c
    go_wp2
    go_roundw
    case rel => exact ⟨done.length + 1, _, ao8, cap8, by omega, by go_num, HST.out, by rw [List.length_append]; exact HP.out.setCell _ (by simp) _, rb, by simp at hz8 ⊢; omega, r0, r1, by rw [List.length_append]; exact r2.out.1, r2.out.2⟩
    case measure => simp [intOf]; omega
  ·have ej : done.length = len := by omega
   have hls : bs.take done.length = bs := by rw [ej, ← en.out, List.take_length]
   rw [hls] at hdn
   have HO := hid_in hm
   have HD := hid_in hdn
   have hlt' : ¬ ((done.length : Int) < (len : Int)) := by omega
   clear hm hdn hls ej
   generalize done.length = nq at *
   go_wp2_with (with_reducible show wpList _ _ _ (Oper.mk _ (Op.store _ (Operand.tmp 2) _) _ _ _ _ :: _) _ _; refine wpList_store_row rfl 24 _ _ rfl (w.heap.size + 1) #[.slice qa nq qc] ?_ ?_ 24 _ z1 ?_ ?_ ?_ ?_)
   all_goals (first | rfl | kernel_rfl | exact sheet_size | skip)
   have z5 : (wr.setRow (w.heap.size + 1) #[.slice qa nq qc]).heap[w.heap.size + 1]? = some (.cells #[.slice qa nq qc] 24 (0, 0)) := setRow_heap _ _ _ _ _ _ z1
   have b5 : Below w.heap.size w (wr.setRow (w.heap.size + 1) #[.slice qa nq qc]) :=
    ⟨bw.os, bw.tape, bw.output, by rw [setRow_size]; exact bw.size, fun k hk => by rw [setRow_other _ _ _ _ (by omega)]; exact bw.block k hk⟩
   have o5 := (HO.out.setRow (w.heap.size + 1) (by omega) #[.slice qa nq qc]).mono (show w.heap.size ≤ w.heap.size + 3 by omega)
   have y0 := cell_of_block z5 0
   simp only [List.getElem?_toArray, List.getElem?_cons_zero] at y0
   generalize wr.setRow (w.heap.size + 1) #[.slice qa nq qc] = W at b5 y0 z5 o5 ⊢
   first | exact bodyPost_ret (v := .agg #[.slice qa nq qc]) (by simp [results, Tryz.results49, go_sem, y0]) rfl ⟨_, done, rfl, HD.out, o5, b5⟩ | exact bodyPost_ret (v := .agg #[.slice qa nq qc]) (by simp [results, Tryz.results49, go_sem, y0]) rfl ⟨_, rfl, done, HD.out, o5, b5⟩
end Go.Proofs.YtpdahhnjhggocabGreatDoor
namespace Go.Proofs.YtpdahhnjhggocabGreatDoor
open Go.RowKit
theorem words_same (xs ys : List (List UInt8)) : (!decide (xs < ys) && !decide (ys < xs)) = decide (xs = ys) := by
 by_cases h : xs = ys
 ·subst h
  have := Tot.irr xs
  simp [this]
 ·by_cases h1 : xs < ys
  ·simp [h, h1]
  ·by_cases h2 : ys < xs
   ·simp [h, h2]
   ·exact absurd (Tot.tri _ _ h1 h2) h
set_option maxHeartbeats 1000000 in
set_option maxRecDepth 100000 in
theorem l3Words_any {va vb : Value} {xs ys : List (List UInt8)} {w : World} (h1 : HasRow w va xs.length 1 (strs xs)) (h2 : HasRow w vb ys.length 1 (strs ys)) (hn : xs.length ≤ 1048576) (hm : ys.length ≤ 1048576) : Calls Tryz.prog 74 #[va, vb] w fun e w' => e = .returned (.bool (decide (xs = ys))) ∧ Below w.heap.size w w' := by
 obtain ⟨ao, ca, rfl⟩ := h1.form
 obtain ⟨bo, cb, rfl⟩ := h2.form
 have HL := fun W hW => l3Less_any (w := W) (h1.below hW) (h2.below hW) hn hm
 have HM := fun W hW => l3Less_any (w := W) (h2.below hW) (h1.below hW) hm hn
 have hE := words_same xs ys
 generalize decide (xs = ys) = E at *
 clear h1 h2
 generalize xs.length = n at *
 generalize ys.length = m at *
 cases hd : decide (xs < ys)
 ·rw [hd] at HL hE
  go_enter Tryz.func74, Tryz.ntmps74
  go_wp2_with (go_at_call 144; refine (HL _ (Below.refl _ _)).mono ?_)
  first | rintro e w2 rfl q rfl | rintro e w2 ⟨rfl, q, rfl⟩
  have B1 : Below w.heap.size w (w.drewN q) := below_drewN (Below.refl _ _) q
  have HM2 := HM _ B1
  have hE2 := hid_in hE
  clear HL hE
  generalize decide (ys < xs) = E2 at *
  go_wp2_with (go_at_call 144; refine HM2.mono ?_)
  first | rintro e w3 rfl q3 rfl | rintro e w3 ⟨rfl, q3, rfl⟩
  clear HM HM2
  go_wp2
  go_ret
  exact ⟨ret_bool (by have := hE2.out; simpa using this), below_drewN (Below.refl _ _) _⟩
 ·rw [hd] at HL hE
  have hE2 := hid_in hE
  clear HM hE
  go_enter Tryz.func74, Tryz.ntmps74
  go_wp2_with (go_at_call 144; refine (HL _ (Below.refl _ _)).mono ?_)
  first | rintro e w2 rfl q rfl | rintro e w2 ⟨rfl, q, rfl⟩
  have B1 : Below w.heap.size w (w.drewN q) := below_drewN (Below.refl _ _) q
  clear HL
  go_wp2
  go_ret
  exact ⟨ret_bool (by have := hE2.out; simpa using this), B1⟩
end Go.Proofs.YtpdahhnjhggocabGreatDoor
namespace Go.Proofs.YtpdahhnjhggocabGreatDoor
open Go.RowKit
end Go.Proofs.YtpdahhnjhggocabGreatDoor
namespace Go.Proofs.YtpdahhnjhggocabGreatDoor
open Go.RowKit
set_option maxHeartbeats 1000000 in
theorem keyIsL_any (x : LAt) (rk : ByteArray) (g : Nat) {w : World} (hx : ∃ a n c, x.v = .slice a n c) (hg : w.cell? ⟨g, 0, none⟩ = some (.string rk)) : Calls Tryz.prog 212 #[.agg #[.string x.key, x.v], .pointer (some ⟨g, 0, none⟩)] w fun e w' => e = .returned (.bool (x.key.toList == rk.toList)) ∧ Below w.heap.size w w' := by
 obtain ⟨a, n, c, e1⟩ := hx
 rw [e1]
 have G := (Below.refl w.heap.size w).alloc (Nat.le_refl _) (.cells #[.string x.key, .slice a n c] 82)
 have hg' := (G.cell (World.block_lt_of_cell? w _ hg)).trans hg
 have k0 := one_box (w := w) (cs := #[.string x.key, .slice a n c]) (T := 82) 0
 simp only [List.getElem?_toArray, List.getElem?_cons_zero] at k0
 generalize x.key = xk at *
 go_enter Tryz.func212, Tryz.ntmps212
 go_wp2
 go_ret
 exact ⟨rfl, G⟩
def NoKeyTo (ls : List LAt) (k : ByteArray) (j : Nat) : Prop := ∀ x ∈ ls.take j, (x.key.toList == k.toList) = false
def FoundL (b : Bool) (w : World) (e : Ending) (w' : World) : Prop := (∃ n : Int, e = .returned (.int .i64 n) ∧ (decide (n ≥ 0)) = b) ∧ Below w.heap.size w w'
set_option maxHeartbeats 1000000 in
set_option maxRecDepth 100000 in
theorem indexLines_any {v : Value} {ls : List LAt} (key : ByteArray) (g : Nat) {w : World} (h : LinesIn w v ls) (hl : ls.length ≤ 1048576) (hg : w.cell? ⟨g, 0, none⟩ = some (.string key)) : Calls Tryz.prog 248 #[v, .func (.func 212) #[] #[.pointer (some ⟨g, 0, none⟩)]] w fun e w' => FoundL (hasK (ls.map LAt.plain) key) w e w' := by
 obtain ⟨ao, cap, rfl⟩ := h.1.form
 generalize hn : ls.length = n at *
 have en := hid_in hn
 clear hn
 go_enter Tryz.func248, Tryz.ntmps248
 go_wp2
 go_loopw [8] (fun i wr => ∃ j : Nat, j ≤ n ∧ i = .int .i64 (j : Int) ∧ Below w.heap.size w wr ∧ NoKeyTo ls key j) (fun i _ => n - (intOf i).toNat)
 case atStart => exact ⟨0, by omega, rfl, Below.refl _ _, by simp [NoKeyTo]⟩
 case round =>
  obtain ⟨j, hj, rfl, G, hA⟩ := hrel
  by_cases hlt : j < n
  ·obtain ⟨D, x, T, e0, hD⟩ := split1 ls j (by have := en.out; omega)
   have h5 := h.below G
   have hxm : x ∈ ls := by rw [e0]; simp
   have h6 := h5
   rw [e0] at h6
   obtain ⟨b, off, rfl, c0, c1⟩ := h6.1.line
   obtain ⟨ax, cx, ex⟩ := HasRow.form (h5.2 x hxm)
   have hg' : wr.cell? ⟨g, 0, none⟩ = some (.string key) := (G.cell (World.block_lt_of_cell? w _ hg)).trans hg
   have H := keyIsL_any x key g ⟨_, _, _, ex⟩ hg'
   rw [ex] at H c1
   rw [hD] at c0 c1
   have i1 : (0 : Int) ≤ (j : Int) := by omega
   have i2 : (j : Int) < (n : Int) := by omega
   cases hk : (x.key.toList == key.toList)
   ·have HA := hid_in (show NoKeyTo ls key (j + 1) from by
     unfold NoKeyTo at hA ⊢
     rw [e0, ← hD, take_front] at hA
     rw [e0, ← hD, take_one]
     intro y hy
     rcases List.mem_append.1 hy with hy | hy
     ·exact hA y hy
     ·rw [List.mem_singleton.1 hy]; exact hk)
    rw [hk] at H
    clear h h5 h6 hA hg hg' e0 hD hxm hk
    go_wp2_with (go_at_call 212; refine H.mono ?_)
    first | rintro e w1 rfl G1 | rintro e w1 ⟨rfl, G1⟩
    clear H
    go_wp2
    go_roundw
    case rel => exact ⟨j + 1, by omega, by go_num, G.trans (G1.mono G.size), HA.out⟩
    case measure => simp [intOf]; omega
   ·have HA := hid_in (show hasK (ls.map LAt.plain) key = true from by
     unfold hasK
     rw [List.any_map, List.any_eq_true]
     exact ⟨x, hxm, hk⟩)
    rw [hk] at H
    clear h h5 h6 hA hg hg' e0 hD hxm hk
    go_wp2_with (go_at_call 212; refine H.mono ?_)
    first | rintro e w1 rfl G1 | rintro e w1 ⟨rfl, G1⟩
    clear H
    go_wp2
    go_ret
    exact ⟨⟨(j : Int), rfl, by rw [HA.out]; exact decide_eq_true i1⟩, G.trans (G1.mono G.size)⟩
  ·obtain rfl : j = n := by omega
   have HA := hid_in (show hasK (ls.map LAt.plain) key = false from by
    unfold hasK
    rw [List.any_map, List.any_eq_false]
    unfold NoKeyTo at hA
    rw [← en.out, List.take_length] at hA
    intro x hx
    have := hA x hx
    show ¬ (x.key.toList == key.toList) = true
    rw [this]; decide)
   clear hA h
   go_wp2
   go_ret
   exact ⟨⟨-1, rfl, by rw [HA.out]; rfl⟩, G⟩
set_option maxHeartbeats 1000000 in
set_option maxRecDepth 100000 in
theorem containsLines_any {v : Value} {ls : List LAt} (key : ByteArray) (g : Nat) {w : World} (h : LinesIn w v ls) (hl : ls.length ≤ 1048576) (hg : w.cell? ⟨g, 0, none⟩ = some (.string key)) : Calls Tryz.prog 211 #[v, .func (.func 212) #[] #[.pointer (some ⟨g, 0, none⟩)]] w fun e w' => e = .returned (.bool (hasK (ls.map LAt.plain) key)) ∧ Below w.heap.size w w' := by
 have H := indexLines_any key g h hl hg
 generalize hasK (ls.map LAt.plain) key = K at *
 clear h hg
 obtain ⟨v0, hv0⟩ : ∃ v0, v0 = v := ⟨_, rfl⟩
 subst hv0
 go_enter Tryz.func211, Tryz.ntmps211
 go_wp2_with (go_at_call 248; refine H.mono ?_)
 rintro e w1 ⟨⟨n, rfl, hn⟩, b1⟩
 clear H
 subst hn
 go_wp2
 go_ret
 exact ⟨rfl, b1⟩
set_option maxHeartbeats 1000000 in
set_option maxRecDepth 100000 in
theorem hasKey_any {v : Value} {ls : List LAt} (key : ByteArray) {w : World} (h : LinesIn w v ls) (hl : ls.length ≤ 1048576) : Calls Tryz.prog 141 #[v, .string key] w fun e w' => e = .returned (.bool (hasK (ls.map LAt.plain) key)) ∧ Below w.heap.size w w' := by
 have G := (Below.refl w.heap.size w).alloc (Nat.le_refl _) (.cells #[.string key] 9)
 have k0 := one_box (w := w) (cs := #[.string key]) (T := 9) 0
 simp only [List.getElem?_toArray, List.getElem?_cons_zero] at k0
 have H := containsLines_any key w.heap.size (h.below G) hl k0
 generalize hasK (ls.map LAt.plain) key = K at *
 clear h
 go_enter Tryz.func141, Tryz.ntmps141
 go_wp2_with (go_at_call 211; refine H.mono ?_)
 first | rintro e w1 rfl b1 | rintro e w1 ⟨rfl, b1⟩
 clear H
 go_wp2
 go_ret
 exact ⟨rfl, G.trans (b1.mono (by simp))⟩
set_option maxHeartbeats 1000000 in
set_option maxRecDepth 100000 in
theorem cloneLines_any {v : Value} {ls : List LAt} {w : World} (h : LinesIn w v ls) (hl : ls.length ≤ 1048576) : Calls Tryz.prog 142 #[v] w fun e w' => ∃ ao cap, e = .returned (.slice ao ls.length cap) ∧ w'.ownsRow w.heap.size 82 2 (.slice ao ls.length cap) ls.length (ls.flatMap LAt.cells) ∧ Below w.heap.size w w' := by
 have hone := lcells_one (fun x hx => by obtain ⟨a, c, e⟩ := HasRow.form (h.2 x hx); exact ⟨a, _, c, e⟩)
 have hsl : (ls.flatMap LAt.cells).length = ls.length * 2 := rowF_len _ 2 LAt.len ls
 replace h := h.1
 obtain ⟨ao, cap, rfl⟩ := h.form
 generalize ls.flatMap LAt.cells = xs at *
 generalize ls.length = n at *
 obtain ⟨i0, hi, hz0, hz1, hz2⟩ := info_parts infoLine
 have q45 : ∀ (w : World) (a : Option Addr) (n c n' c' : Nat), (binOp .eql 41 (.slice a n c) (.slice none n' c')).run Tryz.prog w = .ok (.bool a.isNone) w := fun w a n c n' c' => Lib.run_eql_slice_nil w _ _ a n c n' c' Tryz.underlying41
 cases ao with
 | none =>
  have h0 : n = 0 := by
   obtain ⟨_, ao', c', hv, _, hc⟩ := h
   cases hv
   rcases hc with h0 | ⟨b, off, e, _⟩
   ·exact h0
   ·cases e
  have ho : w.ownsRow w.heap.size 82 2 (.slice none n 0) n xs := own_nil h0 (by omega)
  clear h
  subst h0
  go_enter Tryz.func142, Tryz.ntmps142
  go_wp2
  go_ret
  exact ⟨none, 0, rfl, ho, Below.refl _ _⟩
 | some a =>
  have b0 := (Below.refl w.heap.size w).alloc (Nat.le_refl _) (.cells #[] 82)
  have h1 := h.below b0
  have hown0 := World.ownsRow_lit (base := w.heap.size) (e := 82) (size := 2) w #[] 0 (Nat.le_refl _) (by decide) rfl
  clear h
  go_enter Tryz.func142, Tryz.ntmps142
  go_wp2_with (at_builtin; refine wpList_append_has (by rfl) _ _ 41 (by rfl) w.heap.size 82 i0 _ 2 40 Tryz.underlying41 hi hz0 hz1 hz2 rfl (by decide) _ 0 [] (by rfl) hown0 _ n xs (by rfl) h1 hone ?c3 ?c4 (by simp) ?_)
  case c3 => unfold maxLen; omega
  case c4 => omega
  intro ao' cap' w1 hown1 hg hb
  have hB := b0.grown hg (by simp) (fun k hk => (hown0.lt k hk).1)
  clear h1 hown0 hb hg
  go_wp2
  go_ret
  exact ⟨ao', cap', rfl, by simpa using hown1, hB⟩
end Go.Proofs.YtpdahhnjhggocabGreatDoor
