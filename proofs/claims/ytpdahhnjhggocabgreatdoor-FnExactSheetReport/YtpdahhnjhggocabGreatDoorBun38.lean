import Derived.Test.YtpdahhnjhggocabGreatDoorBun36
import Derived.Test.YtpdahhnjhggocabGreatDoorBun31
import Derived.Test.YtpdahhnjhggocabGreatDoorBun20
namespace Go.Proofs.YtpdahhnjhggocabGreatDoor
open Go.RowKit
theorem rcells_one {L : List RAt} (h : ∀ r ∈ L, (∃ a n c, r.va = .slice a n c) ∧ ∃ a n c, r.vd = .slice a n c) : ∀ u ∈ L.flatMap RAt.cells, u.oneCell' = true := by
 intro u hu
 obtain ⟨x, hx, hu⟩ := List.mem_flatMap.1 hu
 obtain ⟨⟨a, n, c, e⟩, ⟨a', n', c', e'⟩⟩ := h x hx
 simp only [RAt.cells, List.mem_cons, List.not_mem_nil, or_false] at hu
 rcases hu with rfl | rfl | rfl | rfl
 ·rfl
 ·rw [e]; rfl
 ·rfl
 ·rw [e']; rfl
theorem infoRule : (Tryz.prog.info? 105).map (fun i => (i.zero, i.size, i.bytes)) = some (some (.agg #[.string ⟨#[]⟩, .slice none 0 0, .bool false, .slice none 0 0]), 4, 72) := by kernel_rfl
set_option maxHeartbeats 1000000 in
set_option maxRecDepth 100000 in
theorem unsaidIs_any {v : Value} {ls : List LAt} (r : RAt) (g : Nat) {w : World} (hr : (∃ a n c, r.va = .slice a n c) ∧ ∃ a n c, r.vd = .slice a n c) (h : LinesIn w v ls) (hl : ls.length ≤ 1048576) (hg : w.cell? ⟨g, 0, none⟩ = some v) :
  Calls Tryz.prog 140 #[.agg #[.string r.key, r.va, .bool r.many, r.vd], .pointer (some ⟨g, 0, none⟩)] w fun e w' => e = .returned (.bool (isUnsaid (ls.map LAt.plain) r.plain)) ∧ Below w.heap.size w w' := by
 obtain ⟨⟨a, n, c, e1⟩, ⟨a', n', c', e2⟩⟩ := hr
 rw [e1, e2]
 have G := (Below.refl w.heap.size w).alloc (Nat.le_refl _) (.cells #[.string r.key, .slice a n c, .bool r.many, .slice a' n' c'] 105)
 have hg' := (G.cell (World.block_lt_of_cell? w _ hg)).trans hg
 have k0 := one_box (w := w) (cs := #[.string r.key, .slice a n c, .bool r.many, .slice a' n' c']) (T := 105) 0
 have k2 := one_box (w := w) (cs := #[.string r.key, .slice a n c, .bool r.many, .slice a' n' c']) (T := 105) 2
 simp only [List.getElem?_toArray, List.getElem?_cons_zero, List.getElem?_cons_succ] at k0 k2
 have H := hasKey_any r.key (h.below G) hl
 have hU : isUnsaid (ls.map LAt.plain) r.plain = (!r.many && !hasK (ls.map LAt.plain) r.key) := rfl
 rw [hU]
 generalize hasK (ls.map LAt.plain) r.key = K at *
 obtain ⟨av, cv, rfl⟩ := h.1.form
 clear h hU hg e1 e2
 generalize ls.length = nl at *
 generalize r.key = rk at *
 cases hm : r.many
 ·rw [hm] at k2 G k0 hg' H
  go_enter Tryz.func140, Tryz.ntmps140
  go_wp2_with (go_at_call 141; refine H.mono ?_)
  first | rintro e w1 rfl b1 | rintro e w1 ⟨rfl, b1⟩
  clear H
  go_wp2
  go_ret
  exact ⟨ret_bool (by simp), G.trans (b1.mono (by simp))⟩
 ·rw [hm] at k2 G k0 hg' H
  clear H
  go_enter Tryz.func140, Tryz.ntmps140
  go_wp2
  go_ret
  exact ⟨ret_bool (by simp), G⟩
set_option maxHeartbeats 2000000 in
set_option maxRecDepth 100000 in
theorem keepRules_any {F : FuncId} {q v : Value} {L : List RAt} (p : RAt → Bool) {w : World} (h : RulesIn w v L) (hl : L.length ≤ 12) (hF : ∀ x ∈ L, ∀ W, Below w.heap.size w W → Calls Tryz.prog F #[.agg #[.string x.key, x.va, .bool x.many, x.vd], q] W fun e w' => e = .returned (.bool (p x)) ∧ Below W.heap.size W w') (hE : ∀ args w, (callFunc F args).run Tryz.prog w = .ok (.enter F args) w) :
  Calls Tryz.prog 139 #[v, .func (.func F) #[] #[q]] w fun e w' => ∃ v', e = .returned v' ∧ w'.ownsRow w.heap.size 105 4 v' (L.filter p).length ((L.filter p).flatMap RAt.cells) ∧ Below w.heap.size w w' := by
 obtain ⟨ao, cap, rfl⟩ := h.1.form
 generalize hn : L.length = len at *
 have en := hid_in hn
 clear hn
 obtain ⟨i0, hi, hz0, hz1, hz2⟩ := info_parts infoRule
 go_enter Tryz.func139, Tryz.ntmps139
 go_wp2
 go_loopw [5, 10] (fun u i wr => ∃ (j : Nat) (done : List RAt), j ≤ len ∧ i = .int .i64 (j : Int) ∧ done = (L.take j).filter p ∧ wr.ownsRow w.heap.size 105 4 u done.length (done.flatMap RAt.cells) ∧ Below w.heap.size w wr) (fun _ i _ => len - (intOf i).toNat)
 case atStart => exact ⟨0, [], by omega, rfl, by simp, World.ownsRow_nil _ _ _ _, Below.refl _ _⟩
 case round =>
  obtain ⟨j, done, hj, rfl, hdn, hm, bw⟩ := hrel
  obtain ⟨qa, qc, rfl, _⟩ := own_form hm
  have hdl : done.length ≤ j := by rw [hdn]; exact Nat.le_trans (List.length_filter_le _ _) (by simp; omega)
  by_cases hlt : j < len
  ·obtain ⟨D, x, T, e0, hD⟩ := split1 L j (by have := en.out; omega)
   have h5 := h.below bw
   have hxm : x ∈ L := by rw [e0]; simp
   have h6 := h5
   rw [e0] at h6
   obtain ⟨g, off, rfl, c1, c2, c3, c4⟩ := h6.1.rule
   obtain ⟨⟨av, nv, cv, e1⟩, ⟨ad, nd, cd, e2⟩⟩ := h5.2 x hxm
   have hst := hid_in (show (L.take (j + 1)).filter p = done ++ [x].filter p from by rw [hdn, e0, ← hD, take_front, take_one, List.filter_append])
   have bx := (Below.refl wr.heap.size wr).alloc (Nat.le_refl _) (.cells #[.string x.key, .slice av nv cv, .bool x.many, .slice ad nd cd] 105)
   have kk := one_box (w := wr) (cs := #[.string x.key, .slice av nv cv, .bool x.many, .slice ad nd cd]) (T := 105)
   have k0 := kk 0
   have k1 := kk 1
   have k2 := kk 2
   have k3 := kk 3
   simp only [List.getElem?_toArray, List.getElem?_cons_zero, List.getElem?_cons_succ] at k0 k1 k2 k3
   have HC := hF x hxm _ (bw.trans (bx.mono bw.size))
   rw [e1, e2] at HC
   rw [e1] at c2
   rw [e2] at c4
   rw [hD] at c1 c2 c3 c4
   have hB0 : (0 : Int) ≤ (j : Int) := by omega
   have hB1 : (j : Int) < (len : Int) := by omega
   have hcells := hid_in (show (RAt.cells x) = [.string x.key, .slice av nv cv, .bool x.many, .slice ad nd cd] from by unfold RAt.cells; rw [e1, e2])
   have hm' := hid_in hm
   have hszw := bw.size
   have hbase := hid_in (show ∀ k, (Value.slice qa done.length qc).ownBlock = some k → w.heap.size ≤ k from fun k hk => (hm.lt k hk).1)
   cases hp : p x
   ·have hst' := hid_in (show (L.take (j + 1)).filter p = done from by rw [hst.out]; simp [hp])
    rw [hp] at HC
    clear h h5 h6 hF hdn hm e0 e1 e2 hD hxm hst hcells hp kk
    go_wp2_with (go_at_fn F; refine HC.mono ?_)
    first | rintro e w2 rfl b2 | rintro e w2 ⟨rfl, b2⟩
    have b3 := bx.trans (b2.mono (by simp))
    have hm3 := own_below hm'.out b3
    clear HC
    go_wp2
    go_roundw
    case rel => exact ⟨j + 1, done, by omega, by go_num, hst'.out.symm, hm3, bw.trans (b3.mono hszw)⟩
    case measure => simp [intOf]; omega
   ·have hst' := hid_in (show (L.take (j + 1)).filter p = done ++ [x] from by rw [hst.out]; simp [hp])
    rw [hp] at HC
    have hone := rcells_one (L := [x]) (fun y hy => by rw [List.mem_singleton.1 hy]; exact ⟨⟨_, _, _, e1⟩, ⟨_, _, _, e2⟩⟩)
    rw [List.flatMap_singleton, hcells.out] at hone
    clear h h5 h6 hF hdn hm e0 e1 e2 hD hxm hst hp kk
    go_wp2_with (go_at_fn F; refine HC.mono ?_)
    first | rintro e w2 rfl b2 | rintro e w2 ⟨rfl, b2⟩
    have b3 := bx.trans (b2.mono (by simp))
    have m0 := (b2.cell (p := ⟨wr.heap.size, 0, none⟩) (by simp)).trans k0
    have m1 := (b2.cell (p := ⟨wr.heap.size, 1, none⟩) (by simp)).trans k1
    have m2 := (b2.cell (p := ⟨wr.heap.size, 2, none⟩) (by simp)).trans k2
    have m3 := (b2.cell (p := ⟨wr.heap.size, 3, none⟩) (by simp)).trans k3
    have hm3 := (own_below hm'.out b3).alloc (.cells #[.string x.key, .slice av nv cv, .bool x.many, .slice ad nd cd] 105)
    have b4 := b3.alloc b3.size (.cells #[.string x.key, .slice av nv cv, .bool x.many, .slice ad nd cd] 105)
    have hrow := lit_has w2 #[.string x.key, .slice av nv cv, .bool x.many, .slice ad nd cd] 105 4 rfl
    have hz3 := b3.size
    clear HC k0 k1 k2 k3
    go_wp2_with (at_builtin; refine wpList_append_has (by rfl) _ _ 85 (by rfl) w.heap.size 105 i0 _ 4 72 Tryz.underlying85 hi hz0 hz1 hz2 rfl (by decide) _ done.length _ (by rfl) hm3 _ 1 _ (by rfl) hrow hone ?c3 ?c4 (Nat.le_trans hszw (Nat.le_trans hz3 (by simp))) ?_)
    case c3 => unfold maxLen; omega
    case c4 => omega
    intro ao' cap' w5 hown5 hg5 _
    have hB5 := (bw.trans (b4.mono hszw)).grown hg5 (by simp; omega) hbase.out
    have HO := hid_in (show w5.ownsRow w.heap.size 105 4 (.slice ao' (done.length + 1) cap') (done ++ [x]).length ((done ++ [x]).flatMap RAt.cells) from by
     rw [List.flatMap_append, List.flatMap_singleton, hcells.out, List.length_append]; exact hown5)
    clear hm3 hrow hone hown5 hg5 m0 m1 m2 m3 hbase hm'
    go_wp2
    go_roundw
    case rel => exact ⟨j + 1, done ++ [x], by omega, by go_num, hst'.out.symm, HO.out, hB5⟩
    case measure => simp [intOf]; omega
  ·obtain rfl : j = len := by omega
   have hls : L.take j = L := by rw [← en.out, List.take_length]
   have HO := hid_in (show wr.ownsRow w.heap.size 105 4 (.slice qa done.length qc) (L.filter p).length ((L.filter p).flatMap RAt.cells) from by rw [← hls, ← hdn]; exact hm)
   clear h hF hm hdn
   go_wp2
   go_ret
   exact ⟨_, rfl, HO.out, bw⟩
end Go.Proofs.YtpdahhnjhggocabGreatDoor
namespace Go.Proofs.YtpdahhnjhggocabGreatDoor
open Go.RowKit
def dlAt (r : RAt) : LAt := ⟨r.key, r.vd, r.ds⟩
theorem unsaid_at (L : List RAt) (PL : List PLine) : ((L.filter (fun r => isUnsaid PL r.plain)).map dlAt).map LAt.plain = unsaid (L.map RAt.plain) PL := by
 unfold unsaid
 rw [List.filter_map, List.map_map, List.map_map]
 rfl
def FillPost (P : List PLine) (w : World) (e : Ending) (w' : World) : Prop := ∃ v' ls', e = .returned v' ∧ ls'.map LAt.plain = P ∧ LinesIn w' v' ls' ∧ LinesSmall ls' ∧ Below w.heap.size w w'
set_option maxHeartbeats 8000000 in
set_option maxRecDepth 100000 in
theorem fillLines_any {B : Nat} {vr v : Value} {kind : ByteArray} {L : List RAt} {ls : List LAt} {w : World} (hr : RulesAt B w vr L) (hpl : L.map RAt.plain = rulesOf kind) (h : LinesIn w v ls) (hs : LinesSmall ls) (hok : LinesOk (L.map RAt.plain) (ls.map LAt.plain)) :
  Calls Tryz.prog 72 #[vr, v] w fun e w' => FillPost (fillL (L.map RAt.plain) (ls.map LAt.plain)) w e w' := by
 have hl := rulesOf_twelve kind hpl
 have hfew : ls.length ≤ 120 := by have := hok.few; simp at this; omega
 have hgood := hid_in (fill_good hok (by rw [hpl]; exact rulesOf_good kind) (by rw [hpl]; exact rulesOf_nodupK kind))
 have hrin := hr.rin
 obtain ⟨ao, cap, ev⟩ := h.1.form
 obtain ⟨ra, rc, er⟩ := hrin.1.form
 have G := (Below.refl w.heap.size w).alloc (Nat.le_refl _) (.cells #[v] 41)
 have k0 := one_box (w := w) (cs := #[v]) (T := 41) 0
 simp only [List.getElem?_toArray, List.getElem?_cons_zero] at k0
 have l0 := World.block_lt_of_cell? _ _ k0
 have hdefs := hid_in (show ∀ r ∈ L, HasRow w r.vd r.ds.length 1 (strs r.ds) ∧ r.ds.length ≤ 1048576 ∧ ∀ y ∈ r.ds, y.length ≤ 1048576 from fun r hrm => by
  obtain ⟨D0, T0, hDT⟩ := List.append_of_mem hrm
  exact ⟨own_has (by have := hr.rm; rw [hDT] at this; exact this.defs), defs_small hpl hrm⟩)
 have HK := keepRules_any (F := 140) (q := .pointer (some ⟨w.heap.size, 0, none⟩)) (fun r => isUnsaid (ls.map LAt.plain) r.plain) (hrin.below G) hl (fun x hx W hW => unsaidIs_any x w.heap.size (hrin.2 x hx) (h.below (G.trans (hW.mono G.size))) hs.1 ((hW.cell l0).trans k0)) (enters_of Tryz.func140 (by kernel_rfl) rfl)
 have hUm := hid_in (show ∀ r ∈ L.filter (fun r => isUnsaid (ls.map LAt.plain) r.plain), r ∈ L from fun r hr => (List.mem_filter.1 hr).1)
 have hUP := hid_in (unsaid_at L (ls.map LAt.plain))
 have hUl : (L.filter (fun r => isUnsaid (ls.map LAt.plain) r.plain)).length ≤ 12 := Nat.le_trans (List.length_filter_le _ _) hl
 generalize hU : L.filter (fun r => isUnsaid (ls.map LAt.plain) r.plain) = U at *
 have hH := hid_in h
 have hHS := hid_in hs
 have hRI := hid_in hrin
 subst ev er
 clear h hs hr hok hrin hU
 go_enter Tryz.func72, Tryz.ntmps72
 go_wp2_with (go_at_call 139; refine HK.mono ?_)
 first | rintro e w1 v1 rfl o1 b1 | rintro e w1 ⟨v1, rfl, o1, b1⟩
 have b1' : Below (w.alloc (.cells #[.slice ao ls.length cap] 41)).heap.size (w.alloc (.cells #[.slice ao ls.length cap] 41)) w1 := by simpa using b1
 have g1 := G.trans (b1'.mono G.size)
 have k1 := (b1'.cell (p := ⟨w.heap.size, 0, none⟩) l0).trans k0
 obtain ⟨ua, uc, rfl, _⟩ := own_form o1
 have hu1 := hid_in (own_has o1)
 have HC := cloneLines_any (hH.out.below g1) hHS.out.1
 clear HK b1 b1' k0 l0 G o1
 go_wp2_with (go_at_call 142; refine HC.mono ?_)
 first | rintro e w2 a2 c2 rfl o2 b2 | rintro e w2 ⟨a2, c2, rfl, o2, b2⟩
 have O2 := hid_in o2
 clear HC o2 k1
 obtain ⟨i0, hi, hz0, hz1, hz2⟩ := info_parts infoLine
 generalize hnU : U.length = nU at *
 have enU := hid_in hnU
 clear hnU
 have hUall := hid_in (show ∀ r ∈ U, HasRow w r.vd r.ds.length 1 (strs r.ds) ∧ r.ds.length ≤ 1048576 ∧ ∀ y ∈ r.ds, y.length ≤ 1048576 from fun r hr => hdefs.out r (hUm.out r hr))
 have hUform := hid_in (show ∀ r ∈ U, (∃ a n c, r.va = .slice a n c) ∧ ∃ a n c, r.vd = .slice a n c from fun r hr => hRI.out.2 r (hUm.out r hr))
 go_wp2
 go_loopw [6, 16] (fun q i wr => ∃ (j : Nat) (done : List LAt), j ≤ nU ∧ i = .int .i64 (j : Int) ∧ Hid (done = ls ++ (U.take j).map dlAt) ∧ done.length ≤ 120 + j ∧ wr.ownsRow w1.heap.size 82 2 q done.length (done.flatMap LAt.cells) ∧ Below w1.heap.size w1 wr) (fun _ i _ => nU - (intOf i).toNat)
 case atStart => exact ⟨0, ls, by omega, rfl, (by simp : ls = ls ++ (U.take 0).map dlAt), by omega, O2.out, b2⟩
 case round =>
  obtain ⟨j, done, hj, rfl, hdn, hdl, hm, bw⟩ := hrel
  obtain ⟨qa, qc, rfl, _⟩ := own_form hm
  have hszw := bw.size
  by_cases hlt : j < nU
  ·obtain ⟨D, r, T, e0, hD⟩ := split1 U j (by have := enU.out; omega)
   have h6 := hu1.out.below bw
   rw [e0] at h6
   obtain ⟨g, off, rfl, c1, c2', c3, c4⟩ := h6.rule
   rw [hD] at c1 c2' c3 c4
   have hrm : r ∈ U := by rw [e0]; simp
   obtain ⟨⟨av, nv, cv, e1⟩, ⟨ad, nd, cd, e2⟩⟩ := hUform.out r hrm
   have hstep := hid_in (show done ++ [dlAt r] = ls ++ (U.take (j + 1)).map dlAt from by rw [hdn.out, e0, ← hD, take_one, take_front, List.map_append, List.append_assoc]; rfl)
   have hcells := hid_in (show (dlAt r).cells = [.string r.key, .slice ad nd cd] from by unfold LAt.cells dlAt; rw [e2])
   rw [e1] at c2'
   rw [e2] at c4
   have bx := (Below.refl wr.heap.size wr).alloc (Nat.le_refl _) (.cells #[.string r.key, .slice av nv cv, .bool r.many, .slice ad nd cd] 105)
   have kk := one_box (w := wr) (cs := #[.string r.key, .slice av nv cv, .bool r.many, .slice ad nd cd]) (T := 105)
   have k0 := kk 0
   have k1 := kk 1
   have k2 := kk 2
   have k3 := kk 3
   simp only [List.getElem?_toArray, List.getElem?_cons_zero, List.getElem?_cons_succ] at k0 k1 k2 k3
   have HD := defaultLine_any r.key (.slice av nv cv) (.slice ad nd cd) r.many (w := wr.alloc (.cells #[.string r.key, .slice av nv cv, .bool r.many, .slice ad nd cd] 105)) ⟨_, _, _, rfl⟩ ⟨_, _, _, rfl⟩
   have i1 : (0 : Int) ≤ (j : Int) := by omega
   have i2 : (j : Int) < (nU : Int) := by omega
   have HM := hid_in hm
   have hbase := hid_in (show ∀ k, (Value.slice qa done.length qc).ownBlock = some k → w1.heap.size ≤ k from fun k hk => (hm.lt k hk).1)
   clear hm hdn h6 e0 hD hrm e1 e2 kk O2
   generalize r.key = rk at *
   generalize r.many = rmn at *
   go_wp2_with (go_at_call 143; refine HD.mono ?_)
   first | rintro e w4 rfl b4 | rintro e w4 ⟨rfl, b4⟩
   have b4' : Below (wr.alloc (.cells #[.string rk, .slice av nv cv, .bool rmn, .slice ad nd cd] 105)).heap.size (wr.alloc (.cells #[.string rk, .slice av nv cv, .bool rmn, .slice ad nd cd] 105)) w4 := by simpa using b4
   have b5 := bx.trans (b4'.mono bx.size)
   have hm3 := (own_below HM.out b5).alloc (.cells #[.string rk, .slice ad nd cd] 82)
   have b6 := b5.alloc b5.size (.cells #[.string rk, .slice ad nd cd] 82)
   have hrow := lit_has w4 #[.string rk, .slice ad nd cd] 82 2 rfl
   have hz5 := b5.size
   clear HD k0 k1 k2 k3 b4 b4' HM
   go_wp2_with (at_builtin; refine wpList_append_has (by rfl) _ _ 41 (by rfl) w1.heap.size 82 i0 _ 2 40 Tryz.underlying41 hi hz0 hz1 hz2 rfl (by decide) _ done.length _ (by rfl) hm3 _ 1 _ (by rfl) hrow (by intro z hz; simp at hz; rcases hz with rfl | rfl <;> rfl) ?c3 ?c4 (Nat.le_trans hszw (Nat.le_trans hz5 (by simp))) ?_)
   case c3 => unfold maxLen; omega
   case c4 => omega
   intro ao' cap' w7 hown7 hg7 _
   have hB7 := (bw.trans (b6.mono hszw)).grown hg7 (by simp; omega) hbase.out
   have HO := hid_in (show w7.ownsRow w1.heap.size 82 2 (.slice ao' (done.length + 1) cap') (done ++ [dlAt r]).length ((done ++ [dlAt r]).flatMap LAt.cells) from by
    rw [List.flatMap_append, List.flatMap_singleton, hcells.out, List.length_append]; exact hown7)
   clear hm3 hrow hown7 hg7 hbase
   go_wp2
   go_roundw
   case rel => exact ⟨j + 1, done ++ [dlAt r], by omega, by go_num, hstep, by simp; omega, HO.out, hB7⟩
   case measure => simp [intOf]; omega
  ·obtain rfl : j = nU := by omega
   have hls : U.take j = U := by rw [← enU.out, List.take_length]
   rw [hls] at hdn
   have gw := g1.trans (bw.mono (by have := g1.size; omega))
   have HL := lineOrderOf_any (v := .slice ra L.length rc) ⟨_, _, _, rfl⟩ wr
   have x3 : Below wr.heap.size wr (wr.alloc (.cells #[.slice ra L.length rc] 85)) := (Below.refl _ _).alloc (Nat.le_refl _) _
   have q3 := one_box (w := wr) (cs := #[.slice ra L.length rc]) (T := 85) 0
   simp only [List.getElem?_toArray, List.getElem?_cons_zero] at q3
   have g3 := gw.trans (x3.mono gw.size)
   have hall := hid_in (show ∀ x ∈ done, LineIn w x ∧ x.ws.length ≤ 1048576 ∧ ∀ y ∈ x.ws, y.length ≤ 1048576 from fun x hx => by
    rw [hdn.out] at hx
    rcases List.mem_append.1 hx with hx | hx
    ·exact ⟨hH.out.2 x hx, hHS.out.2 x hx⟩
    ·obtain ⟨r, hr, rfl⟩ := List.mem_map.1 hx
     exact hUall.out r hr)
   have hqb : ∀ q, (Value.slice qa done.length qc).ownBlock = some q → w1.heap.size ≤ q ∧ q < wr.heap.size := fun q hq => hm.lt q hq
   have hszw1 := g1.size
   have HS := sortLines_any (g := wr.heap.size) (own_below hm x3) (by exact hl) (hRI.out.below g3) q3 (fun x hx => ⟨LineIn.below (hall.out x hx).1 g3, (hall.out x hx).2.1⟩)
    (fun q hq => ⟨FarV.of_lt hRI.out.1 (by decide) (by have := (hqb q hq).1; omega), by have := (hqb q hq).2; omega, fun x hx => FarV.of_lt (hall.out x hx).1 (by decide) (by have := (hqb q hq).1; omega)⟩) (by omega)
   have hQB := hid_in hqb
   have hml2 : done.length ≤ 132 := by omega
   have hlt' : ¬ ((j : Int) < (j : Int)) := by omega
   clear hm hls hqb O2
   go_wp2_with (first | (go_at_call 53; refine HL.mono ?_; rintro e w3 ⟨rfl, rfl⟩) | (go_at_call 52; refine HS.mono ?_))
   first | rintro e w5 rfl ls5 hp5 o5 hs5 g5 | rintro e w5 ⟨rfl, ls5, hp5, o5, hs5, g5⟩
   have hpl5 : ls5.map LAt.plain = fillL (L.map RAt.plain) (ls.map LAt.plain) := by
    refine normLs_unique hgood.out ?_ ?_
    ·rw [← hUP.out, ← List.map_append, ← hdn.out]
     exact hp5.map _
    ·intro i k hik a b ha hb
     rw [List.getElem?_map, Option.map_eq_some_iff] at ha hb
     obtain ⟨a', ha', rfl⟩ := ha
     obtain ⟨b', hb', rfl⟩ := hb
     exact hs5 i k hik a' b' ha' hb'
   have hl5 : ls5.length = done.length := hp5.length_eq
   have hin5 : LinesIn w5 (.slice qa done.length qc) ls5 := by
    refine ⟨own_has (by rw [hl5]; exact o5), fun x hx => ?_⟩
    have hxd : x ∈ done := hp5.mem_iff.1 hx
    have h8 := LineIn.below (hall.out x hxd).1 g3
    cases hob : (Value.slice qa done.length qc).ownBlock with
    | none =>
     rw [hob] at g5
     exact HasRow.below h8 (below_madeR g5)
    | some q =>
     rw [hob] at g5
     exact HasRow.far h8 (FarV.of_lt (hall.out x hxd).1 (by decide) (by have := (hQB.out q hob).1; omega)) g5
   have hsm5 : LinesSmall ls5 := ⟨by rw [hl5]; omega, fun x hx => (hall.out x (hp5.mem_iff.1 hx)).2⟩
   have B5 := g3.grown g5 g3.size (fun k hk => by have := (hQB.out k hk).1; omega)
   have HF := hid_in (show FillPost (fillL (L.map RAt.plain) (ls.map LAt.plain)) w (.returned (.slice qa done.length qc)) w5 from ⟨_, ls5, rfl, hpl5, hin5, hsm5, B5⟩)
   clear HS HL hpl5 hin5 hsm5 hp5 o5 hs5 g5
   go_wp2
   go_ret
   exact HF.out
theorem fillS_change (bs : List PBlock) : fillS bs = changeS fillL bs := rfl
set_option maxHeartbeats 2000000 in
set_option maxRecDepth 100000 in
theorem implFill_any {v : Value} {bs : List BAt} {w : World} (hbs : BlocksIn w v bs) (hsm : BlocksSmall bs) (hst : StdAt w) : Calls Tryz.prog 23 #[.agg #[v]] w fun e w' => ∃ v' bs', e = .returned (.agg #[v']) ∧ bs'.map BAt.plain = fillS (bs.map BAt.plain) ∧ BlocksOwn w.heap.size w' v' bs' ∧ Below w.heap.size w w' := by
 obtain ⟨ao, cap, rfl⟩ := hbs.1.form
 have G0 : Below w.heap.size w ((w.alloc (.cells #[.slice ao bs.length cap] 24)).alloc (.cells #[.slice none 0 0] 24)) := ((Below.refl _ _).alloc (Nat.le_refl _) _).alloc (by simp) _
 have hc := two_boxes (w := w) (cs := #[.slice ao bs.length cap]) (ds := #[.slice none 0 0]) (T := 24) (U := 24)
 have c0 := hc.1 0
 simp only [List.getElem?_toArray, List.getElem?_cons_zero] at c0
 have hz := alloc_here (w.alloc (.cells #[.slice ao bs.length cap] 24)) (.cells #[.slice none 0 0] 24)
 simp only [World.size_alloc] at hz
 have HC := changeLines_any (F := 72) fillL (hbs.below G0) hsm (hst.below G0) (enters_of Tryz.func72 (by kernel_rfl) rfl)
  (fun hok W B vr L x hx hpl hr hin => by
    have h := fillLines_any hr hpl hin (hsm.2 x hx).2 (by rw [hpl]; exact ((sheetB_iff.1 hok).2.1 x.plain (List.mem_map_of_mem hx)).2.2)
    rw [hpl] at h
    exact h)
 rw [← fillS_change] at HC
 generalize fillS (bs.map BAt.plain) = TS at *
 clear hbs hsm hst hc
 generalize bs.length = nb at *
 go_enter Tryz.func23, Tryz.ntmps23
 go_wp2_with (go_at_call 71; refine HC.mono ?_)
 first | rintro e w2 v2 rfl bs2 hp2 o2 b2 | rintro e w2 v2 bs2 rfl hp2 o2 b2 | rintro e w2 ⟨v2, bs2, rfl, hp2, o2, b2⟩
 have b2' : Below ((w.alloc (.cells #[.slice ao nb cap] 24)).alloc (.cells #[.slice none 0 0] 24)).heap.size ((w.alloc (.cells #[.slice ao nb cap] 24)).alloc (.cells #[.slice none 0 0] 24)) w2 := by simpa using b2
 have o2' : BlocksOwn (w.heap.size + 2) w2 v2 bs2 := by simpa using o2
 have z1 := (b2'.block (w.heap.size + 1) (by simp)).trans hz
 have gw := G0.trans (b2'.mono G0.size)
 obtain ⟨qa, qc, rfl, _⟩ := own_form o2'.row
 have HM := hid_in o2'
 have HP := hid_in hp2
 clear HC o2 o2' hp2 b2 b2' c0 hz G0
 generalize bs2.length = n2 at *
 go_wp2_with (with_reducible show wpList _ _ _ (Oper.mk _ (Op.store _ (Operand.tmp 2) _) _ _ _ _ :: _) _ _; refine wpList_store_row rfl 24 _ _ rfl (w.heap.size + 1) #[.slice qa n2 qc] ?_ ?_ 24 _ z1 ?_ ?_ ?_ ?_)
 all_goals (first | rfl | kernel_rfl | exact sheet_size | skip)
 have z5 : (w2.setRow (w.heap.size + 1) #[.slice qa n2 qc]).heap[w.heap.size + 1]? = some (.cells #[.slice qa n2 qc] 24 (0, 0)) := setRow_heap _ _ _ _ _ _ z1
 have b5 : Below w.heap.size w (w2.setRow (w.heap.size + 1) #[.slice qa n2 qc]) :=
  ⟨gw.os, gw.tape, gw.output, by rw [setRow_size]; exact gw.size, fun k hk => by rw [setRow_other _ _ _ _ (by omega)]; exact gw.block k hk⟩
 have o5 := (HM.out.setRow (w.heap.size + 1) (by omega) #[.slice qa n2 qc]).mono (show w.heap.size ≤ w.heap.size + 2 by omega)
 have y0 := cell_of_block z5 0
 simp only [List.getElem?_toArray, List.getElem?_cons_zero] at y0
 generalize w2.setRow (w.heap.size + 1) #[.slice qa n2 qc] = W at b5 y0 z5 o5 ⊢
 first | exact bodyPost_ret (v := .agg #[.slice qa n2 qc]) (by simp [results, Tryz.results23, go_sem, y0]) rfl ⟨_, bs2, rfl, HP.out, o5, b5⟩ | exact bodyPost_ret (v := .agg #[.slice qa n2 qc]) (by simp [results, Tryz.results23, go_sem, y0]) rfl ⟨_, rfl, bs2, HP.out, o5, b5⟩
end Go.Proofs.YtpdahhnjhggocabGreatDoor
