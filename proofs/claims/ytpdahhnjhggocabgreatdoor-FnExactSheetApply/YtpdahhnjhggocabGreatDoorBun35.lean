import Derived.Test.YtpdahhnjhggocabGreatDoorBun34
import Derived.Test.YtpdahhnjhggocabGreatDoorBun31
import Derived.Test.YtpdahhnjhggocabGreatDoorBun27
import Derived.Test.YtpdahhnjhggocabGreatDoorBun26
import Derived.Test.YtpdahhnjhggocabGreatDoorBun20
namespace Go.Proofs.YtpdahhnjhggocabGreatDoor
open Go.RowKit
set_option maxHeartbeats 4000000 in
set_option maxRecDepth 100000 in
theorem l5Of_any {b : BAt} (key : ByteArray) {w : World} (hb : BlockIn w b) (hs : LinesSmall b.ls) : Calls Tryz.prog 69 #[.agg #[.string b.kind, .string b.name, b.v], .string key] w fun e w' => ∃ v' ls', e = .returned v' ∧ ls'.map LAt.plain = ofK (b.ls.map LAt.plain) key ∧ LinesOwn w.heap.size w' v' ls' ∧ LinesSmall ls' ∧ Below w.heap.size w w' := by
 obtain ⟨bk, bn, bv, ls⟩ := b
 unfold BlockIn at hb
 simp only at *
 obtain ⟨ao, cap, rfl⟩ := hb.1.form
 have hof : (ls.filter fun x => x.key.toList == key.toList).map LAt.plain = ofK (ls.map LAt.plain) key := by
  unfold ofK; rw [List.filter_map]; rfl
 have HOF := hid_in hof
 clear hof
 have hl := hs.1
 generalize hn : ls.length = len at *
 have en := hid_in hn
 clear hn
 obtain ⟨i0, hi, hz0, hz1, hz2⟩ := info_parts infoLine
 have G := (Below.refl w.heap.size w).alloc (Nat.le_refl _) (.cells #[.string bk, .string bn, .slice ao len cap] 64)
 have k2 := one_box (w := w) (cs := #[.string bk, .string bn, .slice ao len cap]) (T := 64) 2
 simp only [List.getElem?_toArray, List.getElem?_cons_zero, List.getElem?_cons_succ] at k2
 have hb0 := hb.below G
 have hown0 := World.ownsRow_lit (base := w.heap.size + 1) (e := 82) (size := 2) (w.alloc (.cells #[.string bk, .string bn, .slice ao len cap] 64)) #[] 0 (by simp) (by decide) rfl
 simp only [World.size_alloc] at hown0
 have b00 := (Below.refl (w.heap.size + 1) (w.alloc (.cells #[.string bk, .string bn, .slice ao len cap] 64))).alloc (by simp) (.cells #[] 82)
 clear hb
 go_enter Tryz.func69, Tryz.ntmps69
 go_wp2
 go_loopw [5, 6] (fun u i wr => ∃ (j : Nat) (done : List LAt), j ≤ len ∧ i = .int .i64 (j : Int) ∧ done = (ls.take j).filter (fun x => x.key.toList == key.toList) ∧ wr.ownsRow (w.heap.size + 1) 82 2 u done.length (done.flatMap LAt.cells) ∧ Below (w.heap.size + 1) (w.alloc (.cells #[.string bk, .string bn, .slice ao len cap] 64)) wr) (fun _ i _ => len - (intOf i).toNat)
 case atStart => exact ⟨0, [], by omega, rfl, by simp, by simpa using hown0, b00⟩
 case round =>
  obtain ⟨j, done, hj, rfl, hdn, hm, bw⟩ := hrel
  obtain ⟨qa, qc, rfl, _⟩ := own_form hm
  have hdl : done.length ≤ j := by rw [hdn]; exact Nat.le_trans (List.length_filter_le _ _) (by simp; omega)
  have k3 := (bw.cell (p := ⟨w.heap.size, 2, none⟩) (by simp)).trans k2
  have hszw := bw.size
  simp only [World.size_alloc] at hszw
  by_cases hlt : j < len
  ·obtain ⟨D, x, T, e0, hD⟩ := split1 ls j (by have := en.out; omega)
   have h5 := hb0.below (by simpa using bw)
   have hxm : x ∈ ls := by rw [e0]; simp
   have h6 := h5
   rw [e0] at h6
   obtain ⟨g, off, rfl, c1, c2⟩ := h6.1.line
   obtain ⟨ax, cx, e1⟩ := HasRow.form (h5.2 x hxm)
   have hst := hid_in (show (ls.take (j + 1)).filter (fun x => x.key.toList == key.toList) = done ++ [x].filter (fun x => x.key.toList == key.toList) from by rw [hdn, e0, ← hD, take_front, take_one, List.filter_append])
   rw [e1] at c2
   rw [hD] at c1 c2
   have hB0 : (0 : Int) ≤ (j : Int) := by omega
   have hB1 : (j : Int) < (len : Int) := by omega
   have hcells := hid_in (show (LAt.cells x) = [.string x.key, .slice ax x.ws.length cx] from by unfold LAt.cells; rw [e1])
   have hm' := hid_in hm
   have hbase := hid_in (show ∀ k, (Value.slice qa done.length qc).ownBlock = some k → w.heap.size + 1 ≤ k from fun k hk => (hm.lt k hk).1)
   cases hp : (x.key.toList == key.toList)
   ·have hst' := hid_in (show (ls.take (j + 1)).filter (fun x => x.key.toList == key.toList) = done from by rw [hst.out]; simp [hp])
    clear h5 h6 hdn hm e0 e1 hD hxm hst hcells hb0 hs
    generalize x.key = xk at *
    generalize x.ws.length = nx at *
    go_wp2
    go_roundw
    case rel => exact ⟨j + 1, done, by omega, by go_num, hst'.out.symm, hm'.out, bw⟩
    case measure => simp [intOf]; omega
   ·have hst' := hid_in (show (ls.take (j + 1)).filter (fun x => x.key.toList == key.toList) = done ++ [x] from by rw [hst.out]; simp [hp])
    have hone := lcells_one (ls := [x]) (fun y hy => by rw [List.mem_singleton.1 hy]; exact ⟨_, _, _, e1⟩)
    rw [List.flatMap_singleton, hcells.out] at hone
    clear h5 h6 hdn hm e0 e1 hD hxm hst hb0 hs
    have hm3 := hm'.out.alloc (.cells #[.string x.key, .slice ax x.ws.length cx] 82)
    have b4 := bw.alloc hszw (.cells #[.string x.key, .slice ax x.ws.length cx] 82)
    have hrow := lit_has wr #[.string x.key, .slice ax x.ws.length cx] 82 2 rfl
    go_wp2_with (at_builtin; refine wpList_append_has (by rfl) _ _ 41 (by rfl) (w.heap.size + 1) 82 i0 _ 2 40 Tryz.underlying41 hi hz0 hz1 hz2 rfl (by decide) _ done.length _ (by rfl) hm3 _ 1 _ (by rfl) hrow hone ?c3 ?c4 (Nat.le_trans hszw (by simp)) ?_)
    case c3 => unfold maxLen; omega
    case c4 => omega
    intro ao' cap' w5 hown5 hg5 _
    have hB5 := b4.grown hg5 (by simp; omega) hbase.out
    have HO := hid_in (show w5.ownsRow (w.heap.size + 1) 82 2 (.slice ao' (done.length + 1) cap') (done ++ [x]).length ((done ++ [x]).flatMap LAt.cells) from by
     rw [List.flatMap_append, List.flatMap_singleton, hcells.out, List.length_append]; exact hown5)
    clear hm3 hrow hone hown5 hg5 hbase hm'
    go_wp2
    go_roundw
    case rel => exact ⟨j + 1, done ++ [x], by omega, by go_num, hst'.out.symm, HO.out, hB5⟩
    case measure => simp [intOf]; omega
  ·obtain rfl : j = len := by omega
   have hls : ls.take j = ls := by rw [← en.out, List.take_length]
   rw [hls] at hdn
   have h5 := hb0.below (by simpa using bw)
   have hin : LinesIn wr (.slice qa done.length qc) done := ⟨own_has hm, fun x hx => h5.2 x (by rw [hdn] at hx; exact (List.mem_filter.1 hx).1)⟩
   have hsd : LinesSmall done := ⟨by omega, fun x hx => hs.2 x (by rw [hdn] at hx; exact (List.mem_filter.1 hx).1)⟩
   have HL := l3Lines_any hin hsd
   have g5 : Below w.heap.size w wr := G.trans (bw.mono (by omega))
   have HOF2 := hid_in (show done.map LAt.plain = ofK (ls.map LAt.plain) key from by rw [hdn]; exact HOF.out)
   have HSD := hid_in hsd
   clear h5 hb0 hs hm hdn hls hin hsd HOF
   generalize done.length = nd at *
   go_wp2_with (go_at_call 90; refine HL.mono ?_)
   first | rintro e w7 v7 rfl ls7 hp7 o7 b7 | rintro e w7 v7 ls7 rfl hp7 o7 b7 | rintro e w7 ⟨v7, ls7, rfl, hp7, o7, b7⟩
   have HG := hid_in (hp7.trans HOF2.out)
   have o7' := hid_in (o7.mono g5.size)
   have g8 := g5.trans (b7.mono g5.size)
   have hs7 := hid_in (HSD.out.same hp7)
   obtain ⟨va7, vc7, rfl, _⟩ := own_form o7.row
   clear HL o7 hp7 b7
   go_wp2
   go_ret
   first | exact ⟨_, ls7, rfl, HG.out, o7'.out, hs7.out, g8⟩ | exact ⟨_, rfl, ls7, HG.out, o7'.out, hs7.out, g8⟩
end Go.Proofs.YtpdahhnjhggocabGreatDoor
namespace Go.Proofs.YtpdahhnjhggocabGreatDoor
open Go.RowKit
def FillTo (bs : List BAt) (D T : List BAt) : Prop := ∃ D0 : List BAt, bs = D0 ++ T ∧ D.map BAt.plain = (D0.map BAt.plain).map fillP
theorem FillTo.step {bs D T : List BAt} {x b : BAt} (h : FillTo bs D (x :: T)) (hb : b.plain = fillP x.plain) : FillTo bs (D ++ [b]) T := by
 obtain ⟨D0, e1, e2⟩ := h
 refine ⟨D0 ++ [x], by rw [e1]; simp, ?_⟩
 rw [List.map_append, e2, List.map_append, List.map_append]
 congr 1
 show [_] = [_]
 rw [hb]
end Go.Proofs.YtpdahhnjhggocabGreatDoor
namespace Go.Proofs.YtpdahhnjhggocabGreatDoor
open Go.RowKit
end Go.Proofs.YtpdahhnjhggocabGreatDoor
namespace Go.Proofs.YtpdahhnjhggocabGreatDoor
open Go.RowKit
theorem Mem.sub {B : Nat} {w : World} {L N : List MRow} (h : Mem B w L) (hs : N.Sublist L) : Mem B w N := ⟨fun r hr => h.1 r (hs.subset hr), h.2.sublist hs⟩
end Go.Proofs.YtpdahhnjhggocabGreatDoor
