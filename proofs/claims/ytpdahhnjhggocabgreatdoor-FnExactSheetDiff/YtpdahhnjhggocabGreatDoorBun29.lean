import Derived.Test.YtpdahhnjhggocabGreatDoorBun27
import Derived.Test.YtpdahhnjhggocabGreatDoorBun21
import Derived.Test.YtpdahhnjhggocabGreatDoorBun17
import Derived.Shelf.Abstract
import Derived.Deep.RegionLaw
namespace Go.Proofs.YtpdahhnjhggocabGreatDoor
open Go.RowKit
set_option maxHeartbeats 2000000 in
set_option maxRecDepth 100000 in
theorem keepLines_any {F : FuncId} {q v : Value} {ls : List LAt} (p : LAt → Bool) {w : World} (h : LinesIn w v ls) (hl : ls.length ≤ 1048576) (hF : ∀ x ∈ ls, ∀ W, Below w.heap.size w W → Calls Tryz.prog F #[.agg #[.string x.key, x.v], q] W fun e w' => e = .returned (.bool (p x)) ∧ Below W.heap.size W w') (hE : ∀ args w, (callFunc F args).run Tryz.prog w = .ok (.enter F args) w) :
    Calls Tryz.prog 145 #[v, .func (.func F) #[] #[q]] w fun e w' => ∃ v', e = .returned v' ∧ w'.ownsRow w.heap.size 82 2 v' (ls.filter p).length ((ls.filter p).flatMap LAt.cells) ∧ Below w.heap.size w w' := by
  obtain ⟨ao, cap, rfl⟩ := h.1.form
  generalize hn : ls.length = len at *
  have en := hid_in hn
  clear hn
  obtain ⟨i0, hi, hz0, hz1, hz2⟩ := info_parts infoLine
  go_enter Tryz.func145, Tryz.ntmps145
  go_wp2
  go_loopw [5, 10] (fun u i wr => ∃ (j : Nat) (done : List LAt), j ≤ len ∧ i = .int .i64 (j : Int) ∧ done = (ls.take j).filter p ∧ wr.ownsRow w.heap.size 82 2 u done.length (done.flatMap LAt.cells) ∧ Below w.heap.size w wr) (fun _ i _ => len - (intOf i).toNat)
  case atStart => exact ⟨0, [], by omega, rfl, by simp, World.ownsRow_nil _ _ _ _, Below.refl _ _⟩
  case round =>
    obtain ⟨j, done, hj, rfl, hdn, hm, bw⟩ := hrel
    obtain ⟨qa, qc, rfl, _⟩ := own_form hm
    have hdl : done.length ≤ j := by rw [hdn]; exact Nat.le_trans (List.length_filter_le _ _) (by simp; omega)
    by_cases hlt : j < len
    · obtain ⟨D, x, T, e0, hD⟩ := split1 ls j (by have := en.out; omega)
      have h5 := h.below bw
      have hxm : x ∈ ls := by rw [e0]; simp
      have h6 := h5
      rw [e0] at h6
      obtain ⟨g, off, rfl, c1, c2⟩ := h6.1.line
      obtain ⟨ax, cx, e1⟩ := HasRow.form (h5.2 x hxm)
      have hst := hid_in (show (ls.take (j + 1)).filter p = done ++ [x].filter p from by rw [hdn, e0, ← hD, take_front, take_one, List.filter_append])
      have bx := (Below.refl wr.heap.size wr).alloc (Nat.le_refl _) (.cells #[.string x.key, .slice ax x.ws.length cx] 82)
      have k0 := one_box (w := wr) (cs := #[.string x.key, .slice ax x.ws.length cx]) (T := 82) 0
      have k1 := one_box (w := wr) (cs := #[.string x.key, .slice ax x.ws.length cx]) (T := 82) 1
      simp only [List.getElem?_toArray, List.getElem?_cons_zero, List.getElem?_cons_succ] at k0 k1
      have HC := hF x hxm _ (bw.trans (bx.mono bw.size))
      rw [e1] at HC c2
      rw [hD] at c1 c2
      have hB0 : (0 : Int) ≤ (j : Int) := by omega
      have hB1 : (j : Int) < (len : Int) := by omega
      have hcells := hid_in (show (LAt.cells x) = [.string x.key, .slice ax x.ws.length cx] from by unfold LAt.cells; rw [e1])
      have hm' := hid_in hm
      have hszw := bw.size
      have hbase := hid_in (show ∀ k, (Value.slice qa done.length qc).ownBlock = some k → w.heap.size ≤ k from fun k hk => (hm.lt k hk).1)
      cases hp : p x
      · have hst' := hid_in (show (ls.take (j + 1)).filter p = done from by rw [hst.out]; simp [hp])
        rw [hp] at HC
        clear h h5 h6 hF hdn hm e0 e1 hD hxm hst hcells hp
        generalize x.key = xk at *
        generalize x.ws.length = nx at *
        go_wp2_with (go_at_fn F; refine HC.mono ?_; rintro e w2 ⟨rfl, b2⟩)
        have b3 := bx.trans (b2.mono bx.size)
        have hm3 := own_below hm'.out b3
        clear HC
        go_roundw
        case rel => exact ⟨j + 1, done, by omega, by go_num, hst'.out.symm, hm3, bw.trans (b3.mono hszw)⟩
        case measure => simp [intOf]; omega
      · have hst' := hid_in (show (ls.take (j + 1)).filter p = done ++ [x] from by rw [hst.out]; simp [hp])
        rw [hp] at HC
        have hone := lcells_one (ls := [x]) (fun y hy => by rw [List.mem_singleton.1 hy]; exact ⟨_, _, _, e1⟩)
        rw [List.flatMap_singleton, hcells.out] at hone
        clear h h5 h6 hF hdn hm e0 e1 hD hxm hst hp
        go_wp2_with (go_at_fn F; refine HC.mono ?_)
        first | rintro e w2 rfl b2 | rintro e w2 ⟨rfl, b2⟩
        have b3 := bx.trans (b2.mono (by simp))
        have m0 := (b2.cell (p := ⟨wr.heap.size, 0, none⟩) (by simp)).trans k0
        have m1 := (b2.cell (p := ⟨wr.heap.size, 1, none⟩) (by simp)).trans k1
        have hm3 := (own_below hm'.out b3).alloc (.cells #[.string x.key, .slice ax x.ws.length cx] 82)
        have b4 := b3.alloc b3.size (.cells #[.string x.key, .slice ax x.ws.length cx] 82)
        have hrow := lit_has w2 #[.string x.key, .slice ax x.ws.length cx] 82 2 rfl
        have hz3 := b3.size
        clear HC k0 k1
        go_wp2_with (at_builtin; refine wpList_append_has (by rfl) _ _ 41 (by rfl) w.heap.size 82 i0 _ 2 40 Tryz.underlying41 hi hz0 hz1 hz2 rfl (by decide) _ done.length _ (by rfl) hm3 _ 1 _ (by rfl) hrow hone ?c3 ?c4 (Nat.le_trans hszw (Nat.le_trans hz3 (by simp))) ?_)
        case c3 => unfold maxLen; omega
        case c4 => omega
        intro ao' cap' w5 hown5 hg5 _
        have hB5 := (bw.trans (b4.mono hszw)).grown hg5 (by simp; omega) hbase.out
        have HO := hid_in (show w5.ownsRow w.heap.size 82 2 (.slice ao' (done.length + 1) cap') (done ++ [x]).length ((done ++ [x]).flatMap LAt.cells) from by
          rw [List.flatMap_append, List.flatMap_singleton, hcells.out, List.length_append]; exact hown5)
        clear hm3 hrow hone hown5 hg5 m0 m1 hbase hm'
        go_wp2
        go_roundw
        case rel => exact ⟨j + 1, done ++ [x], by omega, by go_num, hst'.out.symm, HO.out, hB5⟩
        case measure => simp [intOf]; omega
    · obtain rfl : j = len := by omega
      have hls : ls.take j = ls := by rw [← en.out, List.take_length]
      have HO := hid_in (show wr.ownsRow w.heap.size 82 2 (.slice qa done.length qc) (ls.filter p).length ((ls.filter p).flatMap LAt.cells) from by rw [← hls, ← hdn]; exact hm)
      clear h hF hm hdn
      go_wp2
      go_ret
      exact ⟨_, rfl, HO.out, bw⟩
end Go.Proofs.YtpdahhnjhggocabGreatDoor
namespace Go.Proofs.YtpdahhnjhggocabGreatDoor
open Go.RowKit
set_option maxHeartbeats 1000000 in
theorem ofKey_any (x : LAt) (rk : ByteArray) (g : Nat) {w : World} (hx : ∃ a n c, x.v = .slice a n c) (hg : w.cell? ⟨g, 0, none⟩ = some (.string rk)) : Calls Tryz.prog 213 #[.agg #[.string x.key, x.v], .pointer (some ⟨g, 0, none⟩)] w fun e w' => e = .returned (.bool (x.key.toList == rk.toList)) ∧ Below w.heap.size w w' := by
  obtain ⟨a, n, c, e1⟩ := hx
  rw [e1]
  have G := (Below.refl w.heap.size w).alloc (Nat.le_refl _) (.cells #[.string x.key, .slice a n c] 82)
  have hg' := (G.cell (World.block_lt_of_cell? w _ hg)).trans hg
  have k0 := one_box (w := w) (cs := #[.string x.key, .slice a n c]) (T := 82) 0
  simp only [List.getElem?_toArray, List.getElem?_cons_zero] at k0
  generalize x.key = xk at *
  go_enter Tryz.func213, Tryz.ntmps213
  go_wp2
  go_ret
  exact ⟨rfl, G⟩
def KeptPost (fl : List LAt) (w : World) (e : Ending) (w' : World) : Prop := ∃ v', e = .returned v' ∧ w'.ownsRow w.heap.size 82 2 v' fl.length (fl.flatMap LAt.cells) ∧ Below w.heap.size w w'
def withKey (ls : List LAt) (k : ByteArray) : List LAt := ls.filter fun x => x.key.toList == k.toList
theorem withKey_plain (ls : List LAt) (k : ByteArray) : (withKey ls k).map LAt.plain = ofK (ls.map LAt.plain) k := by
  unfold ofK withKey; rw [List.filter_map]; rfl
set_option maxHeartbeats 1000000 in
set_option maxRecDepth 100000 in
theorem linesWithKey_any {v : Value} {ls : List LAt} (rk : ByteArray) {w : World} (h : LinesIn w v ls) (hl : ls.length ≤ 1048576) : Calls Tryz.prog 149 #[v, .string rk] w fun e w' => KeptPost (withKey ls rk) w e w' := by
  have B0 := (Below.refl w.heap.size w).alloc (Nat.le_refl _) (.cells #[.string rk] 9)
  have d0 := one_box (w := w) (cs := #[.string rk]) (T := 9) 0
  simp only [List.getElem?_toArray, List.getElem?_cons_zero] at d0
  have HK := keepLines_any (F := 213) (q := .pointer (some ⟨w.heap.size, 0, none⟩)) (fun x => x.key.toList == rk.toList) (h.below B0) hl (fun x hx W hW => ofKey_any x rk w.heap.size (by obtain ⟨a, c, e⟩ := HasRow.form (h.2 x hx); exact ⟨a, _, c, e⟩) ((hW.cell (World.block_lt_of_cell? _ _ d0)).trans d0)) (enters_of Tryz.func213 (by kernel_rfl) rfl)
  obtain ⟨ao, cap, rfl⟩ := h.1.form
  rw [show ls.filter (fun x => x.key.toList == rk.toList) = withKey ls rk from rfl] at HK
  generalize withKey ls rk = fl at *
  clear h hl d0
  generalize ls.length = n at *
  go_enter Tryz.func149, Tryz.ntmps149
  go_wp2_with (go_at_call 145; refine HK.mono ?_)
  first | rintro e w2 v2 rfl o2 b2 | rintro e w2 ⟨v2, rfl, o2, b2⟩
  have B2 := B0.trans (b2.mono B0.size)
  have O2 := hid_in (own_mono o2 B0.size)
  obtain ⟨a2, c2, rfl, _⟩ := own_form o2
  clear HK o2 b2
  go_wp2
  go_ret
  exact ⟨_, rfl, O2.out, B2⟩
end Go.Proofs.YtpdahhnjhggocabGreatDoor
namespace Go.Proofs.YtpdahhnjhggocabGreatDoor
open Go.RowKit
theorem rulesOf_twelve (kind : ByteArray) {L : List RAt} (h : L.map RAt.plain = rulesOf kind) : L.length ≤ 12 := by
  have := (rulesOf_like kind).1
  rw [← h, List.length_map] at this
  exact this
end Go.Proofs.YtpdahhnjhggocabGreatDoor
namespace Go.Proofs.YtpdahhnjhggocabGreatDoor
open Go.RowKit
end Go.Proofs.YtpdahhnjhggocabGreatDoor
namespace Go.Proofs.YtpdahhnjhggocabGreatDoor
open Go.RowKit
end Go.Proofs.YtpdahhnjhggocabGreatDoor
namespace Go.Proofs.YtpdahhnjhggocabGreatDoor
open Go.RowKit
theorem below_setCell {B : Nat} {w w' : World} (h : Below B w w') (p : Addr) (hp : B ≤ p.block) (u : Value) : Below B w (w'.setCell p u) := h.setCell (p := p) hp u
end Go.Proofs.YtpdahhnjhggocabGreatDoor
namespace Go.Proofs.YtpdahhnjhggocabGreatDoor
open Go.RowKit
theorem words_same (xs ys : List (List UInt8)) : (!decide (xs < ys) && !decide (ys < xs)) = decide (xs = ys) := by
  by_cases h : xs = ys
  · subst h
    have := Tot.irr xs
    simp [this]
  · by_cases h1 : xs < ys
    · simp [h, h1]
    · by_cases h2 : ys < xs
      · simp [h, h2]
      · exact absurd (Tot.tri _ _ h1 h2) h
set_option maxHeartbeats 1000000 in
set_option maxRecDepth 100000 in
theorem l3Words_any {va vb : Value} {xs ys : List (List UInt8)} {w : World} (h1 : HasRow w va xs.length 1 (strs xs)) (h2 : HasRow w vb ys.length 1 (strs ys)) (hn : xs.length ≤ 1048576) (hm : ys.length ≤ 1048576) : Calls Tryz.prog 74 #[va, vb] w fun e w' => e = .returned (.bool (decide (xs = ys))) ∧ Below w.heap.size w w' := by
  obtain ⟨ao, ca, rfl⟩ := h1.form
  obtain ⟨bo, cb, rfl⟩ := h2.form
  have HL := fun W hW => l3Less_any (w := W) (h1.below hW) (h2.below hW) hn hm
  have HM := fun W hW => l3Less_any (w := W) (h2.below hW) (h1.below hW) hm hn
  have hE := words_same xs ys
  generalize decide (xs = ys) = E at *
  clear h1 h2
  generalize xs.length = n at *
  generalize ys.length = m at *
  cases hd : decide (xs < ys)
  · rw [hd] at HL hE
    go_enter Tryz.func74, Tryz.ntmps74
    go_wp2_with (go_at_call 144; refine (HL _ (Below.refl _ _)).mono ?_)
    first | rintro e w2 rfl q rfl | rintro e w2 ⟨rfl, q, rfl⟩
    have B1 : Below w.heap.size w (w.drewN q) := below_drewN (Below.refl _ _) q
    have HM2 := HM _ B1
    have hE2 := hid_in hE
    clear HL hE
    generalize decide (ys < xs) = E2 at *
    go_wp2_with (go_at_call 144; refine HM2.mono ?_)
    first | rintro e w3 rfl q3 rfl | rintro e w3 ⟨rfl, q3, rfl⟩
    clear HM HM2
    go_wp2
    go_ret
    exact ⟨ret_bool (by have := hE2.out; simpa using this), below_drewN (Below.refl _ _) _⟩
  · rw [hd] at HL hE
    have hE2 := hid_in hE
    clear HM hE
    go_enter Tryz.func74, Tryz.ntmps74
    go_wp2_with (go_at_call 144; refine (HL _ (Below.refl _ _)).mono ?_)
    first | rintro e w2 rfl q rfl | rintro e w2 ⟨rfl, q, rfl⟩
    have B1 : Below w.heap.size w (w.drewN q) := below_drewN (Below.refl _ _) q
    clear HL
    go_wp2
    go_ret
    exact ⟨ret_bool (by have := hE2.out; simpa using this), B1⟩
end Go.Proofs.YtpdahhnjhggocabGreatDoor
namespace Go.Proofs.YtpdahhnjhggocabGreatDoor
open Go.RowKit
end Go.Proofs.YtpdahhnjhggocabGreatDoor
