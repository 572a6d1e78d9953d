import Derived.Test.YtpdahhnjhggocaaGreatDoorBun43
import Derived.Test.YtpdahhnjhggocaaGreatDoorBun42
import Derived.Test.YtpdahhnjhggocaaGreatDoorBun13
namespace Go.Proofs.YtpdahhnjhggocaaGreatDoor
open Go.RowKit
theorem DrawnS.sp {d B p k : Nat} {w : World} {e : Ending} {w' : World} (h : DrawnS d B p k w e w') : Spoilt d B p k w e w' := by
  obtain ⟨v, bs, k', rfl, hk, hr, hg, ho, hl, hs⟩ := h
  obtain ⟨a, c, rfl, _⟩ := own_form ho.row
  exact ⟨a, _, c, bs, k', rfl, hk, hr, hg, ho.bin, ⟨small_blocks (by omega) hs, by omega⟩, fun q hq => ho.far hq⟩
/-- The sheet put into the answer's box. -/
theorem Spoilt.ret {d d' B p k k0 n c : Nat} {w W W' : World} {a : Option Addr} (h : Spoilt d B p k0 W (.returned (.agg #[.slice a n c])) W') (hw : w.grownBy W (some p)) (hz : w.heap.size < W.heap.size) (hp : p < w.heap.size) (hk : k0 + d ≤ k + d') (cs : Array Value) : Spoilt d' B p k w (.returned (.agg #[.slice a n c])) (W'.setRow w.heap.size cs) := by
  obtain ⟨a', n', c', bs, k', he, hk', hr, hg, hin, hs, hf⟩ := h
  cases he
  have gs := grown_setRow W' w.heap.size cs
  have hgz := hg.size
  refine ⟨a, n, c, bs, k', rfl, by omega, Kept.rd hr (Kept.of_grown (S := [w.heap.size]) gs (fun q hq => by cases hq; simp)) (fun i hi => by rw [List.mem_singleton.1 hi]; exact hp), ⟨gs.os.trans (hg.os.trans hw.os), gs.tape.trans (hg.tape.trans hw.tape), gs.output.trans (hg.output.trans hw.output), ?_, fun i hi hne => ?_⟩, hin.far (hf _ hz) gs, hs, fun q hq => hf q (by omega)⟩
  · have := gs.size; omega
  · rw [gs.block i (by omega) (by intro e; cases e; omega), hg.block i (by omega) hne]
    exact hw.block i hi hne
set_option maxHeartbeats 4000000 in
set_option maxRecDepth 100000 in
theorem l3Any_any (B p k : Nat) (w : World) (h : Rd B w p k) (hk : k ≤ 400000) : Calls Tryz.prog 43 #[.pointer (some ⟨p, 0, none⟩)] w fun e w' => Spoilt 800 B p k w e w' := by
  have hp := h.lt
  have hr1 : Rd B (w.alloc (.cells #[.slice none 0 0] 25)) p k := h.below ((Below.refl _ _).alloc (Nat.le_refl _) _)
  have G1 : w.grownBy (w.alloc (.cells #[.slice none 0 0] 25)) (some p) := grown_but (World.grownBy_alloc _ _ _) _
  have z1 := alloc_here w (.cells #[.slice none 0 0] 25)
  have s1 : (w.alloc (.cells #[.slice none 0 0] 25)).heap.size = w.heap.size + 1 := by simp
  generalize hw1 : w.alloc (.cells #[.slice none 0 0] 25) = w1 at *
  have HD := l3Draw_any B p k w1 hr1 (by omega)
  go_enter Tryz.func43, Tryz.ntmps43
  go_wp2_with (go_at_call 78; (try rw [hw1]); refine HD.mono ?_)
  rintro e w2 ⟨v, bs, k2, rfl, hk2, hr2, hg2, ho, hl, hs⟩
  obtain ⟨a, c, rfl, _⟩ := own_form ho.row
  have bx := (Below.refl w2.heap.size w2).alloc (Nat.le_refl _) (.cells #[.slice a bs.length c] 25)
  have xb := alloc_here w2 (.cells #[.slice a bs.length c] 25)
  have hr3 := hr2.below bx
  have HPK := pick_any B p k2 16 _ hr3 (by omega) (by omega) (by omega)
  have HOW := hid_in (ho.below bx)
  have HSM := hid_in hs
  have hg2z := hg2.size
  have hg3 := grown_trans hg2 (grown_of_below bx (some p))
  clear HD ho hs hr2 hr3 hw1
  generalize hnl : bs.length = nl at *
  have enl := hid_in hnl
  clear hnl
  generalize hw3 : w2.alloc (.cells #[.slice a nl c] 25) = w3 at *
  go_wp2_with (go_at_call 44; (try rw [hw3]); refine HPK.mono ?_)
  rintro e w4 ⟨y, hy, rfl, hr4, hg4⟩
  have hX4 := (hg4.block w2.heap.size (by rw [← hw3]; simp) (by intro e; cases e; omega)).trans xb
  have cX := cell_of_block hX4 0
  simp only [List.getElem?_toArray, List.getElem?_cons_zero] at cX
  have OW4 := hid_in (show BlocksOwn w1.heap.size w4 (.slice a nl c) bs from Mem.other HOW.out hg4 (by omega))
  have hg14 := grown_trans hg3 hg4
  have hz14 := hg14.size
  have z4 := (hg14.block w.heap.size (by omega) (by intro e; cases e; omega)).trans z1
  clear HPK HOW hX4 xb hg4 hw3 hg3 bx
  by_cases hy0 : y = 0
  · subst hy0
    have HSP := l3Spoil_any B p (k2 + 1) w4 hr4 (by omega) OW4.out.bin (by have := enl.out; omega) HSM.out
    clear OW4 HSM
    go_wp2_with (go_at_call 104; refine HSP.mono ?_)
    rintro e w5 hsp
    have hspH := hid_in hsp
    obtain ⟨a5, n5, c5, bs5, k5, rfl, hk5, hr5, hg5, hin5, hs5, hf5⟩ := hsp
    have z5 := (hg5.block w.heap.size (by omega) (by intro e; cases e; omega)).trans z4
    have HO := hid_in (hspH.out.ret (w := w) (k := k) (d' := 800) (grown_trans G1 hg14) (by omega) hp (by omega) #[.slice a5 n5 c5])
    clear HSP hspH hr5 hg5 hin5 hs5 hf5
    go_wp2_with (with_reducible show wpList _ _ _ (Oper.mk _ (Op.store _ (Operand.tmp 2) _) _ _ _ _ :: _) _ _; refine wpList_store_row rfl 25 _ _ rfl w.heap.size #[.slice a5 n5 c5] ?_ ?_ 25 _ z5 ?_ ?_ ?_ ?_)
    all_goals (first | rfl | kernel_rfl | exact sheet_size | skip)
    have z6 : (w5.setRow w.heap.size #[.slice a5 n5 c5]).heap[w.heap.size]? = some (.cells #[.slice a5 n5 c5] 25 (0, 0)) := setRow_heap _ _ _ _ _ _ z5
    have y0 := cell_of_block z6 0
    simp only [List.getElem?_toArray, List.getElem?_cons_zero] at y0
    generalize w5.setRow w.heap.size #[.slice a5 n5 c5] = W at HO y0 z6 ⊢
    exact bodyPost_ret (v := .agg #[.slice a5 n5 c5]) (by simp [results, Tryz.results43, go_sem, y0]) rfl HO.out
  · have hyn : ((y : Int) == 0) = false := by rw [beq_eq_false_iff_ne]; omega
    have HS4 : Spoilt 601 B p k w1 (.returned (.agg #[.slice a nl c])) w4 := ⟨a, nl, c, bs, k2 + 1, rfl, by omega, hr4, hg14, OW4.out.bin, ⟨small_blocks (by have := enl.out; omega) HSM.out, by have := enl.out; omega⟩, fun q hq => OW4.out.far hq⟩
    have HO := hid_in (HS4.ret (w := w) (k := k) (d' := 800) G1 (by omega) hp (by omega) #[.slice a nl c])
    clear OW4 HSM HS4
    go_wp2_with (with_reducible show wpList _ _ _ (Oper.mk _ (Op.store _ (Operand.tmp 2) _) _ _ _ _ :: _) _ _; refine wpList_store_row rfl 25 _ _ rfl w.heap.size #[.slice a nl c] ?_ ?_ 25 _ z4 ?_ ?_ ?_ ?_)
    all_goals (first | rfl | kernel_rfl | exact sheet_size | skip)
    have z6 : (w4.setRow w.heap.size #[.slice a nl c]).heap[w.heap.size]? = some (.cells #[.slice a nl c] 25 (0, 0)) := setRow_heap _ _ _ _ _ _ z4
    have y0 := cell_of_block z6 0
    simp only [List.getElem?_toArray, List.getElem?_cons_zero] at y0
    generalize w4.setRow w.heap.size #[.slice a nl c] = W at HO y0 z6 ⊢
    exact bodyPost_ret (v := .agg #[.slice a nl c]) (by simp [results, Tryz.results43, go_sem, y0]) rfl HO.out
/-- What a drawn sheet is to a law. -/
theorem Spoilt.ok {d B p k n c : Nat} {w W W' : World} {a : Option Addr} (h : Spoilt d B p k W (.returned (.agg #[.slice a n c])) W') (hw : Below w.heap.size w W) (hp : w.heap.size ≤ p) (hz : w.heap.size < W.heap.size) (cs : Array Value) : DrawnOk w (.returned (.agg #[.slice a n c])) (W'.setRow w.heap.size cs) := by
  obtain ⟨a', n', c', bs, k', he, hk', hr, hg, hin, hs, hf⟩ := h
  cases he
  have gs := grown_setRow W' w.heap.size cs
  have hgz := hg.size
  exact ⟨a, n, c, bs, rfl, ⟨hin.far (hf _ hz) gs, hs.1⟩, below_of_grown (below_of_grown hw (by omega) hp hg) (by omega) (Nat.le_refl _) gs⟩
set_option maxHeartbeats 4000000 in
set_option maxRecDepth 100000 in
theorem drawFill_any (a : Option Addr) (len cap : Nat) (w : World) (hc : Code w.heap.size w a len cap) : Calls Tryz.prog 26 #[.slice a len cap] w fun e w' => DrawnOk w e w' := by
  have b0 := (Below.refl w.heap.size w).alloc (Nat.le_refl _) (.cells #[.slice none 0 0] 25)
  have z1 := alloc_here w (.cells #[.slice none 0 0] 25)
  have s1 : (w.alloc (.cells #[.slice none 0 0] 25)).heap.size = w.heap.size + 1 := by simp
  have hc1 := hc.below b0 (show w.heap.size ≤ w.heap.size + 1 by omega)
  generalize hw1 : w.alloc (.cells #[.slice none 0 0] 25) = w1 at *
  have HO := l1Open_any (w.heap.size + 1) a len cap w1 (by omega) hc1.1 hc1.2.1 hc1.2.2.1 hc1.2.2.2
  rw [s1] at HO
  clear hc hc1
  go_enter Tryz.func26, Tryz.ntmps26
  go_wp2_with (go_at_call 42; (try rw [hw1]); refine HO.mono ?_)
  rintro e w2 ⟨rfl, h2, b2⟩
  have HA := l3Any_any _ _ 0 w2 h2 (by omega)
  have hz2 := b2.size
  have z2 := (b2.block w.heap.size (by omega)).trans z1
  have b02 := b0.trans (b2.mono (by omega))
  have hpl := h2.lt
  clear HO h2 hw1
  go_wp2_with (go_at_call 43; refine HA.mono ?_)
  rintro e w3 hsp
  have hspH := hid_in hsp
  obtain ⟨a5, n5, c5, bs5, k5, rfl, hk5, hr5, hg5, hin5, hs5, hf5⟩ := hsp
  have z5 := (hg5.block w.heap.size (by omega) (by intro e; have := Option.some.inj e; omega)).trans z2
  have HOK := hid_in (hspH.out.ok b02 (by omega) (by omega) #[.slice a5 n5 c5])
  clear HA hspH hr5 hg5 hin5 hs5 hf5
  go_wp2_with (with_reducible show wpList _ _ _ (Oper.mk _ (Op.store _ (Operand.tmp 2) _) _ _ _ _ :: _) _ _; refine wpList_store_row rfl 25 _ _ rfl w.heap.size #[.slice a5 n5 c5] ?_ ?_ 25 _ z5 ?_ ?_ ?_ ?_)
  all_goals (first | rfl | kernel_rfl | exact sheet_size | skip)
  have z6 : (w3.setRow w.heap.size #[.slice a5 n5 c5]).heap[w.heap.size]? = some (.cells #[.slice a5 n5 c5] 25 (0, 0)) := setRow_heap _ _ _ _ _ _ z5
  have y0 := cell_of_block z6 0
  simp only [List.getElem?_toArray, List.getElem?_cons_zero] at y0
  generalize w3.setRow w.heap.size #[.slice a5 n5 c5] = W at HOK y0 z6 ⊢
  exact bodyPost_ret (v := .agg #[.slice a5 n5 c5]) (by simp [results, Tryz.results26, go_sem, y0]) rfl HOK.out
end Go.Proofs.YtpdahhnjhggocaaGreatDoor
