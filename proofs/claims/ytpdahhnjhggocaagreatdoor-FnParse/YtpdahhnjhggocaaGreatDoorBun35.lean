import Derived.Test.YtpdahhnjhggocaaGreatDoorBun34
import Derived.Test.YtpdahhnjhggocaaGreatDoorBun28
import Derived.Test.YtpdahhnjhggocaaGreatDoorBun22
import Derived.Shelf.Abstract
import Derived.Deep.RegionLaw
namespace Go.Proofs.YtpdahhnjhggocaaGreatDoor
open Go.RowKit
end Go.Proofs.YtpdahhnjhggocaaGreatDoor
namespace Go.Proofs.YtpdahhnjhggocaaGreatDoor
open Go.RowKit
end Go.Proofs.YtpdahhnjhggocaaGreatDoor
namespace Go.Proofs.YtpdahhnjhggocaaGreatDoor
open Go.RowKit
end Go.Proofs.YtpdahhnjhggocaaGreatDoor
namespace Go.Proofs.YtpdahhnjhggocaaGreatDoor
open Go.RowKit
end Go.Proofs.YtpdahhnjhggocaaGreatDoor
namespace Go.Proofs.YtpdahhnjhggocaaGreatDoor
open Go.RowKit
theorem blocks_none (B : Nat) (w : World) : BlocksOwn B w (.slice none 0 0) [] := Mem.own1 (World.ownsRow_nil _ _ _ _)
theorem infoSheet : (Tryz.prog.info? 25).map (fun i => (i.zero, i.size, i.bytes)) = some (some (.agg #[.slice none 0 0]), 1, 24) := by kernel_rfl
theorem sheet_size : ∃ a, Tryz.prog.info? 25 = some a ∧ a.size = 1 := by
  obtain ⟨i, hi, _, hs, _⟩ := info_parts infoSheet
  exact ⟨i, hi, hs⟩
end Go.Proofs.YtpdahhnjhggocaaGreatDoor
namespace Go.Proofs.YtpdahhnjhggocaaGreatDoor
open Go.RowKit
set_option maxHeartbeats 2000000 in
set_option maxRecDepth 100000 in
theorem l3Block_any {x : BAt} {w : World} (h : BlockIn w x) (hs : LinesSmall x.ls) : Calls Tryz.prog 105 #[.agg #[.string x.kind, .string x.name, x.v]] w fun e w' => ∃ v ls', e = .returned (.agg #[.string x.kind, .string x.name, v]) ∧ ls'.map LAt.plain = x.ls.map LAt.plain ∧ LinesOwn w.heap.size w' v ls' ∧ Below w.heap.size w w' := by
  obtain ⟨ax, cx, e1⟩ := h.1.form
  unfold BlockIn at h
  rw [e1] at h ⊢
  have b0 : Below w.heap.size w ((w.alloc (.cells #[.string x.kind, .string x.name, .slice ax x.ls.length cx] 46)).alloc (.cells #[.string ⟨#[]⟩, .string ⟨#[]⟩, .slice none 0 0] 46)) := ((Below.refl _ _).alloc (Nat.le_refl _) _).alloc (by simp) _
  have hsz : ((w.alloc (.cells #[.string x.kind, .string x.name, .slice ax x.ls.length cx] 46)).alloc (.cells #[.string ⟨#[]⟩, .string ⟨#[]⟩, .slice none 0 0] 46)).heap.size = w.heap.size + 2 := by simp
  have hz0 : ((w.alloc (.cells #[.string x.kind, .string x.name, .slice ax x.ls.length cx] 46)).alloc (.cells #[.string ⟨#[]⟩, .string ⟨#[]⟩, .slice none 0 0] 46)).heap[w.heap.size]? = some (.cells #[.string x.kind, .string x.name, .slice ax x.ls.length cx] 46 (0, 0)) := by rw [alloc_there _ _ _ (by simp), alloc_here]
  have hz1 : ((w.alloc (.cells #[.string x.kind, .string x.name, .slice ax x.ls.length cx] 46)).alloc (.cells #[.string ⟨#[]⟩, .string ⟨#[]⟩, .slice none 0 0] 46)).heap[w.heap.size + 1]? = some (.cells #[.string ⟨#[]⟩, .string ⟨#[]⟩, .slice none 0 0] 46 (0, 0)) := by
    have := alloc_here (w.alloc (.cells #[.string x.kind, .string x.name, .slice ax x.ls.length cx] 46)) (.cells #[.string ⟨#[]⟩, .string ⟨#[]⟩, .slice none 0 0] 46)
    rwa [World.size_alloc] at this
  have HW := l3Lines_any (h.below b0) hs
  have q2 := cell_of_block hz0 2
  simp only [List.getElem?_toArray, List.getElem?_cons_zero, List.getElem?_cons_succ] at q2
  generalize x.ls.map LAt.plain = PL at *
  clear h e1 hs
  generalize x.ls.length = nx at *
  generalize x.kind = xk at *
  generalize x.name = xn at *
  go_enter Tryz.func105, Tryz.ntmps105
  go_wp2_with (go_at_call 97; refine HW.mono ?_)
  first | rintro e w2 v rfl ls' hpl o2 b2 | rintro e w2 v ls' rfl hpl o2 b2 | rintro e w2 ⟨v, ls', rfl, hpl, o2, b2⟩
  first | rw [hsz] at o2 b2 | skip
  have z0 := (b2.block w.heap.size (by omega)).trans hz0
  have z1 := (b2.block (w.heap.size + 1) (by omega)).trans hz1
  have hw2 : w.heap.size + 2 ≤ w2.heap.size := by have := b2.size; rw [hsz] at this; exact this
  have b02 := b0.trans (b2.mono (by omega))
  have c0 := cell_of_block z0 0
  have c1 := cell_of_block z0 1
  have c2 := cell_of_block z0 2
  have f2 := frozen_of_block z0 2
  simp only [List.getElem?_toArray, List.getElem?_cons_zero, List.getElem?_cons_succ] at c0 c1 c2
  obtain ⟨av, cv, rfl, _⟩ := own_form o2.row
  have HPL := hid_in hpl
  have hO2 := hid_in o2
  clear hpl o2
  generalize ls'.length = nv at *
  have z1' : (w2.setCell ⟨w.heap.size, 2, none⟩ (.slice av nv cv)).heap[w.heap.size + 1]? = some (.cells #[.string ⟨#[]⟩, .string ⟨#[]⟩, .slice none 0 0] 46 (0, 0)) := by rw [Below.heap_setCell _ _ _ _ (by simp)]; exact z1
  clear HW hz0 hz1 hsz q2
  go_wp2_with (with_reducible show wpList _ _ _ (Oper.mk _ (Op.store _ (Operand.tmp 2) _) _ _ _ _ :: _) _ _; refine wpList_store_row rfl 46 _ _ rfl (w.heap.size + 1) #[.string xk, .string xn, .slice av nv cv] ?_ ?_ 46 _ z1' ?_ ?_ ?_ ?_)
  all_goals (first | rfl | kernel_rfl | skip)
  have z5 : ((w2.setCell ⟨w.heap.size, 2, none⟩ (.slice av nv cv)).setRow (w.heap.size + 1) #[.string xk, .string xn, .slice av nv cv]).heap[w.heap.size + 1]? = some (.cells #[.string xk, .string xn, .slice av nv cv] 46 (0, 0)) := setRow_heap _ _ _ _ _ _ z1'
  have o5 := ((hO2.out.setCell ⟨w.heap.size, 2, none⟩ (by simp) (.slice av nv cv)).setRow (w.heap.size + 1) (by omega) #[.string xk, .string xn, .slice av nv cv]).mono (show w.heap.size ≤ w.heap.size + 2 by omega)
  have b5 : Below w.heap.size w ((w2.setCell ⟨w.heap.size, 2, none⟩ (.slice av nv cv)).setRow (w.heap.size + 1) #[.string xk, .string xn, .slice av nv cv]) :=
    ⟨b02.os, b02.tape, b02.output, by rw [setRow_size]; simp; omega, fun k hk => by rw [setRow_other _ _ _ _ (by omega), Below.heap_setCell _ _ _ _ (by simp; omega)]; exact b02.block k hk⟩
  have y0 := cell_of_block z5 0
  have y1 := cell_of_block z5 1
  have y2 := cell_of_block z5 2
  simp only [List.getElem?_toArray, List.getElem?_cons_zero, List.getElem?_cons_succ] at y0 y1 y2
  generalize (w2.setCell ⟨w.heap.size, 2, none⟩ (.slice av nv cv)).setRow (w.heap.size + 1) #[.string xk, .string xn, .slice av nv cv] = W at *
  first | exact bodyPost_ret (v := .agg #[.string xk, .string xn, .slice av nv cv]) (by simp [results, Tryz.results105, go_sem, y0, y1, y2]) rfl ⟨_, ls', rfl, HPL.out, o5, b5⟩ | exact bodyPost_ret (v := .agg #[.string xk, .string xn, .slice av nv cv]) (by simp [results, Tryz.results105, go_sem, y0, y1, y2]) rfl ⟨_, rfl, ls', HPL.out, o5, b5⟩
theorem below_setCell {B : Nat} {w w' : World} (h : Below B w w') (p : Addr) (hp : B ≤ p.block) (u : Value) : Below B w (w'.setCell p u) := h.setCell (p := p) hp u
theorem box_set {w : World} {g : Nat} {v u : Value} (hc : w.cell? ⟨g, 0, none⟩ = some v) (hf : w.frozen? ⟨g, 0, none⟩ = false) : (w.setCell ⟨g, 0, none⟩ u).cell? ⟨g, 0, none⟩ = some u ∧ (w.setCell ⟨g, 0, none⟩ u).frozen? ⟨g, 0, none⟩ = false :=
  ⟨World.cell?_setCell_same' _ _ _ (by rw [hc]; rfl), by rw [World.frozen?_setCell]; exact hf⟩
theorem keepB {B : Nat} {w w' : World} {p : Addr} {v : Value} (h : w.cell? p = some v ∧ w.frozen? p = false) (hb : Below B w w') (hp : p.block < B) : w'.cell? p = some v ∧ w'.frozen? p = false := ⟨(hb.cell hp).trans h.1, (hb.frozen hp).trans h.2⟩
set_option maxHeartbeats 8000000 in
set_option maxRecDepth 100000 in
theorem l3Copy_any {v : Value} {bs : List BAt} {w : World} (h : BlocksIn w v bs) (hs : BlocksSmall bs) : Calls Tryz.prog 55 #[.agg #[v]] w fun e w' => ∃ v' bs', e = .returned (.agg #[v']) ∧ bs'.map BAt.plain = bs.map BAt.plain ∧ BlocksOwn w.heap.size w' v' bs' ∧ Below w.heap.size w w' := by
  obtain ⟨ao, cap, rfl⟩ := h.1.form
  have hl := hs.1
  obtain ⟨i0, hi, hz0, hz1, hz2⟩ := info_parts infoBlock
  have b0 : Below w.heap.size w (((w.alloc (.cells #[.slice ao bs.length cap] 25)).alloc (.cells #[.slice none 0 0] 25)).alloc (.cells #[.slice none 0 0] 25)) := (((Below.refl _ _).alloc (Nat.le_refl _) _).alloc (by simp) _).alloc (by simp; omega) _
  obtain ⟨hsz, hy0, hy1, hy2⟩ := alloc3 (w := w) (o1 := .cells #[.slice ao bs.length cap] 25) (o2 := .cells #[.slice none 0 0] 25) (o3 := .cells #[.slice none 0 0] 25)
  have k0 := cell_of_block hy0 0
  have k2 := cell_of_block hy2 0
  have f2 := frozen_of_block hy2 0
  simp only [List.getElem?_toArray, List.getElem?_cons_zero] at k0 k2
  generalize hn : bs.length = len at *
  have en := hid_in hn
  clear hn
  have hbs := hid_in h
  have hsm := hid_in hs
  clear h hs hy0 hy2
  go_enter Tryz.func55, Tryz.ntmps55
  go_wp2
  go_loopw [4] (fun i wr => ∃ (j : Nat) (done : List BAt) (qa : Option Addr) (qc : Nat), j ≤ len ∧ i = .int .i64 (j : Int) ∧ done.map BAt.plain = (bs.take j).map BAt.plain ∧ BlocksOwn (w.heap.size + 3) wr (.slice qa done.length qc) done ∧ Below w.heap.size w wr ∧ w.heap.size + 3 ≤ wr.heap.size ∧ wr.cell? ⟨w.heap.size, 0, none⟩ = some (.slice ao len cap) ∧ wr.heap[w.heap.size + 1]? = some (.cells #[.slice none 0 0] 25 (0, 0)) ∧ wr.cell? ⟨w.heap.size + 2, 0, none⟩ = some (.slice qa done.length qc) ∧ wr.frozen? ⟨w.heap.size + 2, 0, none⟩ = false) (fun i _ => len - (intOf i).toNat)
  case atStart => exact ⟨0, [], none, 0, by omega, rfl, by simp, blocks_none _ _, b0, by simp, k0, hy1, k2, f2⟩
  case round =>
    obtain ⟨j, done, qa, qc, hj, rfl, hdn, hm, bw, hszw, c0, z1, c2, f2'⟩ := hrel
    clear k0 k2 hy1 f2 b0 hsz
    have hdl : done.length = j := by have := congrArg List.length hdn; simp at this; have := en.out; omega
    subst hdl
    by_cases hlt : done.length < len
    · obtain ⟨D, x, T, e0, hD⟩ := split1 bs done.length (by have := en.out; omega)
      have h5 := hbs.out.below bw
      have hxm : x ∈ bs := by rw [e0]; simp
      have h6 := h5
      rw [e0] at h6
      obtain ⟨g, off, rfl, d1, d2, d3⟩ := h6.1.block
      rw [hD] at d1 d2 d3
      have hstep := hid_in (show ∀ (v' : Value) (ls' : List LAt), ls'.map LAt.plain = x.ls.map LAt.plain → (done ++ [⟨x.kind, x.name, v', ls'⟩] : List BAt).map BAt.plain = (bs.take (done.length + 1)).map BAt.plain from by
        intro v' ls' hp
        rw [List.map_append, hdn, e0, ← hD, take_front, take_one, List.map_append, List.map_singleton, List.map_singleton]
        unfold BAt.plain
        rw [hp])
      have hx := h5.2 x hxm
      obtain ⟨xa, xc, ex⟩ := hx.1.form
      have bd : Below wr.heap.size wr wr.drew := (Below.refl _ _).drew
      have HB := l3Block_any (BlockIn.below hx bd) (hsm.out.2 x hxm).2
      have hmd : BlocksOwn (w.heap.size + 3) wr.drew (.slice qa done.length qc) done := hm.below bd
      have HOUT := hid_in (show ∀ w7, Below wr.heap.size wr.drew w7 → ∀ cs, (w7.alloc (.cells cs 46)).ownsRow (w.heap.size + 3) 46 3 (.slice qa done.length qc) done.length (done.flatMap BAt.cells) from fun w7 b7 cs => (own_below hmd.row b7).alloc _)
      have HMD := hid_in hmd
      have i1 : (0 : Int) ≤ (done.length : Int) := by omega
      have i2 : (done.length : Int) < (len : Int) := by omega
      have ho : (wr.drew).cell? ⟨w.heap.size + 2, 0, none⟩ = some (.slice qa done.length qc) ∧ (wr.drew).frozen? ⟨w.heap.size + 2, 0, none⟩ = false := ⟨c2, f2'⟩
      obtain ⟨xk, xn, xv, xl⟩ := x
      simp only at *
      subst ex
      clear h5 h6 hm hdn e0 hD hxm hx hmd
      generalize hnl : xl.length = nl at *
      go_wp2
      go_region_law (first
        | (refine step_append_has (by rfl) _ _ 23 (by rfl) (w.heap.size + 3) 46 i0 _ 3 56 Tryz.underlying23 hi hz0 hz1 hz2 rfl (by decide) _ done.length _ (by rfl) (HOUT.out w7 B7 _) _ 1 _ (by rfl) (lit_has w7 #[.string xk, .string xn, .slice a7 ls7.length c7] 46 3 rfl) (by intro y hy; simp at hy; rcases hy with rfl | rfl | rfl <;> rfl) (by unfold maxLen; omega) (by omega) (Nat.le_trans (Nat.le_trans hszw hz7) (by simp)) ?_
           intro ao8 cap8 w8 o8 g8 v8
           have P8 := blocks_push (x := ⟨xk, xn, .slice a7 ls7.length c7, ls7⟩) HMD.out hszw o7 B7 o8 g8 v8
           have ho8 := keepB ho P8.2 (by simp)
           have ho8a := ho8.1
           have ho8b := ho8.2)
        | (go_simp
           go_wp2_with (go_at_call 105; refine HB.mono ?_; rintro e w7 ⟨v7, ls7, rfl, hp7, o7, B7⟩; obtain ⟨a7, c7, rfl, _⟩ := own_form o7.row; have hz7 := B7.size; have ho7 := keepB ho B7 (by simp; omega); have ho7a := ho7.1; have ho7c := (keepB ho (B7.alloc hz7 (.cells #[.string xk, .string xn, .slice a7 ls7.length c7] 46)) (by simp; omega)).1)))
      all_goals
        have HST := hid_in (hstep.out (.slice a7 ls7.length c7) ls7 hp7)
        have HP := hid_in P8.1
        have B8 := P8.2
        have hz8 := B8.size
        have r0 := (World.cell?_setCell_far w8 ⟨w.heap.size + 2, 0, none⟩ ⟨w.heap.size, 0, none⟩ (.slice ao8 (done.length + 1) cap8) (by simp)).trans ((B8.cell (p := ⟨w.heap.size, 0, none⟩) (by simp)).trans c0)
        have r1 : (w8.setCell ⟨w.heap.size + 2, 0, none⟩ (.slice ao8 (done.length + 1) cap8)).heap[w.heap.size + 1]? = some (.cells #[.slice none 0 0] 25 (0, 0)) := by rw [Below.heap_setCell _ _ _ _ (by simp)]; exact (B8.block (w.heap.size + 1) (by omega)).trans z1
        have r2 := hid_in (box_set (u := .slice ao8 (done.length + 1) cap8) ho8a ho8b)
        have rb := (bw.drew.trans (B8.mono (show w.heap.size ≤ w.heap.size + 3 by omega))).setCell (p := ⟨w.heap.size + 2, 0, none⟩) (by simp) (.slice ao8 (done.length + 1) cap8)
        clear HB HOUT HMD hstep ho o7 o8 g8 v8 P8 hp7 d1 d2 d3 c0 c2 f2' ho7 ho7a ho7c
        go_wp2
        go_roundw
        case rel => exact ⟨done.length + 1, _, ao8, cap8, by omega, by go_num, HST.out, by rw [List.length_append]; exact HP.out.setCell _ (by simp) _, rb, by simp at hz8 ⊢; omega, r0, r1, by rw [List.length_append]; exact r2.out.1, r2.out.2⟩
        case measure => simp [intOf]; omega
    · have ej : done.length = len := by omega
      have hls : bs.take done.length = bs := by rw [ej, ← en.out, List.take_length]
      rw [hls] at hdn
      have HO := hid_in hm
      have HD := hid_in hdn
      have hlt' : ¬ ((done.length : Int) < (len : Int)) := by omega
      clear hm hdn hls ej
      generalize done.length = nq at *
      go_wp2_with (with_reducible show wpList _ _ _ (Oper.mk _ (Op.store _ (Operand.tmp 2) _) _ _ _ _ :: _) _ _; refine wpList_store_row rfl 25 _ _ rfl (w.heap.size + 1) #[.slice qa nq qc] ?_ ?_ 25 _ z1 ?_ ?_ ?_ ?_)
      all_goals (first | rfl | kernel_rfl | exact sheet_size | skip)
      have z5 : (wr.setRow (w.heap.size + 1) #[.slice qa nq qc]).heap[w.heap.size + 1]? = some (.cells #[.slice qa nq qc] 25 (0, 0)) := setRow_heap _ _ _ _ _ _ z1
      have b5 : Below w.heap.size w (wr.setRow (w.heap.size + 1) #[.slice qa nq qc]) :=
        ⟨bw.os, bw.tape, bw.output, by rw [setRow_size]; exact bw.size, fun k hk => by rw [setRow_other _ _ _ _ (by omega)]; exact bw.block k hk⟩
      have o5 := (HO.out.setRow (w.heap.size + 1) (by omega) #[.slice qa nq qc]).mono (show w.heap.size ≤ w.heap.size + 3 by omega)
      have y0 := cell_of_block z5 0
      simp only [List.getElem?_toArray, List.getElem?_cons_zero] at y0
      generalize wr.setRow (w.heap.size + 1) #[.slice qa nq qc] = W at b5 y0 z5 o5 ⊢
      first | exact bodyPost_ret (v := .agg #[.slice qa nq qc]) (by simp [results, Tryz.results55, go_sem, y0]) rfl ⟨_, done, rfl, HD.out, o5, b5⟩ | exact bodyPost_ret (v := .agg #[.slice qa nq qc]) (by simp [results, Tryz.results55, go_sem, y0]) rfl ⟨_, rfl, done, HD.out, o5, b5⟩
end Go.Proofs.YtpdahhnjhggocaaGreatDoor
namespace Go.Proofs.YtpdahhnjhggocaaGreatDoor
open Go.RowKit
theorem words_same (xs ys : List (List UInt8)) : (!decide (xs < ys) && !decide (ys < xs)) = decide (xs = ys) := by
  by_cases h : xs = ys
  · subst h
    have := Tot.irr xs
    simp [this]
  · by_cases h1 : xs < ys
    · simp [h, h1]
    · by_cases h2 : ys < xs
      · simp [h, h2]
      · exact absurd (Tot.tri _ _ h1 h2) h
set_option maxHeartbeats 1000000 in
set_option maxRecDepth 100000 in
theorem l3Words_any {va vb : Value} {xs ys : List (List UInt8)} {w : World} (h1 : HasRow w va xs.length 1 (strs xs)) (h2 : HasRow w vb ys.length 1 (strs ys)) (hn : xs.length ≤ 1048576) (hm : ys.length ≤ 1048576) : Calls Tryz.prog 91 #[va, vb] w fun e w' => e = .returned (.bool (decide (xs = ys))) ∧ Below w.heap.size w w' := by
  obtain ⟨ao, ca, rfl⟩ := h1.form
  obtain ⟨bo, cb, rfl⟩ := h2.form
  have HL := fun W hW => l3Less_any (w := W) (h1.below hW) (h2.below hW) hn hm
  have HM := fun W hW => l3Less_any (w := W) (h2.below hW) (h1.below hW) hm hn
  have hE := words_same xs ys
  generalize decide (xs = ys) = E at *
  clear h1 h2
  generalize xs.length = n at *
  generalize ys.length = m at *
  cases hd : decide (xs < ys)
  · rw [hd] at HL hE
    go_enter Tryz.func91, Tryz.ntmps91
    go_wp2_with (go_at_call 156; refine (HL _ (Below.refl _ _)).mono ?_)
    first | rintro e w2 rfl q rfl | rintro e w2 ⟨rfl, q, rfl⟩
    have B1 : Below w.heap.size w (w.drewN q) := below_drewN (Below.refl _ _) q
    have HM2 := HM _ B1
    have hE2 := hid_in hE
    clear HL hE
    generalize decide (ys < xs) = E2 at *
    go_wp2_with (go_at_call 156; refine HM2.mono ?_)
    first | rintro e w3 rfl q3 rfl | rintro e w3 ⟨rfl, q3, rfl⟩
    clear HM HM2
    go_wp2
    go_ret
    exact ⟨ret_bool (by have := hE2.out; simpa using this), below_drewN (Below.refl _ _) _⟩
  · rw [hd] at HL hE
    have hE2 := hid_in hE
    clear HM hE
    go_enter Tryz.func91, Tryz.ntmps91
    go_wp2_with (go_at_call 156; refine (HL _ (Below.refl _ _)).mono ?_)
    first | rintro e w2 rfl q rfl | rintro e w2 ⟨rfl, q, rfl⟩
    have B1 : Below w.heap.size w (w.drewN q) := below_drewN (Below.refl _ _) q
    clear HL
    go_wp2
    go_ret
    exact ⟨ret_bool (by have := hE2.out; simpa using this), B1⟩
end Go.Proofs.YtpdahhnjhggocaaGreatDoor
namespace Go.Proofs.YtpdahhnjhggocaaGreatDoor
open Go.RowKit
end Go.Proofs.YtpdahhnjhggocaaGreatDoor
