import Derived.Test.YtpdahhnjhggocaaGreatDoorBun33
import Derived.Test.YtpdahhnjhggocaaGreatDoorBun31
import Derived.Test.YtpdahhnjhggocaaGreatDoorBun27
import Derived.Test.YtpdahhnjhggocaaGreatDoorBun25
namespace Go.Proofs.YtpdahhnjhggocaaGreatDoor
open Go.RowKit
/-- What putting a line in its place leaves, seen from a block of memory that is turned later. -/
def PutFar (g : Nat) (R : List Plain) (b : BAt) (x : LAt) (w : World) (e : Ending) (w' : World) : Prop := ∃ a n c ls', e = .returned (.agg #[.string b.kind, .string b.name, .slice a n c]) ∧ (ls'.map LAt.plain = putIn (lineLt R) x.plain (b.ls.map LAt.plain) ∧ ls'.length = b.ls.length + 1 ∧ (∀ y ∈ ls', y = x ∨ y ∈ b.ls) ∧ LinesIn w' (.slice a n c) ls' ∧ LinesFar g (.slice a n c) ls') ∧ Below w.heap.size w w'
theorem l3PutLine_at {g : Nat} {b : BAt} {x : LAt} {w : World} (hb : BlockIn w b) (hs : LinesSmall b.ls) (hx : LineIn w x) (hxs : x.ws.length ≤ 1048576) (hf : LinesFar g b.v b.ls) (hxf : FarV g x.v x.ws.length) (hg : g < w.heap.size) : Calls Tryz.prog 86 #[.agg #[.string b.kind, .string b.name, b.v], .agg #[.string x.key, x.v]] w fun e w' => PutFar g (rulesOf b.kind) b x w e w' := by
  refine (l3PutLine_any hb hs hx hxs).mono ?_
  rintro e w' ⟨v', D, T, hDT, rfl, hp, ho, bb⟩
  obtain ⟨a, c, rfl, _⟩ := own_form ho
  have hm : ∀ y ∈ D ++ x :: T, y = x ∨ y ∈ b.ls := by
    intro y hy
    rw [hDT]
    simp only [List.mem_append, List.mem_cons] at hy ⊢
    rcases hy with hy | rfl | hy
    · exact .inr (.inl hy)
    · exact .inl rfl
    · exact .inr (.inr hy)
  refine ⟨a, _, c, D ++ x :: T, rfl, ⟨hp, by rw [hDT]; simp; omega, hm, ⟨own_has ho, fun y hy => ?_⟩, FarV.above ho hg, fun y hy => ?_⟩, bb⟩
  · rcases hm y hy with rfl | hy
    · exact hx.below bb
    · exact (hb.2 y hy).below bb
  · rcases hm y hy with rfl | hy
    · exact hxf
    · exact hf.2 y hy
/-- Where the filling of one block has come to. -/
def FillRel (B g len c2 : Nat) (xk xn : ByteArray) (P : List PLine) (D T : List BAt) (nr : Nat) (wq : World) (i : Value) (wi : World) : Prop := ∃ (k : Nat) (b : BAt), i = .int .i64 (k : Int) ∧ k ≤ nr ∧ (b.kind = xk ∧ b.name = xn ∧ b.ls.map LAt.plain = ((rulesOf xk).take k).foldl (stepF (rulesOf xk)) P ∧ LinesSmall b.ls ∧ b.ls.length ≤ 120 + k) ∧ BRow B wi (.slice (some ⟨g, 0, none⟩) len c2) (D ++ b :: T) ∧ wq.grownBy wi (some g)
theorem below_far {B g : Nat} {a w w' : World} (h : Below B a w) (hB : B ≤ w.heap.size) (hg : B ≤ g) (k : w.grownBy w' (some g)) : Below B a w' := ⟨k.os.trans h.os, k.tape.trans h.tape, k.output.trans h.output, Nat.le_trans h.size k.size, fun i hi => (k.block i (Nat.lt_of_lt_of_le hi hB) (by intro e; cases e; omega)).trans (h.block i hi)⟩
theorem small_put {x : LAt} {ls ls' : List LAt} (h : LinesSmall ls) (hx : x.ws.length ≤ 1048576 ∧ ∀ y ∈ x.ws, y.length ≤ 1048576) (hl : ls'.length ≤ 1048576) (hm : ∀ y ∈ ls', y = x ∨ y ∈ ls) : LinesSmall ls' := ⟨hl, fun y hy => by
  rcases hm y hy with rfl | hy
  · exact hx
  · exact h.2 y hy⟩
set_option maxHeartbeats 16000000 in
set_option maxRecDepth 100000 in
theorem specFill_any {v : Value} {bs : List BAt} {w : World} (hbs : BlocksIn w v bs) (hsm : BlocksSmall bs) : Calls Tryz.prog 27 #[.agg #[v]] w fun e w' => ∃ v' bs', e = .returned (.agg #[v']) ∧ bs'.map BAt.plain = fillS (bs.map BAt.plain) ∧ BlocksOwn w.heap.size w' v' bs' ∧ Below w.heap.size w w' := by
  obtain ⟨ao, cap, rfl⟩ := hbs.1.form
  have hc := two_boxes (w := w) (cs := #[.slice ao bs.length cap]) (ds := #[.slice none 0 0]) (T := 25) (U := 25)
  have c0 := hc.1 0
  simp only [List.getElem?_toArray, List.getElem?_cons_zero] at c0
  clear hc
  have G0 : Below w.heap.size w ((w.alloc (.cells #[.slice ao bs.length cap] 25)).alloc (.cells #[.slice none 0 0] 25)) := ((Below.refl _ _).alloc (Nat.le_refl _) _).alloc (by simp) _
  have hz := alloc_here (w.alloc (.cells #[.slice ao bs.length cap] 25)) (.cells #[.slice none 0 0] 25)
  simp only [World.size_alloc] at hz
  have HV := specValid_any (hbs.below G0) hsm
  have hBS := hid_in hbs
  have hSM := hid_in hsm
  clear hbs hsm
  generalize hn : bs.length = len0 at *
  clear hn
  generalize hW0 : (w.alloc (.cells #[.slice ao len0 cap] 25)).alloc (.cells #[.slice none 0 0] 25) = W0 at *
  have hsz0 : W0.heap.size = w.heap.size + 2 := by rw [← hW0]; simp
  go_enter Tryz.func27, Tryz.ntmps27
  go_wp2_with (go_at_call 14; (try rw [hW0]); refine HV.mono ?_)
  first | rintro e w1 rfl b1 | rintro e w1 ⟨rfl, b1⟩
  have c1 := (b1.cell (p := ⟨w.heap.size, 0, none⟩) (by simp; omega)).trans c0
  have z1 := (b1.block (w.heap.size + 1) (by omega)).trans hz
  have hsz1 := b1.size
  have g1 := G0.trans (b1.mono G0.size)
  clear HV c0 hz hW0
  cases hok : sheetB (bs.map BAt.plain)
  · have HG := hid_in (show ([] : List BAt).map BAt.plain = fillS (bs.map BAt.plain) from by unfold fillS; rw [hok]; rfl)
    clear hok
    go_wp2_with (with_reducible show wpList _ _ _ (Oper.mk _ (Op.store _ (Operand.tmp 2) _) _ _ _ _ :: _) _ _; refine wpList_store_row rfl 25 _ _ rfl (w.heap.size + 1) #[.slice none 0 0] ?_ ?_ 25 _ z1 ?_ ?_ ?_ ?_)
    all_goals (first | rfl | kernel_rfl | exact sheet_size | skip)
    have z5 : (w1.setRow (w.heap.size + 1) #[.slice none 0 0]).heap[w.heap.size + 1]? = some (.cells #[.slice none 0 0] 25 (0, 0)) := setRow_heap _ _ _ _ _ _ z1
    have b5 : Below w.heap.size w (w1.setRow (w.heap.size + 1) #[.slice none 0 0]) :=
      ⟨g1.os, g1.tape, g1.output, by rw [setRow_size]; exact g1.size, fun k hk => by rw [setRow_other _ _ _ _ (by omega)]; exact g1.block k hk⟩
    have y0 := cell_of_block z5 0
    simp only [List.getElem?_toArray, List.getElem?_cons_zero] at y0
    generalize w1.setRow (w.heap.size + 1) #[.slice none 0 0] = W at b5 y0 z5 ⊢
    first | exact bodyPost_ret (v := .agg #[.slice none 0 0]) (by simp [results, Tryz.results27, go_sem, y0]) rfl ⟨_, [], rfl, HG.out, blocks_none _ _, b5⟩ | exact bodyPost_ret (v := .agg #[.slice none 0 0]) (by simp [results, Tryz.results27, go_sem, y0]) rfl ⟨_, rfl, [], HG.out, blocks_none _ _, b5⟩
  · have HOK := hid_in hok
    clear hok
    have HC := l3Copy_any (hBS.out.below g1) hSM.out
    go_wp2_with (go_at_call 55; refine HC.mono ?_)
    first | rintro e w2 v2 rfl bs2 hp2 o2 b2 | rintro e w2 v2 bs2 rfl hp2 o2 b2 | rintro e w2 ⟨v2, bs2, rfl, hp2, o2, b2⟩
    have hSM2 := hid_in (hSM.out.same hp2)
    have HP2 := hid_in hp2
    have g2 := g1.trans (b2.mono g1.size)
    have z2 := (b2.block (w.heap.size + 1) (by omega)).trans z1
    have hsz2 := b2.size
    obtain ⟨a2, c2, rfl, hform⟩ := own_form o2.row
    have hFm := hid_in hform
    have hLT := hid_in (fun q (hq : (Value.slice a2 bs2.length c2).ownBlock = some q) => o2.row.lt q hq)
    have x3 : Below w2.heap.size w2 (w2.alloc (.cells #[.slice a2 bs2.length c2] 25)) := (Below.refl _ _).alloc (Nat.le_refl _) _
    have o3 := hid_in (o2.below x3).brow
    have m3 := one_box (w := w2) (cs := #[.slice a2 bs2.length c2]) (T := 25) 0
    simp only [List.getElem?_toArray, List.getElem?_cons_zero] at m3
    have z3 := (x3.block (w.heap.size + 1) (by omega)).trans z2
    have g3 := g2.trans (x3.mono g2.size)
    have hsz3 : (w2.alloc (.cells #[.slice a2 bs2.length c2] 25)).heap.size = w2.heap.size + 1 := by simp
    have hl2 : bs2.length ≤ 1048576 := hSM2.out.1
    clear HC hp2 o2 b2 z1 z2 c1 x3 hform
    generalize hlen : bs2.length = len at *
    have en := hid_in hlen
    clear hlen
    generalize hW3 : w2.alloc (.cells #[.slice a2 len c2] 25) = w3 at *
    have eW3 := hid_in hW3
    clear hW3
    go_wp2
    go_loopw [4] (fun i wr => ∃ (D T : List BAt), i = .int .i64 (D.length : Int) ∧ D.length + T.length = len ∧ FillTo bs2 D T ∧ BRow w1.heap.size wr (.slice a2 len c2) (D ++ T) ∧ Below w1.heap.size w3 wr ∧ wr.cell? ⟨w2.heap.size, 0, none⟩ = some (.slice a2 len c2)) (fun i _ => len - (intOf i).toNat)
    case atStart =>
      rw [eW3.out]
      exact ⟨[], bs2, rfl, by simpa using en.out, ⟨[], rfl, rfl⟩, o3.out, Below.refl _ _, m3⟩
    case round =>
      obtain ⟨D, T, rfl, hDT, hTT, hm, bw, cx⟩ := hrel
      have hszw := bw.size
      cases T with
      | nil =>
        simp only [List.length_nil, Nat.add_zero, List.append_nil] at hDT hm
        obtain ⟨D0, e1, e2⟩ := hTT
        rw [List.append_nil] at e1
        subst e1
        have hsmD := fill_small (by rw [HP2.out]; exact sheetB_iff.1 HOK.out) hSM2.out e2
        have HG := hid_in (show D.map BAt.plain = fillS (bs.map BAt.plain) from by unfold fillS; rw [if_pos HOK.out, e2, HP2.out])
        have hmb := hm.bin
        rw [← hDT] at hmb
        have HC := l3Copy_any hmb hsmD
        rw [hDT] at HC
        have gw := g3.trans (bw.mono (by have := g1.size; omega))
        have z4 := (bw.block (w.heap.size + 1) (by omega)).trans z3
        have hlt : ¬ ((D.length : Int) < (len : Int)) := by omega
        clear hm e2 hsmD o3 m3 hmb
        go_wp2_with (go_at_call 55; refine HC.mono ?_)
        first | rintro e w5 v5 rfl bs5 hp5 o5 b5 | rintro e w5 v5 bs5 rfl hp5 o5 b5 | rintro e w5 ⟨v5, bs5, rfl, hp5, o5, b5⟩
        have z5 := (b5.block (w.heap.size + 1) (by omega)).trans z4
        have g5 := gw.trans (b5.mono gw.size)
        have HG5 := hid_in (hp5.trans HG.out)
        have O5 := hid_in (o5.mono (show w.heap.size + 2 ≤ wr.heap.size by omega))
        obtain ⟨a5, c5, rfl, _⟩ := own_form o5.row
        clear HC hp5 o5 b5 HG z4
        generalize bs5.length = n5 at *
        go_wp2_with (with_reducible show wpList _ _ _ (Oper.mk _ (Op.store _ (Operand.tmp 2) _) _ _ _ _ :: _) _ _; refine wpList_store_row rfl 25 _ _ rfl (w.heap.size + 1) #[.slice a5 n5 c5] ?_ ?_ 25 _ z5 ?_ ?_ ?_ ?_)
        all_goals (first | rfl | kernel_rfl | exact sheet_size | skip)
        have z6 : (w5.setRow (w.heap.size + 1) #[.slice a5 n5 c5]).heap[w.heap.size + 1]? = some (.cells #[.slice a5 n5 c5] 25 (0, 0)) := setRow_heap _ _ _ _ _ _ z5
        have b6 : Below w.heap.size w (w5.setRow (w.heap.size + 1) #[.slice a5 n5 c5]) :=
          ⟨g5.os, g5.tape, g5.output, by rw [setRow_size]; exact g5.size, fun k hk => by rw [setRow_other _ _ _ _ (by omega)]; exact g5.block k hk⟩
        have o6 := (O5.out.setRow (w.heap.size + 1) (by omega) #[.slice a5 n5 c5]).mono (show w.heap.size ≤ w.heap.size + 2 by omega)
        have y0 := cell_of_block z6 0
        simp only [List.getElem?_toArray, List.getElem?_cons_zero] at y0
        generalize w5.setRow (w.heap.size + 1) #[.slice a5 n5 c5] = W at b6 y0 z6 o6 ⊢
        first | exact bodyPost_ret (v := .agg #[.slice a5 n5 c5]) (by simp [results, Tryz.results27, go_sem, y0]) rfl ⟨_, bs5, rfl, HG5.out, o6, b6⟩ | exact bodyPost_ret (v := .agg #[.slice a5 n5 c5]) (by simp [results, Tryz.results27, go_sem, y0]) rfl ⟨_, rfl, bs5, HG5.out, o6, b6⟩
      | cons x T =>
        simp only [List.length_cons] at hDT
        obtain ⟨wo, hwo⟩ : ∃ wo, wo = wr := ⟨_, rfl⟩
        subst hwo
        have hlt : ((D.length : Int) < (len : Int)) := by omega
        obtain ⟨g, rfl⟩ : ∃ g, a2 = some ⟨g, 0, none⟩ := by
          rcases hFm.out with h0 | h0
          · omega
          · exact h0
        have d0 := hm.cell 0 (by decide)
        have hxb : x ∈ bs2 := by obtain ⟨D0, e1, _⟩ := hTT; rw [e1]; simp
        have hxs := (hSM2.out.2 x hxb).2
        have hxok := hid_in (show LinesOk (rulesOf x.kind) (x.ls.map LAt.plain) from ((sheetB_iff.1 HOK.out).2.1 x.plain (by rw [← HP2.out]; exact List.mem_map_of_mem hxb)).2.2)
        have hxn : x.ls.length ≤ 120 := by
          have h1 := hxok.out.few
          have h2 := (rulesOf_like x.kind).1
          rw [List.length_map] at h1
          omega
        simp only [BAt.cells, List.getElem?_cons_zero, Nat.add_zero] at d0
        have HM := hid_in hm
        have HTT := hid_in hTT
        have hgX : g < w2.heap.size := (hLT.out g rfl).2
        have hgl := (hLT.out g rfl).1
        have hxs' := hid_in hxs
        have HSR := fun W => specRules_any x.kind W
        clear hm hTT hxs o3 m3
        obtain ⟨xk, xn, xv, xl⟩ := x
        simp only at *
        have i1 : (0 : Int) ≤ (D.length : Int) := by omega
        go_wp2_with (go_at_call 56; refine (HSR _).mono ?_)
        rintro e w4 ⟨vr, L, rfl, hpl, hr, b4⟩
        have hLl := rulesOf_twelve xk hpl
        have hsz4 := b4.size
        have cx4 := (b4.cell (p := ⟨w2.heap.size, 0, none⟩) (World.block_lt_of_cell? wo _ cx)).trans cx
        have HM4 := hid_in (HM.out.below b4)
        obtain ⟨ra, rc, rfl, _⟩ := own_form (show w4.ownsRow wo.heap.size 54 4 vr L.length (L.flatMap RAt.cells) from Mem.head hr)
        have hgo : g < wo.heap.size := by omega
        have HRI := hid_in hr.rin
        have HRF := hid_in (show FarV g (.slice ra L.length rc) L.length from FarV.above (Mem.head hr) hgo)
        have HDF := hid_in (show ∀ r ∈ L, HasRow w4 r.vd r.ds.length 1 (strs r.ds) ∧ FarV g r.vd r.ds.length ∧ r.ds.length ≤ 1048576 ∧ ∀ y ∈ r.ds, y.length ≤ 1048576 from fun r hrm => by
          obtain ⟨D0, T0, hDT⟩ := List.append_of_mem hrm
          have h1 : w4.ownsRow wo.heap.size 9 1 r.vd r.ds.length (strs r.ds) := by have := hr.rm; rw [hDT] at this; exact this.defs
          exact ⟨own_has h1, FarV.above h1 hgo, defs_small hpl hrm⟩)
        have HPL := hid_in hpl
        clear hr hpl HSR cx d0
        generalize hnr : L.length = nr at *
        have enr := hid_in hnr
        clear hnr
        go_wp2
        go_loopw [6] (fun i wi => FillRel w1.heap.size g len c2 xk xn (xl.map LAt.plain) D T nr w4 i wi) (fun i _ => nr - (intOf i).toNat)
        case atStart => exact ⟨0, ⟨xk, xn, xv, xl⟩, rfl, by omega, ⟨rfl, rfl, by simp, hxs'.out, by simpa using hxn⟩, HM4.out, ⟨rfl, rfl, rfl, Nat.le_refl _, fun _ _ _ => rfl⟩⟩
        case round =>
          obtain ⟨wi, hwi⟩ : ∃ wi, wi = wr := ⟨_, rfl⟩
          subst hwi
          obtain ⟨k, b, rfl, hk, hbf, hm, gi⟩ := hrel
          have hszi := gi.size
          have cxi : wi.cell? ⟨w2.heap.size, 0, none⟩ = some (.slice (some ⟨g, 0, none⟩) len c2) := (gi.cell_far ⟨w2.heap.size, 0, none⟩ (by simp; omega) (by intro e; cases e; exact absurd hgX (Nat.lt_irrefl _))).trans cx4
          by_cases hk2 : k < nr
          · obtain ⟨D1, r, T1, ey, hD1⟩ := split1 L k (by have := enr.out; omega)
            have hri := HRI.out.1.far (by rw [enr.out]; exact HRF.out) gi
            rw [ey] at hri
            obtain ⟨rg, roff, rfl, r0, r1, r2, r3⟩ := hri.rule
            have hrm : r ∈ L := by rw [ey]; simp
            obtain ⟨hd1, hd2, hd3⟩ := HDF.out r hrm
            have hdi := hd1.far hd2 gi
            obtain ⟨ad, cd, ed⟩ := hdi.form
            rw [hD1] at r0 r2 r3
            have hbin : LinesIn wi b.v b.ls := (hm.2 b (by simp)).1
            have hbfar := (hm.2 b (by simp)).2 g rfl
            have e0 := hm.cell 0 (by decide)
            have e1 := hm.cell 1 (by decide)
            have e2 := hm.cell 2 (by decide)
            simp only [BAt.cells, List.getElem?_cons_zero, List.getElem?_cons_succ, Nat.add_zero] at e0 e1 e2
            obtain ⟨la, lc, eb⟩ := hbin.1.form
            obtain ⟨bk, bn, bv, bl⟩ := b
            simp only at hbf hbin hbfar e0 e1 e2 eb
            obtain ⟨rfl, rfl, hbp, hbs, hbl⟩ := hbf
            subst eb
            have hst := hid_in (show ((rulesOf bk).take (k + 1)).foldl (stepF (rulesOf bk)) (xl.map LAt.plain) = stepF (rulesOf bk) (bl.map LAt.plain) r.plain from by
              rw [hbp, ← hD1]
              have e : rulesOf bk = D1.map RAt.plain ++ r.plain :: T1.map RAt.plain := by rw [← HPL.out, ey]; simp
              have := steps_take (ls := xl.map LAt.plain) e
              rw [List.length_map] at this
              exact this)
            have hds : r.ds.length ≤ 1048576 ∧ ∀ y ∈ r.ds, y.length ≤ 1048576 := hd3
            rw [ed] at hdi hd2 r3
            have HL5 : ∀ p : Gr wi, Calls Tryz.prog 89 #[.agg #[.string bk, .string bn, .slice la bl.length lc], .string r.key] p.u fun e w' => NonePost (!hasK (bl.map LAt.plain) r.key) p.u e w' := fun p => l5Of_none r.key (b := ⟨bk, bn, .slice la bl.length lc, bl⟩) (hbin.below p.h) hbs
            have HPUT : ∀ p : Gr wi, Calls Tryz.prog 86 #[.agg #[.string bk, .string bn, .slice la bl.length lc], .agg #[.string r.key, .slice ad r.ds.length cd]] p.u fun e w' => PutFar g (rulesOf bk) ⟨bk, bn, .slice la bl.length lc, bl⟩ ⟨r.key, .slice ad r.ds.length cd, r.ds⟩ p.u e w' := fun p => l3PutLine_at (b := ⟨bk, bn, .slice la bl.length lc, bl⟩) (x := ⟨r.key, .slice ad r.ds.length cd, r.ds⟩) (hbin.below p.h) hbs (HasRow.below hdi p.h) hds.1 hbfar hd2 (by have := p.h.size; omega)
            have hno := hid_in (show (!r.many && !hasK (bl.map LAt.plain) r.key) = false → stepF (rulesOf bk) (bl.map LAt.plain) r.plain = bl.map LAt.plain from fun h => by
              unfold stepF
              rw [show isUnsaid (bl.map LAt.plain) r.plain = false from h]; rfl)
            have hyes := hid_in (show (!r.many && !hasK (bl.map LAt.plain) r.key) = true → stepF (rulesOf bk) (bl.map LAt.plain) r.plain = putIn (lineLt (rulesOf bk)) ⟨r.key, r.ds⟩ (bl.map LAt.plain) from fun h => by
              unfold stepF
              rw [show isUnsaid (bl.map LAt.plain) r.plain = true from h]; rfl)
            have k1 : (0 : Int) ≤ (k : Int) := by omega
            have k2 : (k : Int) < (nr : Int) := by omega
            have HMI := hid_in hm
            have HBS := hid_in hbs
            have HDS := hid_in hds
            clear hm hri r1 hrm hd1 hd2 hd3 hdi ed hbin hbfar hbp hbs ey hD1 HDF
            generalize hKK : (!hasK (bl.map LAt.plain) r.key) = KK at *
            clear hKK
            generalize hnl : bl.length = nl at *
            have enl := hid_in hnl
            clear hnl
            generalize r.key = rk at *
            generalize r.many = rm at *
            generalize hnd : r.ds.length = nd at *
            have ednd := hid_in hnd
            clear hnd
            go_upto_region 11 with fail
            go_cut [53] from 33 to 53 (fun c wx => c = .bool (!rm && KK) ∧ Below wi.heap.size wi wx)
            case first =>
              have v0 := fun p : Gr wi => gr_cell cxi p
              have v1 := fun p : Gr wi => gr_cell e0 p
              have v2 := fun p : Gr wi => gr_cell e1 p
              have v3 := fun p : Gr wi => gr_cell e2 p
              have v4 := fun p : Gr wi => gr_cell r0 p
              have v5 := fun p : Gr wi => gr_cell r2 p
              clear HPUT hst hno hyes HMI HBS HDS HM4 HRI HRF HPL HTT hxok hxs' HM e0 e1 e2 r0 r2 r3 cxi
              cases rm
              · refine wp_region_upM 21 21 (by kernel_rfl) rfl ?_
                refine wpUp_mask [true, true, true, true, true, true, true, true, true, true, true, true, true, true, true, true, true, false, false, false, false] 4 rfl (by kernel_rfl) ?_
                simp only [maskL_t, maskL_f, maskL_n]
                iterate 17 (refine wpQuietU_step (fun K hK => ?_); go_simp; refine hK _ ?_; clear hK K)
                refine wpQuietU_nil ?_
                refine wpUp_branch (f := 3) (rs := [17]) (by kernel_rfl) (by simp) ?_
                rintro ⟨wp, bp⟩
                refine AllUp.cons rfl (by decide) (fun K hK => ?_) AllUp.nil
                go_simp
                go_wp2_with (go_at_call 89; refine (HL5 ⟨wp, bp⟩).mono ?_; rintro e w7 ⟨a7, n7, c7, rfl, h7, b7⟩)
                refine hK.out _ _ b7 ?_
                clear hK K
                refine wpUp_mask [false, false, false, false, false, false, false, false, false, false, false, false, false, false, false, false, false, false, true, true, true] 0 rfl (by kernel_rfl) ?_
                simp only [maskL_t, maskL_f, maskL_n]
                iterate 3 (refine wpQuietU_step (fun K hK => ?_); go_simp; refine hK _ ?_; clear hK K)
                refine wpQuietU_nil ?_
                refine wpUp_done (by kernel_rfl) ?_ 0
                rintro ⟨wz, bz⟩
                refine NoPanic.normal ?_
                go_wp2_with fail
                go_meet
                exact ⟨rfl, bp.trans ((b7.trans (bz.mono b7.size)).mono bp.size)⟩
              · refine wp_region_gr (by kernel_rfl) (by kernel_rfl) ?_
                iterate 7 quiet_step (fail)
                iterate 13 (with_reducible refine quiet_skip ?_ ?_; kernel_rfl; simp only [Act.put, List.setIfInBounds_toArray, List.set_cons_zero, List.set_cons_succ])
                quiet_step (fail)
                refine wpQuiet_nil ?_
                rintro _ ⟨⟨wq, bq⟩, rfl⟩
                go_wp2_with fail
                go_meet
                exact ⟨rfl, bq⟩
            case rest =>
              obtain ⟨wj, hwj⟩ : ∃ wj, wj = wc := ⟨_, rfl⟩
              subst hwj
              obtain ⟨rfl, bj⟩ := hcut
              have hszj := bj.size
              have HMJ := hid_in (HMI.out.below bj)
              have gj := grown_trans gi (grown_of_below bj (some g))
              cases hUU : (!rm && KK)
              · have hst' := hid_in (hst.out.trans (hno.out hUU))
                clear hst hno hyes HPUT HL5 hUU
                go_wp2
                go_roundw
                case rel => exact ⟨k + 1, ⟨bk, bn, .slice la nl lc, bl⟩, by go_num, by omega, ⟨rfl, rfl, hst'.out.symm, HBS.out, by have := enl.out; simp only; omega⟩, HMJ.out, gj⟩
                case measure => simp [intOf]; omega
              · have hst' := hid_in (hst.out.trans (hyes.out hUU))
                have v0 := fun p : Gr wj => gr_cell ((bj.cell (World.block_lt_of_cell? wi _ cxi)).trans cxi) p
                have v1 := fun p : Gr wj => gr_cell ((bj.cell (World.block_lt_of_cell? wi _ e0)).trans e0) p
                have v2 := fun p : Gr wj => gr_cell ((bj.cell (World.block_lt_of_cell? wi _ e1)).trans e1) p
                have v3 := fun p : Gr wj => gr_cell ((bj.cell (World.block_lt_of_cell? wi _ e2)).trans e2) p
                have v4 := fun p : Gr wj => gr_cell ((bj.cell (World.block_lt_of_cell? wi _ r0)).trans r0) p
                have v6 := fun p : Gr wj => gr_cell ((bj.cell (World.block_lt_of_cell? wi _ r3)).trans r3) p
                have hnn : (D ++ (⟨bk, bn, .slice la nl lc, bl⟩ : BAt) :: T).length = len := by simp; omega
                clear hst hno hyes HL5 hUU HMI HM4 HRI HRF HPL HTT hxok hxs' HM e0 e1 e2 r0 r2 r3 cxi
                go_upto_region 12 with fail
                refine wp_region_upM 21 22 (by kernel_rfl) rfl ?_
                refine wpUp_mask [true, true, true, true, true, true, true, true, true, true, true, true, true, true, true, true, true, true, true, false, false, false] 3 rfl (by kernel_rfl) ?_
                simp only [maskL_t, maskL_f, maskL_n]
                iterate 19 (refine wpQuietU_step (fun K hK => ?_); go_simp; refine hK _ ?_; clear hK K)
                refine wpQuietU_nil ?_
                refine wpUp_branch (f := 2) (rs := [19]) (by kernel_rfl) (by simp) ?_
                rintro ⟨wp, bp⟩
                refine AllUp.cons rfl (by decide) (fun K hK => ?_) AllUp.nil
                go_simp
                go_wp2_with (go_at_call 86; refine (HPUT ⟨wp, bj.trans (bp.mono bj.size)⟩).mono ?_; rintro e w7 ⟨a7, n7, c7, ls7, rfl, h7, b7⟩)
                refine hK.out _ _ b7 ?_
                clear hK K
                refine wpUp_mask [false, false, false, false, false, false, false, false, false, false, false, false, false, false, false, false, false, false, false, false, true, false] 1 rfl (by kernel_rfl) ?_
                simp only [maskL_t, maskL_f, maskL_n]
                iterate 1 (refine wpQuietU_step (fun K hK => ?_); go_simp; refine hK _ ?_; clear hK K)
                refine wpQuietU_nil ?_
                refine wpUp_last (by kernel_rfl) rfl (by kernel_rfl) ?_
                rintro ⟨wz, bz⟩ K hK
                have Bp := bp.trans ((b7.trans (bz.mono b7.size)).mono bp.size)
                have hmz := HMJ.out.below Bp
                have hset := hmz.set (b := ⟨bk, bn, .slice a7 n7 c7, ls7⟩) hnn (h7.2.2.2.1.below bz) h7.2.2.2.2
                have hth := hmz.there hnn
                rw [if_pos (by rfl)]
                refine wp_store_mid 46 _ _ rfl g (D.length * 3) #[.string bk, .string bn, .slice a7 n7 c7] rfl rfl hth (by kernel_rfl) (all_oneCell_toArray (cs := [.string bk, .string bn, .slice a7 n7 c7]) (by intro z hz; simp at hz; rcases hz with rfl | rfl | rfl <;> rfl)) ?_
                refine hK.out _ _ (NoPanic.normal ?_)
                clear hK K
                have HR := hid_in (show FillRel w1.heap.size g len c2 bk bn (xl.map LAt.plain) D T nr w4 (.int .i64 ((k + 1 : Nat) : Int)) (wz.setCells g (D.length * 3) [.string bk, .string bn, .slice a7 n7 c7]) from
                  ⟨k + 1, ⟨bk, bn, .slice a7 n7 c7, ls7⟩, rfl, by omega, ⟨rfl, rfl, h7.1.trans hst'.out.symm, small_put (x := ⟨rk, .slice ad nd cd, r.ds⟩) HBS.out ⟨by rw [ednd.out]; exact HDS.out.1, HDS.out.2⟩ (by have := h7.2.1; have := enl.out; simp only at *; omega) h7.2.2.1, by have := h7.2.1; have := enl.out; simp only at *; omega⟩, hset.1, grown_trans gj (grown_trans (grown_of_below Bp (some g)) hset.2)⟩)
                clear hset hth hmz h7 HMJ
                go_wp2
                go_roundw
                case rel => exact HR.out
                case measure => simp [intOf]; omega
          · obtain rfl : k = nr := by omega
            obtain ⟨bk, bn, bv, bl⟩ := b
            simp only at hbf
            obtain ⟨rfl, rfl, hbp, hbs, hbl⟩ := hbf
            have hall : (rulesOf bk).take k = rulesOf bk := by rw [List.take_of_length_le]; rw [← HPL.out, List.length_map, enr.out]; exact Nat.le_refl _
            rw [hall, steps_fill hxok.out (rulesOf_nodupK bk)] at hbp
            have HST := hid_in (HTT.out.step (b := ⟨bk, bn, bv, bl⟩) (show PBlock.mk bk bn (bl.map LAt.plain) = PBlock.mk bk bn (fillL (rulesOf bk) (xl.map LAt.plain)) from by rw [hbp]))
            have hlt2 : ¬ ((k : Int) < (k : Int)) := by omega
            have HMI := hid_in hm
            have hBF := below_far (bw.trans (b4.mono (by omega))) (by omega) hgl gi
            clear hm hbp hbs hall HM HM4 HTT HRI HRF HDF HPL hxok hxs'
            go_wp2
            go_roundw
            case rel => exact ⟨D ++ [⟨bk, bn, bv, bl⟩], T, by simp, by simp; omega, HST.out, by rw [List.append_assoc]; exact HMI.out, hBF, cxi⟩
            case measure => simp [intOf]; omega
end Go.Proofs.YtpdahhnjhggocaaGreatDoor
namespace Go.Proofs.YtpdahhnjhggocaaGreatDoor
open Go.RowKit
theorem keepT_now {R : List Plain} {a : PLine} {p : Plain} (h : pickR R a.key = some p) : keepT R a = (p.2.2.1 || !decide (p.2.2.2 = a.ws)) := by
  rw [keepT_some h]
  congr 2
  exact decide_eq_decide.2 eq_comm
/-- Where the trimming of one sheet's blocks has come to. -/
def TrimTo (bs : List BAt) (D T : List BAt) : Prop := ∃ D0 : List BAt, bs = D0 ++ T ∧ D.map BAt.plain = (D0.map BAt.plain).map trimP
theorem TrimTo.step {bs D T : List BAt} {x : BAt} (h : TrimTo bs D (x :: T)) (v' : Value) : TrimTo bs (D ++ [⟨x.kind, x.name, v', x.ls.filter (fun y => keepT (rulesOf x.kind) y.plain)⟩]) T := by
  obtain ⟨D0, e1, e2⟩ := h
  refine ⟨D0 ++ [x], by rw [e1]; simp, ?_⟩
  rw [List.map_append, e2, List.map_append, List.map_append]
  congr 1
  show [_] = [_]
  unfold BAt.plain trimP
  simp only [List.filter_map]
  rfl
theorem TrimTo.len {bs D T : List BAt} (h : TrimTo bs D T) : D.length + T.length = bs.length := by
  obtain ⟨D0, e1, e2⟩ := h
  have := congrArg List.length e2
  simp at this
  rw [e1, List.length_append]
  omega
/-- A rule in a box of its own. -/
def RuleBox (p : Plain) (W : World) (q : Value) (wx : World) : Prop := ∃ (R : Nat) (ad : Option Addr) (cd : Nat), q = .pointer (some ⟨R, 0, none⟩) ∧ wx.cell? ⟨R, 2, none⟩ = some (.bool p.2.2.1) ∧ wx.cell? ⟨R, 3, none⟩ = some (.slice ad p.2.2.2.length cd) ∧ HasRow wx (.slice ad p.2.2.2.length cd) p.2.2.2.length 1 (strs p.2.2.2) ∧ Below W.heap.size W wx
theorem below_setRow {B : Nat} {w w' : World} (h : Below B w w') (g : Nat) (hg : B ≤ g) (cs : Array Value) : Below B w (w'.setRow g cs) :=
  ⟨h.os, h.tape, h.output, by rw [setRow_size]; exact h.size, fun k hk => by rw [setRow_other _ _ _ _ (by omega)]; exact h.block k hk⟩
theorem own_setRowFar {w : World} {base : Nat} {e : TypeId} {size : Nat} {v : Value} {n : Nat} {xs : List Value} (h : w.ownsRow base e size v n xs) (g : Nat) (hg : v.ownBlock ≠ some g) (cs : Array Value) : (w.setRow g cs).ownsRow base e size v n xs := by
  refine ⟨h.1, ?_⟩
  rcases h.2 with h2 | ⟨g', cap, cur, hv, hb, hh, hrest⟩
  · exact Or.inl h2
  · refine Or.inr ⟨g', cap, cur, hv, hb, ?_, hrest⟩
    rw [setRow_other _ _ _ _ (fun e => hg (by rw [hv, e]; rfl))]
    exact hh
theorem rule_boxS {p : Plain} {W w : World} {R n : Nat} {key : ByteArray} {va : Value} {ad : Option Addr} {cd : Nat} {m : Bool} {T : TypeId} {old : Array Value} (hm : m = p.2.2.1) (hn : n = p.2.2.2.length) (hz : w.heap[R]? = some (.cells old T (0, 0))) (hR : W.heap.size ≤ R) (hr : HasRow (w.setRow R #[.string key, va, .bool m, .slice ad n cd]) (.slice ad p.2.2.2.length cd) p.2.2.2.length 1 (strs p.2.2.2)) (hb : Below W.heap.size W w) : RuleBox p W (.pointer (some ⟨R, 0, none⟩)) (w.setRow R #[.string key, va, .bool m, .slice ad n cd]) := by
  subst hm hn
  exact ⟨R, ad, cd, rfl, cell_setRow_same w R 2 old _ T (0, 0) hz, cell_setRow_same w R 3 old _ T (0, 0) hz, hr, below_setRow hb R hR _⟩
theorem pick_mem {R : List Plain} {key : ByteArray} {p : Plain} (h : pickR R key = some p) : p ∈ R := by
  obtain ⟨i, _, hi, _⟩ := pick_place h
  exact List.mem_of_getElem? hi
def BoxInt (n : Nat) (w : World) (e : Ending) (w' : World) : Prop := e = .returned (.int .i64 (n : Int)) ∧ Below w.heap.size w w'
set_option maxHeartbeats 16000000 in
set_option maxRecDepth 100000 in
theorem specTrim_any {v : Value} {bs : List BAt} {w : World} (hbs : BlocksIn w v bs) (hsm : BlocksSmall bs) : Calls Tryz.prog 28 #[.agg #[v]] w fun e w' => ∃ v' bs', e = .returned (.agg #[v']) ∧ bs'.map BAt.plain = trimS (bs.map BAt.plain) ∧ BlocksOwn w.heap.size w' v' bs' ∧ Below w.heap.size w w' := by
  obtain ⟨ao, cap, rfl⟩ := hbs.1.form
  have hc := two_boxes (w := w) (cs := #[.slice ao bs.length cap]) (ds := #[.slice none 0 0]) (T := 25) (U := 25)
  have c0 := hc.1 0
  simp only [List.getElem?_toArray, List.getElem?_cons_zero] at c0
  clear hc
  have G0 : Below w.heap.size w ((w.alloc (.cells #[.slice ao bs.length cap] 25)).alloc (.cells #[.slice none 0 0] 25)) := ((Below.refl _ _).alloc (Nat.le_refl _) _).alloc (by simp) _
  have hz := alloc_here (w.alloc (.cells #[.slice ao bs.length cap] 25)) (.cells #[.slice none 0 0] 25)
  simp only [World.size_alloc] at hz
  have HV := specValid_any (hbs.below G0) hsm
  have hBS := hid_in hbs
  have hSM := hid_in hsm
  clear hbs hsm
  generalize hn : bs.length = len0 at *
  clear hn
  generalize hW0 : (w.alloc (.cells #[.slice ao len0 cap] 25)).alloc (.cells #[.slice none 0 0] 25) = W0 at *
  have hsz0 : W0.heap.size = w.heap.size + 2 := by rw [← hW0]; simp
  go_enter Tryz.func28, Tryz.ntmps28
  go_wp2_with (go_at_call 14; (try rw [hW0]); refine HV.mono ?_)
  first | rintro e w1 rfl b1 | rintro e w1 ⟨rfl, b1⟩
  have c1 := (b1.cell (p := ⟨w.heap.size, 0, none⟩) (by simp; omega)).trans c0
  have z1 := (b1.block (w.heap.size + 1) (by omega)).trans hz
  have hsz1 := b1.size
  have g1 := G0.trans (b1.mono G0.size)
  clear HV c0 hz hW0
  cases hok : sheetB (bs.map BAt.plain)
  · have HG := hid_in (show ([] : List BAt).map BAt.plain = trimS (bs.map BAt.plain) from by unfold trimS; rw [hok]; rfl)
    clear hok
    go_wp2_with (with_reducible show wpList _ _ _ (Oper.mk _ (Op.store _ (Operand.tmp 2) _) _ _ _ _ :: _) _ _; refine wpList_store_row rfl 25 _ _ rfl (w.heap.size + 1) #[.slice none 0 0] ?_ ?_ 25 _ z1 ?_ ?_ ?_ ?_)
    all_goals (first | rfl | kernel_rfl | exact sheet_size | skip)
    have z5 : (w1.setRow (w.heap.size + 1) #[.slice none 0 0]).heap[w.heap.size + 1]? = some (.cells #[.slice none 0 0] 25 (0, 0)) := setRow_heap _ _ _ _ _ _ z1
    have b5 : Below w.heap.size w (w1.setRow (w.heap.size + 1) #[.slice none 0 0]) :=
      ⟨g1.os, g1.tape, g1.output, by rw [setRow_size]; exact g1.size, fun k hk => by rw [setRow_other _ _ _ _ (by omega)]; exact g1.block k hk⟩
    have y0 := cell_of_block z5 0
    simp only [List.getElem?_toArray, List.getElem?_cons_zero] at y0
    generalize w1.setRow (w.heap.size + 1) #[.slice none 0 0] = W at b5 y0 z5 ⊢
    first | exact bodyPost_ret (v := .agg #[.slice none 0 0]) (by simp [results, Tryz.results28, go_sem, y0]) rfl ⟨_, [], rfl, HG.out, blocks_none _ _, b5⟩ | exact bodyPost_ret (v := .agg #[.slice none 0 0]) (by simp [results, Tryz.results28, go_sem, y0]) rfl ⟨_, rfl, [], HG.out, blocks_none _ _, b5⟩
  · have HOK := hid_in hok
    clear hok
    have HC := l3Copy_any (hBS.out.below g1) hSM.out
    go_wp2_with (go_at_call 55; refine HC.mono ?_)
    first | rintro e w2 v2 rfl bs2 hp2 o2 b2 | rintro e w2 v2 bs2 rfl hp2 o2 b2 | rintro e w2 ⟨v2, bs2, rfl, hp2, o2, b2⟩
    have hSM2 := hid_in (hSM.out.same hp2)
    have hKeys := hid_in (show ∀ b ∈ bs2, ∀ y ∈ b.ls, pickR (rulesOf b.kind) y.key ≠ none from fun b hb y hy => keys_there (by rw [hp2]; exact HOK.out) hb hy)
    have HP2 := hid_in hp2
    have g2 := g1.trans (b2.mono g1.size)
    have z2 := (b2.block (w.heap.size + 1) (by omega)).trans z1
    have hsz2 := b2.size
    obtain ⟨a2, c2, rfl, hform⟩ := own_form o2.row
    have hFm := hid_in hform
    have hLT := hid_in (fun q (hq : (Value.slice a2 bs2.length c2).ownBlock = some q) => o2.row.lt q hq)
    have x3 : Below w2.heap.size w2 (w2.alloc (.cells #[.slice a2 bs2.length c2] 25)) := (Below.refl _ _).alloc (Nat.le_refl _) _
    have o3 := hid_in (o2.below x3)
    have m3 := one_box (w := w2) (cs := #[.slice a2 bs2.length c2]) (T := 25) 0
    simp only [List.getElem?_toArray, List.getElem?_cons_zero] at m3
    have z3 := (x3.block (w.heap.size + 1) (by omega)).trans z2
    have g3 := g2.trans (x3.mono g2.size)
    have hsz3 : (w2.alloc (.cells #[.slice a2 bs2.length c2] 25)).heap.size = w2.heap.size + 1 := by simp
    have hl2 : bs2.length ≤ 1048576 := hSM2.out.1
    clear HC hp2 o2 b2 z1 z2 c1 x3 hform
    generalize hlen : bs2.length = len at *
    have en := hid_in hlen
    clear hlen
    generalize hW3 : w2.alloc (.cells #[.slice a2 len c2] 25) = w3 at *
    have eW3 := hid_in hW3
    clear hW3
    go_wp2
    go_loopw [4] (fun i wr => ∃ (D T : List BAt), i = .int .i64 (D.length : Int) ∧ D.length + T.length = len ∧ TrimTo bs2 D T ∧ BlocksOwn w1.heap.size wr (.slice a2 len c2) (D ++ T) ∧ Below w1.heap.size w3 wr ∧ wr.cell? ⟨w2.heap.size, 0, none⟩ = some (.slice a2 len c2)) (fun i _ => len - (intOf i).toNat)
    case atStart =>
      rw [eW3.out]
      exact ⟨[], bs2, rfl, by simpa using en.out, ⟨[], rfl, rfl⟩, o3.out, Below.refl _ _, m3⟩
    case round =>
      obtain ⟨D, T, rfl, hDT, hTT, hm, bw, cx⟩ := hrel
      have hszw := bw.size
      cases T with
      | nil =>
        simp only [List.length_nil, Nat.add_zero, List.append_nil] at hDT hm
        obtain ⟨D0, e1, e2⟩ := hTT
        rw [List.append_nil] at e1
        subst e1
        have hsmD := trim_small hSM2.out e2
        have HG := hid_in (show D.map BAt.plain = trimS (bs.map BAt.plain) from by unfold trimS; rw [if_pos HOK.out, e2, HP2.out])
        have HC := l3Copy_any hm.bin hsmD
        have gw := g3.trans (bw.mono (by have := g1.size; omega))
        have z4 := (bw.block (w.heap.size + 1) (by omega)).trans z3
        have hlt : ¬ ((D.length : Int) < (len : Int)) := by omega
        clear hm e2 hsmD o3 m3
        go_wp2_with (go_at_call 55; refine HC.mono ?_)
        first | rintro e w5 v5 rfl bs5 hp5 o5 b5 | rintro e w5 v5 bs5 rfl hp5 o5 b5 | rintro e w5 ⟨v5, bs5, rfl, hp5, o5, b5⟩
        have z5 := (b5.block (w.heap.size + 1) (by omega)).trans z4
        have g5 := gw.trans (b5.mono gw.size)
        have HG5 := hid_in (hp5.trans HG.out)
        have O5 := hid_in (o5.mono (show w.heap.size + 2 ≤ wr.heap.size by omega))
        obtain ⟨a5, c5, rfl, _⟩ := own_form o5.row
        clear HC hp5 o5 b5 HG z4
        generalize bs5.length = n5 at *
        go_wp2_with (with_reducible show wpList _ _ _ (Oper.mk _ (Op.store _ (Operand.tmp 2) _) _ _ _ _ :: _) _ _; refine wpList_store_row rfl 25 _ _ rfl (w.heap.size + 1) #[.slice a5 n5 c5] ?_ ?_ 25 _ z5 ?_ ?_ ?_ ?_)
        all_goals (first | rfl | kernel_rfl | exact sheet_size | skip)
        have z6 : (w5.setRow (w.heap.size + 1) #[.slice a5 n5 c5]).heap[w.heap.size + 1]? = some (.cells #[.slice a5 n5 c5] 25 (0, 0)) := setRow_heap _ _ _ _ _ _ z5
        have b6 : Below w.heap.size w (w5.setRow (w.heap.size + 1) #[.slice a5 n5 c5]) :=
          ⟨g5.os, g5.tape, g5.output, by rw [setRow_size]; exact g5.size, fun k hk => by rw [setRow_other _ _ _ _ (by omega)]; exact g5.block k hk⟩
        have o6 := (O5.out.setRow (w.heap.size + 1) (by omega) #[.slice a5 n5 c5]).mono (show w.heap.size ≤ w.heap.size + 2 by omega)
        have y0 := cell_of_block z6 0
        simp only [List.getElem?_toArray, List.getElem?_cons_zero] at y0
        generalize w5.setRow (w.heap.size + 1) #[.slice a5 n5 c5] = W at b6 y0 z6 o6 ⊢
        first | exact bodyPost_ret (v := .agg #[.slice a5 n5 c5]) (by simp [results, Tryz.results28, go_sem, y0]) rfl ⟨_, bs5, rfl, HG5.out, o6, b6⟩ | exact bodyPost_ret (v := .agg #[.slice a5 n5 c5]) (by simp [results, Tryz.results28, go_sem, y0]) rfl ⟨_, rfl, bs5, HG5.out, o6, b6⟩
      | cons x T =>
        simp only [List.length_cons] at hDT
        obtain ⟨wo, hwo⟩ : ∃ wo, wo = wr := ⟨_, rfl⟩
        subst hwo
        have hlt : ((D.length : Int) < (len : Int)) := by omega
        obtain ⟨g, rfl⟩ : ∃ g, a2 = some ⟨g, 0, none⟩ := by
          rcases hFm.out with h0 | h0
          · omega
          · exact h0
        have hnn : (D ++ x :: T).length = len := by simp; omega
        have hbm : BM w1.heap.size wo (.slice (some ⟨g, 0, none⟩) len c2) (D ++ x :: T) [] := hm.bm
        have d0 := hbm.cell 0 (by decide)
        have d1 := hbm.cell 1 (by decide)
        have d2 := hbm.cell 2 (by decide)
        have f2 := (hbm.size hnn).frozenAt (D.length * 3 + 2)
        have hxb : x ∈ bs2 := by obtain ⟨D0, e1, _⟩ := hTT; rw [e1]; simp
        have hxo : LinesOwn w1.heap.size wo x.v x.ls := hm.lines x (by simp)
        have hxs := (hSM2.out.2 x hxb).2
        have hks := hid_in (hKeys.out x hxb)
        obtain ⟨la, lc, ex, _⟩ := own_form hxo.row
        simp only [BAt.cells, List.getElem?_cons_zero, List.getElem?_cons_succ, Nat.add_zero] at d0 d1 d2
        have HM := hid_in hm
        have HX := hid_in hxo.lin
        have HTT := hid_in hTT
        have hgX : g < w2.heap.size := (hLT.out g rfl).2
        obtain ⟨xk, xn, xv, xl⟩ := x
        simp only at *
        subst ex
        have hnl1 := hxs.1
        have bb := (Below.refl wo.heap.size wo).alloc (Nat.le_refl _) (.cells #[.string xk, .string xn, .slice la xl.length lc] 46)
        have kb := one_box (w := wo) (cs := #[.string xk, .string xn, .slice la xl.length lc]) (T := 46)
        have kb0 := kb 0
        have kb2 := kb 2
        simp only [List.getElem?_toArray, List.getElem?_cons_zero, List.getElem?_cons_succ] at kb0 kb2
        have hown0 := World.ownsRow_lit (base := wo.heap.size + 1) (e := 115) (size := 2) (wo.alloc (.cells #[.string xk, .string xn, .slice la xl.length lc] 46)) #[] 0 (by simp) (by decide) rfl
        simp only [World.size_alloc] at hown0
        have b00 := (Below.refl (wo.heap.size + 1) (wo.alloc (.cells #[.string xk, .string xn, .slice la xl.length lc] 46))).alloc (by simp) (.cells #[] 115)
        have hwb : (wo.alloc (.cells #[.string xk, .string xn, .slice la xl.length lc] 46)).heap.size = wo.heap.size + 1 := by simp
        have hxs' := hid_in hxs
        clear hm hbm hxo kb hTT hxs o3 m3
        generalize hnl : xl.length = nl at *
        have enl := hid_in hnl
        clear hnl
        go_wp2
        go_loopw [6, 7] (fun u i wi => ∃ (k : Nat) (left : List LAt), k ≤ nl ∧ i = .int .i64 (k : Int) ∧ left = (xl.take k).filter (fun y => keepT (rulesOf xk) y.plain) ∧ wi.ownsRow (wo.heap.size + 1) 115 2 u left.length (left.flatMap LAt.cells) ∧ Below (wo.heap.size + 1) (wo.alloc (.cells #[.string xk, .string xn, .slice la nl lc] 46)) wi) (fun _ i _ => nl - (intOf i).toNat)
        case atStart => exact ⟨0, [], by omega, rfl, by simp, by simpa using hown0, b00⟩
        case round =>
          obtain ⟨wi, hwi⟩ : ∃ wi, wi = wr := ⟨_, rfl⟩
          subst hwi
          obtain ⟨k, left, hk, rfl, hlf, hlo, bi⟩ := hrel
          obtain ⟨qa, qc, rfl, _⟩ := own_form hlo
          have hll : left.length ≤ k := by rw [hlf]; exact Nat.le_trans (List.length_filter_le _ _) (by simp; omega)
          have Bi := bb.trans (bi.mono (show wo.heap.size ≤ wo.heap.size + 1 by omega))
          have e0 := (bi.cell (p := ⟨wo.heap.size, 0, none⟩) (by simp)).trans kb0
          have e2 := (bi.cell (p := ⟨wo.heap.size, 2, none⟩) (by simp)).trans kb2
          have hszi := bi.size
          by_cases hk2 : k < nl
          · obtain ⟨D1, y, T1, ey, hD1⟩ := split1 xl k (by have := enl.out; omega)
            have hli := HX.out.below Bi
            have h6 := hli
            rw [ey] at h6
            obtain ⟨lg, loff, rfl, y1, y2⟩ := h6.1.line
            rw [hD1] at y1 y2
            have hym : y ∈ xl := by rw [ey]; simp
            have hyin := hli.2 y hym
            have hys := hxs'.out.2 y hym
            obtain ⟨ya, yc, eyv⟩ := HasRow.form hyin
            obtain ⟨p, hp⟩ := Option.ne_none_iff_exists'.1 (hks.out y hym)
            obtain ⟨P, hP1, HSR⟩ := ruleGot hp
            have HPL : ∀ W, Calls Tryz.prog 90 #[.string xk, .string y.key] W fun e w' => BoxInt P W e w' := by
              intro W
              have := l2Place_any xk y.key W
              rw [hP1] at this
              exact this
            have hds := rulesOf_smallD xk p (pick_mem hp)
            have hKT := keepT_now (R := rulesOf xk) (a := y.plain) hp
            have hst := hid_in (show (xl.take (k + 1)).filter (fun y => keepT (rulesOf xk) y.plain) = left ++ [y].filter (fun y => keepT (rulesOf xk) y.plain) from by rw [hlf, ey, ← hD1, take_front, take_one, List.filter_append])
            have hyp := hid_in eyv
            unfold LineIn at hyin
            rw [eyv] at y2 hyin
            have i1 : (0 : Int) ≤ (k : Int) := by omega
            have i2 : (k : Int) < (nl : Int) := by omega
            have HLO := hid_in hlo
            have HYI := hid_in hyin
            have hS := hid_in (show ∀ W, Below wi.heap.size wi W → W.cell? ⟨wo.heap.size, 0, none⟩ = some (.string xk) ∧ W.cell? ⟨wo.heap.size, 2, none⟩ = some (.slice (some ⟨lg, loff, none⟩) nl lc) ∧ W.cell? ⟨lg, loff + k * 2, none⟩ = some (.string y.key) from fun W hW => ⟨(hW.cell (World.block_lt_of_cell? wi _ e0)).trans e0, (hW.cell (World.block_lt_of_cell? wi _ e2)).trans e2, (hW.cell (World.block_lt_of_cell? wi _ y1)).trans y1⟩)
            clear hli h6 hlo hlf hyin ey hD1 hym hP1 hp eyv
            generalize hyk : y.key = yk at *
            have eyk := hid_in hyk
            clear hyk
            go_upto_region 12 with fail
            go_cut [8] from 35 to 48 (fun q wx => RuleBox p wi q wx)
            case first =>
              have u0 := fun p : Gr wi => gr_cell e0 p
              have u2 := fun p : Gr wi => gr_cell e2 p
              have u1 := fun p : Gr wi => gr_cell y1 p
              have HQ : ∀ p : Gr wi, Calls Tryz.prog 90 #[.string xk, .string yk] p.u fun e w' => e = .returned (.int .i64 (P : Int)) ∧ Below p.u.heap.size p.u w' := fun p => HPL p.u
              clear HLO HYI hst hKT hyp hds HM HTT hks HX hxs' hS e0 e2 y1 y2
              refine wp_region_upM 15 16 (by kernel_rfl) rfl ?_
              refine wpUp_mask [true, true, false, true, true, true, true, true, true, true, true, false, false, false, false, false] 6 rfl (by kernel_rfl) ?_
              simp only [maskL_t, maskL_f, maskL_n]
              iterate 10 (refine wpQuietU_step (fun K hK => ?_); go_simp; refine hK _ ?_; clear hK K)
              refine wpQuietU_nil ?_
              refine wpUp_branch (f := 5) (rs := [2, 14]) (by kernel_rfl) (by simp) ?_
              rintro ⟨wp, bp⟩
              refine AllUp.cons rfl (by decide) (fun K hK => ?_) ?_
              · go_simp
                go_wp2_with (go_at_call 56; refine (HSR _).mono ?_; rintro e w7 ⟨g7, m7, c7, key7, av, nv, cv, ad, cd, rfl, hm7, hc7, hr7, b7⟩)
                refine hK.out _ _ b7 ?_
                clear hK K
                have t0 := fun p : Gr w7 => gr_cell hc7.1 p
                have t1 := fun p : Gr w7 => gr_cell hc7.2.1 p
                have t2 := fun p : Gr w7 => gr_cell hc7.2.2.1 p
                have t3 := fun p : Gr w7 => gr_cell hc7.2.2.2 p
                have HQ7 : ∀ p : Gr w7, Calls Tryz.prog 90 #[.string xk, .string yk] p.u fun e w' => e = .returned (.int .i64 (P : Int)) ∧ Below p.u.heap.size p.u w' := fun p => HPL p.u
                refine wpUp_mask [false, false, false, false, false, false, false, false, false, false, false, true, true, true, false, false] 2 rfl (by kernel_rfl) ?_
                simp only [maskL_t, maskL_f, maskL_n]
                refine wpQuietU_step (fun K hK => ?_)
                go_simp
                apply Exists.intro
                refine ⟨fun _ => ?_, hK _ ?_⟩
                go_at_call 90
                exact HQ7 _
                clear hK K
                iterate 2 (refine wpQuietU_step (fun K hK => ?_); go_simp; refine hK _ ?_; clear hK K)
                refine wpQuietU_nil ?_
                refine wpUp_branch (f := 1) (rs := [14]) (by kernel_rfl) (by simp) ?_
                rintro ⟨wq, bq⟩
                refine AllUp.cons rfl (by decide) (fun K hK => ?_) AllUp.nil
                go_simp
                refine hK.out _ _ ((Below.refl _ _).alloc (Nat.le_refl _) _) ?_
                clear hK K
                refine wpUp_last (by kernel_rfl) rfl (by kernel_rfl) ?_
                rintro ⟨wz, bz⟩ K hK
                have hz := (bz.block wq.heap.size (by simp)).trans (alloc_here wq _)
                have sp := bp.size
                have s7 := b7.size
                have sq := bq.size
                have Bq := (bp.trans (b7.mono sp)).trans (bq.mono (Nat.le_trans sp s7))
                have Bz := Bq.trans ((((Below.refl wq.heap.size wq).alloc (Nat.le_refl _) _).trans (bz.mono (by simp))).mono Bq.size)
                have hr := own_has (own_setRowFar (own_below (own_below hr7 bq) (((Below.refl wq.heap.size wq).alloc (Nat.le_refl _) _).trans (bz.mono (by simp)))) wq.heap.size (fun e => by have := (hr7.lt _ e).2; omega) #[.string key7, .slice av nv cv, .bool p.2.2.1, .slice ad p.2.2.2.length cd])
                rw [if_pos (by rfl)]
                refine wp_store_row 54 _ _ rfl wq.heap.size #[.string key7, .slice av nv cv, .bool p.2.2.1, .slice ad p.2.2.2.length cd] rfl rfl 54 _ hz (by kernel_rfl) rfl (by first | rfl | kernel_rfl) ?_
                refine hK.out _ _ (NoPanic.normal ?_)
                clear hK K
                go_wp2_with fail
                go_meet
                exact rule_boxS rfl rfl hz (Nat.le_trans (Nat.le_trans sp s7) sq) hr Bz
              · refine AllUp.cons rfl (by decide) (fun K hK => ?_) AllUp.nil
                go_simp
                refine hK.out _ _ ((Below.refl _ _).alloc (Nat.le_refl _) _) ?_
                clear hK K
                refine wpUp_branch (f := 4) (rs := [2]) (by kernel_rfl) (by simp) ?_
                rintro ⟨wq, bq⟩
                refine AllUp.cons rfl (by decide) (fun K hK => ?_) AllUp.nil
                go_simp
                go_wp2_with (go_at_call 56; refine (HSR _).mono ?_; rintro e w7 ⟨g7, m7, c7, key7, av, nv, cv, ad, cd, rfl, hm7, hc7, hr7, b7⟩)
                refine hK.out _ _ b7 ?_
                clear hK K
                have t0 := fun p : Gr w7 => gr_cell hc7.1 p
                have t1 := fun p : Gr w7 => gr_cell hc7.2.1 p
                have t2 := fun p : Gr w7 => gr_cell hc7.2.2.1 p
                have t3 := fun p : Gr w7 => gr_cell hc7.2.2.2 p
                have HQ7 : ∀ p : Gr w7, Calls Tryz.prog 90 #[.string xk, .string yk] p.u fun e w' => e = .returned (.int .i64 (P : Int)) ∧ Below p.u.heap.size p.u w' := fun p => HPL p.u
                refine wpUp_mask [false, false, false, false, false, false, false, false, false, false, false, true, true, true, false, false] 1 rfl (by kernel_rfl) ?_
                simp only [maskL_t, maskL_f, maskL_n]
                refine wpQuietU_step (fun K hK => ?_)
                go_simp
                apply Exists.intro
                refine ⟨fun _ => ?_, hK _ ?_⟩
                go_at_call 90
                exact HQ7 _
                clear hK K
                iterate 2 (refine wpQuietU_step (fun K hK => ?_); go_simp; refine hK _ ?_; clear hK K)
                refine wpQuietU_nil ?_
                refine wpUp_last (by kernel_rfl) rfl (by kernel_rfl) ?_
                rintro ⟨wz, bz⟩ K hK
                have sp := bp.size
                have sq := bq.size
                have s7 := b7.size
                have ha : wp.heap.size < wq.heap.size := by simp at sq; omega
                have hz := (bz.block wp.heap.size (by omega)).trans ((b7.block wp.heap.size ha).trans ((bq.block wp.heap.size (by simp)).trans (alloc_here wp _)))
                have Bq := bp.trans ((((Below.refl wp.heap.size wp).alloc (Nat.le_refl _) _).trans (bq.mono (by simp))).mono sp)
                have Bz := Bq.trans ((b7.trans (bz.mono s7)).mono Bq.size)
                have hr := own_has (own_setRowFar (own_below hr7 bz) wp.heap.size (fun e => by have := (hr7.lt _ e).1; omega) #[.string key7, .slice av nv cv, .bool p.2.2.1, .slice ad p.2.2.2.length cd])
                rw [if_pos (by rfl)]
                refine wp_store_row 54 _ _ rfl wp.heap.size #[.string key7, .slice av nv cv, .bool p.2.2.1, .slice ad p.2.2.2.length cd] rfl rfl 54 _ hz (by kernel_rfl) rfl (by first | rfl | kernel_rfl) ?_
                refine hK.out _ _ (NoPanic.normal ?_)
                clear hK K
                go_wp2_with fail
                go_meet
                exact rule_boxS rfl rfl hz sp hr Bz
            case rest =>
              obtain ⟨wj, hwj⟩ : ∃ wj, wj = wc := ⟨_, rfl⟩
              subst hwj
              obtain ⟨R, ad, cd, rfl, rb2, rb3, hdrow, bj⟩ := hcut
              have Bj := Bi.trans (bj.mono Bi.size)
              have BJ : Below (wo.heap.size + 1) (wo.alloc (.cells #[.string xk, .string xn, .slice (some ⟨lg, loff, none⟩) nl lc] 46)) wj := bi.trans (bj.mono (by simp at hszi; omega))
              have f2j := (bj.cell (p := ⟨wo.heap.size, 2, none⟩) (World.block_lt_of_cell? wi _ e2)).trans e2
              have y1j := (bj.cell (p := ⟨lg, loff + k * 2, none⟩) (World.block_lt_of_cell? wi _ y1)).trans y1
              have y2j := (bj.cell (p := ⟨lg, loff + k * 2 + 1, none⟩) (World.block_lt_of_cell? wi _ y2)).trans y2
              have HW : ∀ p' : Gr wj, Calls Tryz.prog 91 #[.slice ad p.2.2.2.length cd, .slice ya y.ws.length yc] p'.u fun e w' => e = .returned (.bool (decide (p.2.2.2 = y.ws))) ∧ Below p'.u.heap.size p'.u w' := fun p' => l3Words_any (hdrow.below p'.h) ((HYI.out.below bj).below p'.h) (Nat.le_trans hds.1 (by decide)) hys.1
              have HL2 := hid_in (own_below HLO.out bj)
              generalize hKV : keepT (rulesOf xk) y.plain = KV at *
              have hKV' := hid_in hKV
              rw [show y.plain.ws = y.ws from rfl] at hKT
              generalize hDV : decide (p.2.2.2 = y.ws) = DV at *
              clear hKV hDV hdrow HSR HPL hds hS e0 e2 y1 y2
              generalize p.2.2.1 = many at *
              generalize p.2.2.2.length = nd at *
              generalize hnyw : y.ws.length = nyw at *
              go_upto_region 13 with fail
              go_cut [62] from 49 to 62 (fun c wx => c = .bool KV ∧ Below wj.heap.size wj wx)
              case first =>
                have v2 := fun p : Gr wj => gr_cell rb2 p
                have v3 := fun p : Gr wj => gr_cell rb3 p
                have v4 := fun p : Gr wj => gr_cell f2j p
                have v5 := fun p : Gr wj => gr_cell y2j p
                clear HLO HYI hst hyp HM HTT hks HX hxs' HL2 hKV' f2j y1j y2j rb2 rb3
                cases many
                · refine wp_region_gr (by kernel_rfl) (by kernel_rfl) ?_
                  iterate 11 quiet_step (fail)
                  quiet_step ((go_at_call 91; refine gr_of (HW _)))
                  iterate 2 quiet_step (fail)
                  refine wpQuiet_nil ?_
                  rintro _ ⟨⟨wq, bq⟩, rfl⟩
                  go_wp2_with fail
                  go_meet
                  exact ⟨by rw [hKT]; rfl, bq⟩
                · refine wp_region_gr (by kernel_rfl) (by kernel_rfl) ?_
                  iterate 3 quiet_step (fail)
                  iterate 10 (with_reducible refine quiet_skip ?_ ?_; kernel_rfl; simp only [Act.put, List.setIfInBounds_toArray, List.set_cons_zero, List.set_cons_succ])
                  quiet_step (fail)
                  refine wpQuiet_nil ?_
                  rintro _ ⟨⟨wq, bq⟩, rfl⟩
                  go_wp2_with fail
                  go_meet
                  exact ⟨by rw [hKT]; rfl, bq⟩
              case rest =>
                obtain ⟨wk, hwk⟩ : ∃ wk, wk = wc := ⟨_, rfl⟩
                subst hwk
                obtain ⟨rfl, bk⟩ := hcut
                have BK : Below (wo.heap.size + 1) (wo.alloc (.cells #[.string xk, .string xn, .slice (some ⟨lg, loff, none⟩) nl lc] 46)) wk := BJ.trans (bk.mono (by have := BJ.size; simp at this; omega))
                have f2k := (bk.cell (p := ⟨wo.heap.size, 2, none⟩) (World.block_lt_of_cell? wj _ f2j)).trans f2j
                have y1k := (bk.cell (p := ⟨lg, loff + k * 2, none⟩) (World.block_lt_of_cell? wj _ y1j)).trans y1j
                have y2k := (bk.cell (p := ⟨lg, loff + k * 2 + 1, none⟩) (World.block_lt_of_cell? wj _ y2j)).trans y2j
                have HL3 := hid_in (own_below HL2.out bk)
                clear HW rb2 rb3 f2j y1j y2j HL2 HLO hKT
                cases KV
                · have hst' := hid_in (show (xl.take (k + 1)).filter (fun y => keepT (rulesOf xk) y.plain) = left from by rw [hst.out]; simp [hKV'.out])
                  clear hst
                  go_wp2
                  go_roundw
                  case rel => exact ⟨k + 1, left, by omega, by go_num, hst'.out.symm, HL3.out, BK⟩
                  case measure => simp [intOf]; omega
                · have hst' := hid_in (show (xl.take (k + 1)).filter (fun y => keepT (rulesOf xk) y.plain) = left ++ [y] from by rw [hst.out]; simp [hKV'.out])
                  have hcells := hid_in (show LAt.cells y = [.string yk, .slice ya nyw yc] from by unfold LAt.cells; rw [eyk.out, hyp.out])
                  obtain ⟨i0, hi, hy0, hy1, hy2⟩ := info_parts infoLine
                  have hm3 := HL3.out.alloc (.cells #[.string yk, .slice ya nyw yc] 115)
                  have hrow := lit_has wk #[.string yk, .slice ya nyw yc] 115 2 rfl
                  have hbase := hid_in (show ∀ q, (Value.slice qa left.length qc).ownBlock = some q → wo.heap.size + 1 ≤ q from fun q hq => (HL3.out.lt q hq).1)
                  have hszk : wo.heap.size + 1 ≤ wk.heap.size := by have := BK.size; simp at this; exact this
                  have b4 := BK.alloc hszk (.cells #[.string yk, .slice ya nyw yc] 115)
                  clear hst HL3
                  go_wp2_with (at_builtin; refine wpList_append_has (by rfl) _ _ 44 (by rfl) (wo.heap.size + 1) 115 i0 _ 2 40 Tryz.underlying44 hi hy0 hy1 hy2 rfl (by decide) _ left.length _ (by rfl) hm3 _ 1 _ (by rfl) hrow (by intro z hz; simp at hz; rcases hz with rfl | rfl <;> rfl) ?c3 ?c4 (Nat.le_trans hszk (by simp)) ?_)
                  case c3 => unfold maxLen; omega
                  case c4 => omega
                  intro ao' cap' w5 hown5 hg5 _
                  have hB5 := b4.grown hg5 (by simp; omega) hbase.out
                  have HO := hid_in (show w5.ownsRow (wo.heap.size + 1) 115 2 (.slice ao' (left.length + 1) cap') (left ++ [y]).length ((left ++ [y]).flatMap LAt.cells) from by
                    rw [List.flatMap_append, List.flatMap_singleton, hcells.out, List.length_append]; exact hown5)
                  clear hm3 hrow hown5 hg5 hbase
                  go_wp2
                  go_roundw
                  case rel => exact ⟨k + 1, left ++ [y], by omega, by go_num, hst'.out.symm, HO.out, hB5⟩
                  case measure => simp [intOf]; omega
          · obtain rfl : k = nl := by omega
            have hls : xl.take k = xl := by rw [← enl.out, List.take_length]
            rw [hls] at hlf
            have hlt2 : ¬ ((k : Int) < (k : Int)) := by omega
            have Hm := Mem.cons (r := ⟨.slice qa left.length qc, 115, 2, left.length, left.flatMap LAt.cells⟩) HM.out (own_mono hlo (show wo.heap.size ≤ wo.heap.size + 1 by omega)) Bi (Nat.le_trans (by omega) hszw)
            have hperm : List.Perm (α := MRow) ([⟨.slice qa left.length qc, 115, 2, left.length, left.flatMap LAt.cells⟩] ++ lrows (.slice la k lc) xl) (lrows (.slice qa left.length qc) left ++ (⟨.slice la k lc, 115, 2, xl.length, xl.flatMap LAt.cells⟩ :: (xl.filter (fun y : LAt => !keepT (rulesOf xk) y.plain)).map LAt.row)) := by
              unfold lrows
              refine List.Perm.cons _ ?_
              rw [hlf]
              exact ((filter_rows (fun y => keepT (rulesOf xk) y.plain) xl).cons _).trans List.perm_middle.symm
            have HSW := hid_in (blocks_swap (R := [⟨.slice qa left.length qc, 115, 2, left.length, left.flatMap LAt.cells⟩]) (x := ⟨xk, xn, .slice la k lc, xl⟩) Hm hnn hperm)
            have hST := hid_in (show TrimTo bs2 (D ++ [⟨xk, xn, .slice qa left.length qc, left⟩]) T from by rw [hlf]; exact HTT.out.step _)
            have hgl := (hLT.out g rfl).1
            have cxi := (Bi.cell (p := ⟨w2.heap.size, 0, none⟩) (World.block_lt_of_cell? wo _ cx)).trans cx
            have d2i := (Bi.cell (p := ⟨g, D.length * 3 + 2, none⟩) (World.block_lt_of_cell? wo _ d2)).trans d2
            have f2i := (Bi.frozen (p := ⟨g, D.length * 3 + 2, none⟩) (World.block_lt_of_cell? wo _ d2)).trans f2
            have i1 : (0 : Int) ≤ (D.length : Int) := by omega
            have hBF : Below w1.heap.size w3 (wi.setCell ⟨g, D.length * 3 + 2, none⟩ (.slice qa left.length qc)) := (bw.trans (Bi.mono (Nat.le_trans (by omega) hszw))).setCell (p := ⟨g, D.length * 3 + 2, none⟩) hgl _
            have hcF : (wi.setCell ⟨g, D.length * 3 + 2, none⟩ (.slice qa left.length qc)).cell? ⟨w2.heap.size, 0, none⟩ = some (.slice (some ⟨g, 0, none⟩) len c2) := (World.cell?_setCell_far wi ⟨g, D.length * 3 + 2, none⟩ ⟨w2.heap.size, 0, none⟩ _ (by simp; omega)).trans cxi
            clear hlo hlf hls Hm hperm HM HTT HX hxs' hks e0 d0 d1 d2 f2 cx hown0 b00 kb0 kb2
            go_wp2
            go_roundw
            case rel => exact ⟨D ++ [⟨xk, xn, .slice qa left.length qc, left⟩], T, by simp, by simp; omega, hST.out, by rw [List.append_assoc]; exact HSW.out, hBF, hcF⟩
            case measure => simp [intOf]; omega
theorem blocks_nilS : BlocksSmall [] := ⟨by simp, by simp⟩
theorem trimS_small {bs xs : List BAt} (h : BlocksSmall bs) (he : xs.map BAt.plain = trimS (bs.map BAt.plain)) : BlocksSmall xs := by
  unfold trimS at he
  split at he
  · exact trim_small h he
  · obtain rfl : xs = [] := by simpa using he
    exact blocks_nilS
end Go.Proofs.YtpdahhnjhggocaaGreatDoor
