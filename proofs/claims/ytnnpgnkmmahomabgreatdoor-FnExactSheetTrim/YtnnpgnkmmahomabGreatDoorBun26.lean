import Derived.Test.YtnnpgnkmmahomabGreatDoorBun25
import Derived.Test.YtnnpgnkmmahomabGreatDoorBun23
import Derived.Test.YtnnpgnkmmahomabGreatDoorBun21
import Derived.Test.YtnnpgnkmmahomabGreatDoorBun20
import Derived.Test.YtnnpgnkmmahomabGreatDoorBun17
namespace Go.Proofs.YtnnpgnkmmahomabGreatDoor
open Go.RowKit
theorem keepT_now {R : List Plain} {a : PLine} {p : Plain} (h : pickR R a.key = some p) : keepT R a = (p.2.2.1 || !decide (p.2.2.2 = a.ws)) := by
  rw [keepT_some h]
  congr 2
  exact decide_eq_decide.2 eq_comm
/-- Where the trimming of one sheet's blocks has come to. -/
def TrimTo (bs : List BAt) (D T : List BAt) : Prop := ∃ D0 : List BAt, bs = D0 ++ T ∧ D.map BAt.plain = (D0.map BAt.plain).map trimP
theorem TrimTo.step {bs D T : List BAt} {x : BAt} (h : TrimTo bs D (x :: T)) (v' : Value) : TrimTo bs (D ++ [⟨x.kind, x.name, v', x.ls.filter (fun y => keepT (rulesOf x.kind) y.plain)⟩]) T := by
  obtain ⟨D0, e1, e2⟩ := h
  refine ⟨D0 ++ [x], by rw [e1]; simp, ?_⟩
  rw [List.map_append, e2, List.map_append, List.map_append]
  congr 1
  show [_] = [_]
  unfold BAt.plain trimP
  simp only [List.filter_map]
  rfl
theorem TrimTo.len {bs D T : List BAt} (h : TrimTo bs D T) : D.length + T.length = bs.length := by
  obtain ⟨D0, e1, e2⟩ := h
  have := congrArg List.length e2
  simp at this
  rw [e1, List.length_append]
  omega
/-- A rule in a box of its own. -/
def RuleBox (p : Plain) (W : World) (q : Value) (wx : World) : Prop := ∃ (R : Nat) (ad : Option Addr) (cd : Nat), q = .pointer (some ⟨R, 0, none⟩) ∧ wx.cell? ⟨R, 2, none⟩ = some (.bool p.2.2.1) ∧ wx.cell? ⟨R, 3, none⟩ = some (.slice ad p.2.2.2.length cd) ∧ HasRow wx (.slice ad p.2.2.2.length cd) p.2.2.2.length 1 (strs p.2.2.2) ∧ Below W.heap.size W wx
theorem below_setRow {B : Nat} {w w' : World} (h : Below B w w') (g : Nat) (hg : B ≤ g) (cs : Array Value) : Below B w (w'.setRow g cs) :=
  ⟨h.os, h.tape, h.output, by rw [setRow_size]; exact h.size, fun k hk => by rw [setRow_other _ _ _ _ (by omega)]; exact h.block k hk⟩
theorem own_setRowFar {w : World} {base : Nat} {e : TypeId} {size : Nat} {v : Value} {n : Nat} {xs : List Value} (h : w.ownsRow base e size v n xs) (g : Nat) (hg : v.ownBlock ≠ some g) (cs : Array Value) : (w.setRow g cs).ownsRow base e size v n xs := by
  refine ⟨h.1, ?_⟩
  rcases h.2 with h2 | ⟨g', cap, cur, hv, hb, hh, hrest⟩
  · exact Or.inl h2
  · refine Or.inr ⟨g', cap, cur, hv, hb, ?_, hrest⟩
    rw [setRow_other _ _ _ _ (fun e => hg (by rw [hv, e]; rfl))]
    exact hh
theorem rule_boxS {p : Plain} {W w : World} {R n : Nat} {key : ByteArray} {va : Value} {ad : Option Addr} {cd : Nat} {m : Bool} {T : TypeId} {old : Array Value} (hm : m = p.2.2.1) (hn : n = p.2.2.2.length) (hz : w.heap[R]? = some (.cells old T (0, 0))) (hR : W.heap.size ≤ R) (hr : HasRow (w.setRow R #[.string key, va, .bool m, .slice ad n cd]) (.slice ad p.2.2.2.length cd) p.2.2.2.length 1 (strs p.2.2.2)) (hb : Below W.heap.size W w) : RuleBox p W (.pointer (some ⟨R, 0, none⟩)) (w.setRow R #[.string key, va, .bool m, .slice ad n cd]) := by
  subst hm hn
  exact ⟨R, ad, cd, rfl, cell_setRow_same w R 2 old _ T (0, 0) hz, cell_setRow_same w R 3 old _ T (0, 0) hz, hr, below_setRow hb R hR _⟩
theorem pick_mem {R : List Plain} {key : ByteArray} {p : Plain} (h : pickR R key = some p) : p ∈ R := by
  obtain ⟨i, _, hi, _⟩ := pick_place h
  exact List.mem_of_getElem? hi
def BoxInt (n : Nat) (w : World) (e : Ending) (w' : World) : Prop := e = .returned (.int .i64 (n : Int)) ∧ Below w.heap.size w w'
set_option maxHeartbeats 16000000 in
set_option maxRecDepth 100000 in
theorem specTrim_any {v : Value} {bs : List BAt} {w : World} (hbs : BlocksIn w v bs) (hsm : BlocksSmall bs) : Calls Tryz.prog 21 #[.agg #[v]] w fun e w' => ∃ v' bs', e = .returned (.agg #[v']) ∧ bs'.map BAt.plain = trimS (bs.map BAt.plain) ∧ BlocksOwn w.heap.size w' v' bs' ∧ Below w.heap.size w w' := by
  obtain ⟨ao, cap, rfl⟩ := hbs.1.form
  have hc := two_boxes (w := w) (cs := #[.slice ao bs.length cap]) (ds := #[.slice none 0 0]) (T := 24) (U := 24)
  have c0 := hc.1 0
  simp only [List.getElem?_toArray, List.getElem?_cons_zero] at c0
  clear hc
  have G0 : Below w.heap.size w ((w.alloc (.cells #[.slice ao bs.length cap] 24)).alloc (.cells #[.slice none 0 0] 24)) := ((Below.refl _ _).alloc (Nat.le_refl _) _).alloc (by simp) _
  have hz := alloc_here (w.alloc (.cells #[.slice ao bs.length cap] 24)) (.cells #[.slice none 0 0] 24)
  simp only [World.size_alloc] at hz
  have HV := specValid_any (hbs.below G0) hsm
  have hBS := hid_in hbs
  have hSM := hid_in hsm
  clear hbs hsm
  generalize hn : bs.length = len0 at *
  clear hn
  generalize hW0 : (w.alloc (.cells #[.slice ao len0 cap] 24)).alloc (.cells #[.slice none 0 0] 24) = W0 at *
  have hsz0 : W0.heap.size = w.heap.size + 2 := by rw [← hW0]; simp
  go_enter Tryz.func21, Tryz.ntmps21
  go_wp2_with (go_at_call 47; (try rw [hW0]); refine HV.mono ?_)
  first | rintro e w1 rfl b1 | rintro e w1 ⟨rfl, b1⟩
  have c1 := (b1.cell (p := ⟨w.heap.size, 0, none⟩) (by simp; omega)).trans c0
  have z1 := (b1.block (w.heap.size + 1) (by omega)).trans hz
  have hsz1 := b1.size
  have g1 := G0.trans (b1.mono G0.size)
  clear HV c0 hz hW0
  cases hok : sheetB (bs.map BAt.plain)
  · have HG := hid_in (show ([] : List BAt).map BAt.plain = trimS (bs.map BAt.plain) from by unfold trimS; rw [hok]; rfl)
    clear hok
    go_wp2_with (with_reducible show wpList _ _ _ (Oper.mk _ (Op.store _ (Operand.tmp 2) _) _ _ _ _ :: _) _ _; refine wpList_store_row rfl 24 _ _ rfl (w.heap.size + 1) #[.slice none 0 0] ?_ ?_ 24 _ z1 ?_ ?_ ?_ ?_)
    all_goals (first | rfl | kernel_rfl | exact sheet_size | skip)
    have z5 : (w1.setRow (w.heap.size + 1) #[.slice none 0 0]).heap[w.heap.size + 1]? = some (.cells #[.slice none 0 0] 24 (0, 0)) := setRow_heap _ _ _ _ _ _ z1
    have b5 : Below w.heap.size w (w1.setRow (w.heap.size + 1) #[.slice none 0 0]) :=
      ⟨g1.os, g1.tape, g1.output, by rw [setRow_size]; exact g1.size, fun k hk => by rw [setRow_other _ _ _ _ (by omega)]; exact g1.block k hk⟩
    have y0 := cell_of_block z5 0
    simp only [List.getElem?_toArray, List.getElem?_cons_zero] at y0
    generalize w1.setRow (w.heap.size + 1) #[.slice none 0 0] = W at b5 y0 z5 ⊢
    first | exact bodyPost_ret (v := .agg #[.slice none 0 0]) (by simp [results, Tryz.results21, go_sem, y0]) rfl ⟨_, [], rfl, HG.out, blocks_none _ _, b5⟩ | exact bodyPost_ret (v := .agg #[.slice none 0 0]) (by simp [results, Tryz.results21, go_sem, y0]) rfl ⟨_, rfl, [], HG.out, blocks_none _ _, b5⟩
  · have HOK := hid_in hok
    clear hok
    have HC := l3Copy_any (hBS.out.below g1) hSM.out
    go_wp2_with (go_at_call 35; refine HC.mono ?_)
    first | rintro e w2 v2 rfl bs2 hp2 o2 b2 | rintro e w2 v2 bs2 rfl hp2 o2 b2 | rintro e w2 ⟨v2, bs2, rfl, hp2, o2, b2⟩
    have hSM2 := hid_in (hSM.out.same hp2)
    have hKeys := hid_in (show ∀ b ∈ bs2, ∀ y ∈ b.ls, pickR (rulesOf b.kind) y.key ≠ none from fun b hb y hy => keys_there (by rw [hp2]; exact HOK.out) hb hy)
    have HP2 := hid_in hp2
    have g2 := g1.trans (b2.mono g1.size)
    have z2 := (b2.block (w.heap.size + 1) (by omega)).trans z1
    have hsz2 := b2.size
    obtain ⟨a2, c2, rfl, hform⟩ := own_form o2.row
    have hFm := hid_in hform
    have hLT := hid_in (fun q (hq : (Value.slice a2 bs2.length c2).ownBlock = some q) => o2.row.lt q hq)
    have x3 : Below w2.heap.size w2 (w2.alloc (.cells #[.slice a2 bs2.length c2] 24)) := (Below.refl _ _).alloc (Nat.le_refl _) _
    have o3 := hid_in (o2.below x3)
    have m3 := one_box (w := w2) (cs := #[.slice a2 bs2.length c2]) (T := 24) 0
    simp only [List.getElem?_toArray, List.getElem?_cons_zero] at m3
    have z3 := (x3.block (w.heap.size + 1) (by omega)).trans z2
    have g3 := g2.trans (x3.mono g2.size)
    have hsz3 : (w2.alloc (.cells #[.slice a2 bs2.length c2] 24)).heap.size = w2.heap.size + 1 := by simp
    have hl2 : bs2.length ≤ 1048576 := hSM2.out.1
    clear HC hp2 o2 b2 z1 z2 c1 x3 hform
    generalize hlen : bs2.length = len at *
    have en := hid_in hlen
    clear hlen
    generalize hW3 : w2.alloc (.cells #[.slice a2 len c2] 24) = w3 at *
    have eW3 := hid_in hW3
    clear hW3
    go_wp2
    go_loopw [4] (fun i wr => ∃ (D T : List BAt), i = .int .i64 (D.length : Int) ∧ D.length + T.length = len ∧ TrimTo bs2 D T ∧ BlocksOwn w1.heap.size wr (.slice a2 len c2) (D ++ T) ∧ Below w1.heap.size w3 wr ∧ wr.cell? ⟨w2.heap.size, 0, none⟩ = some (.slice a2 len c2)) (fun i _ => len - (intOf i).toNat)
    case atStart =>
      rw [eW3.out]
      exact ⟨[], bs2, rfl, by simpa using en.out, ⟨[], rfl, rfl⟩, o3.out, Below.refl _ _, m3⟩
    case round =>
      obtain ⟨D, T, rfl, hDT, hTT, hm, bw, cx⟩ := hrel
      have hszw := bw.size
      cases T with
      | nil =>
        simp only [List.length_nil, Nat.add_zero, List.append_nil] at hDT hm
        obtain ⟨D0, e1, e2⟩ := hTT
        rw [List.append_nil] at e1
        subst e1
        have hsmD := trim_small hSM2.out e2
        have HG := hid_in (show D.map BAt.plain = trimS (bs.map BAt.plain) from by unfold trimS; rw [if_pos HOK.out, e2, HP2.out])
        have HC := l3Copy_any hm.bin hsmD
        have gw := g3.trans (bw.mono (by have := g1.size; omega))
        have z4 := (bw.block (w.heap.size + 1) (by omega)).trans z3
        have hlt : ¬ ((D.length : Int) < (len : Int)) := by omega
        clear hm e2 hsmD o3 m3
        go_wp2_with (go_at_call 35; refine HC.mono ?_)
        first | rintro e w5 v5 rfl bs5 hp5 o5 b5 | rintro e w5 v5 bs5 rfl hp5 o5 b5 | rintro e w5 ⟨v5, bs5, rfl, hp5, o5, b5⟩
        have z5 := (b5.block (w.heap.size + 1) (by omega)).trans z4
        have g5 := gw.trans (b5.mono gw.size)
        have HG5 := hid_in (hp5.trans HG.out)
        have O5 := hid_in (o5.mono (show w.heap.size + 2 ≤ wr.heap.size by omega))
        obtain ⟨a5, c5, rfl, _⟩ := own_form o5.row
        clear HC hp5 o5 b5 HG z4
        generalize bs5.length = n5 at *
        go_wp2_with (with_reducible show wpList _ _ _ (Oper.mk _ (Op.store _ (Operand.tmp 2) _) _ _ _ _ :: _) _ _; refine wpList_store_row rfl 24 _ _ rfl (w.heap.size + 1) #[.slice a5 n5 c5] ?_ ?_ 24 _ z5 ?_ ?_ ?_ ?_)
        all_goals (first | rfl | kernel_rfl | exact sheet_size | skip)
        have z6 : (w5.setRow (w.heap.size + 1) #[.slice a5 n5 c5]).heap[w.heap.size + 1]? = some (.cells #[.slice a5 n5 c5] 24 (0, 0)) := setRow_heap _ _ _ _ _ _ z5
        have b6 : Below w.heap.size w (w5.setRow (w.heap.size + 1) #[.slice a5 n5 c5]) :=
          ⟨g5.os, g5.tape, g5.output, by rw [setRow_size]; exact g5.size, fun k hk => by rw [setRow_other _ _ _ _ (by omega)]; exact g5.block k hk⟩
        have o6 := (O5.out.setRow (w.heap.size + 1) (by omega) #[.slice a5 n5 c5]).mono (show w.heap.size ≤ w.heap.size + 2 by omega)
        have y0 := cell_of_block z6 0
        simp only [List.getElem?_toArray, List.getElem?_cons_zero] at y0
        generalize w5.setRow (w.heap.size + 1) #[.slice a5 n5 c5] = W at b6 y0 z6 o6 ⊢
        first | exact bodyPost_ret (v := .agg #[.slice a5 n5 c5]) (by simp [results, Tryz.results21, go_sem, y0]) rfl ⟨_, bs5, rfl, HG5.out, o6, b6⟩ | exact bodyPost_ret (v := .agg #[.slice a5 n5 c5]) (by simp [results, Tryz.results21, go_sem, y0]) rfl ⟨_, rfl, bs5, HG5.out, o6, b6⟩
      | cons x T =>
        simp only [List.length_cons] at hDT
        obtain ⟨wo, hwo⟩ : ∃ wo, wo = wr := ⟨_, rfl⟩
        subst hwo
        have hlt : ((D.length : Int) < (len : Int)) := by omega
        obtain ⟨g, rfl⟩ : ∃ g, a2 = some ⟨g, 0, none⟩ := by
          rcases hFm.out with h0 | h0
          · omega
          · exact h0
        have hnn : (D ++ x :: T).length = len := by simp; omega
        have hbm : BM w1.heap.size wo (.slice (some ⟨g, 0, none⟩) len c2) (D ++ x :: T) [] := hm.bm
        have d0 := hbm.cell 0 (by decide)
        have d1 := hbm.cell 1 (by decide)
        have d2 := hbm.cell 2 (by decide)
        have f2 := (hbm.size hnn).frozenAt (D.length * 3 + 2)
        have hxb : x ∈ bs2 := by obtain ⟨D0, e1, _⟩ := hTT; rw [e1]; simp
        have hxo : LinesOwn w1.heap.size wo x.v x.ls := hm.lines x (by simp)
        have hxs := (hSM2.out.2 x hxb).2
        have hks := hid_in (hKeys.out x hxb)
        obtain ⟨la, lc, ex, _⟩ := own_form hxo.row
        simp only [BAt.cells, List.getElem?_cons_zero, List.getElem?_cons_succ, Nat.add_zero] at d0 d1 d2
        have HM := hid_in hm
        have HX := hid_in hxo.lin
        have HTT := hid_in hTT
        have hgX : g < w2.heap.size := (hLT.out g rfl).2
        obtain ⟨xk, xn, xv, xl⟩ := x
        simp only at *
        subst ex
        have hnl1 := hxs.1
        have bb := (Below.refl wo.heap.size wo).alloc (Nat.le_refl _) (.cells #[.string xk, .string xn, .slice la xl.length lc] 52)
        have kb := one_box (w := wo) (cs := #[.string xk, .string xn, .slice la xl.length lc]) (T := 52)
        have kb0 := kb 0
        have kb2 := kb 2
        simp only [List.getElem?_toArray, List.getElem?_cons_zero, List.getElem?_cons_succ] at kb0 kb2
        have hown0 := World.ownsRow_lit (base := wo.heap.size + 1) (e := 70) (size := 2) (wo.alloc (.cells #[.string xk, .string xn, .slice la xl.length lc] 52)) #[] 0 (by simp) (by decide) rfl
        simp only [World.size_alloc] at hown0
        have b00 := (Below.refl (wo.heap.size + 1) (wo.alloc (.cells #[.string xk, .string xn, .slice la xl.length lc] 52))).alloc (by simp) (.cells #[] 70)
        have hwb : (wo.alloc (.cells #[.string xk, .string xn, .slice la xl.length lc] 52)).heap.size = wo.heap.size + 1 := by simp
        have hxs' := hid_in hxs
        clear hm hbm hxo kb hTT hxs o3 m3
        generalize hnl : xl.length = nl at *
        have enl := hid_in hnl
        clear hnl
        go_wp2
        go_loopw [6, 7] (fun u i wi => ∃ (k : Nat) (left : List LAt), k ≤ nl ∧ i = .int .i64 (k : Int) ∧ left = (xl.take k).filter (fun y => keepT (rulesOf xk) y.plain) ∧ wi.ownsRow (wo.heap.size + 1) 70 2 u left.length (left.flatMap LAt.cells) ∧ Below (wo.heap.size + 1) (wo.alloc (.cells #[.string xk, .string xn, .slice la nl lc] 52)) wi) (fun _ i _ => nl - (intOf i).toNat)
        case atStart => exact ⟨0, [], by omega, rfl, by simp, by simpa using hown0, b00⟩
        case round =>
          obtain ⟨wi, hwi⟩ : ∃ wi, wi = wr := ⟨_, rfl⟩
          subst hwi
          obtain ⟨k, left, hk, rfl, hlf, hlo, bi⟩ := hrel
          obtain ⟨qa, qc, rfl, _⟩ := own_form hlo
          have hll : left.length ≤ k := by rw [hlf]; exact Nat.le_trans (List.length_filter_le _ _) (by simp; omega)
          have Bi := bb.trans (bi.mono (show wo.heap.size ≤ wo.heap.size + 1 by omega))
          have e0 := (bi.cell (p := ⟨wo.heap.size, 0, none⟩) (by simp)).trans kb0
          have e2 := (bi.cell (p := ⟨wo.heap.size, 2, none⟩) (by simp)).trans kb2
          have hszi := bi.size
          by_cases hk2 : k < nl
          · obtain ⟨D1, y, T1, ey, hD1⟩ := split1 xl k (by have := enl.out; omega)
            have hli := HX.out.below Bi
            have h6 := hli
            rw [ey] at h6
            obtain ⟨lg, loff, rfl, y1, y2⟩ := h6.1.line
            rw [hD1] at y1 y2
            have hym : y ∈ xl := by rw [ey]; simp
            have hyin := hli.2 y hym
            have hys := hxs'.out.2 y hym
            obtain ⟨ya, yc, eyv⟩ := HasRow.form hyin
            obtain ⟨p, hp⟩ := Option.ne_none_iff_exists'.1 (hks.out y hym)
            obtain ⟨P, hP1, HSR⟩ := ruleGot hp
            have HPL : ∀ W, Calls Tryz.prog 59 #[.string xk, .string y.key] W fun e w' => BoxInt P W e w' := by
              intro W
              have := l2Place_any xk y.key W
              rw [hP1] at this
              exact this
            have hds := rulesOf_smallD xk p (pick_mem hp)
            have hKT := keepT_now (R := rulesOf xk) (a := y.plain) hp
            have hst := hid_in (show (xl.take (k + 1)).filter (fun y => keepT (rulesOf xk) y.plain) = left ++ [y].filter (fun y => keepT (rulesOf xk) y.plain) from by rw [hlf, ey, ← hD1, take_front, take_one, List.filter_append])
            have hyp := hid_in eyv
            unfold LineIn at hyin
            rw [eyv] at y2 hyin
            have i1 : (0 : Int) ≤ (k : Int) := by omega
            have i2 : (k : Int) < (nl : Int) := by omega
            have HLO := hid_in hlo
            have HYI := hid_in hyin
            have hS := hid_in (show ∀ W, Below wi.heap.size wi W → W.cell? ⟨wo.heap.size, 0, none⟩ = some (.string xk) ∧ W.cell? ⟨wo.heap.size, 2, none⟩ = some (.slice (some ⟨lg, loff, none⟩) nl lc) ∧ W.cell? ⟨lg, loff + k * 2, none⟩ = some (.string y.key) from fun W hW => ⟨(hW.cell (World.block_lt_of_cell? wi _ e0)).trans e0, (hW.cell (World.block_lt_of_cell? wi _ e2)).trans e2, (hW.cell (World.block_lt_of_cell? wi _ y1)).trans y1⟩)
            clear hli h6 hlo hlf hyin ey hD1 hym hP1 hp eyv
            generalize hyk : y.key = yk at *
            have eyk := hid_in hyk
            clear hyk
            go_upto_region 12 with fail
            go_cut [8] from 35 to 48 (fun q wx => RuleBox p wi q wx)
            case first =>
              have u0 := fun p : Gr wi => gr_cell e0 p
              have u2 := fun p : Gr wi => gr_cell e2 p
              have u1 := fun p : Gr wi => gr_cell y1 p
              have HQ : ∀ p : Gr wi, Calls Tryz.prog 59 #[.string xk, .string yk] p.u fun e w' => e = .returned (.int .i64 (P : Int)) ∧ Below p.u.heap.size p.u w' := fun p => HPL p.u
              clear HLO HYI hst hKT hyp hds HM HTT hks HX hxs' hS e0 e2 y1 y2
              refine wp_region_upM 15 16 (by kernel_rfl) rfl ?_
              refine wpUp_mask [true, true, false, true, true, true, true, true, true, true, true, false, false, false, false, false] 6 rfl (by kernel_rfl) ?_
              simp only [maskL_t, maskL_f, maskL_n]
              iterate 10 (refine wpQuietU_step (fun K hK => ?_); go_simp; refine hK _ ?_; clear hK K)
              refine wpQuietU_nil ?_
              refine wpUp_branch (f := 5) (rs := [2, 14]) (by kernel_rfl) (by simp) ?_
              rintro ⟨wp, bp⟩
              refine AllUp.cons rfl (by decide) (fun K hK => ?_) ?_
              · go_simp
                go_wp2_with (go_at_call 54; refine (HSR _).mono ?_; rintro e w7 ⟨g7, m7, c7, key7, av, nv, cv, ad, cd, rfl, hm7, hc7, hr7, b7⟩)
                refine hK.out _ _ b7 ?_
                clear hK K
                have t0 := fun p : Gr w7 => gr_cell hc7.1 p
                have t1 := fun p : Gr w7 => gr_cell hc7.2.1 p
                have t2 := fun p : Gr w7 => gr_cell hc7.2.2.1 p
                have t3 := fun p : Gr w7 => gr_cell hc7.2.2.2 p
                have HQ7 : ∀ p : Gr w7, Calls Tryz.prog 59 #[.string xk, .string yk] p.u fun e w' => e = .returned (.int .i64 (P : Int)) ∧ Below p.u.heap.size p.u w' := fun p => HPL p.u
                refine wpUp_mask [false, false, false, false, false, false, false, false, false, false, false, true, true, true, false, false] 2 rfl (by kernel_rfl) ?_
                simp only [maskL_t, maskL_f, maskL_n]
                refine wpQuietU_step (fun K hK => ?_)
                go_simp
                apply Exists.intro
                refine ⟨fun _ => ?_, hK _ ?_⟩
                go_at_call 59
                exact HQ7 _
                clear hK K
                iterate 2 (refine wpQuietU_step (fun K hK => ?_); go_simp; refine hK _ ?_; clear hK K)
                refine wpQuietU_nil ?_
                refine wpUp_branch (f := 1) (rs := [14]) (by kernel_rfl) (by simp) ?_
                rintro ⟨wq, bq⟩
                refine AllUp.cons rfl (by decide) (fun K hK => ?_) AllUp.nil
                go_simp
                refine hK.out _ _ ((Below.refl _ _).alloc (Nat.le_refl _) _) ?_
                clear hK K
                refine wpUp_last (by kernel_rfl) rfl (by kernel_rfl) ?_
                rintro ⟨wz, bz⟩ K hK
                have hz := (bz.block wq.heap.size (by simp)).trans (alloc_here wq _)
                have sp := bp.size
                have s7 := b7.size
                have sq := bq.size
                have Bq := (bp.trans (b7.mono sp)).trans (bq.mono (Nat.le_trans sp s7))
                have Bz := Bq.trans ((((Below.refl wq.heap.size wq).alloc (Nat.le_refl _) _).trans (bz.mono (by simp))).mono Bq.size)
                have hr := own_has (own_setRowFar (own_below (own_below hr7 bq) (((Below.refl wq.heap.size wq).alloc (Nat.le_refl _) _).trans (bz.mono (by simp)))) wq.heap.size (fun e => by have := (hr7.lt _ e).2; omega) #[.string key7, .slice av nv cv, .bool p.2.2.1, .slice ad p.2.2.2.length cd])
                rw [if_pos (by rfl)]
                refine wp_store_row 93 _ _ rfl wq.heap.size #[.string key7, .slice av nv cv, .bool p.2.2.1, .slice ad p.2.2.2.length cd] rfl rfl 93 _ hz (by kernel_rfl) rfl (by first | rfl | kernel_rfl) ?_
                refine hK.out _ _ (NoPanic.normal ?_)
                clear hK K
                go_wp2_with fail
                go_meet
                exact rule_boxS rfl rfl hz (Nat.le_trans (Nat.le_trans sp s7) sq) hr Bz
              · refine AllUp.cons rfl (by decide) (fun K hK => ?_) AllUp.nil
                go_simp
                refine hK.out _ _ ((Below.refl _ _).alloc (Nat.le_refl _) _) ?_
                clear hK K
                refine wpUp_branch (f := 4) (rs := [2]) (by kernel_rfl) (by simp) ?_
                rintro ⟨wq, bq⟩
                refine AllUp.cons rfl (by decide) (fun K hK => ?_) AllUp.nil
                go_simp
                go_wp2_with (go_at_call 54; refine (HSR _).mono ?_; rintro e w7 ⟨g7, m7, c7, key7, av, nv, cv, ad, cd, rfl, hm7, hc7, hr7, b7⟩)
                refine hK.out _ _ b7 ?_
                clear hK K
                have t0 := fun p : Gr w7 => gr_cell hc7.1 p
                have t1 := fun p : Gr w7 => gr_cell hc7.2.1 p
                have t2 := fun p : Gr w7 => gr_cell hc7.2.2.1 p
                have t3 := fun p : Gr w7 => gr_cell hc7.2.2.2 p
                have HQ7 : ∀ p : Gr w7, Calls Tryz.prog 59 #[.string xk, .string yk] p.u fun e w' => e = .returned (.int .i64 (P : Int)) ∧ Below p.u.heap.size p.u w' := fun p => HPL p.u
                refine wpUp_mask [false, false, false, false, false, false, false, false, false, false, false, true, true, true, false, false] 1 rfl (by kernel_rfl) ?_
                simp only [maskL_t, maskL_f, maskL_n]
                refine wpQuietU_step (fun K hK => ?_)
                go_simp
                apply Exists.intro
                refine ⟨fun _ => ?_, hK _ ?_⟩
                go_at_call 59
                exact HQ7 _
                clear hK K
                iterate 2 (refine wpQuietU_step (fun K hK => ?_); go_simp; refine hK _ ?_; clear hK K)
                refine wpQuietU_nil ?_
                refine wpUp_last (by kernel_rfl) rfl (by kernel_rfl) ?_
                rintro ⟨wz, bz⟩ K hK
                have sp := bp.size
                have sq := bq.size
                have s7 := b7.size
                have ha : wp.heap.size < wq.heap.size := by simp at sq; omega
                have hz := (bz.block wp.heap.size (by omega)).trans ((b7.block wp.heap.size ha).trans ((bq.block wp.heap.size (by simp)).trans (alloc_here wp _)))
                have Bq := bp.trans ((((Below.refl wp.heap.size wp).alloc (Nat.le_refl _) _).trans (bq.mono (by simp))).mono sp)
                have Bz := Bq.trans ((b7.trans (bz.mono s7)).mono Bq.size)
                have hr := own_has (own_setRowFar (own_below hr7 bz) wp.heap.size (fun e => by have := (hr7.lt _ e).1; omega) #[.string key7, .slice av nv cv, .bool p.2.2.1, .slice ad p.2.2.2.length cd])
                rw [if_pos (by rfl)]
                refine wp_store_row 93 _ _ rfl wp.heap.size #[.string key7, .slice av nv cv, .bool p.2.2.1, .slice ad p.2.2.2.length cd] rfl rfl 93 _ hz (by kernel_rfl) rfl (by first | rfl | kernel_rfl) ?_
                refine hK.out _ _ (NoPanic.normal ?_)
                clear hK K
                go_wp2_with fail
                go_meet
                exact rule_boxS rfl rfl hz sp hr Bz
            case rest =>
              obtain ⟨wj, hwj⟩ : ∃ wj, wj = wc := ⟨_, rfl⟩
              subst hwj
              obtain ⟨R, ad, cd, rfl, rb2, rb3, hdrow, bj⟩ := hcut
              have Bj := Bi.trans (bj.mono Bi.size)
              have BJ : Below (wo.heap.size + 1) (wo.alloc (.cells #[.string xk, .string xn, .slice (some ⟨lg, loff, none⟩) nl lc] 52)) wj := bi.trans (bj.mono (by simp at hszi; omega))
              have f2j := (bj.cell (p := ⟨wo.heap.size, 2, none⟩) (World.block_lt_of_cell? wi _ e2)).trans e2
              have y1j := (bj.cell (p := ⟨lg, loff + k * 2, none⟩) (World.block_lt_of_cell? wi _ y1)).trans y1
              have y2j := (bj.cell (p := ⟨lg, loff + k * 2 + 1, none⟩) (World.block_lt_of_cell? wi _ y2)).trans y2
              have HW : ∀ p' : Gr wj, Calls Tryz.prog 60 #[.slice ad p.2.2.2.length cd, .slice ya y.ws.length yc] p'.u fun e w' => e = .returned (.bool (decide (p.2.2.2 = y.ws))) ∧ Below p'.u.heap.size p'.u w' := fun p' => l3Words_any (hdrow.below p'.h) ((HYI.out.below bj).below p'.h) (Nat.le_trans hds.1 (by decide)) hys.1
              have HL2 := hid_in (own_below HLO.out bj)
              generalize hKV : keepT (rulesOf xk) y.plain = KV at *
              have hKV' := hid_in hKV
              rw [show y.plain.ws = y.ws from rfl] at hKT
              generalize hDV : decide (p.2.2.2 = y.ws) = DV at *
              clear hKV hDV hdrow HSR HPL hds hS e0 e2 y1 y2
              generalize p.2.2.1 = many at *
              generalize p.2.2.2.length = nd at *
              generalize hnyw : y.ws.length = nyw at *
              go_upto_region 13 with fail
              go_cut [62] from 49 to 62 (fun c wx => c = .bool KV ∧ Below wj.heap.size wj wx)
              case first =>
                have v2 := fun p : Gr wj => gr_cell rb2 p
                have v3 := fun p : Gr wj => gr_cell rb3 p
                have v4 := fun p : Gr wj => gr_cell f2j p
                have v5 := fun p : Gr wj => gr_cell y2j p
                clear HLO HYI hst hyp HM HTT hks HX hxs' HL2 hKV' f2j y1j y2j rb2 rb3
                cases many
                · refine wp_region_gr (by kernel_rfl) (by kernel_rfl) ?_
                  iterate 11 quiet_step (fail)
                  quiet_step ((go_at_call 60; refine gr_of (HW _)))
                  iterate 2 quiet_step (fail)
                  refine wpQuiet_nil ?_
                  rintro _ ⟨⟨wq, bq⟩, rfl⟩
                  go_wp2_with fail
                  go_meet
                  exact ⟨by rw [hKT]; rfl, bq⟩
                · refine wp_region_gr (by kernel_rfl) (by kernel_rfl) ?_
                  iterate 3 quiet_step (fail)
                  iterate 10 (with_reducible refine quiet_skip ?_ ?_; kernel_rfl; simp only [Act.put, List.setIfInBounds_toArray, List.set_cons_zero, List.set_cons_succ])
                  quiet_step (fail)
                  refine wpQuiet_nil ?_
                  rintro _ ⟨⟨wq, bq⟩, rfl⟩
                  go_wp2_with fail
                  go_meet
                  exact ⟨by rw [hKT]; rfl, bq⟩
              case rest =>
                obtain ⟨wk, hwk⟩ : ∃ wk, wk = wc := ⟨_, rfl⟩
                subst hwk
                obtain ⟨rfl, bk⟩ := hcut
                have BK : Below (wo.heap.size + 1) (wo.alloc (.cells #[.string xk, .string xn, .slice (some ⟨lg, loff, none⟩) nl lc] 52)) wk := BJ.trans (bk.mono (by have := BJ.size; simp at this; omega))
                have f2k := (bk.cell (p := ⟨wo.heap.size, 2, none⟩) (World.block_lt_of_cell? wj _ f2j)).trans f2j
                have y1k := (bk.cell (p := ⟨lg, loff + k * 2, none⟩) (World.block_lt_of_cell? wj _ y1j)).trans y1j
                have y2k := (bk.cell (p := ⟨lg, loff + k * 2 + 1, none⟩) (World.block_lt_of_cell? wj _ y2j)).trans y2j
                have HL3 := hid_in (own_below HL2.out bk)
                clear HW rb2 rb3 f2j y1j y2j HL2 HLO hKT
                cases KV
                · have hst' := hid_in (show (xl.take (k + 1)).filter (fun y => keepT (rulesOf xk) y.plain) = left from by rw [hst.out]; simp [hKV'.out])
                  clear hst
                  go_wp2
                  go_roundw
                  case rel => exact ⟨k + 1, left, by omega, by go_num, hst'.out.symm, HL3.out, BK⟩
                  case measure => simp [intOf]; omega
                · have hst' := hid_in (show (xl.take (k + 1)).filter (fun y => keepT (rulesOf xk) y.plain) = left ++ [y] from by rw [hst.out]; simp [hKV'.out])
                  have hcells := hid_in (show LAt.cells y = [.string yk, .slice ya nyw yc] from by unfold LAt.cells; rw [eyk.out, hyp.out])
                  obtain ⟨i0, hi, hy0, hy1, hy2⟩ := info_parts infoLine
                  have hm3 := HL3.out.alloc (.cells #[.string yk, .slice ya nyw yc] 70)
                  have hrow := lit_has wk #[.string yk, .slice ya nyw yc] 70 2 rfl
                  have hbase := hid_in (show ∀ q, (Value.slice qa left.length qc).ownBlock = some q → wo.heap.size + 1 ≤ q from fun q hq => (HL3.out.lt q hq).1)
                  have hszk : wo.heap.size + 1 ≤ wk.heap.size := by have := BK.size; simp at this; exact this
                  have b4 := BK.alloc hszk (.cells #[.string yk, .slice ya nyw yc] 70)
                  clear hst HL3
                  go_wp2_with (at_builtin; refine wpList_append_has (by rfl) _ _ 41 (by rfl) (wo.heap.size + 1) 70 i0 _ 2 40 Tryz.underlying41 hi hy0 hy1 hy2 rfl (by decide) _ left.length _ (by rfl) hm3 _ 1 _ (by rfl) hrow (by intro z hz; simp at hz; rcases hz with rfl | rfl <;> rfl) ?c3 ?c4 (Nat.le_trans hszk (by simp)) ?_)
                  case c3 => unfold maxLen; omega
                  case c4 => omega
                  intro ao' cap' w5 hown5 hg5 _
                  have hB5 := b4.grown hg5 (by simp; omega) hbase.out
                  have HO := hid_in (show w5.ownsRow (wo.heap.size + 1) 70 2 (.slice ao' (left.length + 1) cap') (left ++ [y]).length ((left ++ [y]).flatMap LAt.cells) from by
                    rw [List.flatMap_append, List.flatMap_singleton, hcells.out, List.length_append]; exact hown5)
                  clear hm3 hrow hown5 hg5 hbase
                  go_wp2
                  go_roundw
                  case rel => exact ⟨k + 1, left ++ [y], by omega, by go_num, hst'.out.symm, HO.out, hB5⟩
                  case measure => simp [intOf]; omega
          · obtain rfl : k = nl := by omega
            have hls : xl.take k = xl := by rw [← enl.out, List.take_length]
            rw [hls] at hlf
            have hlt2 : ¬ ((k : Int) < (k : Int)) := by omega
            have Hm := Mem.cons (r := ⟨.slice qa left.length qc, 70, 2, left.length, left.flatMap LAt.cells⟩) HM.out (own_mono hlo (show wo.heap.size ≤ wo.heap.size + 1 by omega)) Bi (Nat.le_trans (by omega) hszw)
            have hperm : List.Perm (α := MRow) ([⟨.slice qa left.length qc, 70, 2, left.length, left.flatMap LAt.cells⟩] ++ lrows (.slice la k lc) xl) (lrows (.slice qa left.length qc) left ++ (⟨.slice la k lc, 70, 2, xl.length, xl.flatMap LAt.cells⟩ :: (xl.filter (fun y : LAt => !keepT (rulesOf xk) y.plain)).map LAt.row)) := by
              unfold lrows
              refine List.Perm.cons _ ?_
              rw [hlf]
              exact ((filter_rows (fun y => keepT (rulesOf xk) y.plain) xl).cons _).trans List.perm_middle.symm
            have HSW := hid_in (blocks_swap (R := [⟨.slice qa left.length qc, 70, 2, left.length, left.flatMap LAt.cells⟩]) (x := ⟨xk, xn, .slice la k lc, xl⟩) Hm hnn hperm)
            have hST := hid_in (show TrimTo bs2 (D ++ [⟨xk, xn, .slice qa left.length qc, left⟩]) T from by rw [hlf]; exact HTT.out.step _)
            have hgl := (hLT.out g rfl).1
            have cxi := (Bi.cell (p := ⟨w2.heap.size, 0, none⟩) (World.block_lt_of_cell? wo _ cx)).trans cx
            have d2i := (Bi.cell (p := ⟨g, D.length * 3 + 2, none⟩) (World.block_lt_of_cell? wo _ d2)).trans d2
            have f2i := (Bi.frozen (p := ⟨g, D.length * 3 + 2, none⟩) (World.block_lt_of_cell? wo _ d2)).trans f2
            have i1 : (0 : Int) ≤ (D.length : Int) := by omega
            have hBF : Below w1.heap.size w3 (wi.setCell ⟨g, D.length * 3 + 2, none⟩ (.slice qa left.length qc)) := (bw.trans (Bi.mono (Nat.le_trans (by omega) hszw))).setCell (p := ⟨g, D.length * 3 + 2, none⟩) hgl _
            have hcF : (wi.setCell ⟨g, D.length * 3 + 2, none⟩ (.slice qa left.length qc)).cell? ⟨w2.heap.size, 0, none⟩ = some (.slice (some ⟨g, 0, none⟩) len c2) := (World.cell?_setCell_far wi ⟨g, D.length * 3 + 2, none⟩ ⟨w2.heap.size, 0, none⟩ _ (by simp; omega)).trans cxi
            clear hlo hlf hls Hm hperm HM HTT HX hxs' hks e0 d0 d1 d2 f2 cx hown0 b00 kb0 kb2
            go_wp2
            go_roundw
            case rel => exact ⟨D ++ [⟨xk, xn, .slice qa left.length qc, left⟩], T, by simp, by simp; omega, hST.out, by rw [List.append_assoc]; exact HSW.out, hBF, hcF⟩
            case measure => simp [intOf]; omega
theorem blocks_nilS : BlocksSmall [] := ⟨by simp, by simp⟩
theorem trimS_small {bs xs : List BAt} (h : BlocksSmall bs) (he : xs.map BAt.plain = trimS (bs.map BAt.plain)) : BlocksSmall xs := by
  unfold trimS at he
  split at he
  · exact trim_small h he
  · obtain rfl : xs = [] := by simpa using he
    exact blocks_nilS
end Go.Proofs.YtnnpgnkmmahomabGreatDoor
namespace Go.Proofs.YtnnpgnkmmahomabGreatDoor
open Go.RowKit
theorem specTrim_p {v : Value} {bs : List BAt} {w : World} (hbs : BlocksIn w v bs) (hsm : BlocksSmall bs) : Calls Tryz.prog 21 #[.agg #[v]] w fun e w' => ShPost (trimS (bs.map BAt.plain)) w e w' := specTrim_any hbs hsm
theorem implTrim_p {v : Value} {bs : List BAt} {w : World} (hbs : BlocksIn w v bs) (hsm : BlocksSmall bs) (hst : StdAt w) : Calls Tryz.prog 22 #[.agg #[v]] w fun e w' => ShPost (trimS (bs.map BAt.plain)) w e w' := implTrim_any hbs hsm hst
set_option maxHeartbeats 8000000 in
set_option maxRecDepth 100000 in
theorem trimLaw_any {v : Value} {bs : List BAt} {w : World} (h : BlocksIn w v bs) (hw : BlocksWide bs) (hst : StdAt w) : Calls Tryz.prog 6 #[.agg #[v]] w fun e w' => e = .returned (.bool true) ∧ Below w.heap.size w w' := by
  obtain ⟨ao, cap, rfl⟩ := h.1.form
  have g0 : Below w.heap.size w (w.alloc (.cells #[.slice ao bs.length cap] 35)) := (Below.refl _ _).alloc (Nat.le_refl _) _
  have k0 := one_box (w := w) (cs := #[.slice ao bs.length cap]) (T := 35) 0
  simp only [List.getElem?_toArray, List.getElem?_cons_zero] at k0
  have l0 := World.block_lt_of_cell? _ _ k0
  have HZ := szSheet_any (left := 1048576) (h.below g0) hw (Nat.le_refl _)
  go_enter Tryz.func6, Tryz.ntmps6
  go_wp2_with (go_at_call 15; refine HZ.mono ?_)
  rintro e w1 ⟨rfl | ⟨r, hr, rfl, hs⟩, b1⟩
  · clear HZ h hw hst
    go_wp2
    go_ret
    exact ⟨rfl, g0.trans (b1.mono g0.size)⟩
  have hr0 : ¬ ((r : Int) < 0) := by omega
  have k1 := (b1.cell (p := ⟨w.heap.size, 0, none⟩) l0).trans k0
  have g1 := g0.trans (b1.mono g0.size)
  clear HZ k0 b1 g0
  have HT := toSheet_p (h.below g1) hs
  go_wp2_with (go_at_call 17; refine HT.mono ?_)
  rintro e w2 ⟨v2, bs2, rfl, hp2, o2, b2⟩
  have HV := specTrim_p o2.bin (hs.same hp2)
  rw [hp2] at HV
  have k2 := (b2.cell (p := ⟨w.heap.size, 0, none⟩) (World.block_lt_of_cell? w1 _ k1)).trans k1
  have g2 := g1.trans (b2.mono g1.size)
  clear HT o2 hp2 k1 b2 g1
  go_wp2_with (go_at_call 21; refine HV.mono ?_)
  rintro e w3 ⟨v3, bs3, rfl, hp3, o3, b3⟩
  have k3 := (b3.cell (p := ⟨w.heap.size, 0, none⟩) (World.block_lt_of_cell? w2 _ k2)).trans k2
  have g3 := g2.trans (b3.mono g2.size)
  have hl3 : w.heap.size < w3.heap.size := World.block_lt_of_cell? w3 _ k3
  obtain ⟨a3, c3, rfl, _⟩ := own_form o3.row
  have x3 : Below w3.heap.size w3 (w3.alloc (.cells #[.slice a3 bs3.length c3] 24)) := (Below.refl _ _).alloc (Nat.le_refl _) _
  have n3 := one_box (w := w3) (cs := #[.slice a3 bs3.length c3]) (T := 24) 0
  simp only [List.getElem?_toArray, List.getElem?_cons_zero] at n3
  have k3a := (x3.cell (p := ⟨w.heap.size, 0, none⟩) hl3).trans k3
  have g3a := g3.trans (x3.mono g3.size)
  have HN3 := hid_in (show ∀ W, Below w3.heap.size w3 W → BlocksIn W (.slice a3 bs3.length c3) bs3 from fun W hW => o3.bin.below hW)
  have hs3 := hid_in (show BlocksSmall bs3 from trimS_small hs hp3)
  have hp3' := hid_in hp3
  clear HV o3 k2 b3 g2 hp3 k3
  generalize bs3.length = nb3 at *
  have HT := toSheet_p (h.below g3a) hs
  have hsW : (w3.alloc (.cells #[.slice a3 nb3 c3] 24)).heap.size = w3.heap.size + 1 := by simp
  generalize hW3 : w3.alloc (.cells #[.slice a3 nb3 c3] 24) = W3 at *
  have hsW' := hid_in hsW
  clear hsW
  go_wp2_with (go_at_call 17; (try rw [hW3]); refine HT.mono ?_)
  clear hW3
  rintro e w4 ⟨v4, bs4, rfl, hp4, o4, b4⟩
  have k4 := (b4.cell (p := ⟨w.heap.size, 0, none⟩) (World.block_lt_of_cell? W3 _ k3a)).trans k3a
  have n4 := (b4.cell (p := ⟨w3.heap.size, 0, none⟩) (World.block_lt_of_cell? W3 _ n3)).trans n3
  obtain ⟨a4, c4, rfl, _⟩ := own_form o4.row
  have x4 : Below w4.heap.size w4 (w4.alloc (.cells #[.slice a4 bs4.length c4] 24)) := (Below.refl _ _).alloc (Nat.le_refl _) _
  have m4 := one_box (w := w4) (cs := #[.slice a4 bs4.length c4]) (T := 24) 0
  simp only [List.getElem?_toArray, List.getElem?_cons_zero] at m4
  have B4 := b4.trans (x4.mono b4.size)
  have k4a := (x4.cell (p := ⟨w.heap.size, 0, none⟩) (World.block_lt_of_cell? w4 _ k4)).trans k4
  have n4a := (x4.cell (p := ⟨w3.heap.size, 0, none⟩) (World.block_lt_of_cell? w4 _ n4)).trans n4
  have g4a := g3a.trans (B4.mono g3a.size)
  have o4a := o4.below x4
  have hs4 := hs.same hp4
  have HV := implTrim_p o4a.bin hs4 (hst.below g4a)
  rw [hp4] at HV
  have hp4' := hid_in hp4
  have hs4' := hid_in hs4
  clear HT k3a k4 n3 n4 o4 b4 hp4 x4 hs4
  generalize hnb4 : bs4.length = nb4 at *
  generalize hW4 : w4.alloc (.cells #[.slice a4 nb4 c4] 24) = W4 at *
  have hw4 : w4.heap.size < W4.heap.size := World.block_lt_of_cell? W4 _ m4
  go_wp2_with (go_at_call 22; (try rw [hW4]); refine HV.mono ?_)
  clear hW4
  rintro e w5 ⟨v5, bs5, rfl, hp5, o5, b5⟩
  have k5 := (b5.cell (p := ⟨w.heap.size, 0, none⟩) (World.block_lt_of_cell? W4 _ k4a)).trans k4a
  have n5 := (b5.cell (p := ⟨w3.heap.size, 0, none⟩) (World.block_lt_of_cell? W4 _ n4a)).trans n4a
  have m5 := (b5.cell (p := ⟨w4.heap.size, 0, none⟩) hw4).trans m4
  obtain ⟨a5, c5, rfl, _⟩ := own_form o5.row
  have x5 : Below w5.heap.size w5 (w5.alloc (.cells #[.slice a5 bs5.length c5] 24)) := (Below.refl _ _).alloc (Nat.le_refl _) _
  have q5 := one_box (w := w5) (cs := #[.slice a5 bs5.length c5]) (T := 24) 0
  simp only [List.getElem?_toArray, List.getElem?_cons_zero] at q5
  have k5a := (x5.cell (p := ⟨w.heap.size, 0, none⟩) (World.block_lt_of_cell? w5 _ k5)).trans k5
  have n5a := (x5.cell (p := ⟨w3.heap.size, 0, none⟩) (World.block_lt_of_cell? w5 _ n5)).trans n5
  have m5a := (x5.cell (p := ⟨w4.heap.size, 0, none⟩) (World.block_lt_of_cell? w5 _ m5)).trans m5
  have B5 := (B4.trans (b5.mono B4.size)).trans (x5.mono (Nat.le_trans B4.size b5.size))
  have J5 : Mem W3.heap.size w5 (brows (.slice a5 bs5.length c5) bs5 ++ brows (.slice a4 nb4 c4) bs4) := Mem.join o4a o5 b5 B4.size
  have J5a := Mem.cons (r := ⟨.slice (some ⟨w5.heap.size, 0, none⟩) 1 1, 24, 1, 1, [.slice a5 bs5.length c5]⟩) J5 (box_row w5 (.slice a5 bs5.length c5) 24) x5 (Nat.le_trans B4.size b5.size)
  have J6 := hid_in (Mem.perm J5a (N := brows (.slice a4 nb4 c4) bs4 ++ (⟨.slice (some ⟨w5.heap.size, 0, none⟩) 1 1, 24, 1, 1, [.slice a5 bs5.length c5]⟩ :: brows (.slice a5 bs5.length c5) bs5)) (by rw [← List.cons_append]; exact List.perm_append_comm))
  have hs5 : BlocksSmall bs5 := trimS_small hs hp5
  have hp53 := hid_in (show bs5.map BAt.plain = bs3.map BAt.plain from hp5.trans hp3'.out.symm)
  have HE := eqSheet_p (o5.bin.below x5) (HN3.out _ (x3.trans (B5.mono x3.size))) hp53.out ⟨hs5.1, fun x hx => (hs5.2 x hx).2⟩
  have hs5' := hid_in hs5
  clear HV J5 J5a o5 b5 x5 hp5 k5 n5 m5 k4a n4a m4 hs5 o4a B4
  generalize hnb5 : bs5.length = nb5 at *
  generalize hW5 : w5.alloc (.cells #[.slice a5 nb5 c5] 24) = W5 at *
  have hq5 : w5.heap.size < W5.heap.size := World.block_lt_of_cell? W5 _ q5
  go_wp2_with (go_at_call 11; (try rw [hW5]); refine HE.mono ?_)
  clear hW5
  rintro e w7 ⟨rfl, b7⟩
  have k7 := (b7.cell (p := ⟨w.heap.size, 0, none⟩) (World.block_lt_of_cell? W5 _ k5a)).trans k5a
  have n7 := (b7.cell (p := ⟨w3.heap.size, 0, none⟩) (World.block_lt_of_cell? W5 _ n5a)).trans n5a
  have m7 := (b7.cell (p := ⟨w4.heap.size, 0, none⟩) (World.block_lt_of_cell? W5 _ m5a)).trans m5a
  have B7 := B5.trans (b7.mono B5.size)
  have g7 := g3a.trans (B7.mono g3a.size)
  have J7 := hid_in (Mem.below J6.out b7)
  have HT : ∀ W, Below w7.heap.size w7 W → Calls Tryz.prog 17 #[.agg #[.slice ao bs.length cap]] W fun e w' => ∃ v' bs', e = .returned (.agg #[v']) ∧ bs'.map BAt.plain = bs.map BAt.plain ∧ BlocksOwn W.heap.size w' v' bs' ∧ Below w7.heap.size w7 w' := fun W hW => (toSheet_any (h.below (g7.trans (hW.mono g7.size))) hs).mono fun e w' ⟨v', bs', he, hp, ho, hb⟩ => ⟨v', bs', he, hp, ho, hW.trans (hb.mono hW.size)⟩
  have o7 : BlocksIn w7 (.slice a4 nb4 c4) bs4 := (show BlocksOwn W3.heap.size w7 (.slice a4 nb4 c4) bs4 from J7.out.left).bin
  have HE2 := hid_in (show ∀ (W : World) v' bs', Below w7.heap.size w7 W → bs'.map BAt.plain = bs.map BAt.plain → BlocksIn W v' bs' → Calls Tryz.prog 11 #[.agg #[.slice a4 nb4 c4], .agg #[v']] W fun e w' => e = .returned (.bool true) ∧ Below w7.heap.size w7 w' from fun W v' bs' hW hp ho => (eqSheet_any (o7.below hW) ho (hp4'.out.trans hp.symm) ⟨hs4'.out.1, fun x hx => (hs4'.out.2 x hx).2⟩).mono fun e w' ⟨he, hb⟩ => ⟨he, hW.trans (hb.mono hW.size)⟩)
  have hdr : Below w7.heap.size w7 w7.drew := (Below.refl _ _).drew
  have hl7 := World.block_lt_of_cell? _ _ k7
  have hm7 := World.block_lt_of_cell? _ _ m7
  have hn7 := World.block_lt_of_cell? _ _ n7
  have hin := hid_in h
  have hsm := hid_in hs
  have hst' := hid_in hst
  clear HE k5a n5a m5a h hs hw hst o7 b7 J6 q5 B5
  generalize hnb : bs.length = nb at *
  go_wp2
  go_region_held3 (fun W' => W'.cell? ⟨w.heap.size, 0, none⟩ = some (.slice ao nb cap) ∧ W'.cell? ⟨w4.heap.size, 0, none⟩ = some (.slice a4 nb4 c4))
    (first | exact ⟨k7, m7⟩ | exact ⟨(b9.cell hl7).trans k7, (b9.cell hm7).trans m7⟩ | exact ⟨(b8.cell hl7).trans k7, (b8.cell hm7).trans m7⟩)
    (first | (go_at_call 17; refine (HT _ hdr).mono ?_; rintro e w8 ⟨v8, bs8, rfl, hp8, o8, b8⟩; obtain ⟨a8, c8, rfl, _⟩ := own_form o8.row) | (go_at_call 11; refine (HE2.out _ _ bs8 b8 hp8 o8.bin).mono ?_; rintro e w9 ⟨rfl, b9⟩))
  have k9 := (b9.cell (p := ⟨w.heap.size, 0, none⟩) hl7).trans k7
  have m9 := (b9.cell (p := ⟨w4.heap.size, 0, none⟩) hm7).trans m7
  have n9 := (b9.cell (p := ⟨w3.heap.size, 0, none⟩) hn7).trans n7
  have B9 := B7.trans (b9.mono B7.size)
  have J9 : BM W3.heap.size w9 (.slice a4 nb4 c4) bs4 (⟨.slice (some ⟨w5.heap.size, 0, none⟩) 1 1, 24, 1, 1, [.slice a5 nb5 c5]⟩ :: brows (.slice a5 nb5 c5) bs5) := J7.out.below b9
  have HM := markSheet_p B9.size J9 hs4'.out
  have he1 : ¬ ((endB 1 bs4 : Int) < 0) := by omega
  clear HT HE2 J9 J7 k7 m7 n7 hp8 o8 b8 b9
  go_wp2_with (go_at_call 13; refine HM.mono ?_)
  rintro e w10 ⟨rfl, J10, b10⟩
  have B10 := B9.trans b10
  have J10r : Mem W3.heap.size w10 (⟨.slice (some ⟨w5.heap.size, 0, none⟩) 1 1, 24, 1, 1, [.slice a5 nb5 c5]⟩ :: brows (.slice a5 nb5 c5) bs5) := Mem.right J10
  have q10 := row_box (Mem.head J10r)
  have o10 : BlocksOwn W3.heap.size w10 (.slice a5 nb5 c5) bs5 := J10r.tail
  have HE := eqSheet_p o10.bin (HN3.out _ (x3.trans (B10.mono x3.size))) hp53.out ⟨hs5'.out.1, fun x hx => (hs5'.out.2 x hx).2⟩
  have k10 := (b10.cell (p := ⟨w.heap.size, 0, none⟩) (by show w.heap.size < W3.heap.size; have := hsW'.out; omega)).trans k9
  have n10 := (b10.cell (p := ⟨w3.heap.size, 0, none⟩) (by show w3.heap.size < W3.heap.size; have := hsW'.out; omega)).trans n9
  have J10h := hid_in J10r
  clear HM J10 k9 m9 n9 b10 J10r o10
  go_wp2_with (go_at_call 11; refine HE.mono ?_)
  rintro e w11 ⟨rfl, b11⟩
  have B11 := B10.trans (b11.mono B10.size)
  have k11 := (b11.cell (p := ⟨w.heap.size, 0, none⟩) (World.block_lt_of_cell? w10 _ k10)).trans k10
  have n11 := (b11.cell (p := ⟨w3.heap.size, 0, none⟩) (World.block_lt_of_cell? w10 _ n10)).trans n10
  have q11 := (b11.cell (p := ⟨w5.heap.size, 0, none⟩) (World.block_lt_of_cell? w10 _ q10)).trans q10
  have J11 : BM W3.heap.size w11 (.slice a5 nb5 c5) bs5 [⟨.slice (some ⟨w5.heap.size, 0, none⟩) 1 1, 24, 1, 1, [.slice a5 nb5 c5]⟩] := (Mem.below J10h.out b11).perm (by rw [← List.singleton_append]; exact List.perm_append_comm)
  have HM := markSheet_p B11.size J11 hs5'.out
  have he2 : ¬ ((endB 1 bs5 : Int) < 0) := by omega
  have he3 : ((endB 1 bs5 : Int) != (endB 1 bs5 : Int)) = false := by simp
  clear HE k10 n10 q10 b11 he1 J11 J10h
  go_wp2_with (go_at_call 13; refine HM.mono ?_)
  rintro e w12 ⟨rfl, J12, b12⟩
  have B12 := B11.trans b12
  have k12 := (b12.cell (p := ⟨w.heap.size, 0, none⟩) (by show w.heap.size < W3.heap.size; have := hsW'.out; omega)).trans k11
  have n12 := (b12.cell (p := ⟨w3.heap.size, 0, none⟩) (by show w3.heap.size < W3.heap.size; have := hsW'.out; omega)).trans n11
  have q12 := row_box (Mem.head (Mem.right J12))
  have o12 := hid_in J12.own
  have HH := heldSheet_p o12.out hs5'.out
  clear HM J12 k11 n11 q11 b12
  go_wp2_with (go_at_call 14; refine HH.mono ?_)
  rintro e w13 ⟨rfl, b13⟩
  have B13 := B12.trans (b13.mono B12.size)
  have k13 := (b13.cell (p := ⟨w.heap.size, 0, none⟩) (World.block_lt_of_cell? w12 _ k12)).trans k12
  have n13 := (b13.cell (p := ⟨w3.heap.size, 0, none⟩) (World.block_lt_of_cell? w12 _ n12)).trans n12
  have q13 := (b13.cell (p := ⟨w5.heap.size, 0, none⟩) (World.block_lt_of_cell? w12 _ q12)).trans q12
  have g13 := g3a.trans (B13.mono g3a.size)
  have o13 := hid_in (o12.out.below b13)
  have HT := toSheet_p (hin.out.below g13) hsm.out
  clear HH o12 k12 n12 q12 b13
  go_wp2_with (go_at_call 17; refine HT.mono ?_)
  rintro e w14 ⟨v14, bs14, rfl, hp14, o14, b14⟩
  have g14 := g13.trans (b14.mono g13.size)
  have B14 := B13.trans (b14.mono B13.size)
  have n14 := (b14.cell (p := ⟨w3.heap.size, 0, none⟩) (World.block_lt_of_cell? w13 _ n13)).trans n13
  have q14 := (b14.cell (p := ⟨w5.heap.size, 0, none⟩) (World.block_lt_of_cell? w13 _ q13)).trans q13
  have HV := implTrim_p o14.bin (hsm.out.same hp14) (hst'.out.below g14)
  rw [hp14] at HV
  have p14 := hid_in (o13.out.below b14)
  clear HT o13 k13 n13 q13 b14 o14 hp14
  go_wp2_with (go_at_call 22; refine HV.mono ?_)
  rintro e w15 ⟨v15, bs15, rfl, hp15, o15, b15⟩
  have B15 := B14.trans (b15.mono B14.size)
  have hs15 : BlocksSmall bs15 := trimS_small hsm.out hp15
  obtain ⟨a15, c15, rfl, _⟩ := own_form o15.row
  have x15 : Below w15.heap.size w15 (w15.alloc (.cells #[.slice a15 bs15.length c15] 24)) := (Below.refl _ _).alloc (Nat.le_refl _) _
  have z15 := one_box (w := w15) (cs := #[.slice a15 bs15.length c15]) (T := 24) 0
  simp only [List.getElem?_toArray, List.getElem?_cons_zero] at z15
  have n15 := (x15.cell (p := ⟨w3.heap.size, 0, none⟩) (Nat.lt_of_lt_of_le (World.block_lt_of_cell? w14 _ n14) b15.size)).trans ((b15.cell (p := ⟨w3.heap.size, 0, none⟩) (World.block_lt_of_cell? w14 _ n14)).trans n14)
  have q15 := (x15.cell (p := ⟨w5.heap.size, 0, none⟩) (Nat.lt_of_lt_of_le (World.block_lt_of_cell? w14 _ q14) b15.size)).trans ((b15.cell (p := ⟨w5.heap.size, 0, none⟩) (World.block_lt_of_cell? w14 _ q14)).trans q14)
  have B15a := B15.trans (x15.mono B15.size)
  have HE := eqSheet_p (o15.bin.below x15) (HN3.out _ (x3.trans (B15a.mono x3.size))) (hp15.trans hp3'.out.symm) ⟨hs15.1, fun x hx => (hs15.2 x hx).2⟩
  have p15 := hid_in ((p14.out.below b15).below x15)
  clear HV hp15 hs15 o15 b15 p14 n14 q14 x15
  generalize bs15.length = n15' at *
  generalize hW15 : w15.alloc (.cells #[.slice a15 n15' c15] 24) = W15 at *
  go_wp2_with (go_at_call 11; (try rw [hW15]); refine HE.mono ?_)
  clear hW15
  rintro e w16 ⟨rfl, b16⟩
  have B16 := B15a.trans (b16.mono B15a.size)
  have q16 := (b16.cell (p := ⟨w5.heap.size, 0, none⟩) (World.block_lt_of_cell? W15 _ q15)).trans q15
  have HH := heldSheet_p (p15.out.below b16) hs5'.out
  clear HE b16
  go_wp2_with (go_at_call 14; refine HH.mono ?_)
  rintro e w17 ⟨rfl, b17⟩
  have B17 := B16.trans (b17.mono B16.size)
  have g17 := g3a.trans (B17.mono g3a.size)
  go_wp2
  go_ret
  exact ⟨rfl, g17⟩
end Go.Proofs.YtnnpgnkmmahomabGreatDoor
