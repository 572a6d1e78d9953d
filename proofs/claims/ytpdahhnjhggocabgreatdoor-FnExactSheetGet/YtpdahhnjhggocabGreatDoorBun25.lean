import Derived.Test.YtpdahhnjhggocabGreatDoorBun24
import Derived.Test.YtpdahhnjhggocabGreatDoorBun23
import Derived.Test.YtpdahhnjhggocabGreatDoorBun22
import Derived.Test.YtpdahhnjhggocabGreatDoorBun19
namespace Go.Proofs.YtpdahhnjhggocabGreatDoor
open Go.RowKit
set_option maxHeartbeats 4000000 in
set_option maxRecDepth 100000 in
theorem l5Of_any {b : BAt} (key : ByteArray) {w : World} (hb : BlockIn w b) (hs : LinesSmall b.ls) : Calls Tryz.prog 69 #[.agg #[.string b.kind, .string b.name, b.v], .string key] w fun e w' => ∃ v' ls', e = .returned v' ∧ ls'.map LAt.plain = ofK (b.ls.map LAt.plain) key ∧ LinesOwn w.heap.size w' v' ls' ∧ LinesSmall ls' ∧ Below w.heap.size w w' := by
  obtain ⟨bk, bn, bv, ls⟩ := b
  unfold BlockIn at hb
  simp only at *
  obtain ⟨ao, cap, rfl⟩ := hb.1.form
  have hof : (ls.filter fun x => x.key.toList == key.toList).map LAt.plain = ofK (ls.map LAt.plain) key := by
    unfold ofK; rw [List.filter_map]; rfl
  have HOF := hid_in hof
  clear hof
  have hl := hs.1
  generalize hn : ls.length = len at *
  have en := hid_in hn
  clear hn
  obtain ⟨i0, hi, hz0, hz1, hz2⟩ := info_parts infoLine
  have G := (Below.refl w.heap.size w).alloc (Nat.le_refl _) (.cells #[.string bk, .string bn, .slice ao len cap] 64)
  have k2 := one_box (w := w) (cs := #[.string bk, .string bn, .slice ao len cap]) (T := 64) 2
  simp only [List.getElem?_toArray, List.getElem?_cons_zero, List.getElem?_cons_succ] at k2
  have hb0 := hb.below G
  have hown0 := World.ownsRow_lit (base := w.heap.size + 1) (e := 82) (size := 2) (w.alloc (.cells #[.string bk, .string bn, .slice ao len cap] 64)) #[] 0 (by simp) (by decide) rfl
  simp only [World.size_alloc] at hown0
  have b00 := (Below.refl (w.heap.size + 1) (w.alloc (.cells #[.string bk, .string bn, .slice ao len cap] 64))).alloc (by simp) (.cells #[] 82)
  clear hb
  go_enter Tryz.func69, Tryz.ntmps69
  go_wp2
  go_loopw [5, 6] (fun u i wr => ∃ (j : Nat) (done : List LAt), j ≤ len ∧ i = .int .i64 (j : Int) ∧ done = (ls.take j).filter (fun x => x.key.toList == key.toList) ∧ wr.ownsRow (w.heap.size + 1) 82 2 u done.length (done.flatMap LAt.cells) ∧ Below (w.heap.size + 1) (w.alloc (.cells #[.string bk, .string bn, .slice ao len cap] 64)) wr) (fun _ i _ => len - (intOf i).toNat)
  case atStart => exact ⟨0, [], by omega, rfl, by simp, by simpa using hown0, b00⟩
  case round =>
    obtain ⟨j, done, hj, rfl, hdn, hm, bw⟩ := hrel
    obtain ⟨qa, qc, rfl, _⟩ := own_form hm
    have hdl : done.length ≤ j := by rw [hdn]; exact Nat.le_trans (List.length_filter_le _ _) (by simp; omega)
    have k3 := (bw.cell (p := ⟨w.heap.size, 2, none⟩) (by simp)).trans k2
    have hszw := bw.size
    simp only [World.size_alloc] at hszw
    by_cases hlt : j < len
    · obtain ⟨D, x, T, e0, hD⟩ := split1 ls j (by have := en.out; omega)
      have h5 := hb0.below (by simpa using bw)
      have hxm : x ∈ ls := by rw [e0]; simp
      have h6 := h5
      rw [e0] at h6
      obtain ⟨g, off, rfl, c1, c2⟩ := h6.1.line
      obtain ⟨ax, cx, e1⟩ := HasRow.form (h5.2 x hxm)
      have hst := hid_in (show (ls.take (j + 1)).filter (fun x => x.key.toList == key.toList) = done ++ [x].filter (fun x => x.key.toList == key.toList) from by rw [hdn, e0, ← hD, take_front, take_one, List.filter_append])
      rw [e1] at c2
      rw [hD] at c1 c2
      have hB0 : (0 : Int) ≤ (j : Int) := by omega
      have hB1 : (j : Int) < (len : Int) := by omega
      have hcells := hid_in (show (LAt.cells x) = [.string x.key, .slice ax x.ws.length cx] from by unfold LAt.cells; rw [e1])
      have hm' := hid_in hm
      have hbase := hid_in (show ∀ k, (Value.slice qa done.length qc).ownBlock = some k → w.heap.size + 1 ≤ k from fun k hk => (hm.lt k hk).1)
      cases hp : (x.key.toList == key.toList)
      · have hst' := hid_in (show (ls.take (j + 1)).filter (fun x => x.key.toList == key.toList) = done from by rw [hst.out]; simp [hp])
        clear h5 h6 hdn hm e0 e1 hD hxm hst hcells hb0 hs
        generalize x.key = xk at *
        generalize x.ws.length = nx at *
        go_wp2
        go_roundw
        case rel => exact ⟨j + 1, done, by omega, by go_num, hst'.out.symm, hm'.out, bw⟩
        case measure => simp [intOf]; omega
      · have hst' := hid_in (show (ls.take (j + 1)).filter (fun x => x.key.toList == key.toList) = done ++ [x] from by rw [hst.out]; simp [hp])
        have hone := lcells_one (ls := [x]) (fun y hy => by rw [List.mem_singleton.1 hy]; exact ⟨_, _, _, e1⟩)
        rw [List.flatMap_singleton, hcells.out] at hone
        clear h5 h6 hdn hm e0 e1 hD hxm hst hb0 hs
        have hm3 := hm'.out.alloc (.cells #[.string x.key, .slice ax x.ws.length cx] 82)
        have b4 := bw.alloc hszw (.cells #[.string x.key, .slice ax x.ws.length cx] 82)
        have hrow := lit_has wr #[.string x.key, .slice ax x.ws.length cx] 82 2 rfl
        go_wp2_with (at_builtin; refine wpList_append_has (by rfl) _ _ 41 (by rfl) (w.heap.size + 1) 82 i0 _ 2 40 Tryz.underlying41 hi hz0 hz1 hz2 rfl (by decide) _ done.length _ (by rfl) hm3 _ 1 _ (by rfl) hrow hone ?c3 ?c4 (Nat.le_trans hszw (by simp)) ?_)
        case c3 => unfold maxLen; omega
        case c4 => omega
        intro ao' cap' w5 hown5 hg5 _
        have hB5 := b4.grown hg5 (by simp; omega) hbase.out
        have HO := hid_in (show w5.ownsRow (w.heap.size + 1) 82 2 (.slice ao' (done.length + 1) cap') (done ++ [x]).length ((done ++ [x]).flatMap LAt.cells) from by
          rw [List.flatMap_append, List.flatMap_singleton, hcells.out, List.length_append]; exact hown5)
        clear hm3 hrow hone hown5 hg5 hbase hm'
        go_wp2
        go_roundw
        case rel => exact ⟨j + 1, done ++ [x], by omega, by go_num, hst'.out.symm, HO.out, hB5⟩
        case measure => simp [intOf]; omega
    · obtain rfl : j = len := by omega
      have hls : ls.take j = ls := by rw [← en.out, List.take_length]
      rw [hls] at hdn
      have h5 := hb0.below (by simpa using bw)
      have hin : LinesIn wr (.slice qa done.length qc) done := ⟨own_has hm, fun x hx => h5.2 x (by rw [hdn] at hx; exact (List.mem_filter.1 hx).1)⟩
      have hsd : LinesSmall done := ⟨by omega, fun x hx => hs.2 x (by rw [hdn] at hx; exact (List.mem_filter.1 hx).1)⟩
      have HL := l3Lines_any hin hsd
      have g5 : Below w.heap.size w wr := G.trans (bw.mono (by omega))
      have HOF2 := hid_in (show done.map LAt.plain = ofK (ls.map LAt.plain) key from by rw [hdn]; exact HOF.out)
      have HSD := hid_in hsd
      clear h5 hb0 hs hm hdn hls hin hsd HOF
      generalize done.length = nd at *
      go_wp2_with (go_at_call 90; refine HL.mono ?_)
      first | rintro e w7 v7 rfl ls7 hp7 o7 b7 | rintro e w7 v7 ls7 rfl hp7 o7 b7 | rintro e w7 ⟨v7, ls7, rfl, hp7, o7, b7⟩
      have HG := hid_in (hp7.trans HOF2.out)
      have o7' := hid_in (o7.mono g5.size)
      have g8 := g5.trans (b7.mono g5.size)
      have hs7 := hid_in (HSD.out.same hp7)
      obtain ⟨va7, vc7, rfl, _⟩ := own_form o7.row
      clear HL o7 hp7 b7
      go_wp2
      go_ret
      first | exact ⟨_, ls7, rfl, HG.out, o7'.out, hs7.out, g8⟩ | exact ⟨_, rfl, ls7, HG.out, o7'.out, hs7.out, g8⟩
theorem one_line {B : Nat} {w w2 : World} {key : ByteArray} {v : Value} {ws : List (List UInt8)} (hB : B ≤ w.heap.size) (o2 : w2.ownsRow w.heap.size 9 1 v ws.length (strs ws)) (b2 : Below w.heap.size w w2) : LinesOwn B (w2.alloc (.cells #[.string key, v] 82)) (.slice (some ⟨w2.heap.size, 0, none⟩) 1 1) [⟨key, v, ws⟩] := by
  have m2 : Mem B w2 [LAt.row ⟨key, v, ws⟩] := (Mem.own1 (B := w.heap.size) (r := LAt.row ⟨key, v, ws⟩) o2).mono hB
  exact m2.cons (r := ⟨.slice (some ⟨w2.heap.size, 0, none⟩) 1 1, 82, 2, 1, [.string key, v]⟩) (World.ownsRow_lit (base := w2.heap.size) (e := 82) (size := 2) w2 #[.string key, v] 1 (Nat.le_refl _) (by decide) rfl) ((Below.refl _ _).alloc (Nat.le_refl _) _) (Nat.le_trans hB b2.size)
theorem lines_empty {B : Nat} {w : World} (hB : B ≤ w.heap.size) : LinesOwn B (w.alloc (.cells #[] 82)) (.slice (some ⟨w.heap.size, 0, none⟩) 0 0) [] := Mem.own1 (World.ownsRow_lit (base := B) (e := 82) (size := 2) w #[] 0 hB (by decide) rfl)
set_option maxHeartbeats 4000000 in
set_option maxRecDepth 100000 in
theorem specGet_any {v : Value} {bs : List BAt} (kind name key : ByteArray) {w : World} (hbs : BlocksIn w v bs) (hsm : BlocksSmall bs) : Calls Tryz.prog 26 #[.agg #[v], .string kind, .string name, .string key] w fun e w' => ∃ v' ls' bl, e = .returned (.tuple #[v', .bool bl]) ∧ (bl, ls'.map LAt.plain) = getS (bs.map BAt.plain) kind name key ∧ LinesOwn w.heap.size w' v' ls' ∧ LinesSmall ls' ∧ Below w.heap.size w w' := by
  obtain ⟨ao, cap, rfl⟩ := hbs.1.form
  have g0 := (Below.refl w.heap.size w).alloc (Nat.le_refl _) (.cells #[.slice ao bs.length cap] 24)
  have k0 := one_box (w := w) (cs := #[.slice ao bs.length cap]) (T := 24) 0
  simp only [List.getElem?_toArray, List.getElem?_cons_zero] at k0
  have l0 := World.block_lt_of_cell? _ _ k0
  have HF := l3Find_any kind name (hbs.below g0) hsm.1
  have hnb2 := hsm.1
  generalize hnb : bs.length = nb at *
  have enb := hid_in hnb
  clear hnb
  go_enter Tryz.func26, Tryz.ntmps26
  go_wp2_with (go_at_call 76; refine HF.mono ?_)
  first | rintro e w1 hf b1 | rintro e w1 ⟨hf, b1⟩
  have b1' : Below (w.alloc (.cells #[.slice ao nb cap] 24)).heap.size (w.alloc (.cells #[.slice ao nb cap] 24)) w1 := by simpa using b1
  have k1 := (b1'.cell (p := ⟨w.heap.size, 0, none⟩) l0).trans k0
  have g1 := g0.trans (b1'.mono g0.size)
  clear HF k0 b1 b1' g0
  have HR := l2Rule_any kind key w1
  obtain ⟨kf, rfl⟩ : ∃ kf : Int, e = .returned (.int .i64 kf) := by
    rcases hf with ⟨_, rfl⟩ | ⟨_, _, _, _, _, rfl⟩ <;> exact ⟨_, rfl⟩
  have HFH := hid_in hf
  clear hf
  go_wp2_with (go_at_call 73; refine HR.mono ?_)
  first | rintro e w2 b2 hr | rintro e w2 ⟨b2, hr⟩
  have k2 := (b2.cell (p := ⟨w.heap.size, 0, none⟩) (World.block_lt_of_cell? w1 _ k1)).trans k1
  have g2 := g1.trans (b2.mono g1.size)
  obtain ⟨kr, rfl⟩ : ∃ kr : Int, e = .returned (.int .i64 kr) := by
    rcases hr with ⟨_, rfl⟩ | ⟨_, _, _, _, _, rfl⟩ <;> exact ⟨_, rfl⟩
  have HRH := hid_in hr
  have HV := specValid_any (enb.out ▸ hbs.below g2) hsm
  rw [enb.out] at HV
  have l2 := World.block_lt_of_cell? w2 _ k2
  clear HR k1 b2 g1 hr
  go_wp2_with (go_at_call 61; refine HV.mono ?_)
  first | rintro e w3 rfl b3 | rintro e w3 ⟨rfl, b3⟩
  have k3 := (b3.cell (p := ⟨w.heap.size, 0, none⟩) l2).trans k2
  have g3 := g2.trans (b3.mono g2.size)
  have hsz3 := g3.size
  clear HV k2 b3 g2
  cases hok : sheetB (bs.map BAt.plain)
  · have HG := hid_in (getS_bad (bs := bs.map BAt.plain) kind name key hok)
    clear hok HFH HRH hbs hsm
    go_wp2
    go_ret2
    exact ⟨_, [], false, rfl, HG.out.symm, lines_empty hsz3, small_none, g3.alloc hsz3 _⟩
  have HOK := hid_in hok
  clear hok
  rcases HFH.out with ⟨hnone, hk⟩ | ⟨D, x, T, e0, hfind, hk⟩
  · simp only [Ending.returned.injEq, Value.int.injEq, true_and] at hk
    subst hk
    have HG := hid_in (getS_head (key := key) hnone)
    clear HFH HRH hbs hsm hnone
    go_wp2
    go_ret2
    exact ⟨_, [], false, rfl, HG.out.symm, lines_empty hsz3, small_none, g3.alloc hsz3 _⟩
  simp only [Ending.returned.injEq, Value.int.injEq, true_and] at hk
  subst hk
  have hd0 : ¬ ((D.length : Int) < 0) := by omega
  rcases HRH.out with ⟨hnone, hk⟩ | ⟨D', p, T', hR, hpick, hk⟩
  · simp only [Ending.returned.injEq, Value.int.injEq, true_and] at hk
    subst hk
    have HG := hid_in (getS_key (bs := bs.map BAt.plain) (name := name) hnone)
    clear HFH HRH hbs hsm hnone hfind e0
    go_wp2
    go_ret2
    exact ⟨_, [], false, rfl, HG.out.symm, lines_empty hsz3, small_none, g3.alloc hsz3 _⟩
  simp only [Ending.returned.injEq, Value.int.injEq, true_and] at hk
  subst hk
  have hd1 : ¬ ((D'.length : Int) < 0) := by omega
  have hxm : x ∈ bs := by rw [e0]; simp
  have h5 := hbs.below g3
  have h6 := h5
  rw [e0] at h6
  obtain ⟨g, off, rfl, c1, c2, c3⟩ := h6.1.block
  have hDl : D.length < nb := by rw [← enb.out, e0]; simp
  have HL := l5Of_any key (h5.2 x hxm) (hsm.2 x hxm).2
  obtain ⟨xa, xc, ex⟩ := (h5.2 x hxm).1.form
  have HN := hid_in (getS_hit HOK.out hpick hfind)
  have hpk := hid_in (show p.1 = key from (pick_place hpick).choose_spec.2.2)
  have hsmR := hid_in (rulesOf_smallD kind)
  have HS := fun W => specRules_any kind W
  rw [hR] at HS hsmR
  clear HFH HRH hbs hsm hfind h5 h6 hxm HOK hpick hR e0
  obtain ⟨xk, xn, xv, xl⟩ := x
  simp only [BAt.plain] at *
  subst ex
  generalize hnl : xl.length = nl at *
  clear hnl
  have i1 : (0 : Int) ≤ (D.length : Int) := by omega
  have i2 : (D.length : Int) < (nb : Int) := by omega
  generalize D.length = dl at *
  go_wp2_with (go_at_call 69; refine HL.mono ?_)
  first | rintro e w6 v6 rfl ls6 hp6 o6 hs6 b6 | rintro e w6 v6 ls6 rfl hp6 o6 hs6 b6 | rintro e w6 ⟨v6, ls6, rfl, hp6, o6, hs6, b6⟩
  have g6 := g3.trans (b6.mono g3.size)
  obtain ⟨va6, vc6, rfl, _⟩ := own_form o6.row
  have ho6 := hid_in (o6.mono g3.size)
  have hp6' := hid_in hp6
  have hs6' := hid_in hs6
  clear HL o6 hp6 hs6 b6 g3 k3 c1 c2 c3 hsz3
  go_wp2_with (go_at_call 68; refine (HS w6).mono ?_)
  rintro e w7 ⟨vr, L, rfl, hpl, hr, b7⟩
  clear HS
  obtain ⟨D2, r, T2, eL, hD2⟩ := split1 L D'.length (by have := congrArg List.length hpl; simp at this; omega)
  have hrp : r.plain = p := by
    rw [eL, List.map_append, List.map_cons] at hpl
    have := (List.append_inj hpl (by simp [hD2])).2
    exact (List.cons.inj this).1
  subst eL
  have hrl : D'.length < (D2 ++ r :: T2).length := by rw [← hD2]; simp
  have hr' := hr.rm
  obtain ⟨ra, rc, rfl, hf⟩ := own_form (show w7.ownsRow w6.heap.size 105 4 vr (D2 ++ r :: T2).length ((D2 ++ r :: T2).flatMap RAt.cells) from Mem.head hr)
  obtain ⟨gr, rfl⟩ : ∃ gr, ra = some ⟨gr, 0, none⟩ := by
    rcases hf with hf | hf
    · simp at hf
    · exact hf
  have q0 := hr'.cell 0 (by decide)
  have q1 := hr'.cell 1 (by decide)
  have q2 := hr'.cell 2 (by decide)
  have q3 := hr'.cell 3 (by decide)
  have hdef := own_has hr'.defs
  obtain ⟨av, cv, eva, _⟩ := own_form hr'.args
  obtain ⟨ad, cd, evd, _⟩ := own_form hr'.defs
  have hds : r.ds.length ≤ 3 := (hsmR.out p (by simp)).1 |> fun h => by rw [← hrp] at h; exact h
  have hdd := hid_in (show r.ds.length ≤ 1048576 ∧ ∀ y ∈ r.ds, y.length ≤ 1048576 from by
    have h := hsmR.out p (by simp)
    rw [← hrp] at h
    exact ⟨Nat.le_trans h.1 (by decide), fun y hy => Nat.le_trans (h.2 y hy) (by decide)⟩)
  obtain ⟨rk, rva, rns, rm, rvd, rds⟩ := r
  simp only [RAt.cells, RAt.plain, hD2, List.getElem?_cons_zero, List.getElem?_cons_succ, Nat.add_zero] at *
  subst eva evd
  subst hrp
  simp only at hpk
  have g7 := g6.trans (b7.mono g6.size)
  have bR := (Below.refl w7.heap.size w7).alloc (Nat.le_refl _) (.cells #[.string rk, .slice av rns.length cv, .bool rm, .slice ad rds.length cd] 105)
  have g8 := g7.trans (bR.mono g7.size)
  have ho8 := hid_in ((ho6.out.below b7).below bR)
  have s2 := one_box (w := w7) (cs := #[.string rk, .slice av rns.length cv, .bool rm, .slice ad rds.length cd]) (T := 105) 2
  have s3 := one_box (w := w7) (cs := #[.string rk, .slice av rns.length cv, .bool rm, .slice ad rds.length cd]) (T := 105) 3
  simp only [List.getElem?_toArray, List.getElem?_cons_zero, List.getElem?_cons_succ] at s2 s3
  have hdef8 := hid_in (hdef.below bR)
  have i3 : (0 : Int) ≤ (D'.length : Int) := by omega
  generalize (D2 ++ (⟨rk, .slice av rns.length cv, rns, rm, .slice ad rds.length cd, rds⟩ : RAt) :: T2).length = nr at *
  have i4 : (D'.length : Int) < (nr : Int) := by omega
  have hof := hid_in hp6'.out
  have hgone := hid_in (show ls6 = [] → rm = false → tellL (rk, rns, rm, rds) (xl.map LAt.plain) = [⟨key, rds⟩] from fun h hm => by
    unfold tellL
    rw [show ((rk, rns, rm, rds) : Plain).1 = key from hpk.out, ← hof.out, h]
    simp [defL, hm, hpk.out])
  have hstay := hid_in (show ls6 ≠ [] ∨ rm = true → tellL (rk, rns, rm, rds) (xl.map LAt.plain) = ls6.map LAt.plain from fun h => by
    unfold tellL
    rw [show ((rk, rns, rm, rds) : Plain).1 = key from hpk.out, ← hof.out]
    rcases h with h | h
    · cases ls6 with
      | nil => exact absurd rfl h
      | cons a l => rfl
    · simp [h])
  clear hr hr' hpl hdef b7 hof hp6' ho6 hD2 hsmR hDl
  generalize hnn : rns.length = nn at *
  generalize hnd : rds.length = nd at *
  have ednd := hid_in hnd
  clear hnn hnd
  generalize D'.length = dr at *
  by_cases h0 : ls6.length = 0
  · have hfe : ls6 = [] := List.length_eq_zero_iff.1 h0
    cases rm
    · have HG := hid_in (show (true, [(⟨key, rds⟩ : PLine)]) = getS (bs.map BAt.plain) kind name key from by rw [HN.out, hgone.out hfe rfl])
      rw [h0]
      have hsz8 := g8.size
      obtain ⟨j0, hj9, hy0, hy1, hy2⟩ := info_parts info9
      have bA := (Below.refl (w7.alloc (.cells #[.string rk, .slice av nn cv, .bool false, .slice ad nd cd] 105)).heap.size (w7.alloc (.cells #[.string rk, .slice av nn cv, .bool false, .slice ad nd cd] 105))).alloc (Nat.le_refl _) (.cells #[] 9)
      have hrow := hid_in (hdef8.out.below bA)
      have s3' := (bA.cell (p := ⟨w7.heap.size, 3, none⟩) (by simp)).trans s3
      have hown0 := World.ownsRow_lit (base := (w7.alloc (.cells #[.string rk, .slice av nn cv, .bool false, .slice ad nd cd] 105)).heap.size) (e := 9) (size := 1) (w7.alloc (.cells #[.string rk, .slice av nn cv, .bool false, .slice ad nd cd] 105)) #[] 0 (Nat.le_refl _) (by decide) rfl
      simp only [World.size_alloc] at hown0
      have hone := strs_one rds
      generalize hWS : strs rds = WS at *
      have eWS := hid_in hWS
      clear hstay hgone hfe HN ho8 hs6' hdef8 hWS
      go_wp2_with (at_builtin; refine wpList_append_has (by rfl) _ _ 61 (by rfl) (w7.heap.size + 1) 9 j0 (.string ⟨#[]⟩) 1 16 Tryz.underlying61 hj9 hy0 hy1 hy2 rfl (by decide) _ 0 [] (by rfl) hown0 _ nd WS (by rfl) hrow.out hone ?c3 ?c4 (by simp) ?_)
      case c3 => unfold maxLen; omega
      case c4 => omega
      intro ao' cap' w9 o9 g9 _
      have B9 := bA.grown g9 (by simp) (fun k hk => by have := (hown0.lt k hk).1; simp; omega)
      have HL := hid_in (one_line (B := w.heap.size) (key := key) (ws := rds) hsz8 (by rw [ednd.out, eWS.out]; simpa using o9) B9)
      have gF := (g8.trans (B9.mono hsz8)).alloc (Nat.le_trans hsz8 B9.size) (.cells #[.string key, .slice ao' nd cap'] 82)
      clear hrow hone o9 g9 B9 bA s2 s3 s3' q0 q1 q2 q3 hown0
      go_wp2
      go_ret2
      exact ⟨_, [⟨key, _, rds⟩], true, rfl, HG.out, HL.out, ⟨by simp, fun x hx => by rw [List.mem_singleton.1 hx]; exact ednd.out ▸ hdd.out⟩, gF⟩
    · have HG := hid_in (show (true, ls6.map LAt.plain) = getS (bs.map BAt.plain) kind name key from by rw [HN.out, hstay.out (.inr rfl)])
      clear hstay hgone hfe HN hdef8
      rw [h0] at ho8 ⊢
      go_wp2
      go_ret2
      exact ⟨_, ls6, true, rfl, HG.out, ho8.out, hs6'.out, g8⟩
  · have HG := hid_in (show (true, ls6.map LAt.plain) = getS (bs.map BAt.plain) kind name key from by rw [HN.out, hstay.out (.inl (fun e => h0 (by rw [e]; rfl)))])
    have h0' : ((ls6.length : Int) == 0) = false := by rw [beq_eq_false_iff_ne]; omega
    clear hstay hgone HN hdef8
    go_wp2
    go_ret2
    exact ⟨_, ls6, true, rfl, HG.out, ho8.out, hs6'.out, g8⟩
end Go.Proofs.YtpdahhnjhggocabGreatDoor
namespace Go.Proofs.YtpdahhnjhggocabGreatDoor
open Go.RowKit
theorem specGet_p {v : Value} {bs : List BAt} (kind name key : ByteArray) {w : World} (hbs : BlocksIn w v bs) (hsm : BlocksSmall bs) : Calls Tryz.prog 26 #[.agg #[v], .string kind, .string name, .string key] w fun e w' => LsPost (getS (bs.map BAt.plain) kind name key) w e w' :=
  (specGet_any kind name key hbs hsm).mono fun e w' ⟨v', ls', bl, he, hp, ho, hs, hb⟩ => ⟨v', ls', by rw [he, ← hp], by rw [← hp], ho, hs, hb⟩
theorem implGet_p {v : Value} {bs : List BAt} (kind name key : ByteArray) {w : World} (hbs : BlocksIn w v bs) (hsm : BlocksSmall bs) (hst : StdAt w) : Calls Tryz.prog 27 #[.agg #[v], .string kind, .string name, .string key] w fun e w' => LsPost (getS (bs.map BAt.plain) kind name key) w e w' :=
  (implGet_any kind name key hbs hsm hst).mono fun e w' ⟨v', ls', bl, he, hp, ho, hs, hb⟩ => ⟨v', ls', by rw [he, ← hp], by rw [← hp], ho, hs, hb⟩
set_option maxHeartbeats 8000000 in
set_option maxRecDepth 100000 in
theorem getLaw_any {v : Value} {bs : List BAt} (kind name key : ByteArray) {w : World} (h : BlocksIn w v bs) (hw : BlocksWide bs) (hst : StdAt w) : Calls Tryz.prog 7 #[.agg #[v], .string kind, .string name, .string key] w fun e w' => e = .returned (.bool true) ∧ Below w.heap.size w w' := by
  obtain ⟨ao, cap, rfl⟩ := h.1.form
  have g0 : Below w.heap.size w (w.alloc (.cells #[.slice ao bs.length cap] 35)) := (Below.refl _ _).alloc (Nat.le_refl _) _
  have k0 := one_box (w := w) (cs := #[.slice ao bs.length cap]) (T := 35) 0
  simp only [List.getElem?_toArray, List.getElem?_cons_zero] at k0
  have l0 := World.block_lt_of_cell? _ _ k0
  have HZ := szSheet_any (left := 1048576) (h.below g0) hw (Nat.le_refl _)
  by_cases q1 : (1048576 : Int) < (kind.size : Int)
  · clear HZ h hw hst
    go_enter Tryz.func7, Tryz.ntmps7
    go_wp2
    go_ret
    exact ⟨rfl, g0⟩
  by_cases q2 : (1048576 : Int) < (name.size : Int)
  · clear HZ h hw hst
    go_enter Tryz.func7, Tryz.ntmps7
    go_wp2
    go_ret
    exact ⟨rfl, g0⟩
  by_cases q3 : (1048576 : Int) < (key.size : Int)
  · clear HZ h hw hst
    go_enter Tryz.func7, Tryz.ntmps7
    go_wp2
    go_ret
    exact ⟨rfl, g0⟩
  go_enter Tryz.func7, Tryz.ntmps7
  go_wp2_with (go_at_call 18; refine HZ.mono ?_)
  rintro e w1 ⟨rfl | ⟨r, hr, rfl, hs⟩, b1⟩
  · clear HZ h hw hst
    go_wp2
    go_ret
    exact ⟨rfl, g0.trans (b1.mono g0.size)⟩
  have hr0 : ¬ ((r : Int) < 0) := by omega
  have k1 := (b1.cell (p := ⟨w.heap.size, 0, none⟩) l0).trans k0
  have g1 := g0.trans (b1.mono g0.size)
  clear HZ k0 b1 g0
  have HT := toSheet_p (h.below g1) hs
  go_wp2_with (go_at_call 20; refine HT.mono ?_)
  rintro e w2 ⟨v2, bs2, rfl, hp2, o2, b2⟩
  have HV := specGet_p kind name key o2.bin (hs.same hp2)
  rw [hp2] at HV
  have k2 := (b2.cell (p := ⟨w.heap.size, 0, none⟩) (World.block_lt_of_cell? w1 _ k1)).trans k1
  have g2 := g1.trans (b2.mono g1.size)
  clear HT o2 hp2 k1 b2 g1
  generalize hG : getS (bs.map BAt.plain) kind name key = G at HV
  have eG := hid_in hG
  clear hG
  obtain ⟨gb, gl⟩ := G
  have hbb : (gb != gb) = false := by simp
  go_wp2_with (go_at_call 26; refine HV.mono ?_)
  rintro e w3 ⟨v3, ls3, rfl, hp3, o3, hs3, b3⟩
  have k3 := (b3.cell (p := ⟨w.heap.size, 0, none⟩) (World.block_lt_of_cell? w2 _ k2)).trans k2
  have g3 := g2.trans (b3.mono g2.size)
  have in3 := o3.lin
  obtain ⟨a3, c3, rfl, _⟩ := own_form o3.row
  clear HV o3 k2 b3 g2
  have HT := toSheet_p (h.below g3) hs
  have hp3' := hid_in hp3
  clear hp3
  go_wp2_with (go_at_call 20; refine HT.mono ?_)
  rintro e w4 ⟨v4, bs4, rfl, hp4, o4, b4⟩
  have k4 := (b4.cell (p := ⟨w.heap.size, 0, none⟩) (World.block_lt_of_cell? w3 _ k3)).trans k3
  obtain ⟨a4, c4, rfl, _⟩ := own_form o4.row
  have b5' := b4.alloc b4.size (.cells #[.slice a4 bs4.length c4] 24)
  have g5 := g3.trans (b5'.mono g3.size)
  have x5 : Below w4.heap.size w4 (w4.alloc (.cells #[.slice a4 bs4.length c4] 24)) := (Below.refl _ _).alloc (Nat.le_refl _) _
  have k5 := (x5.cell (p := ⟨w.heap.size, 0, none⟩) (World.block_lt_of_cell? w4 _ k4)).trans k4
  have m5 := one_box (w := w4) (cs := #[.slice a4 bs4.length c4]) (T := 24) 0
  simp only [List.getElem?_toArray, List.getElem?_cons_zero] at m5
  have o5 := o4.below x5
  have hs4 := hs.same hp4
  have HV := implGet_p kind name key o5.bin hs4 (hst.below g5)
  rw [hp4, eG.out] at HV
  have hl5 := World.block_lt_of_cell? _ _ k5
  have hl5' := World.block_lt_of_cell? _ _ m5
  have hp4' := hid_in hp4
  have hl3 : w.heap.size < w3.heap.size := World.block_lt_of_cell? w3 _ k3
  clear HT k3 k4 o4 b4 hp4
  go_wp2_with (go_at_call 27; refine HV.mono ?_)
  rintro e w6 ⟨v6, ls6, rfl, hp6, o6, hs6, b6⟩
  have b6' : Below (w4.alloc (.cells #[.slice a4 bs4.length c4] 24)).heap.size (w4.alloc (.cells #[.slice a4 bs4.length c4] 24)) w6 := b6
  have k6 := (b6'.cell (p := ⟨w.heap.size, 0, none⟩) hl5).trans k5
  have m6 := (b6'.cell (p := ⟨w4.heap.size, 0, none⟩) hl5').trans m5
  have Bx := b5'.trans (b6'.mono b5'.size)
  have J6 : Mem w3.heap.size w6 (brows (.slice a4 bs4.length c4) bs4 ++ lrows v6 ls6) := (Mem.join o5 o6 b6' b5'.size).perm List.perm_append_comm
  obtain ⟨a6, c6, rfl, _⟩ := own_form o6.row
  have hp63 := hid_in (show ls6.map LAt.plain = ls3.map LAt.plain from hp6.trans hp3'.out.symm)
  have HE := eqLines_p o6.lin (in3.below Bx) hp63.out hs6
  have J6' := hid_in J6
  have hs6' := hid_in hs6
  have in3' := hid_in in3
  have HN3 := hid_in (show ∀ W, Below w3.heap.size w3 W → LinesIn W (.slice a3 ls3.length c3) ls3 from fun W hW => in3.below hW)
  clear HV J6 o6 o5 b6 b6' hp6 hs6 in3 k5 m5 hl5 hl5' x5 b5' g5
  generalize hn3 : ls3.length = n3 at *
  generalize hn6 : ls6.length = n6 at *
  go_wp2_with (go_at_call 28; refine HE.mono ?_)
  rintro e w7 ⟨rfl, b7⟩
  have k7 := (b7.cell (p := ⟨w.heap.size, 0, none⟩) (World.block_lt_of_cell? w6 _ k6)).trans k6
  have m7 := (b7.cell (p := ⟨w4.heap.size, 0, none⟩) (World.block_lt_of_cell? w6 _ m6)).trans m6
  have B7 := Bx.trans (b7.mono Bx.size)
  have g7 := g3.trans (B7.mono g3.size)
  have J7 := hid_in (Mem.below J6'.out b7)
  have HT : ∀ W, Below w7.heap.size w7 W → Calls Tryz.prog 20 #[.agg #[.slice ao bs.length cap]] W fun e w' => ∃ v' bs', e = .returned (.agg #[v']) ∧ bs'.map BAt.plain = bs.map BAt.plain ∧ BlocksOwn W.heap.size w' v' bs' ∧ Below w7.heap.size w7 w' := fun W hW => (toSheet_any (h.below (g7.trans (hW.mono g7.size))) hs).mono fun e w' ⟨v', bs', he, hp, ho, hb⟩ => ⟨v', bs', he, hp, ho, hW.trans (hb.mono hW.size)⟩
  have o7 : BlocksIn w7 (.slice a4 bs4.length c4) bs4 := (show BlocksOwn w3.heap.size w7 (.slice a4 bs4.length c4) bs4 from J7.out.left).bin
  have HE2 := hid_in (show ∀ (W : World) v' bs', Below w7.heap.size w7 W → bs'.map BAt.plain = bs.map BAt.plain → BlocksIn W v' bs' → Calls Tryz.prog 14 #[.agg #[.slice a4 bs4.length c4], .agg #[v']] W fun e w' => e = .returned (.bool true) ∧ Below w7.heap.size w7 w' from fun W v' bs' hW hp ho => (eqSheet_any (o7.below hW) ho (hp4'.out.trans hp.symm) ⟨hs4.1, fun x hx => (hs4.2 x hx).2⟩).mono fun e w' ⟨he, hb⟩ => ⟨he, hW.trans (hb.mono hW.size)⟩)
  have hdr : Below w7.heap.size w7 w7.drew := (Below.refl _ _).drew
  have hl7 := World.block_lt_of_cell? _ _ k7
  have hm7 := World.block_lt_of_cell? _ _ m7
  have hs4' := hid_in hs4
  have hin := hid_in h
  have hsm := hid_in hs
  have hst' := hid_in hst
  clear HE k6 m6 h hs hs4 hw hst o7 b7 J6'
  generalize hnb : bs.length = nb at *
  generalize hnb4 : bs4.length = nb4 at *
  go_wp2
  go_region_held3 (fun W' => W'.cell? ⟨w.heap.size, 0, none⟩ = some (.slice ao nb cap) ∧ W'.cell? ⟨w4.heap.size, 0, none⟩ = some (.slice a4 nb4 c4))
    (first | exact ⟨k7, m7⟩ | exact ⟨(b9.cell hl7).trans k7, (b9.cell hm7).trans m7⟩ | exact ⟨(b8.cell hl7).trans k7, (b8.cell hm7).trans m7⟩)
    (first | (go_at_call 20; refine (HT _ hdr).mono ?_; rintro e w8 ⟨v8, bs8, rfl, hp8, o8, b8⟩; obtain ⟨a8, c8, rfl, _⟩ := own_form o8.row) | (go_at_call 14; refine (HE2.out _ _ bs8 b8 hp8 o8.bin).mono ?_; rintro e w9 ⟨rfl, b9⟩))
  have k9 := (b9.cell (p := ⟨w.heap.size, 0, none⟩) hl7).trans k7
  have m9 := (b9.cell (p := ⟨w4.heap.size, 0, none⟩) hm7).trans m7
  have B9 := B7.trans (b9.mono B7.size)
  have J9 : BM w3.heap.size w9 (.slice a4 nb4 c4) bs4 (lrows (.slice a6 n6 c6) ls6) := J7.out.below b9
  have HM := markSheet_p B9.size J9 hs4'.out
  have he1 : ¬ ((endB 1 bs4 : Int) < 0) := by omega
  clear HT HE2 J9 J7 k7 m7 hp8 o8 b8 b9
  go_wp2_with (go_at_call 16; refine HM.mono ?_)
  rintro e w10 ⟨rfl, J10, b10⟩
  have B10 := B9.trans b10
  have o10 : LinesOwn w3.heap.size w10 (.slice a6 n6 c6) ls6 := J10.right
  have HE := eqLines_p o10.lin (HN3.out _ B10) hp63.out hs6'.out
  have k10 := (b10.cell (p := ⟨w.heap.size, 0, none⟩) hl3).trans k9
  clear HM J10 k9 m9 b10
  go_wp2_with (go_at_call 28; refine HE.mono ?_)
  rintro e w11 ⟨rfl, b11⟩
  have B11 := B10.trans (b11.mono B10.size)
  have k11 := (b11.cell (p := ⟨w.heap.size, 0, none⟩) (World.block_lt_of_cell? w10 _ k10)).trans k10
  have HM := markLines_p B11.size (o10.below b11).lm hs6'.out
  have he2 : ¬ ((endL 1 ls6 : Int) < 0) := by omega
  have he3 : ((endL 1 ls6 : Int) != (endL 1 ls6 : Int)) = false := by simp
  clear HE o10 k10 b11 he1
  go_wp2_with (go_at_call 29; refine HM.mono ?_)
  rintro e w12 ⟨rfl, J12, b12⟩
  have B12 := B11.trans b12
  have k12 := (b12.cell (p := ⟨w.heap.size, 0, none⟩) hl3).trans k11
  have o12 := hid_in J12.own
  have HH := heldLines_p o12.out hs6'.out
  clear HM J12 k11 b12
  go_wp2_with (go_at_call 30; refine HH.mono ?_)
  rintro e w13 ⟨rfl, b13⟩
  have B13 := B12.trans (b13.mono B12.size)
  have k13 := (b13.cell (p := ⟨w.heap.size, 0, none⟩) (World.block_lt_of_cell? w12 _ k12)).trans k12
  have g13 := g3.trans (B13.mono g3.size)
  have o13 := hid_in (o12.out.below b13)
  have HT := toSheet_p (hin.out.below g13) hsm.out
  clear HH o12 k12 b13
  go_wp2_with (go_at_call 20; refine HT.mono ?_)
  rintro e w14 ⟨v14, bs14, rfl, hp14, o14, b14⟩
  have g14 := g13.trans (b14.mono g13.size)
  have B14 := B13.trans (b14.mono B13.size)
  have HV := implGet_p kind name key o14.bin (hsm.out.same hp14) (hst'.out.below g14)
  rw [hp14, eG.out] at HV
  have p14 := hid_in (o13.out.below b14)
  clear HT o13 k13 b14 o14 hp14
  go_wp2_with (go_at_call 27; refine HV.mono ?_)
  rintro e w15 ⟨v15, ls15, rfl, hp15, o15, hs15, b15⟩
  have B15 := B14.trans (b15.mono B14.size)
  have HE := eqLines_p o15.lin (HN3.out _ B15) (hp15.trans hp3'.out.symm) hs15
  obtain ⟨a15, c15, rfl, _⟩ := own_form o15.row
  have p15 := hid_in (p14.out.below b15)
  clear HV hp15 hs15 o15 b15 p14
  generalize ls15.length = n15 at *
  go_wp2_with (go_at_call 28; refine HE.mono ?_)
  rintro e w16 ⟨rfl, b16⟩
  have B16 := B15.trans (b16.mono B15.size)
  have HH := heldLines_p (p15.out.below b16) hs6'.out
  clear HE b16
  go_wp2_with (go_at_call 30; refine HH.mono ?_)
  rintro e w17 ⟨rfl, b17⟩
  have B17 := B16.trans (b17.mono B16.size)
  have g17 := g3.trans (B17.mono g3.size)
  go_wp2
  go_ret
  exact ⟨rfl, g17⟩
end Go.Proofs.YtpdahhnjhggocabGreatDoor
