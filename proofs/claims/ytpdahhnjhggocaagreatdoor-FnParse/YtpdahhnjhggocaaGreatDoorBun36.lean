import Derived.Test.YtpdahhnjhggocaaGreatDoorBun35
import Derived.Test.YtpdahhnjhggocaaGreatDoorBun34
import Derived.Test.YtpdahhnjhggocaaGreatDoorBun31
import Derived.Test.YtpdahhnjhggocaaGreatDoorBun30
import Derived.Test.YtpdahhnjhggocaaGreatDoorBun22
namespace Go.Proofs.YtpdahhnjhggocaaGreatDoor
open Go.RowKit
def sameN (ls : List PLine) (a : PLine) : Nat := ls.countP (fun o => o.key.toList == a.key.toList && decide (o.ws = a.ws))
def KeyPost (n m : Nat) (w : World) (e : Ending) (w' : World) : Prop := e = .returned (.tuple #[.int .i64 (n : Int), .int .i64 (m : Int)]) ∧ Below w.heap.size w w'
theorem keyN_snoc (ls : List PLine) (a : PLine) (k : ByteArray) : keyN (ls ++ [a]) k = keyN ls k + (if (a.key.toList == k.toList) = true then 1 else 0) := by
  unfold keyN; rw [List.countP_append, List.countP_singleton]
theorem sameN_snoc (ls : List PLine) (a x : PLine) : sameN (ls ++ [a]) x = sameN ls x + (if (a.key.toList == x.key.toList && decide (a.ws = x.ws)) = true then 1 else 0) := by
  unfold sameN; rw [List.countP_append, List.countP_singleton]
set_option maxHeartbeats 8000000 in
set_option maxRecDepth 100000 in
theorem l3Key_any {b : BAt} {x : LAt} {w : World} (hb : BlockIn w b) (hs : LinesSmall b.ls) (hx : LineIn w x) (hxs : x.ws.length ≤ 1048576) : Calls Tryz.prog 155 #[.agg #[.string b.kind, .string b.name, b.v], .agg #[.string x.key, x.v]] w fun e w' => KeyPost (keyN (b.ls.map LAt.plain) x.key) (sameN (b.ls.map LAt.plain) x.plain) w e w' := by
  obtain ⟨bk, bn, bv, bl⟩ := b
  obtain ⟨xk, xv, xw⟩ := x
  unfold BlockIn at hb
  unfold LineIn at hx
  simp only at *
  obtain ⟨la, lc, rfl⟩ := hb.1.form
  obtain ⟨xa, xc, rfl⟩ := hx.form
  have hc := two_boxes (w := w) (cs := #[.string bk, .string bn, .slice la bl.length lc]) (ds := #[.string xk, .slice xa xw.length xc]) (T := 46) (U := 115)
  have c2 := hc.1 2
  have d0 := hc.2 0
  have d1 := hc.2 1
  simp only [List.getElem?_toArray, List.getElem?_cons_zero, List.getElem?_cons_succ] at c2 d0 d1
  clear hc
  have G0 : Below w.heap.size w ((w.alloc (.cells #[.string bk, .string bn, .slice la bl.length lc] 46)).alloc (.cells #[.string xk, .slice xa xw.length xc] 115)) := ((Below.refl _ _).alloc (Nat.le_refl _) _).alloc (by simp) _
  have hbs := hid_in (hb.below G0)
  have hxi := hid_in (HasRow.below hx G0)
  have hsm := hid_in hs
  have hl := hs.1
  clear hb hs hx
  generalize hn : bl.length = len at *
  have en := hid_in hn
  clear hn
  generalize hnx : xw.length = nx at *
  have enx := hid_in hnx
  clear hnx
  generalize hW0 : (w.alloc (.cells #[.string bk, .string bn, .slice la len lc] 46)).alloc (.cells #[.string xk, .slice xa nx xc] 115) = W0 at *
  have eW0 := hid_in hW0
  clear hW0
  go_enter Tryz.func155, Tryz.ntmps155
  go_wp2
  go_loopw [6, 7, 8] (fun n m i wr => ∃ (D T : List LAt) (a c : Nat), i = .int .i64 (D.length : Int) ∧ n = .int .i64 (a : Int) ∧ m = .int .i64 (c : Int) ∧ D.length ≤ len ∧ a ≤ D.length ∧ c ≤ D.length ∧ Hid (bl = D ++ T) ∧ Hid (a = keyN (D.map LAt.plain) xk ∧ c = sameN (D.map LAt.plain) ⟨xk, xw⟩) ∧ Below W0.heap.size W0 wr) (fun _ _ i _ => len - (intOf i).toNat)
  case atStart =>
    rw [eW0.out]
    exact ⟨[], bl, 0, 0, rfl, rfl, rfl, by simp, by simp, by simp, (rfl : bl = [] ++ bl), (⟨rfl, rfl⟩ : (0 : Nat) = keyN [] xk ∧ (0 : Nat) = sameN [] ⟨xk, xw⟩), Below.refl _ _⟩
  case round =>
    obtain ⟨D, T, a, c, rfl, rfl, rfl, hDl, ha, hcl, hDT, hac, bw⟩ := hrel
    have e2 := (bw.cell (World.block_lt_of_cell? W0 _ c2)).trans c2
    have f0 := (bw.cell (World.block_lt_of_cell? W0 _ d0)).trans d0
    have f1 := (bw.cell (World.block_lt_of_cell? W0 _ d1)).trans d1
    cases T with
    | nil =>
      have hDlen : D.length = len := by rw [← en.out, hDT.out]; simp
      have hno : ¬ ((D.length : Int) < (len : Int)) := by omega
      have hres := hid_in (show a = keyN (bl.map LAt.plain) xk ∧ c = sameN (bl.map LAt.plain) ⟨xk, xw⟩ from by rw [hDT.out, List.append_nil]; exact hac.out)
      clear hDT hac hbs hxi hsm c2 d0 d1
      go_wp2
      go_ret2
      exact ⟨by rw [hres.out.1, hres.out.2]; rfl, G0.trans (bw.mono G0.size)⟩
    | cons y T =>
      have hDlen : D.length < len := by have := en.out; rw [hDT.out] at this; simp at this; omega
      have h5 := hbs.out.below bw
      have h6 := h5
      rw [hDT.out] at h6
      obtain ⟨g, off, rfl, y1, y2⟩ := h6.1.line
      have hym : y ∈ bl := by rw [hDT.out]; simp
      have hyin := h5.2 y hym
      obtain ⟨ya, yc, ey⟩ := HasRow.form hyin
      have hyl := (hsm.out.2 y hym).1
      have hyes : ((D.length : Int) < (len : Int)) := by omega
      have i1 : (0 : Int) ≤ (D.length : Int) := by omega
      rw [ey] at y2
      have HWW : ∀ W, Below wr.heap.size wr W → Calls Tryz.prog 91 #[.slice ya y.ws.length yc, .slice xa nx xc] W fun e w' => e = .returned (.bool (decide (y.ws = xw))) ∧ Below W.heap.size W w' := fun W hW => l3Words_any (by have := HasRow.below hyin hW; rw [ey] at this; exact this) (by rw [enx.out] at *; exact (HasRow.below hxi.out bw).below hW) hyl (by rw [enx.out]; exact hxs)
      have hDT' : Hid (bl = (D ++ [y]) ++ T) := by have := hDT.out; show bl = _; rw [this]; simp
      have hac' := hid_in (show keyN ((D ++ [y]).map LAt.plain) xk = a + (if (y.key.toList == xk.toList) = true then 1 else 0) ∧ sameN ((D ++ [y]).map LAt.plain) ⟨xk, xw⟩ = c + (if (y.key.toList == xk.toList && decide (y.ws = xw)) = true then 1 else 0) from by
        rw [List.map_append, hac.out.1, hac.out.2]
        exact ⟨keyN_snoc _ _ _, sameN_snoc _ _ _⟩)
      clear h5 h6 hyin ey hDT hac hym hyl hbs hxi hsm c2 d0 d1
      generalize hKE : (y.key.toList == xk.toList) = KE at *
      generalize hWE : decide (y.ws = xw) = WE at *
      have eKE := hid_in hKE
      clear hKE hWE
      generalize hyk : y.key = yk at *
      have eyk := hid_in hyk
      clear hyk
      generalize y.ws.length = ny at *
      go_upto_region 6 with fail
      go_cut [24] from 16 to 24 (fun c wx => c = .bool KE ∧ Below wr.heap.size wr wx)
      case first =>
        have v2 := fun p : Gr wr => gr_cell e2 p
        have u0 := fun p : Gr wr => gr_cell f0 p
        have w1 := fun p : Gr wr => gr_cell y1 p
        have hk := eKE.out
        clear HWW hDT' hac' e2 f0 f1 y1 y2 eKE
        refine wp_region_gr (by kernel_rfl) (by kernel_rfl) ?_
        iterate 9 quiet_step (fail)
        refine wpQuiet_nil ?_
        rintro _ ⟨⟨wq, bq⟩, rfl⟩
        go_wp2_with fail
        go_meet
        exact ⟨by first | rfl | (rw [← hk]; rfl) | simp [hk], bq⟩
      case rest =>
        obtain ⟨wk, hwk⟩ : ∃ wk, wk = wc := ⟨_, rfl⟩
        subst hwk
        obtain ⟨rfl, bk'⟩ := hcut
        have BK := bw.trans (bk'.mono bw.size)
        cases KE
        · have hac2 := hid_in (show a = keyN ((D ++ [y]).map LAt.plain) xk ∧ c = sameN ((D ++ [y]).map LAt.plain) ⟨xk, xw⟩ from by rw [hac'.out.1, hac'.out.2]; exact ⟨rfl, rfl⟩)
          clear hac' HWW e2 f0 f1 y1 y2
          go_wp2
          go_roundw
          case rel => exact ⟨D ++ [y], T, a, c, by simp, rfl, rfl, by simp; omega, by simp; omega, by simp; omega, hDT', hac2, BK⟩
          case measure => simp [intOf]; omega
        · have v2 := fun p : Gr wk => gr_cell ((bk'.cell (World.block_lt_of_cell? wr _ e2)).trans e2) p
          have u1 := fun p : Gr wk => gr_cell ((bk'.cell (World.block_lt_of_cell? wr _ f1)).trans f1) p
          have w2 := fun p : Gr wk => gr_cell ((bk'.cell (World.block_lt_of_cell? wr _ y2)).trans y2) p
          have HW : ∀ p : Gr wk, Calls Tryz.prog 91 #[.slice ya ny yc, .slice xa nx xc] p.u fun e w' => e = .returned (.bool WE) ∧ Below p.u.heap.size p.u w' := fun p => HWW p.u (bk'.trans (p.h.mono bk'.size))
          clear HWW e2 f0 f1 y1 y2
          go_upto_region 8 with fail
          go_cut [35] from 27 to 35 (fun c wx => c = .bool WE ∧ Below wk.heap.size wk wx)
          case first =>
            clear hac' hDT'
            refine wp_region_gr (by kernel_rfl) (by kernel_rfl) ?_
            iterate 8 quiet_step (fail)
            quiet_step ((go_at_call 91; refine gr_of (HW _)))
            refine wpQuiet_nil ?_
            rintro _ ⟨⟨wq, bq⟩, rfl⟩
            go_wp2_with fail
            go_meet
            exact ⟨rfl, bq⟩
          case rest =>
            obtain ⟨wm, hwm⟩ : ∃ wm, wm = wc := ⟨_, rfl⟩
            subst hwm
            obtain ⟨rfl, bm⟩ := hcut
            have BM := BK.trans (bm.mono BK.size)
            clear HW v2 u1 w2
            cases WE
            · have hac2 := hid_in (show a + 1 = keyN ((D ++ [y]).map LAt.plain) xk ∧ c = sameN ((D ++ [y]).map LAt.plain) ⟨xk, xw⟩ from by rw [hac'.out.1, hac'.out.2]; exact ⟨rfl, rfl⟩)
              clear hac'
              go_wp2
              go_roundw
              case rel => exact ⟨D ++ [y], T, a + 1, c, by simp, by go_num, rfl, by simp; omega, by simp; omega, by simp; omega, hDT', hac2, BM⟩
              case measure => simp [intOf]; omega
            · have hac2 := hid_in (show a + 1 = keyN ((D ++ [y]).map LAt.plain) xk ∧ c + 1 = sameN ((D ++ [y]).map LAt.plain) ⟨xk, xw⟩ from by rw [hac'.out.1, hac'.out.2]; exact ⟨rfl, rfl⟩)
              clear hac'
              go_wp2
              go_roundw
              case rel => exact ⟨D ++ [y], T, a + 1, c + 1, by simp, by go_num, by go_num, by simp; omega, by simp; omega, by simp; omega, hDT', hac2, BM⟩
              case measure => simp [intOf]; omega
end Go.Proofs.YtpdahhnjhggocaaGreatDoor
namespace Go.Proofs.YtpdahhnjhggocaaGreatDoor
open Go.RowKit
def RuleGot (p : Plain) (P : Nat) (W : World) (e : Ending) (w' : World) : Prop := ∃ (g m c : Nat) (key : ByteArray) (av : Option Addr) (nv cv : Nat) (ad : Option Addr) (cd : Nat), e = .returned (.slice (some ⟨g, 0, none⟩) m c) ∧ ((0 : Int) ≤ (P : Int) ∧ (P : Int) < (m : Int)) ∧ (w'.cell? ⟨g, P * 4, none⟩ = some (.string key) ∧ w'.cell? ⟨g, P * 4 + 1, none⟩ = some (.slice av nv cv) ∧ w'.cell? ⟨g, P * 4 + 2, none⟩ = some (.bool p.2.2.1) ∧ w'.cell? ⟨g, P * 4 + 3, none⟩ = some (.slice ad p.2.2.2.length cd)) ∧ (w'.ownsRow W.heap.size 9 1 (.slice ad p.2.2.2.length cd) p.2.2.2.length (strs p.2.2.2)) ∧ Below W.heap.size W w'
theorem ruleGot {kind key : ByteArray} {p : Plain} (hp : pickR (rulesOf kind) key = some p) : ∃ P : Nat, placeI (rulesOf kind) key = (P : Int) ∧ ∀ W : World, Calls Tryz.prog 56 #[.string kind] W fun e w' => RuleGot p P W e w' := by
  obtain ⟨i, hi, hg, _⟩ := pick_place hp
  refine ⟨i, hi, fun W => (specRules_any kind W).mono ?_⟩
  rintro e w' ⟨v, L, rfl, hpL, hrL, b7⟩
  have hil : i < L.length := by have := (List.getElem?_eq_some_iff.1 hg).1; rw [← hpL, List.length_map] at this; exact this
  obtain ⟨D7, r7, T7, rfl, hD7⟩ := split1 L i hil
  have hpl : r7.plain = p := by
    rw [← hpL, ← hD7] at hg
    simpa using hg
  have hr7 := (show RulesIn w' v (D7 ++ r7 :: T7) from hrL.rin).2 r7 (by simp)
  have hdef := (RulesAt.rm hrL).defs
  obtain ⟨ar, cr, rfl, f1⟩ := own_form (show w'.ownsRow W.heap.size 54 4 v (D7 ++ r7 :: T7).length ((D7 ++ r7 :: T7).flatMap RAt.cells) from Mem.head hrL)
  rcases f1 with f1 | ⟨g7, rfl⟩
  · simp at f1
  have hc := fun c hc => (RulesAt.rm hrL).cell (D := D7) (r := r7) (T := T7) c hc
  obtain ⟨⟨av, nv, cv, ev⟩, _⟩ := hr7
  obtain ⟨ad, cd, ed, _⟩ := own_form hdef
  have e1 : r7.many = p.2.2.1 := by rw [← hpl]; rfl
  have e2 : r7.ds = p.2.2.2 := by rw [← hpl]; rfl
  rw [e2] at hdef ed
  rw [ed] at hdef
  have k0 := hc 0 (by decide)
  have k1 := hc 1 (by decide)
  have k2 := hc 2 (by decide)
  have k3 := hc 3 (by decide)
  rw [hD7] at k0 k1 k2 k3
  simp only [RAt.cells, List.getElem?_cons_zero, List.getElem?_cons_succ, ev, ed, e1, Nat.add_zero] at k0 k1 k2 k3
  exact ⟨g7, _, cr, r7.key, av, nv, cv, ad, cd, rfl, ⟨by omega, by simp; omega⟩, ⟨k0, k1, k2, k3⟩, hdef, b7⟩
end Go.Proofs.YtpdahhnjhggocaaGreatDoor
namespace Go.Proofs.YtpdahhnjhggocaaGreatDoor
open Go.RowKit
end Go.Proofs.YtpdahhnjhggocaaGreatDoor
namespace Go.Proofs.YtpdahhnjhggocaaGreatDoor
open Go.RowKit
def FillTo (bs : List BAt) (D T : List BAt) : Prop := ∃ D0 : List BAt, bs = D0 ++ T ∧ D.map BAt.plain = (D0.map BAt.plain).map fillP
theorem FillTo.step {bs D T : List BAt} {x b : BAt} (h : FillTo bs D (x :: T)) (hb : b.plain = fillP x.plain) : FillTo bs (D ++ [b]) T := by
  obtain ⟨D0, e1, e2⟩ := h
  refine ⟨D0 ++ [x], by rw [e1]; simp, ?_⟩
  rw [List.map_append, e2, List.map_append, List.map_append]
  congr 1
  show [_] = [_]
  rw [hb]
end Go.Proofs.YtpdahhnjhggocaaGreatDoor
