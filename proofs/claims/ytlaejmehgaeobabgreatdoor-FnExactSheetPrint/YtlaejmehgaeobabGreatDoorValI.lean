import Derived.Test.YtlaejmehgaeobabGreatDoorValH
namespace Go.Proofs.YtlaejmehgaeobabGreatDoor
open Go.RowKit
/-- One operation of a region of which no other may come up now. -/
theorem wpAny_one {P : Program} {md : Region.Mode} {ops : Array Oper} {Q : Exit → Act → World → Prop} {fuel k : Nat} {listed : Array Bool} {a : Act} {w : World} {o : Oper} (hr : Region.ready md ops listed = [k]) (ho : ops[k]? = some o)
    (h : ∀ K : Act → World → Prop, (∀ a w, wpAny P md ops Q fuel (listed.setIfInBounds k true) a w → K a w) → if Region.wanted o (yielded ops a.tmps) = true then Oper.wp P o a w K Q else K (a.put o.dst undef) w) : wpAny P md ops Q (fuel + 1) listed a w :=
  wpAny_ready hr (by simp) (AllReady.cons ho (fun K hK => h K hK) AllReady.nil)
/-- The rest of a region, its operations only reading: walked once. -/
theorem wpAny_gr {P : Program} {md : Region.Mode} {l0 : List Oper} {Q : Exit → Act → World → Prop} (k n : Nat) {listed : Array Bool} {a : Act} {w : World} (hs : Region.noSelect l0.toArray = true) (hn : (l0.drop k).length = n) (hB : Region.lexFrom md l0.toArray n k listed = true)
    (h : wpQuiet P l0.toArray (fun w' => ∃ p : Gr w, w' = p.u) (fun a' => ∀ w', (∃ p : Gr w, w' = p.u) → Q .normal a' w') (l0.drop k) a) : wpAny P md l0.toArray Q n listed a w := by
  subst hn
  exact wpAny_of_quiet (Q := fun a' => ∀ w', (∃ p : Gr w, w' = p.u) → Q .normal a' w') (fun _ w' hw' h => h w' hw') _ _ _ _ ⟨⟨w, Below.refl _ _⟩, rfl⟩ (wpAnyQ_lex hs (l0.drop k) k listed a (fun j => by simp) hB h)
def SpecBTo (bs : List PBlock) (k : Nat) : Prop := ∀ i, i < k → SpecBlock bs i
theorem SpecBTo.zero (bs : List PBlock) : SpecBTo bs 0 := fun _ h => by omega
theorem SpecBTo.all {bs : List PBlock} (h : SpecBTo bs bs.length) (hl : bs.length ≤ 60) : true = sheetB bs := by
  rw [eq_comm, sheetB_iff]; exact sheetOk_spec hl h
/-- A block as the model asks it. -/
def blockOk (bs : List PBlock) (i : Nat) (b : PBlock) : Prop := (rulesOf b.kind).length ≠ 0 ∧ nameB b.name.data.toList = true ∧ linesB (rulesOf b.kind) b.lines = true ∧ (i = 0 ∨ ∃ a, bs[i - 1]? = some a ∧ blockLt a b = true)
theorem blockOk_no {bs : List PBlock} {i : Nat} {b : PBlock} (hb : bs[i]? = some b) (h : ¬ blockOk bs i b) : false = sheetB bs := by
  rw [eq_comm, ← Bool.not_eq_true, sheetB_iff]
  intro hok
  obtain ⟨c, hc, h1, h2, h3, h4⟩ := spec_sheetOk hok i (List.getElem?_eq_some_iff.1 hb).1
  rw [hb] at hc; cases hc
  exact h ⟨h1, h2, linesB_iff.2 h3, h4⟩
theorem SpecBTo.succ {bs : List PBlock} {i : Nat} {b : PBlock} (h : SpecBTo bs i) (hb : bs[i]? = some b) (h1 : blockOk bs i b) : SpecBTo bs (i + 1) := by
  intro j hj
  by_cases e : j = i
  · subst e; exact ⟨b, hb, h1.1, h1.2.1, linesB_iff.1 h1.2.2.1, h1.2.2.2⟩
  · exact h j (by omega)
theorem long_no {bs : List PBlock} (h : ¬ bs.length ≤ 60) : false = sheetB bs := by
  rw [eq_comm, ← Bool.not_eq_true, sheetB_iff]
  exact fun hok => h hok.1
set_option maxHeartbeats 8000000 in
set_option maxRecDepth 100000 in
theorem specValid_any {v : Value} {bs : List BAt} {w : World} (hbs : BlocksIn w v bs) (hsm : BlocksSmall bs) : Calls Tryz.prog 32 #[.agg #[v]] w fun e w' => e = .returned (.bool (sheetB (bs.map BAt.plain))) ∧ Below w.heap.size w w' := by
  obtain ⟨al, cl, rfl⟩ := hbs.1.form
  have hn20 := hsm.1
  have b0 : Below w.heap.size w (w.alloc (.cells #[.slice al bs.length cl] 24)) := (Below.refl _ _).alloc (Nat.le_refl _) _
  have p0 := one_box (w := w) (cs := #[.slice al bs.length cl]) (T := 24) 0
  simp only [List.getElem?_toArray, List.getElem?_cons_zero] at p0
  generalize hn : bs.length = n at *
  generalize hPL : bs.map BAt.plain = PL
  have hP := hid_in hPL
  have hN := hid_in hn
  have hPN := hid_in (show PL.length = n by rw [← hPL, List.length_map, hn])
  clear hPL hn
  by_cases h60 : n ≤ 60
  · go_enter Tryz.func32, Tryz.ntmps32
    go_wp2
    generalize hW0 : w.alloc (.cells #[.slice al n cl] 24) = w1 at *
    clear hW0
    go_loopw [3] (fun i wr => ∃ j : Nat, j ≤ n ∧ i = .int .i64 (j : Int) ∧ Below w1.heap.size w1 wr ∧ SpecBTo PL j) (fun i _ => n - (intOf i).toNat)
    case atStart => exact ⟨0, by omega, rfl, Below.refl _ _, SpecBTo.zero _⟩
    case round =>
      obtain ⟨j, hj, rfl, hbw, hA⟩ := hrel
      have b5 := b0.trans (hbw.mono b0.size)
      have p0' := (hbw.cell (p := ⟨w.heap.size, 0, none⟩) (World.block_lt_of_cell? w1 _ p0)).trans p0
      by_cases hlt : j < n
      · obtain ⟨D, x, T, e0, hD⟩ := split1 bs j (by have := hN.out; omega)
        have hbs5 := hbs.below b5
        have hbs6 := hbs5
        rw [e0] at hbs6
        obtain ⟨g, off, rfl, c1, c2, c3⟩ := hbs6.1.block
        have hxm : x ∈ bs := by rw [e0]; simp
        have hxs := hsm.2 x hxm
        obtain ⟨ax, cx, e1⟩ := (hbs5.2 x hxm).1.form
        rw [hD] at c1 c2 c3
        rw [e1] at c3
        have hPx : PL[j]? = some x.plain := by rw [← hP.out, e0, ← hD]; simp
        have i0 : (0 : Int) ≤ (j : Int) := by omega
        have i1 : (j : Int) < (n : Int) := by omega
        have HSR : ∀ W, Calls Tryz.prog 45 #[.string x.kind] W fun e w' => ∃ a7 c7, e = .returned (.slice a7 (rulesOf x.kind).length c7) ∧ Below W.heap.size W w' := by
          intro W
          refine (specRules_any x.kind W).mono ?_
          rintro e w' ⟨v, L, rfl, hpL, hrL, b7⟩
          obtain ⟨ar, cr, rfl, _⟩ := own_form (show w'.ownsRow W.heap.size 94 4 v L.length (L.flatMap RAt.cells) from Mem.head hrL)
          exact ⟨ar, cr, by rw [← hpL, List.length_map], b7⟩
        have HNM : ∀ W, Calls Tryz.prog 47 #[.string x.name] W fun e w' => e = .returned (.bool (nameB x.name.data.toList)) ∧ Below W.heap.size W w' := fun W => (l2NameOk_any x.name W hxs.1).mono fun e w' ⟨he, hw⟩ => ⟨he, hw ▸ Below.refl _ _⟩
        have HLN : ∀ W, Below wr.heap.size wr W → Calls Tryz.prog 70 #[.string x.kind, .slice ax x.ls.length cx] W fun e w' => e = .returned (.bool (linesB (rulesOf x.kind) (x.ls.map LAt.plain))) ∧ Below W.heap.size W w' := fun W hW => l3LinesOk_any x.kind (e1 ▸ (hbs5.below hW).2 x hxm) hxs.2
        have hbo : blockOk PL j x.plain ↔ (rulesOf x.kind).length ≠ 0 ∧ nameB x.name.data.toList = true ∧ linesB (rulesOf x.kind) (x.ls.map LAt.plain) = true ∧ (j = 0 ∨ ∃ a, PL[j - 1]? = some a ∧ blockLt a x.plain = true) := Iff.rfl
        have HY := hid_in (show j ≠ 0 → ∃ y ay cy, PL[j - 1]? = some (BAt.plain y) ∧ (wr.cell? ⟨g, off + (j - 1) * 3, none⟩ = some (.string y.kind) ∧ wr.cell? ⟨g, off + (j - 1) * 3 + 1, none⟩ = some (.string y.name) ∧ wr.cell? ⟨g, off + (j - 1) * 3 + 2, none⟩ = some (.slice ay y.ls.length cy)) from by
          intro hj0
          obtain ⟨D', y, x', T', e0', hD'⟩ := split2 bs (j - 1) (by have := hN.out; omega)
          have hbs7 := hbs5
          rw [e0'] at hbs7
          obtain ⟨g', off', eg, ⟨d1, d2, d3⟩, _⟩ := hbs7.1.block2
          cases eg
          obtain ⟨ay, cy, e2⟩ := (hbs5.2 y (by rw [e0']; simp)).1.form
          rw [hD'] at d1 d2 d3
          rw [e2] at d3
          exact ⟨y, ay, cy, by rw [← hP.out, e0', ← hD']; simp, d1, d2, d3⟩)
        have HC := hid_in (show ¬ blockOk PL j x.plain → false = sheetB PL from fun h => blockOk_no hPx h)
        have HS := hid_in (show blockOk PL j x.plain → SpecBTo PL (j + 1) from fun h => hA.succ hPx h)
        have HAHx : ∀ (y : BAt) ay cy W, Calls Tryz.prog 41 #[.agg #[.string y.kind, .string y.name, .slice ay y.ls.length cy], .agg #[.string x.kind, .string x.name, .slice ax x.ls.length cx]] W fun e w' => e = .returned (.bool (blockLt y.plain x.plain)) ∧ Below W.heap.size W w' := fun y ay cy W => l3Ahead_any y.plain x.plain y.ls.length x.ls.length cy cx ay ax W
        go_upto_region 7 with fail
        go_cut [54] from 21 to 54 (fun c wx => ∃ B : Bool, c = .bool B ∧ (B = false ↔ blockOk PL j x.plain) ∧ Below wr.heap.size wr wx)
        case first =>
          have g6 : Below wr.heap.size wr (wr.alloc (.cells #[.string x.kind, .string x.name, .slice ax x.ls.length cx] 44)) := (Below.refl _ _).alloc (Nat.le_refl _) _
          have k0 := (g6.cell (p := ⟨w.heap.size, 0, none⟩) (World.block_lt_of_cell? wr _ p0')).trans p0'
          have k1 := one_box (w := wr) (cs := #[.string x.kind, .string x.name, .slice ax x.ls.length cx]) (T := 44) 0
          have k2 := one_box (w := wr) (cs := #[.string x.kind, .string x.name, .slice ax x.ls.length cx]) (T := 44) 1
          have k3 := one_box (w := wr) (cs := #[.string x.kind, .string x.name, .slice ax x.ls.length cx]) (T := 44) 2
          simp only [List.getElem?_toArray, List.getElem?_cons_zero, List.getElem?_cons_succ] at k1 k2 k3
          clear hbs hbs5 hbs6 hsm hA e0 e1 hPx hxs HC HS c1 c2 c3 hxm hD p0 p0' hN hP hPN
          generalize linesB (rulesOf x.kind) (x.ls.map LAt.plain) = LB at *
          generalize nameB x.name.data.toList = NB at *
          generalize (rulesOf x.kind).length = nr at *
          generalize x.ls.length = nx at *
          generalize x.kind = xk at *
          generalize x.name = xn at *
          generalize wr.alloc (.cells #[.string xk, .string xn, .slice ax nx cx] 44) = W0 at *
          refine wp_region_any (by kernel_rfl) ?_
          refine wpAny_one (k := 0) (by kernel_rfl) rfl (fun K hK => ?_)
          go_simp
          refine hK _ _ ?_
          clear hK K
          refine wpAny_one (k := 1) (by kernel_rfl) rfl (fun K hK => ?_)
          go_simp
          refine hK _ _ ?_
          clear hK K
          refine wpAny_one (k := 2) (by kernel_rfl) rfl (fun K hK => ?_)
          go_simp
          refine (HSR _).mono ?_
          rintro e w7 ⟨a7, c7, rfl, b7⟩
          refine hK _ _ ?_
          clear hK K HSR
          have g6d := g6.drew
          have bW7 := g6d.trans (b7.mono g6d.size)
          have q0 := fun p : Gr w7 => gr_cell ((b7.cell (p := ⟨w.heap.size, 0, none⟩) (World.block_lt_of_cell? W0 _ k0)).trans k0) p
          have q1 := fun p : Gr w7 => gr_cell ((b7.cell (p := ⟨wr.heap.size, 0, none⟩) (World.block_lt_of_cell? W0 _ k1)).trans k1) p
          have q2 := fun p : Gr w7 => gr_cell ((b7.cell (p := ⟨wr.heap.size, 1, none⟩) (World.block_lt_of_cell? W0 _ k2)).trans k2) p
          have q3 := fun p : Gr w7 => gr_cell ((b7.cell (p := ⟨wr.heap.size, 2, none⟩) (World.block_lt_of_cell? W0 _ k3)).trans k3) p
          have HLN' := fun p : Gr w7 => HLN p.u (bW7.trans (p.h.mono bW7.size))
          have HY' := hid_in (show j ≠ 0 → ∃ y ay cy, PL[j - 1]? = some (BAt.plain y) ∧ ∀ p : Gr w7, (p.u.cell? ⟨g, off + (j - 1) * 3, none⟩ = some (.string y.kind) ∧ p.u.cell? ⟨g, off + (j - 1) * 3 + 1, none⟩ = some (.string y.name) ∧ p.u.cell? ⟨g, off + (j - 1) * 3 + 2, none⟩ = some (.slice ay y.ls.length cy)) from by
            intro hj0
            obtain ⟨y, ay, cy, hy, d1, d2, d3⟩ := HY.out hj0
            have hk : ∀ {a : Addr} {v : Value}, wr.cell? a = some v → w7.cell? a = some v := fun h => (bW7.cell (World.block_lt_of_cell? wr _ h)).trans h
            exact ⟨y, ay, cy, hy, fun p => ⟨gr_cell (hk d1) p, gr_cell (hk d2) p, gr_cell (hk d3) p⟩⟩)
          clear k0 k1 k2 k3 HLN HY
          refine wpAny_gr 3 31 (by kernel_rfl) (by rfl) (by kernel_rfl) ?_
          simp only [List.drop_succ_cons, List.drop_zero]
          by_cases hnr : nr = 0
          · have HB := hid_in (show true = false ↔ blockOk PL j x.plain by rw [hbo, hnr]; simp)
            subst hnr
            clear hbo HLN' HNM HY'
            iterate 3 quiet_step (fail)
            iterate 4 (with_reducible refine quiet_skip ?_ ?_; kernel_rfl; simp only [Act.put, List.setIfInBounds_toArray, List.set_cons_zero, List.set_cons_succ])
            iterate 2 quiet_step (fail)
            iterate 6 (with_reducible refine quiet_skip ?_ ?_; kernel_rfl; simp only [Act.put, List.setIfInBounds_toArray, List.set_cons_zero, List.set_cons_succ])
            iterate 2 quiet_step (fail)
            iterate 3 (with_reducible refine quiet_skip ?_ ?_; kernel_rfl; simp only [Act.put, List.setIfInBounds_toArray, List.set_cons_zero, List.set_cons_succ])
            iterate 9 (with_reducible refine quiet_skip ?_ ?_; kernel_rfl; simp only [Act.put, List.setIfInBounds_toArray, List.set_cons_zero, List.set_cons_succ])
            iterate 1 (with_reducible refine quiet_skip ?_ ?_; kernel_rfl; simp only [Act.put, List.setIfInBounds_toArray, List.set_cons_zero, List.set_cons_succ])
            quiet_step (fail)
            refine wpQuiet_nil ?_
            rintro _ ⟨⟨wq, bq⟩, rfl⟩
            have hbq := bW7.trans (bq.mono bW7.size)
            go_wp2_with fail
            go_meet
            exact ⟨true, rfl, HB.out, hbq⟩
          have hnr' : ((nr : Int) == 0) = false := by rw [beq_eq_false_iff_ne]; omega
          cases NB
          · have HB := hid_in (show true = false ↔ blockOk PL j x.plain by rw [hbo]; simp)
            clear hbo HLN' HY' hnr
            iterate 5 quiet_step (fail)
            quiet_step ((go_at_call 47; refine gr_of (HNM _)))
            iterate 3 quiet_step (fail)
            iterate 6 (with_reducible refine quiet_skip ?_ ?_; kernel_rfl; simp only [Act.put, List.setIfInBounds_toArray, List.set_cons_zero, List.set_cons_succ])
            iterate 2 quiet_step (fail)
            iterate 3 (with_reducible refine quiet_skip ?_ ?_; kernel_rfl; simp only [Act.put, List.setIfInBounds_toArray, List.set_cons_zero, List.set_cons_succ])
            iterate 9 (with_reducible refine quiet_skip ?_ ?_; kernel_rfl; simp only [Act.put, List.setIfInBounds_toArray, List.set_cons_zero, List.set_cons_succ])
            iterate 1 (with_reducible refine quiet_skip ?_ ?_; kernel_rfl; simp only [Act.put, List.setIfInBounds_toArray, List.set_cons_zero, List.set_cons_succ])
            quiet_step (fail)
            refine wpQuiet_nil ?_
            rintro _ ⟨⟨wq, bq⟩, rfl⟩
            have hbq := bW7.trans (bq.mono bW7.size)
            go_wp2_with fail
            go_meet
            exact ⟨true, rfl, HB.out, hbq⟩
          cases LB
          · have HB := hid_in (show true = false ↔ blockOk PL j x.plain by rw [hbo]; simp)
            clear hbo HY' hnr
            iterate 5 quiet_step (fail)
            quiet_step ((go_at_call 47; refine gr_of (HNM _)))
            iterate 3 quiet_step (fail)
            iterate 4 quiet_step (fail)
            quiet_step ((go_at_call 70; refine gr_of (HLN' _)))
            iterate 3 quiet_step (fail)
            iterate 3 (with_reducible refine quiet_skip ?_ ?_; kernel_rfl; simp only [Act.put, List.setIfInBounds_toArray, List.set_cons_zero, List.set_cons_succ])
            iterate 9 (with_reducible refine quiet_skip ?_ ?_; kernel_rfl; simp only [Act.put, List.setIfInBounds_toArray, List.set_cons_zero, List.set_cons_succ])
            iterate 1 (with_reducible refine quiet_skip ?_ ?_; kernel_rfl; simp only [Act.put, List.setIfInBounds_toArray, List.set_cons_zero, List.set_cons_succ])
            quiet_step (fail)
            refine wpQuiet_nil ?_
            rintro _ ⟨⟨wq, bq⟩, rfl⟩
            have hbq := bW7.trans (bq.mono bW7.size)
            go_wp2_with fail
            go_meet
            exact ⟨true, rfl, HB.out, hbq⟩
          by_cases hj0 : j = 0
          · have HB := hid_in (show True ↔ blockOk PL j x.plain by rw [hbo]; simp [hnr, hj0])
            subst hj0
            clear hbo HY' hnr i0 i1
            iterate 5 quiet_step (fail)
            quiet_step ((go_at_call 47; refine gr_of (HNM _)))
            iterate 3 quiet_step (fail)
            iterate 4 quiet_step (fail)
            quiet_step ((go_at_call 70; refine gr_of (HLN' _)))
            iterate 3 quiet_step (fail)
            iterate 3 quiet_step (fail)
            iterate 9 (with_reducible refine quiet_skip ?_ ?_; kernel_rfl; simp only [Act.put, List.setIfInBounds_toArray, List.set_cons_zero, List.set_cons_succ])
            iterate 2 quiet_step (fail)
            refine wpQuiet_nil ?_
            rintro _ ⟨⟨wq, bq⟩, rfl⟩
            have hbq := bW7.trans (bq.mono bW7.size)
            go_wp2_with fail
            go_meet
            exact ⟨false, rfl, ⟨fun _ => HB.out.1 trivial, fun _ => rfl⟩, hbq⟩
          · obtain ⟨y, ay, cy, hPy, hyc⟩ := HY'.out hj0
            obtain ⟨m, rfl⟩ : ∃ m, j = m + 1 := ⟨j - 1, by omega⟩
            simp only [Nat.add_sub_cancel] at hPy hyc hbo
            have q4 := fun p => (hyc p).1
            have q5 := fun p => (hyc p).2.1
            have q6 := fun p => (hyc p).2.2
            have HAH : ∀ p : Gr w7, Calls Tryz.prog 41 #[.agg #[.string y.kind, .string y.name, .slice ay y.ls.length cy], .agg #[.string xk, .string xn, .slice ax nx cx]] p.u fun e w' => e = .returned (.bool (blockLt y.plain x.plain)) ∧ Below p.u.heap.size p.u w' := fun p => HAHx y ay cy p.u
            have HB := hid_in (show ((!blockLt y.plain x.plain) = false) ↔ blockOk PL (m + 1) x.plain by
              rw [hbo]
              constructor
              · intro h
                exact ⟨hnr, trivial, trivial, .inr ⟨y.plain, hPy, by simpa using h⟩⟩
              · rintro ⟨_, _, _, h | ⟨a, ha, hl⟩⟩
                · omega
                · rw [hPy] at ha; cases ha; rw [hl]; rfl)
            have i2 : (0 : Int) ≤ (m : Int) := by omega
            have i3 : (m : Int) < (n : Int) := by omega
            have i4 : IntKind.i64.wrap (m : Int) = (m : Int) := by rw [IntKind.wrap_i64]; omega
            have i5 : ((m : Int) + 1).toNat = m + 1 := by omega
            have i6 : (0 : Int) < (m : Int) + 1 := by omega
            clear hbo HY' hnr hyc hPy hj0
            generalize blockLt y.plain x.plain = LT at *
            generalize y.kind = yk at *
            generalize y.name = yn at *
            generalize y.ls.length = ny at *
            iterate 5 quiet_step (fail)
            quiet_step ((go_at_call 47; refine gr_of (HNM _)))
            iterate 3 quiet_step (fail)
            iterate 4 quiet_step (fail)
            quiet_step ((go_at_call 70; refine gr_of (HLN' _)))
            iterate 3 quiet_step (fail)
            iterate 10 quiet_step (fail)
            quiet_step ((go_at_call 41; refine gr_of (HAH _)))
            iterate 3 quiet_step (fail)
            refine wpQuiet_nil ?_
            rintro _ ⟨⟨wq, bq⟩, rfl⟩
            have hbq := bW7.trans (bq.mono bW7.size)
            go_wp2_with fail
            go_meet
            exact ⟨!LT, rfl, HB.out, hbq⟩
        case rest =>
          obtain ⟨B, rfl, hB, bq⟩ := hcut
          have b6 := b5.trans (bq.mono b5.size)
          have b16 := hbw.trans (bq.mono hbw.size)
          cases B
          · have HA := HS.out (hB.1 rfl)
            clear hbs hbs5 hbs6 hsm hA e0 e1 hPx hxs HC HS c1 c2 c3 hxm hD hN hP hPN HSR HNM HLN HY hbo HAHx hB
            go_wp2
            go_roundw
            case rel => exact ⟨j + 1, by omega, by go_num, b16, HA⟩
            case measure => simp [intOf]; omega
          · have HA := hid_in (HC.out (fun h => by have := hB.2 h; cases this))
            clear hbs hbs5 hbs6 hsm hA e0 e1 hPx hxs HC HS c1 c2 c3 hxm hD hN hP hPN HSR HNM HLN HY hbo HAHx hB
            go_wp2
            go_ret
            exact ⟨ret_bool HA.out, b6⟩
      · obtain rfl : j = n := by omega
        have HA := hid_in (SpecBTo.all (by rw [hPN.out]; exact hA) (by rw [hPN.out]; exact h60))
        clear hbs hsm hA
        go_wp2
        go_ret
        exact ⟨ret_bool HA.out, b5⟩
  · have HA := hid_in (long_no (bs := PL) (by rw [hPN.out]; exact h60))
    have h61 : (60 : Int) < (n : Int) := by omega
    clear hbs hsm
    go_enter Tryz.func32, Tryz.ntmps32
    go_wp2
    go_ret
    exact ⟨ret_bool HA.out, b0⟩
end Go.Proofs.YtlaejmehgaeobabGreatDoor
