import Derived.Test.YtlaejmehgaeobabGreatDoorValG
import Derived.Deep.DeepCutAuto
namespace Go.Proofs.YtlaejmehgaeobabGreatDoor
open Go.RowKit
/-- A world in which nothing of w's has turned. -/
structure Gr (w : World) where
  u : World
  h : Below w.heap.size w u
instance (w : World) : Inhabited (Gr w) := ⟨⟨w, Below.refl _ _⟩⟩
/-- A region that draws its order, its operations only reading, its callees leaving what is old as it is and answering one value: walked once. -/
theorem wp_region_gr {P : Program} {id : Nat} {Q : Exit → Act → World → Prop} {a : Act} {w : World} {l : List Oper} (hm : P.follows .mixedOrders = true) (hB : Region.lexB .any l.toArray = true)
    (h : wpQuiet P l.toArray (fun w' => ∃ p : Gr w, w' = p.u) (fun a' => ∀ w', (∃ p : Gr w, w' = p.u) → Q .normal a' w') l a) : (Code.region id l.toArray true).wp P Q a w :=
  wp_region_quiet (C := fun w' => ∃ p : Gr w, w' = p.u) hm hB ⟨⟨w.drew, (Below.refl _ _).drew⟩, rfl⟩ (by simpa using h)
theorem gr_of {P : Program} {f : FuncId} {args : Array Value} {w : World} {p : Gr w} {v : Value} (h : Calls P f args p.u fun e w' => e = .returned v ∧ Below p.u.heap.size p.u w') : Calls P f args p.u fun e w'' => e = .returned v ∧ ∃ q : Gr w, w'' = q.u :=
  h.mono fun _ w' ⟨he, hb⟩ => ⟨he, ⟨w', p.h.trans (hb.mono p.h.size)⟩, rfl⟩
theorem quiet_skip {P : Program} {ops : Array Oper} {C : World → Prop} {Q : Act → Prop} {o : Oper} {rest : List Oper} {a : Act} (hw : Region.wanted o (yielded ops a.tmps) = false) (h : wpQuiet P ops C Q rest (a.put o.dst undef)) : wpQuiet P ops C Q (o :: rest) a := by
  unfold wpQuiet; rw [if_neg (by rw [hw]; decide)]; exact h
theorem gr_cell {w : World} {a : Addr} {v : Value} (h : w.cell? a = some v) (p : Gr w) : p.u.cell? a = some v := (p.h.cell (World.block_lt_of_cell? w _ h)).trans h
def SpecTo (R : List Plain) (ls : List PLine) (k : Nat) : Prop := ∀ i, i < k → SpecAt R ls i
theorem SpecTo.zero (R : List Plain) (ls : List PLine) : SpecTo R ls 0 := fun _ h => by omega
theorem SpecTo.all {R : List Plain} {ls : List PLine} (h : SpecTo R ls ls.length) : true = linesB R ls := by
  rw [eq_comm, linesB_iff]; exact linesOk_spec h
/-- The first test of a line: its words, and that it is behind the one ahead of it. -/
def firstOk (R : List Plain) (ls : List PLine) (i : Nat) (a : PLine) : Prop := fitsIn R a.key a.ws = true ∧ (i = 0 ∨ ∃ b, ls[i - 1]? = some b ∧ lineLt R b a = true)
theorem firstOk_no {R : List Plain} {ls : List PLine} {i : Nat} {a : PLine} (ha : ls[i]? = some a) (h : ¬ firstOk R ls i a) : false = linesB R ls := by
  rw [eq_comm, ← Bool.not_eq_true, linesB_iff]
  intro hok
  obtain ⟨b, hb, h1, h2, _⟩ := spec_linesOk hok i (List.getElem?_eq_some_iff.1 ha).1
  rw [ha] at hb; cases hb
  exact h ⟨h1, h2⟩
theorem count_no {R : List Plain} {ls : List PLine} {i : Nat} {a : PLine} (ha : ls[i]? = some a) (h : ¬ ((manyR R a.key = true ∨ keyN (ls.take (i + 1)) a.key ≤ 1) ∧ keyN (ls.take (i + 1)) a.key ≤ 10)) : false = linesB R ls := by
  rw [eq_comm, ← Bool.not_eq_true, linesB_iff]
  intro hok
  obtain ⟨b, hb, _, _, h3⟩ := spec_linesOk hok i (List.getElem?_eq_some_iff.1 ha).1
  rw [ha] at hb; cases hb
  exact h h3
theorem SpecTo.succ {R : List Plain} {ls : List PLine} {i : Nat} {a : PLine} (h : SpecTo R ls i) (ha : ls[i]? = some a) (h1 : firstOk R ls i a) (h2 : (manyR R a.key = true ∨ keyN (ls.take (i + 1)) a.key ≤ 1) ∧ keyN (ls.take (i + 1)) a.key ≤ 10) : SpecTo R ls (i + 1) := by
  intro j hj
  by_cases e : j = i
  · subst e; exact ⟨a, ha, h1.1, h1.2, h2.1, h2.2⟩
  · exact h j (by omega)
/-- How many of the first k lines have the key. -/
theorem keyN_step {D T : List LAt} {r : LAt} {key : ByteArray} {c : Nat} (h : c = keyN (((D ++ r :: T).map LAt.plain).take D.length) key) (B : Bool) (hk : (r.key.toList == key.toList) = B) : (if B = true then c + 1 else c) = keyN (((D ++ r :: T).map LAt.plain).take (D.length + 1)) key := by
  rw [← List.map_take, take_front] at h
  rw [← List.map_take, take_one, List.map_append, keyN_append, ← h, List.map_singleton, keyN_one]
  cases B
  · rw [if_neg (by decide), if_neg]
    · rfl
    · intro e; rw [show r.plain.key = r.key from rfl] at e; rw [e] at hk; simp at hk
  · rw [if_pos rfl, if_pos (show r.plain.key = key from toList_inj (show r.key.toList = key.toList by simpa using hk))]
theorem many_at {kind key : ByteArray} {L : List RAt} (hp : L.map RAt.plain = rulesOf kind) (hk : pickR (rulesOf kind) key ≠ none) : ∃ D r T, L = D ++ r :: T ∧ placeI (rulesOf kind) key = (D.length : Int) ∧ r.many = manyR (rulesOf kind) key := by
  obtain ⟨p, hp'⟩ := Option.ne_none_iff_exists'.1 hk
  obtain ⟨i, hi, hg, hkey⟩ := pick_place hp'
  have hl : i < L.length := by
    have := (List.getElem?_eq_some_iff.1 hg).1
    rw [← hp, List.length_map] at this; exact this
  obtain ⟨D, r, T, rfl, hD⟩ := split1 L i hl
  refine ⟨D, r, T, rfl, by rw [hi, hD], ?_⟩
  rw [← hp, List.map_append, List.map_cons, ← hD] at hg
  have : r.plain = p := by simpa using hg
  unfold manyR
  rw [hp', ← this]; rfl
set_option maxHeartbeats 4000000 in
set_option maxRecDepth 100000 in
theorem l3LinesOk_any (kind : ByteArray) {vl : Value} {ls : List LAt} {w : World} (hls : LinesIn w vl ls) (hsm : LinesSmall ls) : Calls Tryz.prog 70 #[.string kind, vl] w fun e w' => Got (.bool (linesB (rulesOf kind) (ls.map LAt.plain))) w e w' := by
  obtain ⟨al, cl, rfl⟩ := hls.1.form
  have hn20 := hsm.1
  generalize hn : ls.length = n at *
  generalize hPL : ls.map LAt.plain = PL
  have hP := hid_in hPL
  have hN := hid_in hn
  have hPN := hid_in (show PL.length = n by rw [← hPL, List.length_map, hn])
  clear hPL hn
  go_enter Tryz.func70, Tryz.ntmps70
  go_wp2
  go_loopw [5] (fun i wr => ∃ j : Nat, j ≤ n ∧ i = .int .i64 (j : Int) ∧ Below w.heap.size w wr ∧ SpecTo (rulesOf kind) PL j) (fun i _ => n - (intOf i).toNat)
  case atStart => exact ⟨0, by omega, rfl, Below.refl _ _, SpecTo.zero _ _⟩
  case round =>
    obtain ⟨j, hj, rfl, b5, hA⟩ := hrel
    by_cases hlt : j < n
    · obtain ⟨D, x, T, e0, hD⟩ := split1 ls j (by have := hN.out; omega)
      have hls5 := hls.below b5
      have hls6 := hls5
      rw [e0] at hls6
      obtain ⟨g, off, rfl, c1, c2⟩ := hls6.1.line
      have hxm : x ∈ ls := by rw [e0]; simp
      have hxs := hsm.2 x hxm
      obtain ⟨ax, cx, e1⟩ := (hls5.2 x hxm).form
      rw [hD] at c1 c2
      rw [e1] at c2
      have hPx : PL[j]? = some x.plain := by rw [← hP.out, e0, ← hD]; simp
      have H1 : ∀ (W : World), Below wr.heap.size wr W → Calls Tryz.prog 43 #[.string kind, .string x.key, .slice ax x.ws.length cx] W fun e w' => e = .returned (.bool (fitsIn (rulesOf kind) x.key x.ws)) ∧ Below W.heap.size W w' := by
        intro W hW
        exact specFits_any kind x.key (e1 ▸ (hls5.below hW).2 x hxm) hxs.1 hxs.2
      have hfo : firstOk (rulesOf kind) PL j x.plain ↔ fitsIn (rulesOf kind) x.key x.ws = true ∧ (j = 0 ∨ ∃ b, PL[j - 1]? = some b ∧ lineLt (rulesOf kind) b x.plain = true) := Iff.rfl
      go_upto_region 4 with fail
      go_cut [45] from 15 to 45 (fun c wx => ∃ B : Bool, c = .bool B ∧ (B = false ↔ firstOk (rulesOf kind) PL j x.plain) ∧ Below wr.heap.size wr wx)
      case first =>
        have i0 : (0 : Int) ≤ (j : Int) := by omega
        have i1 : (j : Int) < (n : Int) := by omega
        have k1 := fun p : Gr wr => gr_cell c1 p
        have k2 := fun p : Gr wr => gr_cell c2 p
        cases hf : fitsIn (rulesOf kind) x.key x.ws
        · have HAH := hid_in (show true = false ↔ firstOk (rulesOf kind) PL j x.plain by rw [hfo, hf]; simp)
          have H1' := fun p : Gr wr => H1 p.u p.h
          rw [hf] at H1'
          clear hls hls5 hls6 hsm hA e0 e1 hPx hfo hxs hf H1
          generalize x.ws.length = nx at *
          generalize x.key = xk at *
          refine wp_region_gr (by kernel_rfl) (by kernel_rfl) ?_
          iterate 11 quiet_step (fail)
          quiet_step ((go_at_call 43; refine gr_of (H1' _)))
          iterate 2 quiet_step (fail)
          iterate 16 (with_reducible refine quiet_skip ?_ ?_; kernel_rfl; simp only [Act.put, List.setIfInBounds_toArray, List.set_cons_zero, List.set_cons_succ])
          quiet_step (fail)
          refine wpQuiet_nil ?_
          rintro _ ⟨⟨wq, bq⟩, rfl⟩
          go_wp2_with fail
          go_meet
          exact ⟨true, rfl, HAH.out, bq⟩
        · have H1' := fun p : Gr wr => H1 p.u p.h
          rw [hf] at H1'
          by_cases hj0 : j = 0
          · have HAH := hid_in (show True ↔ firstOk (rulesOf kind) PL j x.plain by rw [hfo, hf]; simp [hj0])
            subst hj0
            have hn0 : 0 < n := hlt
            have k1' : ∀ p : Gr wr, p.u.cell? ⟨g, off, none⟩ = some (.string x.key) := fun p => by simpa using k1 p
            have k2' : ∀ p : Gr wr, p.u.cell? ⟨g, off + 1, none⟩ = some (.slice ax x.ws.length cx) := fun p => by simpa using k2 p
            clear hls hls5 hls6 hsm hA e0 e1 hPx hfo hxs hf H1 k1 k2 i0 i1
            generalize x.ws.length = nx at *
            generalize x.key = xk at *
            refine wp_region_gr (by kernel_rfl) (by kernel_rfl) ?_
            iterate 11 quiet_step (fail)
            quiet_step ((go_at_call 43; refine gr_of (H1' _)))
            iterate 5 quiet_step (fail)
            iterate 12 (with_reducible refine quiet_skip ?_ ?_; kernel_rfl; simp only [Act.put, List.setIfInBounds_toArray, List.set_cons_zero, List.set_cons_succ])
            iterate 2 quiet_step (fail)
            refine wpQuiet_nil ?_
            rintro _ ⟨⟨wq, bq⟩, rfl⟩
            go_wp2_with fail
            go_meet
            exact ⟨false, rfl, ⟨fun _ => HAH.out.1 trivial, fun _ => rfl⟩, bq⟩
          · obtain ⟨m, rfl⟩ : ∃ m, j = m + 1 := ⟨j - 1, by omega⟩
            obtain ⟨D', y, x', T', e0', hD'⟩ := split2 ls m (by have := hN.out; omega)
            have hxx : x' = x ∧ T' = T := by
              have h1 : (D' ++ [y]) ++ x' :: T' = D ++ x :: T := by rw [← e0, e0']; simp
              have h2 := List.append_inj h1 (by simp; omega)
              simpa using h2.2
            obtain ⟨rfl, rfl⟩ := hxx
            have hym : y ∈ ls := by rw [e0']; simp
            have hls7 := hls5
            rw [e0'] at hls7
            obtain ⟨g', off', eg, ⟨d1, d2⟩, d3, d4⟩ := hls7.1.line2
            cases eg
            obtain ⟨ay, cy, e2⟩ := (hls5.2 y hym).form
            rw [hD'] at d1 d2
            rw [e2] at d2
            have hPy : PL[m]? = some y.plain := by rw [← hP.out, e0', ← hD']; simp
            have k3 := fun p : Gr wr => gr_cell d1 p
            have k4 := fun p : Gr wr => gr_cell d2 p
            have H2 : ∀ p : Gr wr, Calls Tryz.prog 86 #[.string kind, .agg #[.string y.key, .slice ay y.ws.length cy], .agg #[.string x'.key, .slice ax x'.ws.length cx]] p.u fun e w' => e = .returned (.bool (lineLt (rulesOf kind) y.plain x'.plain)) ∧ Below p.u.heap.size p.u w' :=
              fun p => l3LineLess_any kind y.plain x'.plain (e2 ▸ (hls5.below p.h).2 y hym) (e1 ▸ (hls5.below p.h).2 x' hxm) (hsm.2 y hym).1 (hsm.2 x' hxm).1
            have hfo' : firstOk (rulesOf kind) PL (m + 1) x'.plain ↔ lineLt (rulesOf kind) y.plain x'.plain = true := by
              rw [hfo, hf]
              constructor
              · rintro ⟨_, h | ⟨b, hb, hl⟩⟩
                · omega
                · rw [Nat.add_sub_cancel, hPy] at hb; cases hb; exact hl
              · exact fun h => ⟨rfl, .inr ⟨y.plain, by rw [Nat.add_sub_cancel]; exact hPy, h⟩⟩
            have i2 : (0 : Int) ≤ (m : Int) := by omega
            have i3 : (m : Int) < (n : Int) := by omega
            have i4 : IntKind.i64.wrap (m : Int) = (m : Int) := by rw [IntKind.wrap_i64]; omega
            have i5 : ((m : Int) + 1).toNat = m + 1 := by omega
            have i6 : (0 : Int) < (m : Int) + 1 := by omega
            have i7 : (m : Int) + 1 < (n : Int) := by omega
            have i8 : (0 : Int) ≤ (m : Int) + 1 := by omega
            have HAH := hid_in (show ((!lineLt (rulesOf kind) y.plain x'.plain) = false) ↔ firstOk (rulesOf kind) PL (m + 1) x'.plain by rw [hfo']; simp)
            clear hls hls5 hls6 hls7 hsm hA e0 e0' e1 e2 hPx hPy hfo hfo' hxs hf H1 d1 d2 d3 d4 hD hD' hxm hym
            generalize lineLt (rulesOf kind) y.plain x'.plain = LT at *
            generalize x'.ws.length = nx at *
            generalize y.ws.length = ny at *
            generalize x'.key = xk at *
            generalize y.key = yk at *
            refine wp_region_gr (by kernel_rfl) (by kernel_rfl) ?_
            iterate 11 quiet_step (fail)
            quiet_step ((go_at_call 43; refine gr_of (H1' _)))
            iterate 15 quiet_step (fail)
            quiet_step ((go_at_call 86; refine gr_of (H2 _)))
            iterate 3 quiet_step (fail)
            refine wpQuiet_nil ?_
            rintro _ ⟨⟨wq, bq⟩, rfl⟩
            go_wp2_with fail
            go_meet
            exact ⟨!LT, rfl, HAH.out, bq⟩
      case rest =>
        obtain ⟨B, rfl, hB, bq⟩ := hcut
        obtain ⟨w6, hw6⟩ : ∃ w6, w6 = wc := ⟨_, rfl⟩
        subst hw6
        have b6 := b5.trans (bq.mono b5.size)
        cases B
        · have hfirst := hB.1 rfl
          have hpk : pickR (rulesOf kind) x.key ≠ none := fun e => by have := hfirst.1; rw [show x.plain.key = x.key from rfl, fitsIn_none _ e] at this; cases this
          have hplc : ∃ P : Nat, placeI (rulesOf kind) x.key = (P : Int) ∧ ∀ (W : World), Calls Tryz.prog 45 #[.string kind] W fun e w' => ∃ g7 m7 c7, e = .returned (.slice (some ⟨g7, 0, none⟩) m7 c7) ∧ ((0 : Int) ≤ (P : Int) ∧ (P : Int) < (m7 : Int)) ∧ w'.cell? ⟨g7, P * 4 + 2, none⟩ = some (.bool (manyR (rulesOf kind) x.key)) ∧ Below W.heap.size W w' := by
            obtain ⟨p, hp'⟩ := Option.ne_none_iff_exists'.1 hpk
            obtain ⟨i, hi, hg, hkey⟩ := pick_place hp'
            refine ⟨i, hi, fun W => (specRules_any kind W).mono ?_⟩
            rintro e w' ⟨v, L, rfl, hpL, hrL, b7⟩
            obtain ⟨D7, r7, T7, rfl, hpl, hmany⟩ := many_at hpL hpk
            have hD7 : D7.length = i := by omega
            obtain ⟨ar, cr, rfl, f1⟩ := own_form (show w'.ownsRow W.heap.size 94 4 v (D7 ++ r7 :: T7).length ((D7 ++ r7 :: T7).flatMap RAt.cells) from Mem.head hrL)
            rcases f1 with f1 | ⟨g7, rfl⟩
            · simp at f1
            have hc := (RulesAt.rm hrL).cell 2 (by decide)
            rw [hD7] at hc
            refine ⟨g7, _, cr, rfl, ⟨by omega, by simp; omega⟩, ?_, b7⟩
            rw [hc, ← hmany]; rfl
          obtain ⟨P, hP1, HSR⟩ := hplc
          have HPL : ∀ W, Calls Tryz.prog 42 #[.string kind, .string x.key] W fun e w' => e = .returned (.int .i64 (P : Int)) ∧ Below W.heap.size W w' := by rw [← hP1]; exact fun W => l2Place_any kind x.key W
          have hck : ∀ W, Below w6.heap.size w6 W → W.cell? ⟨g, off + j * 2, none⟩ = some (.string x.key) := fun W hW => (hW.cell (World.block_lt_of_cell? w6 _ ((bq.cell (World.block_lt_of_cell? wr _ c1)).trans c1))).trans ((bq.cell (World.block_lt_of_cell? wr _ c1)).trans c1)
          have ckc := hck w6 (Below.refl _ _)
          have i0 : (0 : Int) ≤ (j : Int) := by omega
          have i1 : (j : Int) < (n : Int) := by omega
          have HC := hid_in (show ¬ ((manyR (rulesOf kind) x.key = true ∨ keyN (PL.take (j + 1)) x.key ≤ 1) ∧ keyN (PL.take (j + 1)) x.key ≤ 10) → false = linesB (rulesOf kind) PL from fun h => count_no (a := x.plain) hPx h)
          have HS := hid_in (show ((manyR (rulesOf kind) x.key = true ∨ keyN (PL.take (j + 1)) x.key ≤ 1) ∧ keyN (PL.take (j + 1)) x.key ≤ 10) → SpecTo (rulesOf kind) PL (j + 1) from fun h2 => hA.succ hPx hfirst h2)
          have hlsC := hid_in (hls.below b6)
          have hE0 := hid_in e0
          clear hls hls5 hls6 hsm hA e0 e1 hPx hfo hxs H1 c1 c2 hpk hP1 hB hfirst
          generalize hmn : manyR (rulesOf kind) x.key = many at *
          generalize hxk : x.key = xk at *
          have hXK := hid_in hxk
          clear hmn hxk
          go_upto_region 6 with fail
          go_cut [6] from 46 to 57 (fun c wx => c = .bool many ∧ Below w6.heap.size w6 wx)
          case first =>
            clear HC HS hlsC hE0 hXK
            have hdr : Below w6.heap.size w6 w6.drew := (Below.refl _ _).drew
            go_region_with (first
              | (go_at_call 45; refine (HSR _).mono ?_; rintro e w7 ⟨g7, m7, c7, rfl, hm7, hc7, b7⟩; have b7' := b8'.trans (b7.mono b8'.size))
              | (go_at_call 45; refine (HSR _).mono ?_; rintro e w7 ⟨g7, m7, c7, rfl, hm7, hc7, b7⟩; have b7' := hdr.trans (b7.mono hdr.size); have ck7 := hck w7 b7')
              | (go_at_call 42; refine (HPL _).mono ?_; rintro e w8 ⟨rfl, b8⟩; have b8' := b7'.trans (b8.mono b7'.size); have hc8 := (b8.cell (World.block_lt_of_cell? _ _ hc7)).trans hc7)
              | (go_at_call 42; refine (HPL _).mono ?_; rintro e w8 ⟨rfl, b8⟩; have b8' := hdr.trans (b8.mono hdr.size)))
            all_goals
              go_wp2_with fail
              go_meet
              exact ⟨rfl, by first | exact b8' | exact b7'⟩
          case rest =>
            obtain ⟨rfl, bc⟩ := hcut
            obtain ⟨w9, hw9⟩ : ∃ w9, w9 = wc := ⟨_, rfl⟩
            subst hw9
            have b9 := b6.trans (bc.mono b6.size)
            have hlsD := hid_in (hlsC.out.below bc)
            clear HSR HPL hck ckc hlsC
            go_wp2
            go_loopw [7, 8] (fun sc sk wx => ∃ k c : Nat, k ≤ j + 1 ∧ c ≤ k ∧ sk = .int .i64 (k : Int) ∧ sc = .int .i64 (c : Int) ∧ Below w9.heap.size w9 wx ∧ c = keyN (PL.take k) xk) (fun _ sk _ => j + 1 - (intOf sk).toNat)
            case atStart => exact ⟨0, 0, by omega, by omega, rfl, rfl, Below.refl _ _, by simp [keyN]⟩
            case round =>
              obtain ⟨k, c, hk, hck2, rfl, rfl, bx, hcc⟩ := hrel
              have b10 := b9.trans (bx.mono b9.size)
              by_cases hlt3 : k < j + 1
              · obtain ⟨D', y, T', e1, hD'⟩ := split1 ls k (by have := hN.out; omega)
                have h1 := hlsD.out.below bx
                have h2 := h1
                rw [e1] at h1
                rw [hE0.out] at h2
                obtain ⟨g', off', eg, d1, _⟩ := h1.1.line
                cases eg
                obtain ⟨g', off', eg, d2, _⟩ := h2.1.line
                cases eg
                rw [hD'] at d1
                rw [hD, hXK.out] at d2
                have hst := fun B hb => keyN_step (D := D') (r := y) (T := T') (key := xk) (c := c) (by rw [hD', ← e1, hP.out]; exact hcc) B hb
                rw [← e1, hP.out, hD'] at hst
                have hst' := hid_in hst
                have i2 : (0 : Int) ≤ (k : Int) := by omega
                have i3 : (k : Int) < (n : Int) := by omega
                have i4 : (k : Int) ≤ (j : Int) := by omega
                clear h1 h2 e1 HC HS hlsD hcc hst
                generalize y.key = yk at *
                cases hkk : (yk.toList == xk.toList)
                · have HA := hid_in (hst'.out false hkk)
                  clear hst'
                  go_wp2
                  go_quiet (fail)
                  go_wp2
                  go_roundw
                  case rel => exact ⟨k + 1, c, by omega, by omega, by go_num, rfl, below_drewN bx _, HA.out⟩
                  case measure => simp [intOf]; omega
                · have HA := hid_in (hst'.out true hkk)
                  clear hst'
                  go_wp2
                  go_quiet (fail)
                  go_wp2
                  go_roundw
                  case rel => exact ⟨k + 1, c + 1, by omega, by omega, by go_num, by go_num, below_drewN bx _, HA.out⟩
                  case measure => simp [intOf]; omega
              · obtain rfl : k = j + 1 := by omega
                have HC' := HC.out
                have HS' := HS.out
                rw [← hcc] at HC' HS'
                have i4 : ¬ (((j + 1 : Nat) : Int) ≤ (j : Int)) := by omega
                have i5 : ¬ ((j : Int) + 1 ≤ (j : Int)) := by omega
                clear HC HS hlsD hcc
                cases many
                · by_cases h1 : c ≤ 1
                  · have HA := HS' ⟨.inr h1, by omega⟩
                    clear HC' HS'
                    go_wp2
                    go_roundw
                    case rel => exact ⟨j + 1, by omega, by go_num, b10, HA⟩
                    case measure => simp [intOf]; omega
                  · have HA := hid_in (HC' (fun h => by rcases h.1 with h | h; cases h; omega))
                    clear HC' HS'
                    go_wp2
                    go_ret
                    exact ⟨ret_bool HA.out, b10⟩
                · by_cases h1 : c ≤ 10
                  · have HA := HS' ⟨.inl rfl, h1⟩
                    clear HC' HS'
                    go_wp2
                    go_roundw
                    case rel => exact ⟨j + 1, by omega, by go_num, b10, HA⟩
                    case measure => simp [intOf]; omega
                  · have HA := hid_in (HC' (fun h => by omega))
                    clear HC' HS'
                    go_wp2
                    go_ret
                    exact ⟨ret_bool HA.out, b10⟩
        · have HA := hid_in (firstOk_no hPx (fun h => by have := hB.2 h; cases this))
          clear hls hls5 hls6 hsm hA e0 e1 hPx hfo hxs H1 c1 c2 hB
          go_wp2
          go_ret
          exact ⟨ret_bool HA.out, b6⟩
    · obtain rfl : j = n := by omega
      have HA := hid_in (SpecTo.all (by rw [hPN.out]; exact hA))
      clear hls hsm hA
      go_wp2
      go_ret
      exact ⟨ret_bool HA.out, b5⟩
end Go.Proofs.YtlaejmehgaeobabGreatDoor
