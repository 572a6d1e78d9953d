import Derived.Test.YtpdahhnjhggocabGreatDoorBun24
import Derived.Deep.DeepCutAuto
import Derived.WideMake
namespace Go.Proofs.YtpdahhnjhggocabGreatDoor
open Go.RowKit
structure Gr (w : World) where
 u : World
 h : Below w.heap.size w u
instance (w : World) : Inhabited (Gr w) := ⟨⟨w, Below.refl _ _⟩⟩
theorem wp_region_gr {P : Program} {id : Nat} {Q : Exit → Act → World → Prop} {a : Act} {w : World} {l : List Oper} (hm : P.follows .mixedOrders = true) (hB : Region.lexB .any l.toArray = true)
  (h : wpQuiet P l.toArray (fun w' => ∃ p : Gr w, w' = p.u) (fun a' => ∀ w', (∃ p : Gr w, w' = p.u) → Q .normal a' w') l a) : (Code.region id l.toArray true).wp P Q a w :=
 wp_region_quiet (C := fun w' => ∃ p : Gr w, w' = p.u) hm hB ⟨⟨w.drew, (Below.refl _ _).drew⟩, rfl⟩ (by simpa using h)
theorem gr_of {P : Program} {f : FuncId} {args : Array Value} {w : World} {p : Gr w} {v : Value} (h : Calls P f args p.u fun e w' => e = .returned v ∧ Below p.u.heap.size p.u w') : Calls P f args p.u fun e w'' => e = .returned v ∧ ∃ q : Gr w, w'' = q.u :=
 h.mono fun _ w' ⟨he, hb⟩ => ⟨he, ⟨w', p.h.trans (hb.mono p.h.size)⟩, rfl⟩
theorem quiet_skip {P : Program} {ops : Array Oper} {C : World → Prop} {Q : Act → Prop} {o : Oper} {rest : List Oper} {a : Act} (hw : Region.wanted o (yielded ops a.tmps) = false) (h : wpQuiet P ops C Q rest (a.put o.dst undef)) : wpQuiet P ops C Q (o :: rest) a := by
 unfold wpQuiet; rw [if_neg (by rw [hw]; decide)]; exact h
theorem gr_cell {w : World} {a : Addr} {v : Value} (h : w.cell? a = some v) (p : Gr w) : p.u.cell? a = some v := (p.h.cell (World.block_lt_of_cell? w _ h)).trans h
def SpecTo (R : List Plain) (ls : List PLine) (k : Nat) : Prop := ∀ i, i < k → SpecAt R ls i
theorem SpecTo.zero (R : List Plain) (ls : List PLine) : SpecTo R ls 0 := fun _ h => by omega
theorem SpecTo.all {R : List Plain} {ls : List PLine} (h : SpecTo R ls ls.length) : true = linesB R ls := by
 rw [eq_comm, linesB_iff]; exact linesOk_spec h
def firstOk (R : List Plain) (ls : List PLine) (i : Nat) (a : PLine) : Prop := fitsIn R a.key a.ws = true ∧ (i = 0 ∨ ∃ b, ls[i - 1]? = some b ∧ lineLt R b a = true)
theorem firstOk_no {R : List Plain} {ls : List PLine} {i : Nat} {a : PLine} (ha : ls[i]? = some a) (h : ¬ firstOk R ls i a) : false = linesB R ls := by
 rw [eq_comm, ← Bool.not_eq_true, linesB_iff]
 intro hok
 obtain ⟨b, hb, h1, h2, _⟩ := spec_linesOk hok i (List.getElem?_eq_some_iff.1 ha).1
 rw [ha] at hb; cases hb
 exact h ⟨h1, h2⟩
theorem count_no {R : List Plain} {ls : List PLine} {i : Nat} {a : PLine} (ha : ls[i]? = some a) (h : ¬ ((manyR R a.key = true ∨ keyN (ls.take (i + 1)) a.key ≤ 1) ∧ keyN (ls.take (i + 1)) a.key ≤ 10)) : false = linesB R ls := by
 rw [eq_comm, ← Bool.not_eq_true, linesB_iff]
 intro hok
 obtain ⟨b, hb, _, _, h3⟩ := spec_linesOk hok i (List.getElem?_eq_some_iff.1 ha).1
 rw [ha] at hb; cases hb
 exact h h3
theorem SpecTo.succ {R : List Plain} {ls : List PLine} {i : Nat} {a : PLine} (h : SpecTo R ls i) (ha : ls[i]? = some a) (h1 : firstOk R ls i a) (h2 : (manyR R a.key = true ∨ keyN (ls.take (i + 1)) a.key ≤ 1) ∧ keyN (ls.take (i + 1)) a.key ≤ 10) : SpecTo R ls (i + 1) := by
 intro j hj
 by_cases e : j = i
 ·subst e; exact ⟨a, ha, h1.1, h1.2, h2.1, h2.2⟩
 ·exact h j (by omega)
theorem keyN_step {D T : List LAt} {r : LAt} {key : ByteArray} {c : Nat} (h : c = keyN (((D ++ r :: T).map LAt.plain).take D.length) key) (B : Bool) (hk : (r.key.toList == key.toList) = B) : (if B = true then c + 1 else c) = keyN (((D ++ r :: T).map LAt.plain).take (D.length + 1)) key := by
 rw [← List.map_take, take_front] at h
 rw [← List.map_take, take_one, List.map_append, keyN_append, ← h, List.map_singleton, keyN_one]
 cases B
 ·rw [if_neg (by decide), if_neg]
  ·rfl
  ·intro e; rw [show r.plain.key = r.key from rfl] at e; rw [e] at hk; simp at hk
 ·rw [if_pos rfl, if_pos (show r.plain.key = key from toList_inj (show r.key.toList = key.toList by simpa using hk))]
theorem many_at {kind key : ByteArray} {L : List RAt} (hp : L.map RAt.plain = rulesOf kind) (hk : pickR (rulesOf kind) key ≠ none) : ∃ D r T, L = D ++ r :: T ∧ placeI (rulesOf kind) key = (D.length : Int) ∧ r.many = manyR (rulesOf kind) key := by
 obtain ⟨p, hp'⟩ := Option.ne_none_iff_exists'.1 hk
 obtain ⟨i, hi, hg, hkey⟩ := pick_place hp'
 have hl : i < L.length := by
  have := (List.getElem?_eq_some_iff.1 hg).1
  rw [← hp, List.length_map] at this; exact this
 obtain ⟨D, r, T, rfl, hD⟩ := split1 L i hl
 refine ⟨D, r, T, rfl, by rw [hi, hD], ?_⟩
 rw [← hp, List.map_append, List.map_cons, ← hD] at hg
 have : r.plain = p := by simpa using hg
 unfold manyR
 rw [hp', ← this]; rfl
set_option maxHeartbeats 4000000 in
set_option maxRecDepth 100000 in
theorem l3LinesOk_any (kind : ByteArray) {vl : Value} {ls : List LAt} {w : World} (hls : LinesIn w vl ls) (hsm : LinesSmall ls) : Calls Tryz.prog 127 #[.string kind, vl] w fun e w' => Got (.bool (linesB (rulesOf kind) (ls.map LAt.plain))) w e w' := by
 obtain ⟨al, cl, rfl⟩ := hls.1.form
 have hn20 := hsm.1
 generalize hn : ls.length = n at *
 generalize hPL : ls.map LAt.plain = PL
 have hP := hid_in hPL
 have hN := hid_in hn
 have hPN := hid_in (show PL.length = n by rw [← hPL, List.length_map, hn])
 clear hPL hn
 go_enter Tryz.func127, Tryz.ntmps127
 go_wp2
 go_loopw [5] (fun i wr => ∃ j : Nat, j ≤ n ∧ i = .int .i64 (j : Int) ∧ Below w.heap.size w wr ∧ SpecTo (rulesOf kind) PL j) (fun i _ => n - (intOf i).toNat)
 case atStart => exact ⟨0, by omega, rfl, Below.refl _ _, SpecTo.zero _ _⟩
 case round =>
  obtain ⟨j, hj, rfl, b5, hA⟩ := hrel
  by_cases hlt : j < n
  ·obtain ⟨D, x, T, e0, hD⟩ := split1 ls j (by have := hN.out; omega)
   have hls5 := hls.below b5
   have hls6 := hls5
   rw [e0] at hls6
   obtain ⟨g, off, rfl, c1, c2⟩ := hls6.1.line
   have hxm : x ∈ ls := by rw [e0]; simp
   have hxs := hsm.2 x hxm
   obtain ⟨ax, cx, e1⟩ := (hls5.2 x hxm).form
   rw [hD] at c1 c2
   rw [e1] at c2
   have hPx : PL[j]? = some x.plain := by rw [← hP.out, e0, ← hD]; simp
   have H1 : ∀ (W : World), Below wr.heap.size wr W → Calls Tryz.prog 106 #[.string kind, .string x.key, .slice ax x.ws.length cx] W fun e w' => e = .returned (.bool (fitsIn (rulesOf kind) x.key x.ws)) ∧ Below W.heap.size W w' := by
    intro W hW
    exact specFits_any kind x.key (e1 ▸ (hls5.below hW).2 x hxm) hxs.1 hxs.2
   have hfo : firstOk (rulesOf kind) PL j x.plain ↔ fitsIn (rulesOf kind) x.key x.ws = true ∧ (j = 0 ∨ ∃ b, PL[j - 1]? = some b ∧ lineLt (rulesOf kind) b x.plain = true) := Iff.rfl
   go_upto_region 4 with fail
   go_cut [45] from 15 to 45 (fun c wx => ∃ B : Bool, c = .bool B ∧ (B = false ↔ firstOk (rulesOf kind) PL j x.plain) ∧ Below wr.heap.size wr wx)
   case first =>
    have i0 : (0 : Int) ≤ (j : Int) := by omega
    have i1 : (j : Int) < (n : Int) := by omega
    have k1 := fun p : Gr wr => gr_cell c1 p
    have k2 := fun p : Gr wr => gr_cell c2 p
    cases hf : fitsIn (rulesOf kind) x.key x.ws
    ·have HAH := hid_in (show true = false ↔ firstOk (rulesOf kind) PL j x.plain by rw [hfo, hf]; simp)
     have H1' := fun p : Gr wr => H1 p.u p.h
     rw [hf] at H1'
     clear hls hls5 hls6 hsm hA e0 e1 hPx hfo hxs hf H1
     generalize x.ws.length = nx at *
     generalize x.key = xk at *
     refine wp_region_gr (by kernel_rfl) (by kernel_rfl) ?_
     iterate 11 quiet_step (fail)
     quiet_step ((go_at_call 106; refine gr_of (H1' _)))
     iterate 2 quiet_step (fail)
     iterate 16 (with_reducible refine quiet_skip ?_ ?_; kernel_rfl; simp only [Act.put, List.setIfInBounds_toArray, List.set_cons_zero, List.set_cons_succ])
     quiet_step (fail)
     refine wpQuiet_nil ?_
     rintro _ ⟨⟨wq, bq⟩, rfl⟩
     go_wp2_with fail
     go_meet
     exact ⟨true, rfl, HAH.out, bq⟩
    ·have H1' := fun p : Gr wr => H1 p.u p.h
     rw [hf] at H1'
     by_cases hj0 : j = 0
     ·have HAH := hid_in (show True ↔ firstOk (rulesOf kind) PL j x.plain by rw [hfo, hf]; simp [hj0])
      subst hj0
      have hn0 : 0 < n := hlt
      have k1' : ∀ p : Gr wr, p.u.cell? ⟨g, off, none⟩ = some (.string x.key) := fun p => by simpa using k1 p
      have k2' : ∀ p : Gr wr, p.u.cell? ⟨g, off + 1, none⟩ = some (.slice ax x.ws.length cx) := fun p => by simpa using k2 p
      clear hls hls5 hls6 hsm hA e0 e1 hPx hfo hxs hf H1 k1 k2 i0 i1
      generalize x.ws.length = nx at *
      generalize x.key = xk at *
      refine wp_region_gr (by kernel_rfl) (by kernel_rfl) ?_
      iterate 11 quiet_step (fail)
      quiet_step ((go_at_call 106; refine gr_of (H1' _)))
      iterate 5 quiet_step (fail)
      iterate 12 (with_reducible refine quiet_skip ?_ ?_; kernel_rfl; simp only [Act.put, List.setIfInBounds_toArray, List.set_cons_zero, List.set_cons_succ])
      iterate 2 quiet_step (fail)
      refine wpQuiet_nil ?_
      rintro _ ⟨⟨wq, bq⟩, rfl⟩
      go_wp2_with fail
      go_meet
      exact ⟨false, rfl, ⟨fun _ => HAH.out.1 trivial, fun _ => rfl⟩, bq⟩
     ·obtain ⟨m, rfl⟩ : ∃ m, j = m + 1 := ⟨j - 1, by omega⟩
      obtain ⟨D', y, x', T', e0', hD'⟩ := split2 ls m (by have := hN.out; omega)
      have hxx : x' = x ∧ T' = T := by
       have h1 : (D' ++ [y]) ++ x' :: T' = D ++ x :: T := by rw [← e0, e0']; simp
       have h2 := List.append_inj h1 (by simp; omega)
       simpa using h2.2
      obtain ⟨rfl, rfl⟩ := hxx
      have hym : y ∈ ls := by rw [e0']; simp
      have hls7 := hls5
      rw [e0'] at hls7
      obtain ⟨g', off', eg, ⟨d1, d2⟩, d3, d4⟩ := hls7.1.line2
      cases eg
      obtain ⟨ay, cy, e2⟩ := (hls5.2 y hym).form
      rw [hD'] at d1 d2
      rw [e2] at d2
      have hPy : PL[m]? = some y.plain := by rw [← hP.out, e0', ← hD']; simp
      have k3 := fun p : Gr wr => gr_cell d1 p
      have k4 := fun p : Gr wr => gr_cell d2 p
      have H2 : ∀ p : Gr wr, Calls Tryz.prog 138 #[.string kind, .agg #[.string y.key, .slice ay y.ws.length cy], .agg #[.string x'.key, .slice ax x'.ws.length cx]] p.u fun e w' => e = .returned (.bool (lineLt (rulesOf kind) y.plain x'.plain)) ∧ Below p.u.heap.size p.u w' :=
       fun p => l3LineLess_any kind y.plain x'.plain (e2 ▸ (hls5.below p.h).2 y hym) (e1 ▸ (hls5.below p.h).2 x' hxm) (hsm.2 y hym).1 (hsm.2 x' hxm).1
      have hfo' : firstOk (rulesOf kind) PL (m + 1) x'.plain ↔ lineLt (rulesOf kind) y.plain x'.plain = true := by
       rw [hfo, hf]
       constructor
       ·rintro ⟨_, h | ⟨b, hb, hl⟩⟩
        ·omega
        ·rw [Nat.add_sub_cancel, hPy] at hb; cases hb; exact hl
       ·exact fun h => ⟨rfl, .inr ⟨y.plain, by rw [Nat.add_sub_cancel]; exact hPy, h⟩⟩
      have i2 : (0 : Int) ≤ (m : Int) := by omega
      have i3 : (m : Int) < (n : Int) := by omega
      have i4 : IntKind.i64.wrap (m : Int) = (m : Int) := by rw [IntKind.wrap_i64]; omega
      have i5 : ((m : Int) + 1).toNat = m + 1 := by omega
      have i6 : (0 : Int) < (m : Int) + 1 := by omega
      have i7 : (m : Int) + 1 < (n : Int) := by omega
      have i8 : (0 : Int) ≤ (m : Int) + 1 := by omega
      have HAH := hid_in (show ((!lineLt (rulesOf kind) y.plain x'.plain) = false) ↔ firstOk (rulesOf kind) PL (m + 1) x'.plain by rw [hfo']; simp)
      clear hls hls5 hls6 hls7 hsm hA e0 e0' e1 e2 hPx hPy hfo hfo' hxs hf H1 d1 d2 d3 d4 hD hD' hxm hym
      generalize lineLt (rulesOf kind) y.plain x'.plain = LT at *
      generalize x'.ws.length = nx at *
      generalize y.ws.length = ny at *
      generalize x'.key = xk at *
      generalize y.key = yk at *
      refine wp_region_gr (by kernel_rfl) (by kernel_rfl) ?_
      iterate 11 quiet_step (fail)
      quiet_step ((go_at_call 106; refine gr_of (H1' _)))
      iterate 15 quiet_step (fail)
      quiet_step ((go_at_call 138; refine gr_of (H2 _)))
      iterate 3 quiet_step (fail)
      refine wpQuiet_nil ?_
      rintro _ ⟨⟨wq, bq⟩, rfl⟩
      go_wp2_with fail
      go_meet
      exact ⟨!LT, rfl, HAH.out, bq⟩
   case rest =>
    obtain ⟨B, rfl, hB, bq⟩ := hcut
    obtain ⟨w6, hw6⟩ : ∃ w6, w6 = wc := ⟨_, rfl⟩
    subst hw6
    have b6 := b5.trans (bq.mono b5.size)
    cases B
    ·have hfirst := hB.1 rfl
     have hpk : pickR (rulesOf kind) x.key ≠ none := fun e => by have := hfirst.1; rw [show x.plain.key = x.key from rfl, fitsIn_none _ e] at this; cases this
     have hplc : ∃ P : Nat, placeI (rulesOf kind) x.key = (P : Int) ∧ ∀ (W : World), Calls Tryz.prog 68 #[.string kind] W fun e w' => ∃ g7 m7 c7, e = .returned (.slice (some ⟨g7, 0, none⟩) m7 c7) ∧ ((0 : Int) ≤ (P : Int) ∧ (P : Int) < (m7 : Int)) ∧ w'.cell? ⟨g7, P * 4 + 2, none⟩ = some (.bool (manyR (rulesOf kind) x.key)) ∧ Below W.heap.size W w' := by
      obtain ⟨p, hp'⟩ := Option.ne_none_iff_exists'.1 hpk
      obtain ⟨i, hi, hg, hkey⟩ := pick_place hp'
      refine ⟨i, hi, fun W => (specRules_any kind W).mono ?_⟩
      rintro e w' ⟨v, L, rfl, hpL, hrL, b7⟩
      obtain ⟨D7, r7, T7, rfl, hpl, hmany⟩ := many_at hpL hpk
      have hD7 : D7.length = i := by omega
      obtain ⟨ar, cr, rfl, f1⟩ := own_form (show w'.ownsRow W.heap.size 105 4 v (D7 ++ r7 :: T7).length ((D7 ++ r7 :: T7).flatMap RAt.cells) from Mem.head hrL)
      rcases f1 with f1 | ⟨g7, rfl⟩
      ·simp at f1
      have hc := (RulesAt.rm hrL).cell 2 (by decide)
      rw [hD7] at hc
      refine ⟨g7, _, cr, rfl, ⟨by omega, by simp; omega⟩, ?_, b7⟩
      rw [hc, ← hmany]; rfl
     obtain ⟨P, hP1, HSR⟩ := hplc
     have HPL : ∀ W, Calls Tryz.prog 73 #[.string kind, .string x.key] W fun e w' => e = .returned (.int .i64 (P : Int)) ∧ Below W.heap.size W w' := by rw [← hP1]; exact fun W => l2Place_any kind x.key W
     have hck : ∀ W, Below w6.heap.size w6 W → W.cell? ⟨g, off + j * 2, none⟩ = some (.string x.key) := fun W hW => (hW.cell (World.block_lt_of_cell? w6 _ ((bq.cell (World.block_lt_of_cell? wr _ c1)).trans c1))).trans ((bq.cell (World.block_lt_of_cell? wr _ c1)).trans c1)
     have ckc := hck w6 (Below.refl _ _)
     have i0 : (0 : Int) ≤ (j : Int) := by omega
     have i1 : (j : Int) < (n : Int) := by omega
     have HC := hid_in (show ¬ ((manyR (rulesOf kind) x.key = true ∨ keyN (PL.take (j + 1)) x.key ≤ 1) ∧ keyN (PL.take (j + 1)) x.key ≤ 10) → false = linesB (rulesOf kind) PL from fun h => count_no (a := x.plain) hPx h)
     have HS := hid_in (show ((manyR (rulesOf kind) x.key = true ∨ keyN (PL.take (j + 1)) x.key ≤ 1) ∧ keyN (PL.take (j + 1)) x.key ≤ 10) → SpecTo (rulesOf kind) PL (j + 1) from fun h2 => hA.succ hPx hfirst h2)
     have hlsC := hid_in (hls.below b6)
     have hE0 := hid_in e0
     clear hls hls5 hls6 hsm hA e0 e1 hPx hfo hxs H1 c1 c2 hpk hP1 hB hfirst
     generalize hmn : manyR (rulesOf kind) x.key = many at *
     generalize hxk : x.key = xk at *
     have hXK := hid_in hxk
     clear hmn hxk
     go_upto_region 6 with fail
     go_cut [6] from 46 to 57 (fun c wx => c = .bool many ∧ Below w6.heap.size w6 wx)
     case first =>
      clear HC HS hlsC hE0 hXK
      have hdr : Below w6.heap.size w6 w6.drew := (Below.refl _ _).drew
      go_region_with (first
       | (go_at_call 68; refine (HSR _).mono ?_; rintro e w7 ⟨g7, m7, c7, rfl, hm7, hc7, b7⟩; have b7' := b8'.trans (b7.mono b8'.size))
       | (go_at_call 68; refine (HSR _).mono ?_; rintro e w7 ⟨g7, m7, c7, rfl, hm7, hc7, b7⟩; have b7' := hdr.trans (b7.mono hdr.size); have ck7 := hck w7 b7')
       | (go_at_call 73; refine (HPL _).mono ?_; rintro e w8 ⟨rfl, b8⟩; have b8' := b7'.trans (b8.mono b7'.size); have hc8 := (b8.cell (World.block_lt_of_cell? _ _ hc7)).trans hc7)
       | (go_at_call 73; refine (HPL _).mono ?_; rintro e w8 ⟨rfl, b8⟩; have b8' := hdr.trans (b8.mono hdr.size)))
      all_goals
       go_wp2_with fail
       go_meet
       exact ⟨rfl, by first | exact b8' | exact b7'⟩
     case rest =>
      obtain ⟨rfl, bc⟩ := hcut
      obtain ⟨w9, hw9⟩ : ∃ w9, w9 = wc := ⟨_, rfl⟩
      subst hw9
      have b9 := b6.trans (bc.mono b6.size)
      have hlsD := hid_in (hlsC.out.below bc)
      clear HSR HPL hck ckc hlsC
      go_wp2
      go_loopw [7, 8] (fun sc sk wx => ∃ k c : Nat, k ≤ j + 1 ∧ c ≤ k ∧ sk = .int .i64 (k : Int) ∧ sc = .int .i64 (c : Int) ∧ Below w9.heap.size w9 wx ∧ c = keyN (PL.take k) xk) (fun _ sk _ => j + 1 - (intOf sk).toNat)
      case atStart => exact ⟨0, 0, by omega, by omega, rfl, rfl, Below.refl _ _, by simp [keyN]⟩
      case round =>
       obtain ⟨k, c, hk, hck2, rfl, rfl, bx, hcc⟩ := hrel
       have b10 := b9.trans (bx.mono b9.size)
       by_cases hlt3 : k < j + 1
       ·obtain ⟨D', y, T', e1, hD'⟩ := split1 ls k (by have := hN.out; omega)
        have h1 := hlsD.out.below bx
        have h2 := h1
        rw [e1] at h1
        rw [hE0.out] at h2
        obtain ⟨g', off', eg, d1, _⟩ := h1.1.line
        cases eg
        obtain ⟨g', off', eg, d2, _⟩ := h2.1.line
        cases eg
        rw [hD'] at d1
        rw [hD, hXK.out] at d2
        have hst := fun B hb => keyN_step (D := D') (r := y) (T := T') (key := xk) (c := c) (by rw [hD', ← e1, hP.out]; exact hcc) B hb
        rw [← e1, hP.out, hD'] at hst
        have hst' := hid_in hst
        have i2 : (0 : Int) ≤ (k : Int) := by omega
        have i3 : (k : Int) < (n : Int) := by omega
        have i4 : (k : Int) ≤ (j : Int) := by omega
        clear h1 h2 e1 HC HS hlsD hcc hst
        generalize y.key = yk at *
        cases hkk : (yk.toList == xk.toList)
        ·have HA := hid_in (hst'.out false hkk)
         clear hst'
         go_wp2
         go_quiet (fail)
         go_wp2
         go_roundw
         case rel => exact ⟨k + 1, c, by omega, by omega, by go_num, rfl, below_drewN bx _, HA.out⟩
         case measure => simp [intOf]; omega
        ·have HA := hid_in (hst'.out true hkk)
         clear hst'
         go_wp2
         go_quiet (fail)
         go_wp2
         go_roundw
         case rel => exact ⟨k + 1, c + 1, by omega, by omega, by go_num, by go_num, below_drewN bx _, HA.out⟩
         case measure => simp [intOf]; omega
       ·obtain rfl : k = j + 1 := by omega
        have HC' := HC.out
        have HS' := HS.out
        rw [← hcc] at HC' HS'
        have i4 : ¬ (((j + 1 : Nat) : Int) ≤ (j : Int)) := by omega
        have i5 : ¬ ((j : Int) + 1 ≤ (j : Int)) := by omega
        clear HC HS hlsD hcc
        cases many
        ·by_cases h1 : c ≤ 1
         ·have HA := HS' ⟨.inr h1, by omega⟩
          clear HC' HS'
          go_wp2
          go_roundw
          case rel => exact ⟨j + 1, by omega, by go_num, b10, HA⟩
          case measure => simp [intOf]; omega
         ·have HA := hid_in (HC' (fun h => by rcases h.1 with h | h; cases h; omega))
          clear HC' HS'
          go_wp2
          go_ret
          exact ⟨ret_bool HA.out, b10⟩
        ·by_cases h1 : c ≤ 10
         ·have HA := HS' ⟨.inl rfl, h1⟩
          clear HC' HS'
          go_wp2
          go_roundw
          case rel => exact ⟨j + 1, by omega, by go_num, b10, HA⟩
          case measure => simp [intOf]; omega
         ·have HA := hid_in (HC' (fun h => by omega))
          clear HC' HS'
          go_wp2
          go_ret
          exact ⟨ret_bool HA.out, b10⟩
    ·have HA := hid_in (firstOk_no hPx (fun h => by have := hB.2 h; cases this))
     clear hls hls5 hls6 hsm hA e0 e1 hPx hfo hxs H1 c1 c2 hB
     go_wp2
     go_ret
     exact ⟨ret_bool HA.out, b6⟩
  ·obtain rfl : j = n := by omega
   have HA := hid_in (SpecTo.all (by rw [hPN.out]; exact hA))
   clear hls hsm hA
   go_wp2
   go_ret
   exact ⟨ret_bool HA.out, b5⟩
end Go.Proofs.YtpdahhnjhggocabGreatDoor
namespace Go.Proofs.YtpdahhnjhggocabGreatDoor
open Go.RowKit
theorem wpAny_one {P : Program} {md : Region.Mode} {ops : Array Oper} {Q : Exit → Act → World → Prop} {fuel k : Nat} {listed : Array Bool} {a : Act} {w : World} {o : Oper} (hr : Region.ready md ops listed = [k]) (ho : ops[k]? = some o)
  (h : ∀ K : Act → World → Prop, (∀ a w, wpAny P md ops Q fuel (listed.setIfInBounds k true) a w → K a w) → if Region.wanted o (yielded ops a.tmps) = true then Oper.wp P o a w K Q else K (a.put o.dst undef) w) : wpAny P md ops Q (fuel + 1) listed a w :=
 wpAny_ready hr (by simp) (AllReady.cons ho (fun K hK => h K hK) AllReady.nil)
theorem wpAny_gr {P : Program} {md : Region.Mode} {l0 : List Oper} {Q : Exit → Act → World → Prop} (k n : Nat) {listed : Array Bool} {a : Act} {w : World} (hs : Region.noSelect l0.toArray = true) (hn : (l0.drop k).length = n) (hB : Region.lexFrom md l0.toArray n k listed = true)
  (h : wpQuiet P l0.toArray (fun w' => ∃ p : Gr w, w' = p.u) (fun a' => ∀ w', (∃ p : Gr w, w' = p.u) → Q .normal a' w') (l0.drop k) a) : wpAny P md l0.toArray Q n listed a w := by
 subst hn
 exact wpAny_of_quiet (Q := fun a' => ∀ w', (∃ p : Gr w, w' = p.u) → Q .normal a' w') (fun _ w' hw' h => h w' hw') _ _ _ _ ⟨⟨w, Below.refl _ _⟩, rfl⟩ (wpAnyQ_lex hs (l0.drop k) k listed a (fun j => by simp) hB h)
def SpecBTo (bs : List PBlock) (k : Nat) : Prop := ∀ i, i < k → SpecBlock bs i
theorem SpecBTo.zero (bs : List PBlock) : SpecBTo bs 0 := fun _ h => by omega
theorem SpecBTo.all {bs : List PBlock} (h : SpecBTo bs bs.length) (hl : bs.length ≤ 60) : true = sheetB bs := by
 rw [eq_comm, sheetB_iff]; exact sheetOk_spec hl h
def blockOk (bs : List PBlock) (i : Nat) (b : PBlock) : Prop := (rulesOf b.kind).length ≠ 0 ∧ nameB b.name.data.toList = true ∧ linesB (rulesOf b.kind) b.lines = true ∧ (i = 0 ∨ ∃ a, bs[i - 1]? = some a ∧ blockLt a b = true)
theorem blockOk_no {bs : List PBlock} {i : Nat} {b : PBlock} (hb : bs[i]? = some b) (h : ¬ blockOk bs i b) : false = sheetB bs := by
 rw [eq_comm, ← Bool.not_eq_true, sheetB_iff]
 intro hok
 obtain ⟨c, hc, h1, h2, h3, h4⟩ := spec_sheetOk hok i (List.getElem?_eq_some_iff.1 hb).1
 rw [hb] at hc; cases hc
 exact h ⟨h1, h2, linesB_iff.2 h3, h4⟩
theorem SpecBTo.succ {bs : List PBlock} {i : Nat} {b : PBlock} (h : SpecBTo bs i) (hb : bs[i]? = some b) (h1 : blockOk bs i b) : SpecBTo bs (i + 1) := by
 intro j hj
 by_cases e : j = i
 ·subst e; exact ⟨b, hb, h1.1, h1.2.1, linesB_iff.1 h1.2.2.1, h1.2.2.2⟩
 ·exact h j (by omega)
theorem long_no {bs : List PBlock} (h : ¬ bs.length ≤ 60) : false = sheetB bs := by
 rw [eq_comm, ← Bool.not_eq_true, sheetB_iff]
 exact fun hok => h hok.1
set_option maxHeartbeats 8000000 in
set_option maxRecDepth 100000 in
theorem specValid_any {v : Value} {bs : List BAt} {w : World} (hbs : BlocksIn w v bs) (hsm : BlocksSmall bs) : Calls Tryz.prog 61 #[.agg #[v]] w fun e w' => e = .returned (.bool (sheetB (bs.map BAt.plain))) ∧ Below w.heap.size w w' := by
 obtain ⟨al, cl, rfl⟩ := hbs.1.form
 have hn20 := hsm.1
 have b0 : Below w.heap.size w (w.alloc (.cells #[.slice al bs.length cl] 24)) := (Below.refl _ _).alloc (Nat.le_refl _) _
 have p0 := one_box (w := w) (cs := #[.slice al bs.length cl]) (T := 24) 0
 simp only [List.getElem?_toArray, List.getElem?_cons_zero] at p0
 generalize hn : bs.length = n at *
 generalize hPL : bs.map BAt.plain = PL
 have hP := hid_in hPL
 have hN := hid_in hn
 have hPN := hid_in (show PL.length = n by rw [← hPL, List.length_map, hn])
 clear hPL hn
 by_cases h60 : n ≤ 60
 ·go_enter Tryz.func61, Tryz.ntmps61
  go_wp2
  generalize hW0 : w.alloc (.cells #[.slice al n cl] 24) = w1 at *
  clear hW0
  go_loopw [3] (fun i wr => ∃ j : Nat, j ≤ n ∧ i = .int .i64 (j : Int) ∧ Below w1.heap.size w1 wr ∧ SpecBTo PL j) (fun i _ => n - (intOf i).toNat)
  case atStart => exact ⟨0, by omega, rfl, Below.refl _ _, SpecBTo.zero _⟩
  case round =>
   obtain ⟨j, hj, rfl, hbw, hA⟩ := hrel
   have b5 := b0.trans (hbw.mono b0.size)
   have p0' := (hbw.cell (p := ⟨w.heap.size, 0, none⟩) (World.block_lt_of_cell? w1 _ p0)).trans p0
   by_cases hlt : j < n
   ·obtain ⟨D, x, T, e0, hD⟩ := split1 bs j (by have := hN.out; omega)
    have hbs5 := hbs.below b5
    have hbs6 := hbs5
    rw [e0] at hbs6
    obtain ⟨g, off, rfl, c1, c2, c3⟩ := hbs6.1.block
    have hxm : x ∈ bs := by rw [e0]; simp
    have hxs := hsm.2 x hxm
    obtain ⟨ax, cx, e1⟩ := (hbs5.2 x hxm).1.form
    rw [hD] at c1 c2 c3
    rw [e1] at c3
    have hPx : PL[j]? = some x.plain := by rw [← hP.out, e0, ← hD]; simp
    have i0 : (0 : Int) ≤ (j : Int) := by omega
    have i1 : (j : Int) < (n : Int) := by omega
    have HSR : ∀ W, Calls Tryz.prog 68 #[.string x.kind] W fun e w' => ∃ a7 c7, e = .returned (.slice a7 (rulesOf x.kind).length c7) ∧ Below W.heap.size W w' := by
     intro W
     refine (specRules_any x.kind W).mono ?_
     rintro e w' ⟨v, L, rfl, hpL, hrL, b7⟩
     obtain ⟨ar, cr, rfl, _⟩ := own_form (show w'.ownsRow W.heap.size 105 4 v L.length (L.flatMap RAt.cells) from Mem.head hrL)
     exact ⟨ar, cr, by rw [← hpL, List.length_map], b7⟩
    have HNM : ∀ W, Calls Tryz.prog 108 #[.string x.name] W fun e w' => e = .returned (.bool (nameB x.name.data.toList)) ∧ Below W.heap.size W w' := fun W => (l2NameOk_any x.name W hxs.1).mono fun e w' ⟨he, hw⟩ => ⟨he, hw ▸ Below.refl _ _⟩
    have HLN : ∀ W, Below wr.heap.size wr W → Calls Tryz.prog 127 #[.string x.kind, .slice ax x.ls.length cx] W fun e w' => e = .returned (.bool (linesB (rulesOf x.kind) (x.ls.map LAt.plain))) ∧ Below W.heap.size W w' := fun W hW => l3LinesOk_any x.kind (e1 ▸ (hbs5.below hW).2 x hxm) hxs.2
    have hbo : blockOk PL j x.plain ↔ (rulesOf x.kind).length ≠ 0 ∧ nameB x.name.data.toList = true ∧ linesB (rulesOf x.kind) (x.ls.map LAt.plain) = true ∧ (j = 0 ∨ ∃ a, PL[j - 1]? = some a ∧ blockLt a x.plain = true) := Iff.rfl
    have HY := hid_in (show j ≠ 0 → ∃ y ay cy, PL[j - 1]? = some (BAt.plain y) ∧ (wr.cell? ⟨g, off + (j - 1) * 3, none⟩ = some (.string y.kind) ∧ wr.cell? ⟨g, off + (j - 1) * 3 + 1, none⟩ = some (.string y.name) ∧ wr.cell? ⟨g, off + (j - 1) * 3 + 2, none⟩ = some (.slice ay y.ls.length cy)) from by
     intro hj0
     obtain ⟨D', y, x', T', e0', hD'⟩ := split2 bs (j - 1) (by have := hN.out; omega)
     have hbs7 := hbs5
     rw [e0'] at hbs7
     obtain ⟨g', off', eg, ⟨d1, d2, d3⟩, _⟩ := hbs7.1.block2
     cases eg
     obtain ⟨ay, cy, e2⟩ := (hbs5.2 y (by rw [e0']; simp)).1.form
     rw [hD'] at d1 d2 d3
     rw [e2] at d3
     exact ⟨y, ay, cy, by rw [← hP.out, e0', ← hD']; simp, d1, d2, d3⟩)
    have HC := hid_in (show ¬ blockOk PL j x.plain → false = sheetB PL from fun h => blockOk_no hPx h)
    have HS := hid_in (show blockOk PL j x.plain → SpecBTo PL (j + 1) from fun h => hA.succ hPx h)
    have HAHx : ∀ (y : BAt) ay cy W, Calls Tryz.prog 105 #[.agg #[.string y.kind, .string y.name, .slice ay y.ls.length cy], .agg #[.string x.kind, .string x.name, .slice ax x.ls.length cx]] W fun e w' => e = .returned (.bool (blockLt y.plain x.plain)) ∧ Below W.heap.size W w' := fun y ay cy W => l3Ahead_any y.plain x.plain y.ls.length x.ls.length cy cx ay ax W
    go_upto_region 7 with fail
    go_cut [54] from 21 to 54 (fun c wx => ∃ B : Bool, c = .bool B ∧ (B = false ↔ blockOk PL j x.plain) ∧ Below wr.heap.size wr wx)
    case first =>
     have g6 : Below wr.heap.size wr (wr.alloc (.cells #[.string x.kind, .string x.name, .slice ax x.ls.length cx] 64)) := (Below.refl _ _).alloc (Nat.le_refl _) _
     have k0 := (g6.cell (p := ⟨w.heap.size, 0, none⟩) (World.block_lt_of_cell? wr _ p0')).trans p0'
     have k1 := one_box (w := wr) (cs := #[.string x.kind, .string x.name, .slice ax x.ls.length cx]) (T := 64) 0
     have k2 := one_box (w := wr) (cs := #[.string x.kind, .string x.name, .slice ax x.ls.length cx]) (T := 64) 1
     have k3 := one_box (w := wr) (cs := #[.string x.kind, .string x.name, .slice ax x.ls.length cx]) (T := 64) 2
     simp only [List.getElem?_toArray, List.getElem?_cons_zero, List.getElem?_cons_succ] at k1 k2 k3
     clear hbs hbs5 hbs6 hsm hA e0 e1 hPx hxs HC HS c1 c2 c3 hxm hD p0 p0' hN hP hPN
     generalize linesB (rulesOf x.kind) (x.ls.map LAt.plain) = LB at *
     generalize nameB x.name.data.toList = NB at *
     generalize (rulesOf x.kind).length = nr at *
     generalize x.ls.length = nx at *
     generalize x.kind = xk at *
     generalize x.name = xn at *
     generalize wr.alloc (.cells #[.string xk, .string xn, .slice ax nx cx] 64) = W0 at *
     refine wp_region_any (by kernel_rfl) ?_
     refine wpAny_one (k := 0) (by kernel_rfl) rfl (fun K hK => ?_)
     go_simp
     refine hK _ _ ?_
     clear hK K
     refine wpAny_one (k := 1) (by kernel_rfl) rfl (fun K hK => ?_)
     go_simp
     refine hK _ _ ?_
     clear hK K
     refine wpAny_one (k := 2) (by kernel_rfl) rfl (fun K hK => ?_)
     go_simp
     refine (HSR _).mono ?_
     rintro e w7 ⟨a7, c7, rfl, b7⟩
     refine hK _ _ ?_
     clear hK K HSR
     have g6d := g6.drew
     have bW7 := g6d.trans (b7.mono g6d.size)
     have q0 := fun p : Gr w7 => gr_cell ((b7.cell (p := ⟨w.heap.size, 0, none⟩) (World.block_lt_of_cell? W0 _ k0)).trans k0) p
     have q1 := fun p : Gr w7 => gr_cell ((b7.cell (p := ⟨wr.heap.size, 0, none⟩) (World.block_lt_of_cell? W0 _ k1)).trans k1) p
     have q2 := fun p : Gr w7 => gr_cell ((b7.cell (p := ⟨wr.heap.size, 1, none⟩) (World.block_lt_of_cell? W0 _ k2)).trans k2) p
     have q3 := fun p : Gr w7 => gr_cell ((b7.cell (p := ⟨wr.heap.size, 2, none⟩) (World.block_lt_of_cell? W0 _ k3)).trans k3) p
     have HLN' := fun p : Gr w7 => HLN p.u (bW7.trans (p.h.mono bW7.size))
     have HY' := hid_in (show j ≠ 0 → ∃ y ay cy, PL[j - 1]? = some (BAt.plain y) ∧ ∀ p : Gr w7, (p.u.cell? ⟨g, off + (j - 1) * 3, none⟩ = some (.string y.kind) ∧ p.u.cell? ⟨g, off + (j - 1) * 3 + 1, none⟩ = some (.string y.name) ∧ p.u.cell? ⟨g, off + (j - 1) * 3 + 2, none⟩ = some (.slice ay y.ls.length cy)) from by
      intro hj0
      obtain ⟨y, ay, cy, hy, d1, d2, d3⟩ := HY.out hj0
      have hk : ∀ {a : Addr} {v : Value}, wr.cell? a = some v → w7.cell? a = some v := fun h => (bW7.cell (World.block_lt_of_cell? wr _ h)).trans h
      exact ⟨y, ay, cy, hy, fun p => ⟨gr_cell (hk d1) p, gr_cell (hk d2) p, gr_cell (hk d3) p⟩⟩)
     clear k0 k1 k2 k3 HLN HY
     refine wpAny_gr 3 31 (by kernel_rfl) (by rfl) (by kernel_rfl) ?_
     simp only [List.drop_succ_cons, List.drop_zero]
     by_cases hnr : nr = 0
     ·have HB := hid_in (show true = false ↔ blockOk PL j x.plain by rw [hbo, hnr]; simp)
      subst hnr
      clear hbo HLN' HNM HY'
      iterate 3 quiet_step (fail)
      iterate 4 (with_reducible refine quiet_skip ?_ ?_; kernel_rfl; simp only [Act.put, List.setIfInBounds_toArray, List.set_cons_zero, List.set_cons_succ])
      iterate 2 quiet_step (fail)
      iterate 6 (with_reducible refine quiet_skip ?_ ?_; kernel_rfl; simp only [Act.put, List.setIfInBounds_toArray, List.set_cons_zero, List.set_cons_succ])
      iterate 2 quiet_step (fail)
      iterate 3 (with_reducible refine quiet_skip ?_ ?_; kernel_rfl; simp only [Act.put, List.setIfInBounds_toArray, List.set_cons_zero, List.set_cons_succ])
      iterate 9 (with_reducible refine quiet_skip ?_ ?_; kernel_rfl; simp only [Act.put, List.setIfInBounds_toArray, List.set_cons_zero, List.set_cons_succ])
      iterate 1 (with_reducible refine quiet_skip ?_ ?_; kernel_rfl; simp only [Act.put, List.setIfInBounds_toArray, List.set_cons_zero, List.set_cons_succ])
      quiet_step (fail)
      refine wpQuiet_nil ?_
      rintro _ ⟨⟨wq, bq⟩, rfl⟩
      have hbq := bW7.trans (bq.mono bW7.size)
      go_wp2_with fail
      go_meet
      exact ⟨true, rfl, HB.out, hbq⟩
     have hnr' : ((nr : Int) == 0) = false := by rw [beq_eq_false_iff_ne]; omega
     cases NB
     ·have HB := hid_in (show true = false ↔ blockOk PL j x.plain by rw [hbo]; simp)
      clear hbo HLN' HY' hnr
      iterate 5 quiet_step (fail)
      quiet_step ((go_at_call 108; refine gr_of (HNM _)))
      iterate 3 quiet_step (fail)
      iterate 6 (with_reducible refine quiet_skip ?_ ?_; kernel_rfl; simp only [Act.put, List.setIfInBounds_toArray, List.set_cons_zero, List.set_cons_succ])
      iterate 2 quiet_step (fail)
      iterate 3 (with_reducible refine quiet_skip ?_ ?_; kernel_rfl; simp only [Act.put, List.setIfInBounds_toArray, List.set_cons_zero, List.set_cons_succ])
      iterate 9 (with_reducible refine quiet_skip ?_ ?_; kernel_rfl; simp only [Act.put, List.setIfInBounds_toArray, List.set_cons_zero, List.set_cons_succ])
      iterate 1 (with_reducible refine quiet_skip ?_ ?_; kernel_rfl; simp only [Act.put, List.setIfInBounds_toArray, List.set_cons_zero, List.set_cons_succ])
      quiet_step (fail)
      refine wpQuiet_nil ?_
      rintro _ ⟨⟨wq, bq⟩, rfl⟩
      have hbq := bW7.trans (bq.mono bW7.size)
      go_wp2_with fail
      go_meet
      exact ⟨true, rfl, HB.out, hbq⟩
     cases LB
     ·have HB := hid_in (show true = false ↔ blockOk PL j x.plain by rw [hbo]; simp)
      clear hbo HY' hnr
      iterate 5 quiet_step (fail)
      quiet_step ((go_at_call 108; refine gr_of (HNM _)))
      iterate 3 quiet_step (fail)
      iterate 4 quiet_step (fail)
      quiet_step ((go_at_call 127; refine gr_of (HLN' _)))
      iterate 3 quiet_step (fail)
      iterate 3 (with_reducible refine quiet_skip ?_ ?_; kernel_rfl; simp only [Act.put, List.setIfInBounds_toArray, List.set_cons_zero, List.set_cons_succ])
      iterate 9 (with_reducible refine quiet_skip ?_ ?_; kernel_rfl; simp only [Act.put, List.setIfInBounds_toArray, List.set_cons_zero, List.set_cons_succ])
      iterate 1 (with_reducible refine quiet_skip ?_ ?_; kernel_rfl; simp only [Act.put, List.setIfInBounds_toArray, List.set_cons_zero, List.set_cons_succ])
      quiet_step (fail)
      refine wpQuiet_nil ?_
      rintro _ ⟨⟨wq, bq⟩, rfl⟩
      have hbq := bW7.trans (bq.mono bW7.size)
      go_wp2_with fail
      go_meet
      exact ⟨true, rfl, HB.out, hbq⟩
     by_cases hj0 : j = 0
     ·have HB := hid_in (show True ↔ blockOk PL j x.plain by rw [hbo]; simp [hnr, hj0])
      subst hj0
      clear hbo HY' hnr i0 i1
      iterate 5 quiet_step (fail)
      quiet_step ((go_at_call 108; refine gr_of (HNM _)))
      iterate 3 quiet_step (fail)
      iterate 4 quiet_step (fail)
      quiet_step ((go_at_call 127; refine gr_of (HLN' _)))
      iterate 3 quiet_step (fail)
      iterate 3 quiet_step (fail)
      iterate 9 (with_reducible refine quiet_skip ?_ ?_; kernel_rfl; simp only [Act.put, List.setIfInBounds_toArray, List.set_cons_zero, List.set_cons_succ])
      iterate 2 quiet_step (fail)
      refine wpQuiet_nil ?_
      rintro _ ⟨⟨wq, bq⟩, rfl⟩
      have hbq := bW7.trans (bq.mono bW7.size)
      go_wp2_with fail
      go_meet
      exact ⟨false, rfl, ⟨fun _ => HB.out.1 trivial, fun _ => rfl⟩, hbq⟩
     ·obtain ⟨y, ay, cy, hPy, hyc⟩ := HY'.out hj0
      obtain ⟨m, rfl⟩ : ∃ m, j = m + 1 := ⟨j - 1, by omega⟩
      simp only [Nat.add_sub_cancel] at hPy hyc hbo
      have q4 := fun p => (hyc p).1
      have q5 := fun p => (hyc p).2.1
      have q6 := fun p => (hyc p).2.2
      have HAH : ∀ p : Gr w7, Calls Tryz.prog 105 #[.agg #[.string y.kind, .string y.name, .slice ay y.ls.length cy], .agg #[.string xk, .string xn, .slice ax nx cx]] p.u fun e w' => e = .returned (.bool (blockLt y.plain x.plain)) ∧ Below p.u.heap.size p.u w' := fun p => HAHx y ay cy p.u
      have HB := hid_in (show ((!blockLt y.plain x.plain) = false) ↔ blockOk PL (m + 1) x.plain by
       rw [hbo]
       constructor
       ·intro h
        exact ⟨hnr, trivial, trivial, .inr ⟨y.plain, hPy, by simpa using h⟩⟩
       ·rintro ⟨_, _, _, h | ⟨a, ha, hl⟩⟩
        ·omega
        ·rw [hPy] at ha; cases ha; rw [hl]; rfl)
      have i2 : (0 : Int) ≤ (m : Int) := by omega
      have i3 : (m : Int) < (n : Int) := by omega
      have i4 : IntKind.i64.wrap (m : Int) = (m : Int) := by rw [IntKind.wrap_i64]; omega
      have i5 : ((m : Int) + 1).toNat = m + 1 := by omega
      have i6 : (0 : Int) < (m : Int) + 1 := by omega
      clear hbo HY' hnr hyc hPy hj0
      generalize blockLt y.plain x.plain = LT at *
      generalize y.kind = yk at *
      generalize y.name = yn at *
      generalize y.ls.length = ny at *
      iterate 5 quiet_step (fail)
      quiet_step ((go_at_call 108; refine gr_of (HNM _)))
      iterate 3 quiet_step (fail)
      iterate 4 quiet_step (fail)
      quiet_step ((go_at_call 127; refine gr_of (HLN' _)))
      iterate 3 quiet_step (fail)
      iterate 10 quiet_step (fail)
      quiet_step ((go_at_call 105; refine gr_of (HAH _)))
      iterate 3 quiet_step (fail)
      refine wpQuiet_nil ?_
      rintro _ ⟨⟨wq, bq⟩, rfl⟩
      have hbq := bW7.trans (bq.mono bW7.size)
      go_wp2_with fail
      go_meet
      exact ⟨!LT, rfl, HB.out, hbq⟩
    case rest =>
     obtain ⟨B, rfl, hB, bq⟩ := hcut
     have b6 := b5.trans (bq.mono b5.size)
     have b16 := hbw.trans (bq.mono hbw.size)
     cases B
     ·have HA := HS.out (hB.1 rfl)
      clear hbs hbs5 hbs6 hsm hA e0 e1 hPx hxs HC HS c1 c2 c3 hxm hD hN hP hPN HSR HNM HLN HY hbo HAHx hB
      go_wp2
      go_roundw
      case rel => exact ⟨j + 1, by omega, by go_num, b16, HA⟩
      case measure => simp [intOf]; omega
     ·have HA := hid_in (HC.out (fun h => by have := hB.2 h; cases this))
      clear hbs hbs5 hbs6 hsm hA e0 e1 hPx hxs HC HS c1 c2 c3 hxm hD hN hP hPN HSR HNM HLN HY hbo HAHx hB
      go_wp2
      go_ret
      exact ⟨ret_bool HA.out, b6⟩
   ·obtain rfl : j = n := by omega
    have HA := hid_in (SpecBTo.all (by rw [hPN.out]; exact hA) (by rw [hPN.out]; exact h60))
    clear hbs hsm hA
    go_wp2
    go_ret
    exact ⟨ret_bool HA.out, b5⟩
 ·have HA := hid_in (long_no (bs := PL) (by rw [hPN.out]; exact h60))
  have h61 : (60 : Int) < (n : Int) := by omega
  clear hbs hsm
  go_enter Tryz.func61, Tryz.ntmps61
  go_wp2
  go_ret
  exact ⟨ret_bool HA.out, b0⟩
end Go.Proofs.YtpdahhnjhggocabGreatDoor
namespace Go.Proofs.YtpdahhnjhggocabGreatDoor
open Go.RowKit
def SzQ (left : Nat) (small : Prop) (w : World) (e : Ending) (w' : World) : Prop := (e = .returned (.int .i64 (-1)) ∨ ∃ r : Nat, r ≤ left ∧ e = .returned (.int .i64 (r : Int)) ∧ small) ∧ Below w.heap.size w w'
def WordsTo (ws : List (List UInt8)) (k : Nat) : Prop := ∀ x ∈ ws.take k, x.length ≤ 1048576
theorem WordsTo.zero (ws : List (List UInt8)) : WordsTo ws 0 := by simp [WordsTo]
theorem WordsTo.succ {ws : List (List UInt8)} {j : Nat} (h : WordsTo ws j) (hj : j < ws.length) (hx : ws[j].length ≤ 1048576) : WordsTo ws (j + 1) := by
 unfold WordsTo at *
 rw [List.take_succ_eq_append_getElem hj]
 intro x hm
 rcases List.mem_append.1 hm with hm | hm
 ·exact h x hm
 ·rw [List.mem_singleton.1 hm]; exact hx
theorem WordsTo.all {ws : List (List UInt8)} (h : WordsTo ws ws.length) : ∀ x ∈ ws, x.length ≤ 1048576 := by
 unfold WordsTo at h; rwa [List.take_length] at h
def WordsWide (ws : List (List UInt8)) : Prop := ∀ x ∈ ws, x.length ≤ 9223372036854775807
theorem row_wide {w : World} {ao : Option Addr} {n m cap size : Nat} {xs : List Value} (h : HasRow w (.slice ao m cap) n size xs) : n ≤ 9223372036854775807 := by
 have := h.cap
 unfold maxLen at this
 omega
set_option maxHeartbeats 1000000 in
set_option maxRecDepth 100000 in
theorem szWords_any {a : Option Addr} {len cap left : Nat} {ws : List (List UInt8)} {w : World} (h : HasRow w (.slice a len cap) ws.length 1 (strs ws)) (hw : WordsWide ws) (hl : left ≤ 1048576) : Calls Tryz.prog 249 #[.slice a len cap, .int .i64 (left : Int)] w fun e w' => SzQ left (ws.length ≤ 1048576 ∧ ∀ x ∈ ws, x.length ≤ 1048576) w e w' := by
 have en := hid_in (show len = ws.length by obtain ⟨_, _, _, e, _⟩ := h; cases e; rfl)
 have hf : len ≤ 9223372036854775807 := by rw [en.out]; exact row_wide h
 have hf' : (len : Int) ≤ 9223372036854775807 := by omega
 by_cases hl1 : len ≤ left
 ·have hl' : ¬ ((left : Int) - (len : Int) < 0) := by omega
  go_enter Tryz.func249, Tryz.ntmps249
  go_wp2
  go_loop [1, 5] (fun q i => ∃ j r : Nat, j ≤ len ∧ r ≤ left ∧ i = .int .i64 (j : Int) ∧ q = .int .i64 (r : Int) ∧ WordsTo ws j) (fun _ i => len - (intOf i).toNat)
  case atStart => exact ⟨0, left - len, by omega, by omega, rfl, by congr 1; omega, WordsTo.zero _⟩
  case round =>
   obtain ⟨j, r, hj, hr, rfl, rfl, hA⟩ := hrel
   by_cases hlt : j < len
   ·have lj : j < ws.length := by have := en.out; omega
    obtain ⟨b, off, rfl, c1⟩ := h.word j lj
    have hy : (ByteArray.mk ws[j].toArray).size = ws[j].length := by simp [ByteArray.size]
    have hy2 := hw ws[j] (List.getElem_mem _)
    have hy1 := fun (h : ws[j].length ≤ 1048576) => hA.succ lj h
    rw [← hy] at hy2 hy1
    generalize (⟨ws[j].toArray⟩ : ByteArray) = y at *
    clear h hw hy hA
    have e1 : (y.size : Int) ≤ 9223372036854775807 := by omega
    by_cases hz : y.size ≤ r
    ·have hA := hy1 (by omega)
     have hz' : ¬ ((r : Int) - (y.size : Int) < 0) := by omega
     clear hy1
     go_wp2
     go_round
     case rel => exact ⟨j + 1, r - y.size, by omega, by omega, by go_num, by congr 1; omega, hA⟩
     case measure => simp [intOf]; omega
    ·have hz' : (r : Int) - (y.size : Int) < 0 := by omega
     clear hy1
     go_wp2
     go_ret
     exact ⟨.inl rfl, Below.refl _ _⟩
   ·obtain rfl : j = len := by omega
    have HA := hid_in (WordsTo.all (en.out ▸ hA))
    have hl2 := hid_in (show ws.length ≤ 1048576 by have := en.out; omega)
    clear hA h hw
    go_wp2
    go_ret
    exact ⟨.inr ⟨r, hr, rfl, hl2.out, HA.out⟩, Below.refl _ _⟩
 ·have hl' : (left : Int) - (len : Int) < 0 := by omega
  clear h hw
  go_enter Tryz.func249, Tryz.ntmps249
  go_wp2
  go_ret
  exact ⟨.inl rfl, Below.refl _ _⟩
def LineWide (x : LAt) : Prop := x.key.size ≤ 9223372036854775807 ∧ WordsWide x.ws
def LineSmall (x : LAt) : Prop := x.ws.length ≤ 1048576 ∧ ∀ y ∈ x.ws, y.length ≤ 1048576
set_option maxHeartbeats 1000000 in
set_option maxRecDepth 100000 in
theorem szLine_any {left : Nat} {x : LAt} {w : World} (h : LineIn w x) (hw : LineWide x) (hl : left ≤ 1048576) : Calls Tryz.prog 219 #[.agg #[.string x.key, x.v], .int .i64 (left : Int)] w fun e w' => SzQ left (LineSmall x) w e w' := by
 obtain ⟨ax, cx, e1⟩ := HasRow.form h
 unfold LineIn at h
 rw [e1] at h ⊢
 have g6 : Below w.heap.size w (w.alloc (.cells #[.string x.key, .slice ax x.ws.length cx] 290)) := (Below.refl _ _).alloc (Nat.le_refl _) _
 have h6 := h.below g6
 have k1 := one_box (w := w) (cs := #[.string x.key, .slice ax x.ws.length cx]) (T := 290) 0
 have k2 := one_box (w := w) (cs := #[.string x.key, .slice ax x.ws.length cx]) (T := 290) 1
 simp only [List.getElem?_toArray, List.getElem?_cons_zero, List.getElem?_cons_succ] at k1 k2
 have hk : (x.key.size : Int) ≤ 9223372036854775807 := by have := hw.1; omega
 have HZ := fun (l : Nat) (hl : l ≤ 1048576) => szWords_any (left := l) h6 hw.2 hl
 have hLS := hid_in (show (x.ws.length ≤ 1048576 ∧ ∀ y ∈ x.ws, y.length ≤ 1048576) = LineSmall x from rfl)
 rw [hLS.out] at HZ
 generalize LineSmall x = LS at *
 clear h hw e1 h6 hLS
 generalize x.ws.length = nx at *
 generalize x.key = xk at *
 by_cases h1 : xk.size ≤ left
 ·have HZ' := HZ (left - xk.size) (by omega)
  have hc : ((left - xk.size : Nat) : Int) = (left : Int) - (xk.size : Int) := by omega
  rw [hc] at HZ'
  have h1' : ¬ ((left : Int) - (xk.size : Int) < 0) := by omega
  clear HZ
  go_enter Tryz.func219, Tryz.ntmps219
  go_wp2_with (go_at_call 249; refine HZ'.mono ?_)
  rintro e w2 ⟨rfl | ⟨r, hr, rfl, hs⟩, b2⟩
  ·go_wp2
   go_ret
   exact ⟨.inl rfl, g6.trans (b2.mono g6.size)⟩
  ·have hr0 : ¬ ((r : Int) < 0) := by omega
   go_wp2
   go_ret
   exact ⟨.inr ⟨r, by omega, rfl, hs⟩, g6.trans (b2.mono g6.size)⟩
 ·have h1' : (left : Int) - (xk.size : Int) < 0 := by omega
  clear HZ
  go_enter Tryz.func219, Tryz.ntmps219
  go_wp2
  go_ret
  exact ⟨.inl rfl, g6⟩
def AllTo {α : Type} (p : α → Prop) (l : List α) (k : Nat) : Prop := ∀ x ∈ l.take k, p x
theorem AllTo.zero {α : Type} (p : α → Prop) (l : List α) : AllTo p l 0 := by simp [AllTo]
theorem AllTo.succ {α : Type} {p : α → Prop} {D T : List α} {r : α} (h : AllTo p (D ++ r :: T) D.length) (hr : p r) : AllTo p (D ++ r :: T) (D.length + 1) := by
 unfold AllTo at *
 rw [take_front] at h
 rw [take_one]
 intro x hx
 rcases List.mem_append.1 hx with hx | hx
 ·exact h x hx
 ·rw [List.mem_singleton.1 hx]; exact hr
theorem AllTo.all {α : Type} {p : α → Prop} {l : List α} (h : AllTo p l l.length) : ∀ x ∈ l, p x := by
 unfold AllTo at h; rwa [List.take_length] at h
end Go.Proofs.YtpdahhnjhggocabGreatDoor
namespace Go.Proofs.YtpdahhnjhggocabGreatDoor
open Go.RowKit
def LinesWide (ls : List LAt) : Prop := ∀ x ∈ ls, LineWide x
def BlockWide (b : BAt) : Prop := b.kind.size ≤ 9223372036854775807 ∧ b.name.size ≤ 9223372036854775807 ∧ LinesWide b.ls
def BlockSmall (b : BAt) : Prop := b.name.size ≤ 1048576 ∧ LinesSmall b.ls
def BlocksWide (bs : List BAt) : Prop := ∀ x ∈ bs, BlockWide x
end Go.Proofs.YtpdahhnjhggocabGreatDoor
