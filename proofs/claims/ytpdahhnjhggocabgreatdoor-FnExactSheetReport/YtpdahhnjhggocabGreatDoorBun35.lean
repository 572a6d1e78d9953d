import Derived.Test.YtpdahhnjhggocabGreatDoorBun32
import Derived.Test.YtpdahhnjhggocabGreatDoorBun31
import Derived.Test.YtpdahhnjhggocabGreatDoorBun30
import Derived.Test.YtpdahhnjhggocabGreatDoorBun29
import Derived.Test.YtpdahhnjhggocabGreatDoorBun27
import Derived.Test.YtpdahhnjhggocabGreatDoorBun26
import Derived.Test.YtpdahhnjhggocabGreatDoorBun20
namespace Go.Proofs.YtpdahhnjhggocabGreatDoor
open Go.RowKit
open Classical in
noncomputable def eqLs (P Q : List PLine) : Bool := decide (P = Q)
open Classical in
theorem eqLs_true {P Q : List PLine} (h : P = Q) : eqLs P Q = true := decide_eq_true h
open Classical in
theorem eqLs_false {P Q : List PLine} (h : P ≠ Q) : eqLs P Q = false := decide_eq_false h
theorem bytes_inj {a b : ByteArray} (h : a.toList = b.toList) : a = b := by
 rw [ByteArray.toList_eq, ByteArray.toList_eq] at h
 exact ByteArray.ext (Array.toList_inj.1 h)
theorem plain_ne {x y : LAt} (h : ¬ (x.key.toList = y.key.toList ∧ x.ws = y.ws)) : x.plain ≠ y.plain := fun e => h ⟨congrArg (fun p : PLine => p.key.toList) e, congrArg PLine.ws e⟩
theorem plain_eq {x y : LAt} (h : x.key.toList = y.key.toList) (h2 : x.ws = y.ws) : x.plain = y.plain := by
 show (⟨x.key, x.ws⟩ : PLine) = ⟨y.key, y.ws⟩
 rw [bytes_inj h, h2]
set_option maxHeartbeats 4000000 in
set_option maxRecDepth 100000 in
theorem l7Same_any {va vb : Value} {xs ys : List LAt} {w : World} (h1 : LinesIn w va xs) (h2 : LinesIn w vb ys) (s1 : LinesSmall xs) (s2 : LinesSmall ys) : Calls Tryz.prog 156 #[va, vb] w fun e w' => e = .returned (.bool (eqLs (xs.map LAt.plain) (ys.map LAt.plain))) ∧ Below w.heap.size w w' := by
 obtain ⟨ao, ca, rfl⟩ := h1.1.form
 obtain ⟨bo, cb, rfl⟩ := h2.1.form
 by_cases hl : xs.length = ys.length
 ·have EN := hid_in hl
  have H1 := hid_in h1
  have H2 := hid_in h2
  have S1 := hid_in s1
  have S2 := hid_in s2
  have hn2 : xs.length ≤ 1048576 := s1.1
  rw [← hl]
  clear h1 h2 s1 s2 hl
  generalize hn : xs.length = n at *
  have en := hid_in hn
  clear hn
  have hnn : ((n : Int) != (n : Int)) = false := by simp
  go_enter Tryz.func156, Tryz.ntmps156
  go_wp2
  go_loopw [5] (fun i wr => ∃ j : Nat, i = .int .i64 (j : Int) ∧ j ≤ n ∧ Hid ((xs.take j).map LAt.plain = (ys.take j).map LAt.plain) ∧ Below w.heap.size w wr) (fun i _ => n - (intOf i).toNat)
  case atStart => exact ⟨0, rfl, by omega, hid_in (by simp), Below.refl _ _⟩
  case round =>
   obtain ⟨j, rfl, hj, hA, bw⟩ := hrel
   by_cases hlt : j < n
   ·obtain ⟨D, x, T, e1, hD⟩ := split1 xs j (by have := en.out; omega)
    obtain ⟨D', y, T', e2, hD'⟩ := split1 ys j (by have := EN.out; have := en.out; omega)
    have hx := H1.out.below bw
    have hy := H2.out.below bw
    have hxm : x ∈ xs := by rw [e1]; simp
    have hym : y ∈ ys := by rw [e2]; simp
    have hxr := hx.1
    have hyr := hy.1
    rw [e1] at hxr
    rw [e2] at hyr
    obtain ⟨g, off, rfl, c1, c2⟩ := hxr.line
    obtain ⟨g', off', rfl, d1, d2⟩ := hyr.line
    have hxl := hx.2 x hxm
    have hyl := hy.2 y hym
    obtain ⟨ax, cx, ex⟩ := HasRow.form hxl
    obtain ⟨ay, cy, ey⟩ := HasRow.form hyl
    have hxw := (S1.out.2 x hxm).1
    have hyw := (S2.out.2 y hym).1
    unfold LineIn at hxl hyl
    rw [ex] at c2 hxl
    rw [ey] at d2 hyl
    simp only [hD] at c1 c2
    simp only [hD'] at d1 d2
    have HNE := hid_in (show ¬ (x.key.toList = y.key.toList ∧ x.ws = y.ws) → eqLs (xs.map LAt.plain) (ys.map LAt.plain) = false from fun h => eqLs_false (fun e => by
     have h0 := congrArg (fun l : List PLine => l[j]?) e
     simp only [List.getElem?_map, e1, e2, List.getElem?_append_right (show D.length ≤ j by omega), List.getElem?_append_right (show D'.length ≤ j by omega), hD, hD', Nat.sub_self, List.getElem?_cons_zero, Option.map_some] at h0
     exact plain_ne h (Option.some.inj h0)))
    have HEQ := hid_in (show x.key.toList = y.key.toList → x.ws = y.ws → (xs.take (j + 1)).map LAt.plain = (ys.take (j + 1)).map LAt.plain from fun h h' => by
     have t1 : xs.take (j + 1) = xs.take j ++ [x] := by rw [e1, ← hD, take_front, take_one]
     have t2 : ys.take (j + 1) = ys.take j ++ [y] := by rw [e2, ← hD', take_front, take_one]
     rw [t1, t2, List.map_append, List.map_append, hA.out, List.map_singleton, List.map_singleton, plain_eq h h'])
    have j0 : (0 : Int) ≤ (j : Int) := by omega
    have j1 : (j : Int) < (n : Int) := by omega
    have u1 := fun p : Gr wr => gr_cell c1 p
    have u2 := fun p : Gr wr => gr_cell c2 p
    have v1 := fun p : Gr wr => gr_cell d1 p
    have v2 := fun p : Gr wr => gr_cell d2 p
    have HW : ∀ p : Gr wr, Calls Tryz.prog 74 #[.slice ax x.ws.length cx, .slice ay y.ws.length cy] p.u fun e w' => e = .returned (.bool (decide (x.ws = y.ws))) ∧ Below p.u.heap.size p.u w' := fun p => l3Words_any (hxl.below p.h) (hyl.below p.h) hxw hyw
    generalize hB : decide (x.ws = y.ws) = WB at HW
    have EB := hid_in hB
    clear hx hy hxm hym hxr hyr hxl hyl ex ey e1 e2 hD hD' hxw hyw c1 c2 d1 d2 hA hB
    generalize x.key = xk at *
    generalize y.key = yk at *
    generalize x.ws.length = nx at *
    generalize y.ws.length = ny at *
    go_upto_region 6 with fail
    refine wp_region_gr (by kernel_rfl) (by kernel_rfl) ?_
    cases hk : (xk.toList == yk.toList)
    ·have hk' : (xk.toList != yk.toList) = true := by rw [bne, hk]; rfl
     have HF := HNE.out (fun h => by rw [beq_eq_false_iff_ne] at hk; exact hk h.1)
     iterate 12 quiet_step (fail)
     iterate 12 (with_reducible refine quiet_skip ?_ ?_; kernel_rfl; simp only [Act.put, List.setIfInBounds_toArray, List.set_cons_zero, List.set_cons_succ])
     quiet_step (fail)
     refine wpQuiet_nil ?_
     rintro _ ⟨⟨wq, bq⟩, rfl⟩
     have B := hid_in (bw.trans (bq.mono bw.size))
     clear u1 u2 v1 v2 HW bq bw
     go_wp2
     go_ret
     exact ⟨HF ▸ rfl, B.out⟩
    ·have hk' : (xk.toList != yk.toList) = false := by rw [bne, hk]; rfl
     have hke := hid_in (beq_iff_eq.1 hk)
     iterate 22 quiet_step (fail)
     quiet_step ((go_at_call 74; refine gr_of (HW _)))
     iterate 2 quiet_step (fail)
     refine wpQuiet_nil ?_
     rintro _ ⟨⟨wq, bq⟩, rfl⟩
     have B := hid_in (bw.trans (bq.mono bw.size))
     clear u1 u2 v1 v2 HW bq bw
     cases WB
     ·have HF := HNE.out (fun h => of_decide_eq_false EB.out h.2)
      go_wp2
      go_ret
      exact ⟨HF ▸ rfl, B.out⟩
     ·have HT := hid_in (HEQ.out hke.out (of_decide_eq_true EB.out))
      go_wp2
      go_roundw
      case rel => exact ⟨j + 1, by go_num, by omega, HT, B.out⟩
      case measure => simp [intOf]; omega
   ·obtain rfl : j = n := by omega
    have HT := eqLs_true (show xs.map LAt.plain = ys.map LAt.plain from by
     have h := hA.out
     have e : xs.length = ys.length := en.out.trans EN.out
     rw [← en.out, List.take_length, e, List.take_length] at h
     exact h)
    clear hA
    go_wp2
    go_ret
    exact ⟨HT ▸ rfl, bw⟩
 ·have HF := eqLs_false (show xs.map LAt.plain ≠ ys.map LAt.plain from fun e => hl (by have := congrArg List.length e; simpa using this))
  have hne : ((xs.length : Int) != (ys.length : Int)) = true := by rw [bne_iff_ne]; omega
  clear h1 h2 s1 s2 hl
  generalize xs.length = n at *
  generalize ys.length = m at *
  go_enter Tryz.func156, Tryz.ntmps156
  go_wp2
  go_ret
  exact ⟨HF ▸ rfl, Below.refl _ _⟩
end Go.Proofs.YtpdahhnjhggocabGreatDoor
namespace Go.Proofs.YtpdahhnjhggocabGreatDoor
open Go.RowKit
theorem changes_pushR {B : Nat} {wc w2 w3 : World} {vk v3 : Value} {done : List CAt} {x : CAt} {cs : Array Value} {T : TypeId} {rest : List MRow} (hm : Mem B wc (crows vk done ++ rest)) (hB : B ≤ wc.heap.size) (o2 : LinesOwn wc.heap.size w2 x.v x.ls) (b2 : Below wc.heap.size wc w2)
  (hown3 : w3.ownsRow B 131 5 v3 (done.length + 1) (done.flatMap CAt.cells ++ x.cells)) (hgrow : (w2.alloc (.cells cs T)).grownBy w3 vk.ownBlock) (hv : v3.ownBlock = vk.ownBlock ∨ v3.ownBlock = some (w2.alloc (.cells cs T)).heap.size) :
  Mem B w3 (crows v3 (done ++ [x]) ++ rest) ∧ Below B wc w3 := by
 have m2 : Mem B w2 (x.rows ++ (crows vk done ++ rest)) := Mem.join hm o2 b2 hB
 have m3 : Mem B w2 (⟨vk, 131, 5, done.length, done.flatMap CAt.cells⟩ :: (done.flatMap CAt.rows ++ x.rows ++ rest)) := m2.perm (by
  unfold crows
  rw [List.cons_append, List.append_assoc]
  exact List.perm_middle.trans ((List.perm_append_comm_assoc _ _ _).cons _))
 have ba := (Below.refl w2.heap.size w2).alloc (Nat.le_refl _) (.cells cs T)
 have m4 := m3.below ba
 have m5 := m4.grow (r' := ⟨v3, 131, 5, done.length + 1, done.flatMap CAt.cells ++ x.cells⟩) hown3 hgrow hv
 refine ⟨?_, ?_⟩
 ·unfold crows
  rw [List.flatMap_append, List.flatMap_append, List.length_append, List.flatMap_singleton, List.flatMap_singleton]
  exact m5
 ·have hz := b2.size
  exact ((b2.mono hB).trans (ba.mono (by omega))).grown hgrow (by simp; omega) (fun k hk => (Mem.lt m3 (List.mem_cons_self ..) hk).1)
theorem grown_setRowD (W : World) (R : Nat) (cs : Array Value) : W.grownBy (W.setRow R cs) (some R) := ⟨rfl, rfl, rfl, by rw [setRow_size]; exact Nat.le_refl _, fun i _ hi => setRow_other _ _ _ _ (fun e => hi (by rw [e]))⟩
open Classical in
theorem eqLs_eq {P Q : List PLine} (h : eqLs P Q = true) : P = Q := of_decide_eq_true h
open Classical in
theorem eqLs_ne {P Q : List PLine} (h : eqLs P Q = false) : P ≠ Q := of_decide_eq_false h
def BlkPost (P : List PChange) (w : World) (e : Ending) (w' : World) : Prop := ∃ v' cs', e = .returned v' ∧ cs'.map CAt.plain = P ∧ (∀ c ∈ cs', LinesSmall c.ls) ∧ ChangesOwn w.heap.size w' v' cs' ∧ cs'.length ≤ 12 ∧ Below w.heap.size w w'
def BlkRel (B : Nat) (w2 : World) (xk xn : ByteArray) (P Q : List PLine) (nr : Nat) (rr : List MRow) (out i : Value) (wr : World) : Prop := ∃ (k : Nat) (cs : List CAt), i = .int .i64 (k : Int) ∧ k ≤ nr ∧ cs.map CAt.plain = ((rulesOf xk).take k).flatMap (fun p => diffK xk xn P Q p.1) ∧ (∀ c ∈ cs, LinesSmall c.ls) ∧ cs.length ≤ k ∧ Mem B wr (crows out cs ++ rr) ∧ Below B w2 wr
theorem take_flat {α β : Type} {l D T : List α} {x : α} {k : Nat} (f : α → List β) (e : l = D ++ x :: T) (hD : D.length = k) : (l.take (k + 1)).flatMap f = (l.take k).flatMap f ++ f x := by
 subst e hD
 rw [take_front, take_one, List.flatMap_append, List.flatMap_singleton]
set_option maxHeartbeats 8000000 in
set_option maxRecDepth 100000 in
theorem l7Block_any {x y : BAt} {w : World} (hx : BlockIn w x) (hy : BlockIn w y) (sx : LinesSmall x.ls) (sy : LinesSmall y.ls) : Calls Tryz.prog 91 #[.agg #[.string x.kind, .string x.name, x.v], .agg #[.string y.kind, .string y.name, y.v]] w fun e w' => BlkPost (diffB x.plain y.plain) w e w' := by
 obtain ⟨xk, xn, xv, xl⟩ := x
 obtain ⟨yk, yn, yv, yl⟩ := y
 unfold BlockIn at hx hy
 simp only at *
 obtain ⟨xa, xc, rfl⟩ := hx.1.form
 obtain ⟨ya, yc, rfl⟩ := hy.1.form
 have G : Below w.heap.size w ((w.alloc (.cells #[.string xk, .string xn, .slice xa xl.length xc] 64)).alloc (.cells #[.string yk, .string yn, .slice ya yl.length yc] 64)) := ((Below.refl w.heap.size w).alloc (Nat.le_refl _) _).alloc (by simp) _
 have hwz : ((w.alloc (.cells #[.string xk, .string xn, .slice xa xl.length xc] 64)).alloc (.cells #[.string yk, .string yn, .slice ya yl.length yc] 64)).heap.size = w.heap.size + 2 := by simp
 have zA : ((w.alloc (.cells #[.string xk, .string xn, .slice xa xl.length xc] 64)).alloc (.cells #[.string yk, .string yn, .slice ya yl.length yc] 64)).heap[w.heap.size]? = some (.cells #[.string xk, .string xn, .slice xa xl.length xc] 64 (0, 0)) := by
  have b1 := (Below.refl (w.alloc (.cells #[.string xk, .string xn, .slice xa xl.length xc] 64)).heap.size (w.alloc (.cells #[.string xk, .string xn, .slice xa xl.length xc] 64))).alloc (Nat.le_refl _) (.cells #[.string yk, .string yn, .slice ya yl.length yc] 64)
  rw [b1.block w.heap.size (by simp)]; exact alloc_here w _
 have zB : ((w.alloc (.cells #[.string xk, .string xn, .slice xa xl.length xc] 64)).alloc (.cells #[.string yk, .string yn, .slice ya yl.length yc] 64)).heap[w.heap.size + 1]? = some (.cells #[.string yk, .string yn, .slice ya yl.length yc] 64 (0, 0)) := by
  have := alloc_here (w.alloc (.cells #[.string xk, .string xn, .slice xa xl.length xc] 64)) (.cells #[.string yk, .string yn, .slice ya yl.length yc] 64)
  rw [World.size_alloc] at this; exact this
 have HX2 := hid_in (show LinesIn _ (.slice xa xl.length xc) xl from LinesIn.below hx G)
 have HY2 := hid_in (show LinesIn _ (.slice ya yl.length yc) yl from LinesIn.below hy G)
 have SX := hid_in sx
 have SY := hid_in sy
 generalize hw2 : (w.alloc (.cells #[.string xk, .string xn, .slice xa xl.length xc] 64)).alloc (.cells #[.string yk, .string yn, .slice ya yl.length yc] 64) = w2 at *
 have ew2 := hid_in hw2
 have hown0 := World.ownsRow_lit (base := w.heap.size + 2) (e := 131) (size := 5) w2 #[] 0 (by omega) (by decide) rfl
 rw [hwz] at hown0
 have b00 := (Below.refl (w.heap.size + 2) w2).alloc (by omega) (.cells #[] 131)
 have M0 : Mem (w.heap.size + 2) (w2.alloc (.cells #[] 131)) (crows (.slice (some ⟨w.heap.size + 2, 0, none⟩) 0 0) []) := ⟨fun r hr => by rw [List.mem_singleton.1 hr]; exact hown0, by simp [crows]⟩
 have s3 : (w2.alloc (.cells #[] 131)).heap.size = w.heap.size + 3 := by rw [World.size_alloc, hwz]
 have zA3 := (b00.block w.heap.size (by omega)).trans zA
 have a0 := cell_of_block zA3 0
 simp only [List.getElem?_toArray, List.getElem?_cons_zero] at a0
 have HSR := fun W => specRules_any xk W
 obtain ⟨i0, hi, hz0, hz1, hz2⟩ := info_parts infoChange
 clear hx hy sx sy hw2 hown0
 generalize hnx : xl.length = nx at *
 have enx := hid_in hnx
 clear hnx
 generalize hny : yl.length = ny at *
 have eny := hid_in hny
 clear hny
 go_enter Tryz.func91, Tryz.ntmps91
 go_upto_region 2 with fail
 rw [ew2.out]
 go_wp2_with (go_at_call 68; refine (HSR _).mono ?_)
 rintro e w4 ⟨vr, L, rfl, hpl, hr, b4⟩
 have hLl := rulesOf_twelve xk hpl
 have HPL := hid_in hpl
 obtain ⟨ra, rc, rfl, _⟩ := own_form (show w4.ownsRow _ 105 4 vr L.length (L.flatMap RAt.cells) from Mem.head hr)
 obtain ⟨rr, hrr⟩ : ∃ rr, (⟨.slice ra L.length rc, 105, 4, L.length, L.flatMap RAt.cells⟩ :: L.flatMap RAt.rows : List MRow) = rr := ⟨_, rfl⟩
 have M4 : Mem (w.heap.size + 2) w4 (crows (.slice (some ⟨w.heap.size + 2, 0, none⟩) 0 0) [] ++ rr) := by
  rw [← hrr]
  exact (Mem.join M0 hr b4 (by omega)).perm List.perm_append_comm
 have B4 : Below (w.heap.size + 2) w2 w4 := b00.trans (b4.mono (by omega))
 have HI := hid_in (show BlkRel (w.heap.size + 2) w2 xk xn (xl.map LAt.plain) (yl.map LAt.plain) L.length rr (.slice (some ⟨w.heap.size + 2, 0, none⟩) 0 0) (.int .i64 0) w4 from ⟨0, [], rfl, by omega, by simp, by simp, by simp, M4, B4⟩)
 have ERR := hid_in hrr
 clear hr b4 hpl HSR M0 M4 B4 b00 zA3 a0 hrr s3
 generalize hnr : L.length = nr at *
 have enr := hid_in hnr
 clear hnr
 go_wp2
 go_loopw [5, 7] (fun out i wr => BlkRel (w.heap.size + 2) w2 xk xn (xl.map LAt.plain) (yl.map LAt.plain) nr rr out i wr) (fun _ i _ => nr - (intOf i).toNat)
 case atStart => exact HI.out
 case round =>
  clear HI
  obtain ⟨k, cs, rfl, hk, hcs, hsm, hcl, hm, bw⟩ := hrel
  obtain ⟨qa, qc, rfl, _⟩ := own_form (show wr.ownsRow (w.heap.size + 2) 131 5 _ cs.length (cs.flatMap CAt.cells) from Mem.head hm)
  have hszw := bw.size
  rw [hwz] at hszw
  have hB2 : Below w2.heap.size w2 wr := by rw [hwz]; exact bw
  have kA := (bw.block w.heap.size (by omega)).trans zA
  have kB := (bw.block (w.heap.size + 1) (by omega)).trans zB
  by_cases hlt : k < nr
  ·obtain ⟨D, r, T, eL, hD⟩ := split1 L k (by have := enr.out; omega)
   have hrow : HasRow wr (.slice ra nr rc) nr 4 (L.flatMap RAt.cells) := by
    have := Mem.right hm
    rw [← ERR.out] at this
    have h := own_has (Mem.head this)
    exact h
   rw [eL] at hrow
   obtain ⟨rg, roff, rfl, r0, _, _, _⟩ := hrow.rule
   rw [hD] at r0
   have a0 := cell_of_block kA 0
   have a1 := cell_of_block kA 1
   have a2 := cell_of_block kA 2
   have b0 := cell_of_block kB 0
   have b1 := cell_of_block kB 1
   have b2 := cell_of_block kB 2
   simp only [List.getElem?_toArray, List.getElem?_cons_zero, List.getElem?_cons_succ] at a0 a1 a2 b0 b1 b2
   have k1 : (0 : Int) ≤ (k : Int) := by omega
   have k2 : (k : Int) < (nr : Int) := by omega
   have HST := hid_in (show ((rulesOf xk).take (k + 1)).flatMap (fun p => diffK xk xn (xl.map LAt.plain) (yl.map LAt.plain) p.1) = cs.map CAt.plain ++ diffK xk xn (xl.map LAt.plain) (yl.map LAt.plain) r.key from by
    have e : rulesOf xk = D.map RAt.plain ++ r.plain :: T.map RAt.plain := by rw [← HPL.out, eL]; simp
    rw [take_flat _ e (by rw [List.length_map]; exact hD), hcs]; rfl)
   have HXr := hid_in (HX2.out.below hB2)
   have HYr := hid_in (HY2.out.below hB2)
   have HM := hid_in hm
   have HSM := hid_in hsm
   clear hm hsm hcs hrow kA kB eL hD
   generalize r.key = rk at *
   have u0 := fun p : Gr wr => gr_cell a0 p
   have u1 := fun p : Gr wr => gr_cell a1 p
   have u2 := fun p : Gr wr => gr_cell a2 p
   have u3 := fun p : Gr wr => gr_cell r0 p
   have HL5 : ∀ p : Gr wr, Calls Tryz.prog 69 #[.agg #[.string xk, .string xn, .slice xa nx xc], .string rk] p.u fun e w' => ∃ v' ls', e = .returned v' ∧ ls'.map LAt.plain = ofK (xl.map LAt.plain) rk ∧ LinesOwn p.u.heap.size w' v' ls' ∧ LinesSmall ls' ∧ Below p.u.heap.size p.u w' := fun p => by
    have := l5Of_any (b := ⟨xk, xn, .slice xa nx xc, xl⟩) rk (w := p.u) (HXr.out.below p.h) SX.out
    exact this
   go_upto_region 6 with fail
   refine wp_region_upM 7 8 (by kernel_rfl) rfl ?_
   refine wpUp_mask [true, true, true, true, true, true, false, false] 2 rfl (by kernel_rfl) ?_
   simp only [maskL_t, maskL_f, maskL_n]
   iterate 6 (refine wpQuietU_step (fun K hK => ?_); go_simp; refine hK _ ?_; clear hK K)
   refine wpQuietU_nil ?_
   refine wpUp_branch (f := 1) (rs := [6]) (by kernel_rfl) (by simp) ?_
   rintro ⟨wp, bp⟩
   refine AllUp.cons rfl (by decide) (fun K hK => ?_) AllUp.nil
   go_simp
   go_wp2_with (go_at_call 69; refine (HL5 ⟨wp, bp⟩).mono ?_; rintro e w5 ⟨v5, ls5, rfl, hp5, o5, s5, b5⟩)
   refine hK.out _ _ b5 ?_
   clear hK K
   refine wpUp_last (by kernel_rfl) rfl (by kernel_rfl) ?_
   rintro ⟨wz, bz⟩ K hK
   go_simp
   refine hK.out _ _ (NoPanic.normal ?_)
   clear hK K
   have hz5 := b5.size
   have B5 : Below wr.heap.size wr wz := bp.trans ((b5.trans (bz.mono b5.size)).mono bp.size)
   have O5 := hid_in ((o5.below bz).lin)
   have S5 := hid_in s5
   have HP5 := hid_in hp5
   obtain ⟨a5, c5, rfl, _⟩ := own_form o5.row
   have e0 := (B5.cell (World.block_lt_of_cell? wr _ b0)).trans b0
   have e1 := (B5.cell (World.block_lt_of_cell? wr _ b1)).trans b1
   have e2 := (B5.cell (World.block_lt_of_cell? wr _ b2)).trans b2
   have f0 := (B5.cell (World.block_lt_of_cell? wr _ a0)).trans a0
   have f1 := (B5.cell (World.block_lt_of_cell? wr _ a1)).trans a1
   have r5 := (B5.cell (World.block_lt_of_cell? wr _ r0)).trans r0
   have HYz := hid_in (HYr.out.below B5)
   have HMz := hid_in (HM.out.below B5)
   have bwz := bw.trans (B5.mono (by omega))
   clear u0 u1 u2 u3 HL5 o5 s5 hp5 b5 bp bz a0 a1 a2 b0 b1 b2 r0 HXr HYr HM
   generalize hn5 : ls5.length = n5 at *
   have en5 := hid_in hn5
   clear hn5
   have v0 := fun p : Gr wz => gr_cell e0 p
   have v1 := fun p : Gr wz => gr_cell e1 p
   have v2 := fun p : Gr wz => gr_cell e2 p
   have v3 := fun p : Gr wz => gr_cell r5 p
   have HL6 : ∀ p : Gr wz, Calls Tryz.prog 69 #[.agg #[.string yk, .string yn, .slice ya ny yc], .string rk] p.u fun e w' => ∃ v' ls', e = .returned v' ∧ ls'.map LAt.plain = ofK (yl.map LAt.plain) rk ∧ LinesOwn p.u.heap.size w' v' ls' ∧ LinesSmall ls' ∧ Below p.u.heap.size p.u w' := fun p => by
    have := l5Of_any (b := ⟨yk, yn, .slice ya ny yc, yl⟩) rk (w := p.u) (HYz.out.below p.h) SY.out
    exact this
   go_upto_region 7 with fail
   refine wp_region_upM 7 8 (by kernel_rfl) rfl ?_
   refine wpUp_mask [true, true, true, true, true, true, false, false] 2 rfl (by kernel_rfl) ?_
   simp only [maskL_t, maskL_f, maskL_n]
   iterate 6 (refine wpQuietU_step (fun K hK => ?_); go_simp; refine hK _ ?_; clear hK K)
   refine wpQuietU_nil ?_
   refine wpUp_branch (f := 1) (rs := [6]) (by kernel_rfl) (by simp) ?_
   rintro ⟨wp, bp⟩
   refine AllUp.cons rfl (by decide) (fun K hK => ?_) AllUp.nil
   go_simp
   go_wp2_with (go_at_call 69; refine (HL6 ⟨wp, bp⟩).mono ?_; rintro e w7 ⟨v7, ls7, rfl, hp7, o7, s7, b7⟩)
   refine hK.out _ _ b7 ?_
   clear hK K
   refine wpUp_last (by kernel_rfl) rfl (by kernel_rfl) ?_
   rintro ⟨w8, b8⟩ K hK
   go_simp
   refine hK.out _ _ (NoPanic.normal ?_)
   clear hK K
   have hz7 := b7.size
   have B7 : Below wp.heap.size wp w8 := b7.trans (b8.mono b7.size)
   have Bz : Below wz.heap.size wz w8 := bp.trans (B7.mono bp.size)
   have O7 := hid_in (o7.below b8)
   have S7 := hid_in s7
   have HP7 := hid_in hp7
   obtain ⟨a7, c7, rfl, _⟩ := own_form o7.row
   have HMp := hid_in (HMz.out.below bp)
   have bwp := bwz.trans (bp.mono (by have := bwz.size; omega))
   have HSAME := l7Same_any (w := w8) (O5.out.below Bz) O7.out.lin S5.out S7.out
   rw [HP5.out, HP7.out] at HSAME
   clear v0 v1 v2 v3 HL6 o7 s7 hp7 b7 b8 HMz bwz HYz
   generalize hn7 : ls7.length = n7 at *
   have en7 := hid_in hn7
   clear hn7
   generalize hEQ : eqLs (ofK (xl.map LAt.plain) rk) (ofK (yl.map LAt.plain) rk) = EQ at HSAME
   have EEQ := hid_in hEQ
   clear hEQ
   go_wp2_with (go_at_call 156; refine HSAME.mono ?_)
   first | rintro e w9 rfl b9 | rintro e w9 ⟨rfl, b9⟩
   have B9 : Below wp.heap.size wp w9 := B7.trans (b9.mono B7.size)
   have hpz := bwp.size
   clear HSAME
   cases EQ
   ·have BZ9 : Below wz.heap.size wz w9 := Bz.trans (b9.mono Bz.size)
    have h0 := (BZ9.cell (World.block_lt_of_cell? wz _ f0)).trans f0
    have h1 := (BZ9.cell (World.block_lt_of_cell? wz _ f1)).trans f1
    have h2 := (BZ9.cell (World.block_lt_of_cell? wz _ r5)).trans r5
    have hS0 : (fun W : World => W.cell? ⟨w.heap.size, 0, none⟩ = some (.string xk) ∧ W.cell? ⟨w.heap.size, 1, none⟩ = some (.string xn) ∧ W.cell? ⟨rg, roff + k * 4, none⟩ = some (.string rk)) w9.drew := ⟨h0, h1, h2⟩
    have s0 := fun p : { W : World // W.cell? ⟨w.heap.size, 0, none⟩ = some (.string xk) ∧ W.cell? ⟨w.heap.size, 1, none⟩ = some (.string xn) ∧ W.cell? ⟨rg, roff + k * 4, none⟩ = some (.string rk) } => p.2.1
    have s1 := fun p : { W : World // W.cell? ⟨w.heap.size, 0, none⟩ = some (.string xk) ∧ W.cell? ⟨w.heap.size, 1, none⟩ = some (.string xn) ∧ W.cell? ⟨rg, roff + k * 4, none⟩ = some (.string rk) } => p.2.2.1
    have s2 := fun p : { W : World // W.cell? ⟨w.heap.size, 0, none⟩ = some (.string xk) ∧ W.cell? ⟨w.heap.size, 1, none⟩ = some (.string xn) ∧ W.cell? ⟨rg, roff + k * 4, none⟩ = some (.string rk) } => p.2.2.2
    letI : Inhabited { W : World // W.cell? ⟨w.heap.size, 0, none⟩ = some (.string xk) ∧ W.cell? ⟨w.heap.size, 1, none⟩ = some (.string xn) ∧ W.cell? ⟨rg, roff + k * 4, none⟩ = some (.string rk) } := ⟨⟨w9.drew, hS0⟩⟩
    go_upto_region 9 with fail
    refine wp_region_hold (S := fun W => W.cell? ⟨w.heap.size, 0, none⟩ = some (.string xk) ∧ W.cell? ⟨w.heap.size, 1, none⟩ = some (.string xn) ∧ W.cell? ⟨rg, roff + k * 4, none⟩ = some (.string rk)) 12 13 (by kernel_rfl) rfl ?_
    refine wpHold_mask [true, true, true, true, true, true, true, true, true, true, true, false, false] 2 rfl (by kernel_rfl) hS0 ?_
    simp only [maskL_t, maskL_f, maskL_n]
    iterate 11 (refine wpReads_step (fun K hK => ?_); go_simp; refine hK _ ?_; clear hK K)
    refine wpReads_nil ?_
    clear s0 s1 s2
    refine wpHold_branch (f := 1) (rs := [11]) (by kernel_rfl) (by simp) ?_
    refine AllHold.cons rfl (by decide) (fun K hK => ?_) AllHold.nil
    go_simp
    have zR := alloc_here w9 (.cells #[.int .i64 0, .string ⟨#[]⟩, .string ⟨#[]⟩, .string ⟨#[]⟩, .slice none 0 0] 131)
    have bR : Below w9.heap.size w9 (w9.alloc (.cells #[.int .i64 0, .string ⟨#[]⟩, .string ⟨#[]⟩, .string ⟨#[]⟩, .slice none 0 0] 131)).drew := ((Below.refl w9.heap.size w9).alloc (Nat.le_refl _) _).drew
    refine hK.out _ _ ⟨(bR.cell (World.block_lt_of_cell? w9 _ h0)).trans h0, (bR.cell (World.block_lt_of_cell? w9 _ h1)).trans h1, (bR.cell (World.block_lt_of_cell? w9 _ h2)).trans h2⟩ ?_
    clear hK K
    have zR : (w9.alloc (.cells #[.int .i64 0, .string ⟨#[]⟩, .string ⟨#[]⟩, .string ⟨#[]⟩, .slice none 0 0] 131)).drew.heap[w9.heap.size]? = _ := zR
    generalize hWR : (w9.alloc (.cells #[.int .i64 0, .string ⟨#[]⟩, .string ⟨#[]⟩, .string ⟨#[]⟩, .slice none 0 0] 131)).drew = WR at *
    clear hWR
    refine wpHold_last (by kernel_rfl) rfl (by kernel_rfl) ?_
    intro K hK
    rw [if_pos (by rfl)]
    refine wp_store_row 131 _ _ rfl w9.heap.size #[.int .i64 3, .string xk, .string xn, .string rk, .slice a7 n7 c7] rfl rfl 131 _ zR (by kernel_rfl) rfl (by first | rfl | kernel_rfl) ?_
    refine hK.out _ _ (NoPanic.normal ?_)
    clear hK K
    have zX := setRow_heap WR w9.heap.size _ #[.int .i64 3, .string xk, .string xn, .string rk, .slice a7 n7 c7] _ _ zR
    have BX : Below w9.heap.size w9 (WR.setRow w9.heap.size #[.int .i64 3, .string xk, .string xn, .string rk, .slice a7 n7 c7]) := bR.grown (grown_setRowD WR w9.heap.size #[.int .i64 3, .string xk, .string xn, .string rk, .slice a7 n7 c7]) bR.size (fun q hq => by cases hq; exact Nat.le_refl _)
    generalize WR.setRow w9.heap.size #[.int .i64 3, .string xk, .string xn, .string rk, .slice a7 n7 c7] = WX at *
    clear zR bR h0 h1 h2 f0 f1 e0 e1 e2 r5
    by_cases hn0 : n7 = 0
    ·have HEM := hid_in (show ls7.map LAt.plain = [] from by rw [List.length_eq_zero_iff.1 (en7.out.trans hn0)]; rfl)
     subst hn0
     have fX := frozen_of_block zX 0
     have gX := cell_of_block zX 0
     simp only [List.getElem?_toArray, List.getElem?_cons_zero] at gX
     have zX4 : (WX.setCell ⟨w9.heap.size, 0, none⟩ (.int .i64 4)).heap[w9.heap.size]? = some (.cells #[.int .i64 4, .string xk, .string xn, .string rk, .slice a7 0 c7] 131 (0, 0)) := by rw [heap_setCell_same WX w9.heap.size 0 _ _ _ zX]; rfl
     have BX4 := below_setCell BX ⟨w9.heap.size, 0, none⟩ (Nat.le_refl _) (.int .i64 4)
     go_upto_region 12 with fail
     generalize WX.setCell ⟨w9.heap.size, 0, none⟩ (.int .i64 4) = WX at *
     rename_i WX0
     have zX := zX4
     have BX := BX4
     clear zX4 BX4 fX gX
     have OX := hid_in (O7.out.below ((b9.trans (BX.mono b9.size))))
     have BP : Below wp.heap.size wp WX := B9.trans (BX.mono B9.size)
     have g0 := cell_of_block zX 0
     have g1 := cell_of_block zX 1
     have g2 := cell_of_block zX 2
     have g3 := cell_of_block zX 3
     have g4 := cell_of_block zX 4
     simp only [List.getElem?_toArray, List.getElem?_cons_zero, List.getElem?_cons_succ] at g0 g1 g2 g3 g4
     have hm3 : (WX.alloc (.cells #[.int .i64 4, .string xk, .string xn, .string rk, .slice a7 0 c7] 131)).ownsRow (w.heap.size + 2) 131 5 (.slice qa cs.length qc) cs.length (cs.flatMap CAt.cells) := (Mem.head (HMp.out.below BP)).alloc _
     have hrow := lit_has WX #[.int .i64 4, .string xk, .string xn, .string rk, .slice a7 0 c7] 131 5 rfl
     have hone : ∀ u ∈ (#[.int .i64 4, .string xk, .string xn, .string rk, .slice a7 0 c7] : Array Value).toList, u.oneCell' = true := by intro u hu; simp at hu; rcases hu with rfl | rfl | rfl | rfl | rfl <;> rfl
     have hBX := BP.size
     have hbase := hid_in (show ∀ q, (Value.slice qa cs.length qc).ownBlock = some q → w.heap.size + 2 ≤ q from fun q hq => (Mem.lt HMp.out (List.mem_append_left _ (List.mem_cons_self ..)) hq).1)
     go_wp2_with (at_builtin; refine wpList_append_has (by rfl) _ _ 49 (by rfl) (w.heap.size + 2) 131 i0 _ 5 80 Tryz.underlying49 hi hz0 hz1 hz2 rfl (by decide) _ cs.length _ (by rfl) hm3 _ 1 _ (by rfl) hrow hone ?c3 ?c4 (by rw [World.size_alloc]; omega) ?_)
     case c3 => unfold maxLen; omega
     case c4 => omega
     intro ao' cap' wE hownE hgE hvE
     have HPU := changes_pushR (x := ⟨4, xk, xn, rk, .slice a7 0 c7, ls7⟩) HMp.out (by omega) OX.out BP hownE hgE (by first | exact hvE | (rw [World.size_alloc]; exact hvE))
     have HR := hid_in (show BlkRel (w.heap.size + 2) w2 xk xn (xl.map LAt.plain) (yl.map LAt.plain) nr rr (.slice ao' (cs.length + 1) cap') (.int .i64 ((k : Int) + 1)) wE from ⟨k + 1, cs ++ [⟨4, xk, xn, rk, .slice a7 0 c7, ls7⟩], by rw [Int.natCast_add]; rfl, by omega, by
      rw [HST.out, List.map_append, List.map_singleton]
      unfold diffK
      rw [if_neg (eqLs_ne EEQ.out)]
      show _ = _ ++ [(⟨_, xk, xn, rk, ofK (yl.map LAt.plain) rk⟩ : PChange)]
      rw [← HP7.out, if_pos (by rw [HEM.out]; rfl)]; rfl, fun c hc => by
      rcases List.mem_append.1 hc with hc | hc
      ·exact HSM.out c hc
      ·rw [List.mem_singleton.1 hc]; exact S7.out, by simp; omega, HPU.1, bwp.trans (HPU.2.mono (Nat.le_refl _))⟩)
     clear hm3 hrow hone hownE hgE hvE HPU
     go_wp2
     go_roundw
     case rel => exact HR.out
     case measure => simp [intOf]; omega
    ·have HEM := hid_in (show ls7.map LAt.plain ≠ [] from fun e => hn0 (by rw [← en7.out]; exact List.length_eq_zero_iff.2 (List.map_eq_nil_iff.1 e)))
     have hq0 : ((n7 : Int) == 0) = false := by rw [beq_eq_false_iff_ne]; omega
     have OX := hid_in (O7.out.below ((b9.trans (BX.mono b9.size))))
     have BP : Below wp.heap.size wp WX := B9.trans (BX.mono B9.size)
     have g0 := cell_of_block zX 0
     have g1 := cell_of_block zX 1
     have g2 := cell_of_block zX 2
     have g3 := cell_of_block zX 3
     have g4 := cell_of_block zX 4
     simp only [List.getElem?_toArray, List.getElem?_cons_zero, List.getElem?_cons_succ] at g0 g1 g2 g3 g4
     have hm3 : (WX.alloc (.cells #[.int .i64 3, .string xk, .string xn, .string rk, .slice a7 n7 c7] 131)).ownsRow (w.heap.size + 2) 131 5 (.slice qa cs.length qc) cs.length (cs.flatMap CAt.cells) := (Mem.head (HMp.out.below BP)).alloc _
     have hrow := lit_has WX #[.int .i64 3, .string xk, .string xn, .string rk, .slice a7 n7 c7] 131 5 rfl
     have hone : ∀ u ∈ (#[.int .i64 3, .string xk, .string xn, .string rk, .slice a7 n7 c7] : Array Value).toList, u.oneCell' = true := by intro u hu; simp at hu; rcases hu with rfl | rfl | rfl | rfl | rfl <;> rfl
     have hBX := BP.size
     have hbase := hid_in (show ∀ q, (Value.slice qa cs.length qc).ownBlock = some q → w.heap.size + 2 ≤ q from fun q hq => (Mem.lt HMp.out (List.mem_append_left _ (List.mem_cons_self ..)) hq).1)
     go_wp2_with (at_builtin; refine wpList_append_has (by rfl) _ _ 49 (by rfl) (w.heap.size + 2) 131 i0 _ 5 80 Tryz.underlying49 hi hz0 hz1 hz2 rfl (by decide) _ cs.length _ (by rfl) hm3 _ 1 _ (by rfl) hrow hone ?c3 ?c4 (by rw [World.size_alloc]; omega) ?_)
     case c3 => unfold maxLen; omega
     case c4 => omega
     intro ao' cap' wE hownE hgE hvE
     have HPU := changes_pushR (x := ⟨3, xk, xn, rk, .slice a7 n7 c7, ls7⟩) HMp.out (by omega) OX.out BP hownE hgE (by first | exact hvE | (rw [World.size_alloc]; exact hvE))
     have HR := hid_in (show BlkRel (w.heap.size + 2) w2 xk xn (xl.map LAt.plain) (yl.map LAt.plain) nr rr (.slice ao' (cs.length + 1) cap') (.int .i64 ((k : Int) + 1)) wE from ⟨k + 1, cs ++ [⟨3, xk, xn, rk, .slice a7 n7 c7, ls7⟩], by rw [Int.natCast_add]; rfl, by omega, by
      rw [HST.out, List.map_append, List.map_singleton]
      unfold diffK
      rw [if_neg (eqLs_ne EEQ.out)]
      show _ = _ ++ [(⟨_, xk, xn, rk, ofK (yl.map LAt.plain) rk⟩ : PChange)]
      rw [← HP7.out, if_neg (by rw [List.isEmpty_iff]; exact HEM.out)]; rfl, fun c hc => by
      rcases List.mem_append.1 hc with hc | hc
      ·exact HSM.out c hc
      ·rw [List.mem_singleton.1 hc]; exact S7.out, by simp; omega, HPU.1, bwp.trans (HPU.2.mono (Nat.le_refl _))⟩)
     clear hm3 hrow hone hownE hgE hvE HPU
     go_wp2
     go_roundw
     case rel => exact HR.out
     case measure => simp [intOf]; omega
   ·have HR := hid_in (show BlkRel (w.heap.size + 2) w2 xk xn (xl.map LAt.plain) (yl.map LAt.plain) nr rr _ (.int .i64 ((k : Int) + 1)) w9 from ⟨k + 1, cs, by rw [Int.natCast_add]; rfl, by omega, by
     rw [HST.out]
     unfold diffK
     rw [if_pos (eqLs_eq EEQ.out), List.append_nil], HSM.out, by omega, HMp.out.below B9, bwp.trans (B9.mono (by omega))⟩)
    go_wp2
    go_roundw
    case rel => exact HR.out
    case measure => simp [intOf]; omega
  ·obtain rfl : k = nr := by omega
   have HO := hid_in (show BlkPost (diffB ⟨xk, xn, xl.map LAt.plain⟩ ⟨yk, yn, yl.map LAt.plain⟩) w (.returned (.slice qa cs.length qc)) wr from ⟨_, cs, rfl, by
    rw [hcs, ← enr.out, ← List.length_map (f := RAt.plain), HPL.out, List.take_length]; rfl, hsm, Mem.mono (Mem.left hm) (by omega), by omega, G.trans (bw.mono (by omega))⟩)
   clear hm hsm hcs
   generalize cs.length = nc at *
   go_wp2
   go_ret
   exact HO.out
end Go.Proofs.YtpdahhnjhggocabGreatDoor
namespace Go.Proofs.YtpdahhnjhggocabGreatDoor
open Go.RowKit
theorem putIn_split {α : Type} (lt : α → α → Bool) (x : α) : ∀ (D T : List α), (∀ y ∈ D, lt y x = true) → (∀ y, T.head? = some y → lt y x = false) → putIn lt x (D ++ T) = D ++ x :: T
 | [], [], _, _ => rfl
 | [], y :: T, _, h => by
  have := h y rfl
  simp [putIn, this]
 | y :: D, T, h, h2 => by
  have h1 := h y (by simp)
  simp [putIn, h1, putIn_split lt x D T (fun z hz => h z (by simp [hz])) h2]
theorem HasRow.drop {w : World} {ao : Option Addr} {n cap size : Nat} {xs : List Value} (h : HasRow w (.slice ao n cap) n size xs) (k : Nat) (hk : k ≤ n) : HasRow w (.slice (if cap = k then ao else ao.map (fun a => a.add (k * size))) (n - k) (cap - k)) (n - k) size (xs.drop (k * size)) := by
 obtain ⟨hl, ao', c', hv, hcap, hc⟩ := h
 cases hv
 refine ⟨?_, _, _, rfl, ⟨by omega, by omega⟩, ?_⟩
 ·rw [List.length_drop, hl, Nat.sub_mul]
 ·by_cases hkn : n - k = 0
  ·exact .inl hkn
  ·rcases hc with h0 | ⟨b, off, rfl, hc⟩
   ·exact .inl (by omega)
   ·refine .inr ⟨b, off + k * size, ?_, fun j u hj => ?_⟩
    ·rw [if_neg (by omega), Option.map_some, add_at]
    ·rw [List.getElem?_drop] at hj
     have := hc _ u hj
     rwa [show off + (k * size + j) = off + k * size + j by omega] at this
def PutPost (R : List Plain) (b : BAt) (x : LAt) (w : World) (e : Ending) (w' : World) : Prop := ∃ v' D T, b.ls = D ++ T ∧ e = .returned (.agg #[.string b.kind, .string b.name, v']) ∧ (D ++ x :: T).map LAt.plain = putIn (lineLt R) x.plain (b.ls.map LAt.plain) ∧ w'.ownsRow w.heap.size 82 2 v' (D ++ x :: T).length ((D ++ x :: T).flatMap LAt.cells) ∧ Below w.heap.size w w'
set_option maxHeartbeats 8000000 in
set_option maxRecDepth 100000 in
theorem l3PutLine_any {b : BAt} {x : LAt} {w : World} (hb : BlockIn w b) (hs : LinesSmall b.ls) (hx : LineIn w x) (hxs : x.ws.length ≤ 1048576) : Calls Tryz.prog 70 #[.agg #[.string b.kind, .string b.name, b.v], .agg #[.string x.key, x.v]] w fun e w' => PutPost (rulesOf b.kind) b x w e w' := by
 obtain ⟨bk, bn, bv, bl⟩ := b
 obtain ⟨xk, xv, xw⟩ := x
 unfold BlockIn at hb
 unfold LineIn at hx
 simp only at *
 obtain ⟨la, lc, rfl⟩ := hb.1.form
 obtain ⟨xa, xc, rfl⟩ := hx.form
 have b0 : Below w.heap.size w (((w.alloc (.cells #[.string bk, .string bn, .slice la bl.length lc] 64)).alloc (.cells #[.string xk, .slice xa xw.length xc] 82)).alloc (.cells #[.string ⟨#[]⟩, .string ⟨#[]⟩, .slice none 0 0] 64)) := (((Below.refl _ _).alloc (Nat.le_refl _) _).alloc (by simp) _).alloc (by simp; omega) _
 obtain ⟨hsz, hy0, hy1, hy2⟩ := alloc3 (w := w) (o1 := .cells #[.string bk, .string bn, .slice la bl.length lc] 64) (o2 := .cells #[.string xk, .slice xa xw.length xc] 82) (o3 := .cells #[.string ⟨#[]⟩, .string ⟨#[]⟩, .slice none 0 0] 64)
 have hbs := hid_in hb
 have hsm := hid_in hs
 have hxi := hid_in hx
 have hl := hs.1
 clear hb hs hx
 generalize hn : bl.length = len at *
 have en := hid_in hn
 clear hn
 generalize hnx : xw.length = nx at *
 have enx := hid_in hnx
 clear hnx
 generalize hW0 : ((w.alloc (.cells #[.string bk, .string bn, .slice la len lc] 64)).alloc (.cells #[.string xk, .slice xa nx xc] 82)).alloc (.cells #[.string ⟨#[]⟩, .string ⟨#[]⟩, .slice none 0 0] 64) = W0 at *
 have eW0 := hid_in hW0
 have hszW := hid_in hsz
 clear hW0 hsz
 go_enter Tryz.func70, Tryz.ntmps70
 go_wp2
 go_loopw [5] (fun i wr => ∃ (D T : List LAt), i = .int .i64 (D.length : Int) ∧ D.length ≤ len ∧ Hid (bl = D ++ T) ∧ Hid (∀ y ∈ D.map LAt.plain, lineLt (rulesOf bk) y ⟨xk, xw⟩ = true) ∧ Below W0.heap.size W0 wr) (fun i _ => len - (intOf i).toNat)
 case atStart =>
  rw [eW0.out]
  exact ⟨[], bl, rfl, by simp, (rfl : bl = [] ++ bl), (by simp : ∀ y ∈ ([] : List LAt).map LAt.plain, _), Below.refl _ _⟩
 case round =>
  obtain ⟨D, T, rfl, hDl, hDT, hlt, bw⟩ := hrel
  have gw := b0.trans (bw.mono b0.size)
  have hs3 := hszW.out
  have z0 := (bw.block w.heap.size (by omega)).trans hy0
  have z1 := (bw.block (w.heap.size + 1) (by omega)).trans hy1
  have z2 := (bw.block (w.heap.size + 2) (by omega)).trans hy2
  have c0 := cell_of_block z0 0
  have c2 := cell_of_block z0 2
  have d0 := cell_of_block z1 0
  have d1 := cell_of_block z1 1
  simp only [List.getElem?_toArray, List.getElem?_cons_zero, List.getElem?_cons_succ] at c0 c2 d0 d1
  have hszw := bw.size
  have v0 := fun p : Gr wr => gr_cell c0 p
  have v2 := fun p : Gr wr => gr_cell c2 p
  have u0 := fun p : Gr wr => gr_cell d0 p
  have u1 := fun p : Gr wr => gr_cell d1 p
  have HBS := hid_in (hbs.out.below gw)
  have HXI := hid_in (hxi.out.below gw)
  clear c0 c2 d0 d1 hy0 hy1 hy2
  go_upto_region 2 with fail
  go_cut [21] from 6 to 21 (fun c wx => ∃ B : Bool, c = .bool B ∧ Hid ((B = true → ∃ y T', T = y :: T' ∧ lineLt (rulesOf bk) y.plain ⟨xk, xw⟩ = true) ∧ (B = false → ∀ y, (T.map LAt.plain).head? = some y → lineLt (rulesOf bk) y ⟨xk, xw⟩ = false)) ∧ Below wr.heap.size wr wx)
  case first =>
   cases T with
   | nil =>
    have hDlen : D.length = len := by rw [← en.out, hDT.out]; simp
    have hno : ¬ ((D.length : Int) < (len : Int)) := by omega
    clear hDlen
    clear HBS HXI hDT hlt u0 u1 v0 z0 z1 z2 hbs hxi hsm
    refine wp_region_gr (by kernel_rfl) (by kernel_rfl) ?_
    iterate 6 quiet_step (fail)
    iterate 9 (with_reducible refine quiet_skip ?_ ?_; kernel_rfl; simp only [Act.put, List.setIfInBounds_toArray, List.set_cons_zero, List.set_cons_succ])
    quiet_step (fail)
    refine wpQuiet_nil ?_
    rintro _ ⟨⟨wq, bq⟩, rfl⟩
    go_wp2_with fail
    go_meet
    exact ⟨false, rfl, ⟨(fun h => by cases h), fun _ y hy => by cases hy⟩, bq⟩
   | cons y T =>
    have hDlen : D.length < len := by have := en.out; rw [hDT.out] at this; simp at this; omega
    have h5 := HBS.out
    rw [hDT.out] at h5
    obtain ⟨g, off, rfl, y1, y2⟩ := h5.1.line
    have hym : y ∈ bl := by rw [hDT.out]; simp
    have hyin := HBS.out.2 y hym
    obtain ⟨ya, yc, ey⟩ := HasRow.form hyin
    have w1 := fun p : Gr wr => gr_cell y1 p
    have w2 := fun p : Gr wr => gr_cell y2 p
    rw [ey] at w2
    have hyl := (hsm.out.2 y hym).1
    have HLL : ∀ p : Gr wr, Calls Tryz.prog 138 #[.string bk, .agg #[.string y.key, .slice ya y.ws.length yc], .agg #[.string xk, .slice xa nx xc]] p.u fun e w' => e = .returned (.bool (lineLt (rulesOf bk) y.plain ⟨xk, xw⟩)) ∧ Below p.u.heap.size p.u w' := fun p =>
     l3LineLess_any bk y.plain ⟨xk, xw⟩ (ey ▸ HasRow.below hyin p.h) (by have := HXI.out.below p.h; rw [← enx.out] at this ⊢; exact this) hyl (by show xw.length ≤ _; rw [enx.out]; exact hxs)
    have hyes : ((D.length : Int) < (len : Int)) := by omega
    have i1 : (0 : Int) ≤ (D.length : Int) := by omega
    have hres := hid_in (show ∀ B, lineLt (rulesOf bk) y.plain ⟨xk, xw⟩ = B → ((B = true → ∃ y' T', y :: T = y' :: T' ∧ lineLt (rulesOf bk) y'.plain ⟨xk, xw⟩ = true) ∧ (B = false → ∀ y', ((y :: T).map LAt.plain).head? = some y' → lineLt (rulesOf bk) y' ⟨xk, xw⟩ = false)) from fun B hB => ⟨fun h => ⟨y, T, rfl, by rw [hB, h]⟩, fun h y' hy' => by cases hy'; rw [hB, h]⟩)
    generalize hLT : lineLt (rulesOf bk) y.plain ⟨xk, xw⟩ = LT at HLL
    have eLT := hid_in hLT
    clear hLT HBS HXI h5 hyin ey hDT hlt z0 z1 z2 hbs hxi hsm y1 y2 hym
    generalize y.key = yk at *
    generalize y.ws.length = ny at *
    refine wp_region_gr (by kernel_rfl) (by kernel_rfl) ?_
    iterate 14 quiet_step (fail)
    quiet_step ((go_at_call 138; refine gr_of (HLL _)))
    quiet_step (fail)
    refine wpQuiet_nil ?_
    rintro _ ⟨⟨wq, bq⟩, rfl⟩
    go_wp2_with fail
    go_meet
    exact ⟨LT, rfl, hres.out LT eLT.out, bq⟩
  case rest =>
   obtain ⟨wk, hwk⟩ : ∃ wk, wk = wc := ⟨_, rfl⟩
   subst hwk
   obtain ⟨B, rfl, hB, bk'⟩ := hcut
   have BK := bw.trans (bk'.mono bw.size)
   cases B
   ·have hst := hid_in (hB.out.2 rfl)
    have z0k := (bk'.block w.heap.size (by omega)).trans z0
    have z1k := (bk'.block (w.heap.size + 1) (by omega)).trans z1
    have z2k := (bk'.block (w.heap.size + 2) (by omega)).trans z2
    have gk := gw.trans (bk'.mono gw.size)
    have c2 := cell_of_block z0k 2
    have d0 := cell_of_block z1k 0
    have d1 := cell_of_block z1k 1
    simp only [List.getElem?_toArray, List.getElem?_cons_zero, List.getElem?_cons_succ] at c2 d0 d1
    have hbl := hid_in (hbs.out.1.below gk)
    have q1 : (0 : Int) ≤ (D.length : Int) := by omega
    have q2 : (D.length : Int) ≤ (len : Int) := by omega
    have hcap : len ≤ lc := by have := hbs.out.1.cap.1; rw [en.out] at this; exact this
    have q3 : (len : Int) ≤ (lc : Int) := by omega
    have q4 : (D.length : Int) ≤ (lc : Int) := by omega
    have hS0 : wk.drew.cell? ⟨w.heap.size, 2, none⟩ = some (.slice la len lc) ∧ wk.drew.cell? ⟨w.heap.size + 1, 0, none⟩ = some (.string xk) ∧ wk.drew.cell? ⟨w.heap.size + 1, 1, none⟩ = some (.slice xa nx xc) := ⟨c2, d0, d1⟩
    have s2 := fun p : { W : World // W.cell? ⟨w.heap.size, 2, none⟩ = some (.slice la len lc) ∧ W.cell? ⟨w.heap.size + 1, 0, none⟩ = some (.string xk) ∧ W.cell? ⟨w.heap.size + 1, 1, none⟩ = some (.slice xa nx xc) } => p.2.1
    have s0 := fun p : { W : World // W.cell? ⟨w.heap.size, 2, none⟩ = some (.slice la len lc) ∧ W.cell? ⟨w.heap.size + 1, 0, none⟩ = some (.string xk) ∧ W.cell? ⟨w.heap.size + 1, 1, none⟩ = some (.slice xa nx xc) } => p.2.2.1
    have s1 := fun p : { W : World // W.cell? ⟨w.heap.size, 2, none⟩ = some (.slice la len lc) ∧ W.cell? ⟨w.heap.size + 1, 0, none⟩ = some (.string xk) ∧ W.cell? ⟨w.heap.size + 1, 1, none⟩ = some (.slice xa nx xc) } => p.2.2.2
    clear hB v0 v2 u0 u1 HBS HXI
    go_upto_region 4 with fail
    letI : Inhabited { W : World // W.cell? ⟨w.heap.size, 2, none⟩ = some (.slice la len lc) ∧ W.cell? ⟨w.heap.size + 1, 0, none⟩ = some (.string xk) ∧ W.cell? ⟨w.heap.size + 1, 1, none⟩ = some (.slice xa nx xc) } := ⟨⟨wk.drew, hS0⟩⟩
    refine wp_region_hold (S := fun W => W.cell? ⟨w.heap.size, 2, none⟩ = some (.slice la len lc) ∧ W.cell? ⟨w.heap.size + 1, 0, none⟩ = some (.string xk) ∧ W.cell? ⟨w.heap.size + 1, 1, none⟩ = some (.slice xa nx xc)) 15 16 (by kernel_rfl) rfl ?_
    refine wpHold_mask [false, true, true, true, true, false, true, false, false, true, true, true, true, false, false, false] 7 rfl (by kernel_rfl) hS0 ?_
    simp only [maskL_t, maskL_f, maskL_n]
    iterate 9 (refine wpReads_step (fun K hK => ?_); go_simp; refine hK _ ?_; clear hK K)
    refine wpReads_nil ?_
    have hKS := hid_in (show ∀ u, Below wk.heap.size wk u → u.cell? ⟨w.heap.size, 2, none⟩ = some (.slice la len lc) ∧ u.cell? ⟨w.heap.size + 1, 0, none⟩ = some (.string xk) ∧ u.cell? ⟨w.heap.size + 1, 1, none⟩ = some (.slice xa nx xc) from fun u hu => ⟨(hu.cell (World.block_lt_of_cell? wk _ c2)).trans c2, (hu.cell (World.block_lt_of_cell? wk _ d0)).trans d0, (hu.cell (World.block_lt_of_cell? wk _ d1)).trans d1⟩)
    have hDrow := hid_in (show HasRow wk (.slice la D.length lc) D.length 2 (D.flatMap LAt.cells) from by
     have h1 := hbl.out
     rw [en.out] at h1
     have h2 := h1.take D.length hDl
     rw [hDT.out, List.flatMap_append, ← rowF_len LAt.cells 2 LAt.len D, List.take_left] at h2
     exact h2)
    have hTrow := hid_in (show HasRow wk (.slice (if lc = D.length then la else la.map (fun a => a.add (D.length * 2))) (len - D.length) (lc - D.length)) (len - D.length) 2 (T.flatMap LAt.cells) from by
     have h1 := hbl.out
     rw [en.out] at h1
     have h2 := h1.drop D.length hDl
     rw [hDT.out, List.flatMap_append, ← rowF_len LAt.cells 2 LAt.len D, List.drop_left, rowF_len LAt.cells 2 LAt.len D] at h2
     exact h2)
    have hone := hid_in (show ∀ y ∈ bl, ∃ a n c, y.v = .slice a n c from fun y hy => by obtain ⟨a, c, e⟩ := HasRow.form (hbs.out.2 y hy); exact ⟨a, _, c, e⟩)
    have hD1 := hid_in (lcells_one (ls := D) (fun y hy => hone.out y (by rw [hDT.out]; simp [hy])))
    have hT1 := hid_in (lcells_one (ls := T) (fun y hy => hone.out y (by rw [hDT.out]; simp [hy])))
    obtain ⟨i0, hi, hi0, hi1, hi2⟩ := info_parts infoLine
    generalize (if lc = D.length then la else la.map (fun a => a.add (D.length * 2))) = laT at hTrow ⊢
    refine wpHold_branch (f := 6) (rs := [0, 7]) (by kernel_rfl) (by simp) ?_
    refine AllHold.cons rfl (by decide) (fun K hK => ?wayA) (AllHold.cons rfl (by decide) (fun K hK => ?wayB) AllHold.nil)
    case' wayA =>
     go_simp
     have bA : Below wk.heap.size wk (wk.alloc (.cells #[] 82)).drew := ((Below.refl wk.heap.size wk).alloc (Nat.le_refl _) (.cells #[] 82)).drew
     have oA : (wk.alloc (.cells #[] 82)).drew.ownsRow wk.heap.size 82 2 (.slice (some ⟨wk.heap.size, 0, none⟩) 0 0) 0 [] := World.ownsRow_lit (base := wk.heap.size) (e := 82) (size := 2) wk #[] 0 (Nat.le_refl _) (by decide) rfl
     refine hK.out _ _ (hKS.out _ bA) ?_
     clear hK K
     refine wpHold_branch (f := 5) (rs := [5, 7]) (by kernel_rfl) (by simp) ?_
     refine AllHold.cons rfl (by decide) (fun K hK => ?wayA1) (AllHold.cons rfl (by decide) (fun K hK => ?wayA2) AllHold.nil)
    case' wayA1 =>
     refine step_append_has rfl _ _ 41 rfl wk.heap.size 82 i0 _ 2 40 Tryz.underlying41 hi hi0 hi1 hi2 rfl (by decide) _ 0 _ rfl oA _ D.length _ rfl (hDrow.out.below bA) hD1.out (by unfold maxLen; omega) (by omega) bA.size ?_
     intro ao5 c5 u5 own5 hg5 _
     simp only [Nat.zero_add] at own5 ⊢
     have b5 := bA.grown hg5 bA.size (fun q hq => by cases hq; exact Nat.le_refl _)
     refine hK.out _ _ (hKS.out _ b5) ?_
     clear hK K
     refine wpHold_branch (f := 4) (rs := [7]) (by kernel_rfl) (by simp) ?_
     refine AllHold.cons rfl (by decide) (fun K hK => ?_) AllHold.nil
     go_simp
     have bU := b5.alloc b5.size (.cells #[.string xk, .slice xa nx xc] 82)
     have own7 := own5.alloc (.cells #[.string xk, .slice xa nx xc] 82)
     have has7 := lit_has u5 #[.string xk, .slice xa nx xc] 82 2 rfl
     refine hK.out _ _ (hKS.out _ bU) ?_
     clear hK K
     generalize u5.alloc (.cells #[.string xk, .slice xa nx xc] 82) = U at bU own7 has7 ⊢
     clear own5 hg5 b5 oA bA
    case' wayA2 =>
     go_simp
     have b7 : Below wk.heap.size wk ((wk.alloc (.cells #[] 82)).alloc (.cells #[.string xk, .slice xa nx xc] 82)).drew := (((Below.refl wk.heap.size wk).alloc (Nat.le_refl _) (.cells #[] 82)).alloc (by simp) _).drew
     have o7 : ((wk.alloc (.cells #[] 82)).alloc (.cells #[.string xk, .slice xa nx xc] 82)).drew.ownsRow wk.heap.size 82 2 (.slice (some ⟨wk.heap.size, 0, none⟩) 0 0) 0 [] := oA.alloc (.cells #[.string xk, .slice xa nx xc] 82)
     have h7 : HasRow ((wk.alloc (.cells #[] 82)).alloc (.cells #[.string xk, .slice xa nx xc] 82)).drew (.slice (some ⟨wk.heap.size + 1, 0, none⟩) 1 1) 1 2 [.string xk, .slice xa nx xc] := by
      have := lit_has (wk.alloc (.cells #[] 82)) #[.string xk, .slice xa nx xc] 82 2 rfl
      rw [World.size_alloc] at this
      exact this
     refine hK.out _ _ (hKS.out _ b7) ?_
     clear hK K
     refine wpHold_branch (f := 4) (rs := [5]) (by kernel_rfl) (by simp) ?_
     refine AllHold.cons rfl (by decide) (fun K hK => ?_) AllHold.nil
     refine step_append_has rfl _ _ 41 rfl wk.heap.size 82 i0 _ 2 40 Tryz.underlying41 hi hi0 hi1 hi2 rfl (by decide) _ 0 _ rfl o7 _ D.length _ rfl (hDrow.out.below b7) hD1.out (by unfold maxLen; omega) (by omega) b7.size ?_
     intro ao5 c5 U own7 hg5 _
     simp only [Nat.zero_add] at own7 ⊢
     have bU := b7.grown hg5 b7.size (fun q hq => by cases hq; exact Nat.le_refl _)
     have has7 := h7.far (.inr (fun b off m c e => by cases e; show wk.heap.size + 1 ≠ wk.heap.size; omega)) hg5
     refine hK.out _ _ (hKS.out _ bU) ?_
     clear hK K o7 h7 hg5 b7 oA bA
    case' wayB =>
     go_simp
     have bB : Below wk.heap.size wk (wk.alloc (.cells #[.string xk, .slice xa nx xc] 82)).drew := ((Below.refl wk.heap.size wk).alloc (Nat.le_refl _) _).drew
     refine hK.out _ _ (hKS.out _ bB) ?_
     clear hK K
     refine wpHold_branch (f := 5) (rs := [0]) (by kernel_rfl) (by simp) ?_
     refine AllHold.cons rfl (by decide) (fun K hK => ?_) AllHold.nil
     go_simp
     have b7 : Below wk.heap.size wk ((wk.alloc (.cells #[.string xk, .slice xa nx xc] 82)).alloc (.cells #[] 82)).drew := (((Below.refl wk.heap.size wk).alloc (Nat.le_refl _) _).alloc (by simp) _).drew
     have o7 : ((wk.alloc (.cells #[.string xk, .slice xa nx xc] 82)).alloc (.cells #[] 82)).drew.ownsRow wk.heap.size 82 2 (.slice (some ⟨wk.heap.size + 1, 0, none⟩) 0 0) 0 [] := by
      have := World.ownsRow_lit (base := wk.heap.size) (e := 82) (size := 2) (wk.alloc (.cells #[.string xk, .slice xa nx xc] 82)) #[] 0 (by simp) (by decide) rfl
      rw [World.size_alloc] at this
      exact this
     have h7 : HasRow ((wk.alloc (.cells #[.string xk, .slice xa nx xc] 82)).alloc (.cells #[] 82)).drew (.slice (some ⟨wk.heap.size, 0, none⟩) 1 1) 1 2 [.string xk, .slice xa nx xc] := (lit_has wk #[.string xk, .slice xa nx xc] 82 2 rfl).below ((Below.refl _ _).alloc (Nat.le_refl _) _).drew
     refine hK.out _ _ (hKS.out _ b7) ?_
     clear hK K
     refine wpHold_branch (f := 4) (rs := [5]) (by kernel_rfl) (by simp) ?_
     refine AllHold.cons rfl (by decide) (fun K hK => ?_) AllHold.nil
     refine step_append_has rfl _ _ 41 rfl wk.heap.size 82 i0 _ 2 40 Tryz.underlying41 hi hi0 hi1 hi2 rfl (by decide) _ 0 _ rfl o7 _ D.length _ rfl (hDrow.out.below b7) hD1.out (by unfold maxLen; omega) (by omega) b7.size ?_
     intro ao5 c5 U own7 hg5 _
     simp only [Nat.zero_add] at own7 ⊢
     have bU := b7.grown hg5 b7.size (fun q hq => by cases hq; show wk.heap.size ≤ wk.heap.size + 1; omega)
     have has7 := h7.far (.inr (fun b off m c e => by cases e; show wk.heap.size ≠ wk.heap.size + 1; omega)) hg5
     refine hK.out _ _ (hKS.out _ bU) ?_
     clear hK K o7 h7 hg5 b7 bB
    all_goals
     refine wpHold_branch (f := 3) (rs := [8]) (by kernel_rfl) (by simp) ?_
     refine AllHold.cons rfl (by decide) (fun K hK => ?_) AllHold.nil
     have hbase5 : ∀ q, (Value.slice ao5 (D.length) c5).ownBlock = some q → wk.heap.size ≤ q := fun q hq => (own7.lt q hq).1
     refine step_append_has rfl _ _ 41 rfl wk.heap.size 82 i0 _ 2 40 Tryz.underlying41 hi hi0 hi1 hi2 rfl (by decide) _ (D.length) _ rfl own7 _ 1 _ rfl has7 (by intro z hz; simp at hz; rcases hz with rfl | rfl <;> rfl) (by unfold maxLen; omega) (by omega) bU.size ?_
     intro ao8 c8 u8 own8 hg8 _
     have b8 := bU.grown hg8 bU.size hbase5
     refine hK.out _ _ (hKS.out _ b8) ?_
     clear hK K
     refine wpHold_branch (f := 2) (rs := [13]) (by kernel_rfl) (by simp) ?_
     refine AllHold.cons rfl (by decide) (fun K hK => ?_) AllHold.nil
     have hbase8 : ∀ q, (Value.slice ao8 (D.length + 1) c8).ownBlock = some q → wk.heap.size ≤ q := fun q hq => (own8.lt q hq).1
     refine step_append_has rfl _ _ 41 rfl wk.heap.size 82 i0 _ 2 40 Tryz.underlying41 hi hi0 hi1 hi2 rfl (by decide) _ (D.length + 1) _ rfl own8 _ (len - D.length) _ rfl (hTrow.out.below b8) hT1.out (by unfold maxLen; omega) (by omega) b8.size ?_
     intro ao9 c9 u9 own9 hg9 _
     have b9 := b8.grown hg9 b8.size hbase8
     refine hK.out _ _ (hKS.out _ b9) ?_
     clear hK K own7 has7 own8 hg8 hg9 hbase5 hbase8 b8 bU
     refine wpHold_branch (f := 1) (rs := [14]) (by kernel_rfl) (by simp) ?_
     refine AllHold.cons rfl (by decide) (fun K hK => ?_) AllHold.nil
     go_simp
     refine hK.out _ _ (hKS.out _ b9) ?_
     clear hK K
     have z09 := (b9.block w.heap.size (by have := bk'.size; omega)).trans z0k
     have z29 := (b9.block (w.heap.size + 2) (by have := bk'.size; omega)).trans z2k
     have m0 := cell_of_block z09 0
     have m1 := cell_of_block z09 1
     have m2 := cell_of_block z09 2
     have fr2 := frozen_of_block z09 2
     simp only [List.getElem?_toArray, List.getElem?_cons_zero, List.getElem?_cons_succ] at m0 m1 m2
     refine wpHold_last (by kernel_rfl) rfl (by kernel_rfl) ?_
     intro K hK
     have hkz : w.heap.size + 3 ≤ wk.heap.size := by have := bk'.size; omega
     have G9 := gk.trans (b9.mono (by omega))
     have O9 := hid_in own9
     have z2s : (u9.setCell ⟨w.heap.size, 2, none⟩ (.slice ao9 (D.length + 1 + (len - D.length)) c9)).heap[w.heap.size + 2]? = some (.cells #[.string ⟨#[]⟩, .string ⟨#[]⟩, .slice none 0 0] 64 (0, 0)) := by rw [Below.heap_setCell _ _ _ _ (by simp)]; exact z29
     clear own9
     generalize hN9 : D.length + 1 + (len - D.length) = N9 at *
     have eN9 := hid_in hN9
     clear hN9
     go_simp
     refine hK.out _ _ (NoPanic.normal ?_)
     clear hK K
     go_wp2_with (with_reducible show wpList _ _ _ (Oper.mk _ (Op.store _ (Operand.tmp 4) _) _ _ _ _ :: _) _ _; refine wpList_store_row rfl 64 _ _ rfl (w.heap.size + 2) #[.string bk, .string bn, .slice ao9 N9 c9] ?_ ?_ 64 _ z2s ?_ ?_ ?_ ?_)
     all_goals (first | rfl | kernel_rfl | exact ⟨rfl, rfl, rfl⟩ | (obtain ⟨i9, e9, _, s9, _⟩ := info_parts infoBlock; exact ⟨i9, e9, s9⟩) | skip)
     have z5 : (World.setRow (u9.setCell ⟨w.heap.size, 2, none⟩ (.slice ao9 N9 c9)) (w.heap.size + 2) #[.string bk, .string bn, .slice ao9 N9 c9]).heap[w.heap.size + 2]? = some (.cells #[.string bk, .string bn, .slice ao9 N9 c9] 64 (0, 0)) := setRow_heap _ _ _ _ _ _ z2s
     have G9' := G9.setCell (p := ⟨w.heap.size, 2, none⟩) (Nat.le_refl _) (.slice ao9 N9 c9)
     have b5 : Below w.heap.size w (World.setRow (u9.setCell ⟨w.heap.size, 2, none⟩ (.slice ao9 N9 c9)) (w.heap.size + 2) #[.string bk, .string bn, .slice ao9 N9 c9]) :=
      ⟨G9'.os, G9'.tape, G9'.output, by rw [setRow_size]; exact G9'.size, fun k hk => by rw [setRow_other _ _ _ _ (by omega)]; exact G9'.block k hk⟩
     have o5 := own_mono (own_setRow (own_setCell O9.out ⟨w.heap.size, 2, none⟩ (by simp; omega) (.slice ao9 N9 c9)) (w.heap.size + 2) (by omega) #[.string bk, .string bn, .slice ao9 N9 c9]) (show w.heap.size ≤ wk.heap.size by omega)
     have y0 := cell_of_block z5 0
     have y1 := cell_of_block z5 1
     have y2 := cell_of_block z5 2
     simp only [List.getElem?_toArray, List.getElem?_cons_zero, List.getElem?_cons_succ] at y0 y1 y2
     generalize World.setRow _ _ _ = W at b5 y0 y1 y2 z5 o5 ⊢
     have f1 : (D ++ (⟨xk, .slice xa nx xc, xw⟩ : LAt) :: T).map LAt.plain = putIn (lineLt (rulesOf bk)) ⟨xk, xw⟩ (bl.map LAt.plain) := by
      have h1 := putIn_split (lineLt (rulesOf bk)) ⟨xk, xw⟩ (D.map LAt.plain) (T.map LAt.plain) hlt.out hst.out
      rw [show (bl.map LAt.plain) = D.map LAt.plain ++ T.map LAt.plain from by rw [hDT.out]; simp]
      exact (show _ = _ from by simp [LAt.plain]).trans h1.symm
     have f2 : W.ownsRow w.heap.size 82 2 (.slice ao9 N9 c9) (D ++ (⟨xk, .slice xa nx xc, xw⟩ : LAt) :: T).length ((D ++ (⟨xk, .slice xa nx xc, xw⟩ : LAt) :: T).flatMap LAt.cells) := by
      have e1 : (D ++ (⟨xk, .slice xa nx xc, xw⟩ : LAt) :: T).length = N9 := by
       have h1 := en.out
       rw [hDT.out] at h1
       rw [← eN9.out]
       simp at h1 ⊢
       omega
      have e2 : (D ++ (⟨xk, .slice xa nx xc, xw⟩ : LAt) :: T).flatMap LAt.cells = [] ++ D.flatMap LAt.cells ++ [.string xk, .slice xa nx xc] ++ T.flatMap LAt.cells := by simp [LAt.cells]
      rw [e1, e2]
      exact o5
     exact bodyPost_ret (v := .agg #[.string bk, .string bn, .slice ao9 N9 c9]) (by simp [results, Tryz.results70, go_sem, y0, y1, y2]) rfl ⟨_, D, T, hDT.out, rfl, f1, f2, b5⟩
   ·obtain ⟨y, T', rfl, hyl⟩ := hB.out.1 rfl
    have hDT' : Hid (bl = (D ++ [y]) ++ T') := by have := hDT.out; show bl = _; rw [this]; simp
    have hlt' : Hid (∀ z ∈ (D ++ [y]).map LAt.plain, lineLt (rulesOf bk) z ⟨xk, xw⟩ = true) := by
     show ∀ z ∈ _, _
     intro z hz
     rw [List.map_append, List.mem_append] at hz
     rcases hz with hz | hz
     ·exact hlt.out z hz
     ·simp only [List.map_cons, List.map_nil, List.mem_singleton] at hz
      rw [hz]; exact hyl
    have hDl2 : D.length < len := by have := en.out; rw [hDT.out] at this; simp at this; omega
    clear hB v0 v2 u0 u1 HBS HXI hDT hlt hyl z0 z1 z2
    go_wp2
    go_roundw
    case rel => exact ⟨D ++ [y], T', by simp, by simp; omega, hDT', hlt', BK⟩
    case measure => simp [intOf]; omega
end Go.Proofs.YtpdahhnjhggocabGreatDoor
namespace Go.Proofs.YtpdahhnjhggocabGreatDoor
open Go.RowKit
def PutBPost (bs : List BAt) (x : BAt) (w : World) (e : Ending) (w' : World) : Prop := ∃ v' D T, bs = D ++ T ∧ e = .returned (.agg #[v']) ∧ (D ++ x :: T).map BAt.plain = putIn blockLt x.plain (bs.map BAt.plain) ∧ w'.ownsRow w.heap.size 64 3 v' (D ++ x :: T).length ((D ++ x :: T).flatMap BAt.cells) ∧ Below w.heap.size w w'
set_option maxHeartbeats 8000000 in
set_option maxRecDepth 100000 in
theorem l3PutBlock_any {bv : Value} {bl : List BAt} {x : BAt} {w : World} (hb : HasRow w bv bl.length 3 (bl.flatMap BAt.cells)) (hbf : ∀ y ∈ bl, ∃ a n c, y.v = .slice a n c) (hs : bl.length ≤ 1048576) (hx : ∃ a n c, x.v = .slice a n c) : Calls Tryz.prog 46 #[.agg #[bv], .agg #[.string x.kind, .string x.name, x.v]] w fun e w' => PutBPost bl x w e w' := by
 obtain ⟨xk, xn, xv, xl⟩ := x
 simp only at *
 obtain ⟨la, lc, rfl⟩ := hb.form
 obtain ⟨xa, nx, xc, rfl⟩ := hx
 have b0 : Below w.heap.size w (((w.alloc (.cells #[.slice la bl.length lc] 24)).alloc (.cells #[.string xk, .string xn, .slice xa nx xc] 64)).alloc (.cells #[.slice none 0 0] 24)) := (((Below.refl _ _).alloc (Nat.le_refl _) _).alloc (by simp) _).alloc (by simp; omega) _
 obtain ⟨hsz, hy0, hy1, hy2⟩ := alloc3 (w := w) (o1 := .cells #[.slice la bl.length lc] 24) (o2 := .cells #[.string xk, .string xn, .slice xa nx xc] 64) (o3 := .cells #[.slice none 0 0] 24)
 have hbs := hid_in hb
 have hone := hid_in hbf
 have hl := hs
 clear hb hs hbf
 generalize hn : bl.length = len at *
 have en := hid_in hn
 clear hn
 generalize hW0 : ((w.alloc (.cells #[.slice la len lc] 24)).alloc (.cells #[.string xk, .string xn, .slice xa nx xc] 64)).alloc (.cells #[.slice none 0 0] 24) = W0 at *
 have eW0 := hid_in hW0
 have hszW := hid_in hsz
 clear hW0 hsz
 go_enter Tryz.func46, Tryz.ntmps46
 go_wp2
 go_loopw [5] (fun i wr => ∃ (D T : List BAt), i = .int .i64 (D.length : Int) ∧ D.length ≤ len ∧ Hid (bl = D ++ T) ∧ Hid (∀ y ∈ D.map BAt.plain, blockLt y ⟨xk, xn, xl.map LAt.plain⟩ = true) ∧ Below W0.heap.size W0 wr) (fun i _ => len - (intOf i).toNat)
 case atStart =>
  rw [eW0.out]
  exact ⟨[], bl, rfl, by simp, (rfl : bl = [] ++ bl), (by simp : ∀ y ∈ ([] : List BAt).map BAt.plain, _), Below.refl _ _⟩
 case round =>
  obtain ⟨D, T, rfl, hDl, hDT, hlt, bw⟩ := hrel
  have gw := b0.trans (bw.mono b0.size)
  have hs3 := hszW.out
  have z0 := (bw.block w.heap.size (by omega)).trans hy0
  have z1 := (bw.block (w.heap.size + 1) (by omega)).trans hy1
  have z2 := (bw.block (w.heap.size + 2) (by omega)).trans hy2
  have c2 := cell_of_block z0 0
  have d0 := cell_of_block z1 0
  have d1 := cell_of_block z1 1
  have d2 := cell_of_block z1 2
  simp only [List.getElem?_toArray, List.getElem?_cons_zero, List.getElem?_cons_succ] at c2 d0 d1 d2
  have hszw := bw.size
  have v2 := fun p : Gr wr => gr_cell c2 p
  have u0 := fun p : Gr wr => gr_cell d0 p
  have u1 := fun p : Gr wr => gr_cell d1 p
  have u2 := fun p : Gr wr => gr_cell d2 p
  have HBS := hid_in (hbs.out.below gw)
  clear c2 d0 d1 d2 hy0 hy1 hy2
  go_upto_region 2 with fail
  go_cut [19] from 6 to 19 (fun c wx => ∃ B : Bool, c = .bool B ∧ Hid ((B = true → ∃ y T', T = y :: T' ∧ blockLt y.plain ⟨xk, xn, xl.map LAt.plain⟩ = true) ∧ (B = false → ∀ y, (T.map BAt.plain).head? = some y → blockLt y ⟨xk, xn, xl.map LAt.plain⟩ = false)) ∧ Below wr.heap.size wr wx)
  case first =>
   cases T with
   | nil =>
    have hDlen : D.length = len := by rw [← en.out, hDT.out]; simp
    have hno : ¬ ((D.length : Int) < (len : Int)) := by omega
    clear hDlen
    clear HBS hDT hlt u0 u1 u2 z0 z1 z2 hbs hone
    refine wp_region_gr (by kernel_rfl) (by kernel_rfl) ?_
    iterate 6 quiet_step (fail)
    iterate 7 (with_reducible refine quiet_skip ?_ ?_; kernel_rfl; simp only [Act.put, List.setIfInBounds_toArray, List.set_cons_zero, List.set_cons_succ])
    quiet_step (fail)
    refine wpQuiet_nil ?_
    rintro _ ⟨⟨wq, bq⟩, rfl⟩
    go_wp2_with fail
    go_meet
    exact ⟨false, rfl, ⟨(fun h => by cases h), fun _ y hy => by cases hy⟩, bq⟩
   | cons y T =>
    have hDlen : D.length < len := by have := en.out; rw [hDT.out] at this; simp at this; omega
    have h5 := HBS.out
    rw [hDT.out] at h5
    obtain ⟨g, off, rfl, y1, y2, y3⟩ := h5.block
    have hym : y ∈ bl := by rw [hDT.out]; simp
    obtain ⟨ya, ny, yc, ey⟩ := hone.out y hym
    have w1 := fun p : Gr wr => gr_cell y1 p
    have w2 := fun p : Gr wr => gr_cell y2 p
    have w3 := fun p : Gr wr => gr_cell y3 p
    rw [ey] at w3
    have HLL : ∀ p : Gr wr, Calls Tryz.prog 105 #[.agg #[.string y.kind, .string y.name, .slice ya ny yc], .agg #[.string xk, .string xn, .slice xa nx xc]] p.u fun e w' => e = .returned (.bool (blockLt y.plain ⟨xk, xn, xl.map LAt.plain⟩)) ∧ Below p.u.heap.size p.u w' := fun p =>
     l3Ahead_any y.plain ⟨xk, xn, xl.map LAt.plain⟩ ny nx yc xc ya xa p.u
    have hyes : ((D.length : Int) < (len : Int)) := by omega
    have i1 : (0 : Int) ≤ (D.length : Int) := by omega
    have hres := hid_in (show ∀ B, blockLt y.plain ⟨xk, xn, xl.map LAt.plain⟩ = B → ((B = true → ∃ y' T', y :: T = y' :: T' ∧ blockLt y'.plain ⟨xk, xn, xl.map LAt.plain⟩ = true) ∧ (B = false → ∀ y', ((y :: T).map BAt.plain).head? = some y' → blockLt y' ⟨xk, xn, xl.map LAt.plain⟩ = false)) from fun B hB => ⟨fun h => ⟨y, T, rfl, by rw [hB, h]⟩, fun h y' hy' => by cases hy'; rw [hB, h]⟩)
    generalize hLT : blockLt y.plain ⟨xk, xn, xl.map LAt.plain⟩ = LT at HLL
    have eLT := hid_in hLT
    clear hLT HBS h5 ey hDT hlt z0 z1 z2 hbs hone y1 y2 y3 hym
    generalize y.kind = yk at *
    generalize y.name = yn at *
    refine wp_region_gr (by kernel_rfl) (by kernel_rfl) ?_
    iterate 12 quiet_step (fail)
    quiet_step ((go_at_call 105; refine gr_of (HLL _)))
    quiet_step (fail)
    refine wpQuiet_nil ?_
    rintro _ ⟨⟨wq, bq⟩, rfl⟩
    go_wp2_with fail
    go_meet
    exact ⟨LT, rfl, hres.out LT eLT.out, bq⟩
  case rest =>
   obtain ⟨wk, hwk⟩ : ∃ wk, wk = wc := ⟨_, rfl⟩
   subst hwk
   obtain ⟨B, rfl, hB, bk'⟩ := hcut
   have BK := bw.trans (bk'.mono bw.size)
   cases B
   ·have hst := hid_in (hB.out.2 rfl)
    have z0k := (bk'.block w.heap.size (by omega)).trans z0
    have z1k := (bk'.block (w.heap.size + 1) (by omega)).trans z1
    have z2k := (bk'.block (w.heap.size + 2) (by omega)).trans z2
    have gk := gw.trans (bk'.mono gw.size)
    have c2 := cell_of_block z0k 0
    have d0 := cell_of_block z1k 0
    have d1 := cell_of_block z1k 1
    have d2 := cell_of_block z1k 2
    simp only [List.getElem?_toArray, List.getElem?_cons_zero, List.getElem?_cons_succ] at c2 d0 d1 d2
    have hbl := hid_in (hbs.out.below gk)
    have q1 : (0 : Int) ≤ (D.length : Int) := by omega
    have q2 : (D.length : Int) ≤ (len : Int) := by omega
    have hcap : len ≤ lc := by exact hbs.out.cap.1
    have q3 : (len : Int) ≤ (lc : Int) := by omega
    have q4 : (D.length : Int) ≤ (lc : Int) := by omega
    have hS0 : wk.drew.cell? ⟨w.heap.size, 0, none⟩ = some (.slice la len lc) ∧ wk.drew.cell? ⟨w.heap.size + 1, 0, none⟩ = some (.string xk) ∧ wk.drew.cell? ⟨w.heap.size + 1, 1, none⟩ = some (.string xn) ∧ wk.drew.cell? ⟨w.heap.size + 1, 2, none⟩ = some (.slice xa nx xc) := ⟨c2, d0, d1, d2⟩
    have s2 := fun p : { W : World // W.cell? ⟨w.heap.size, 0, none⟩ = some (.slice la len lc) ∧ W.cell? ⟨w.heap.size + 1, 0, none⟩ = some (.string xk) ∧ W.cell? ⟨w.heap.size + 1, 1, none⟩ = some (.string xn) ∧ W.cell? ⟨w.heap.size + 1, 2, none⟩ = some (.slice xa nx xc) } => p.2.1
    have s0 := fun p : { W : World // W.cell? ⟨w.heap.size, 0, none⟩ = some (.slice la len lc) ∧ W.cell? ⟨w.heap.size + 1, 0, none⟩ = some (.string xk) ∧ W.cell? ⟨w.heap.size + 1, 1, none⟩ = some (.string xn) ∧ W.cell? ⟨w.heap.size + 1, 2, none⟩ = some (.slice xa nx xc) } => p.2.2.1
    have s1 := fun p : { W : World // W.cell? ⟨w.heap.size, 0, none⟩ = some (.slice la len lc) ∧ W.cell? ⟨w.heap.size + 1, 0, none⟩ = some (.string xk) ∧ W.cell? ⟨w.heap.size + 1, 1, none⟩ = some (.string xn) ∧ W.cell? ⟨w.heap.size + 1, 2, none⟩ = some (.slice xa nx xc) } => p.2.2.2.1
    have s3 := fun p : { W : World // W.cell? ⟨w.heap.size, 0, none⟩ = some (.slice la len lc) ∧ W.cell? ⟨w.heap.size + 1, 0, none⟩ = some (.string xk) ∧ W.cell? ⟨w.heap.size + 1, 1, none⟩ = some (.string xn) ∧ W.cell? ⟨w.heap.size + 1, 2, none⟩ = some (.slice xa nx xc) } => p.2.2.2.2
    clear hB v2 u0 u1 u2 HBS
    go_upto_region 4 with fail
    letI : Inhabited { W : World // W.cell? ⟨w.heap.size, 0, none⟩ = some (.slice la len lc) ∧ W.cell? ⟨w.heap.size + 1, 0, none⟩ = some (.string xk) ∧ W.cell? ⟨w.heap.size + 1, 1, none⟩ = some (.string xn) ∧ W.cell? ⟨w.heap.size + 1, 2, none⟩ = some (.slice xa nx xc) } := ⟨⟨wk.drew, hS0⟩⟩
    refine wp_region_hold (S := fun W => W.cell? ⟨w.heap.size, 0, none⟩ = some (.slice la len lc) ∧ W.cell? ⟨w.heap.size + 1, 0, none⟩ = some (.string xk) ∧ W.cell? ⟨w.heap.size + 1, 1, none⟩ = some (.string xn) ∧ W.cell? ⟨w.heap.size + 1, 2, none⟩ = some (.slice xa nx xc)) 15 16 (by kernel_rfl) rfl ?_
    refine wpHold_mask [false, true, true, true, true, false, true, false, false, true, true, true, true, false, false, false] 7 rfl (by kernel_rfl) hS0 ?_
    simp only [maskL_t, maskL_f, maskL_n]
    iterate 9 (refine wpReads_step (fun K hK => ?_); go_simp; refine hK _ ?_; clear hK K)
    refine wpReads_nil ?_
    have hKS := hid_in (show ∀ u, Below wk.heap.size wk u → u.cell? ⟨w.heap.size, 0, none⟩ = some (.slice la len lc) ∧ u.cell? ⟨w.heap.size + 1, 0, none⟩ = some (.string xk) ∧ u.cell? ⟨w.heap.size + 1, 1, none⟩ = some (.string xn) ∧ u.cell? ⟨w.heap.size + 1, 2, none⟩ = some (.slice xa nx xc) from fun u hu => ⟨(hu.cell (World.block_lt_of_cell? wk _ c2)).trans c2, (hu.cell (World.block_lt_of_cell? wk _ d0)).trans d0, (hu.cell (World.block_lt_of_cell? wk _ d1)).trans d1, (hu.cell (World.block_lt_of_cell? wk _ d2)).trans d2⟩)
    have hDrow := hid_in (show HasRow wk (.slice la D.length lc) D.length 3 (D.flatMap BAt.cells) from by
     have h1 := hbl.out
     have h2 := h1.take D.length hDl
     rw [hDT.out, List.flatMap_append, ← rowF_len BAt.cells 3 BAt.len D, List.take_left] at h2
     exact h2)
    have hTrow := hid_in (show HasRow wk (.slice (if lc = D.length then la else la.map (fun a => a.add (D.length * 3))) (len - D.length) (lc - D.length)) (len - D.length) 3 (T.flatMap BAt.cells) from by
     have h1 := hbl.out
     have h2 := h1.drop D.length hDl
     rw [hDT.out, List.flatMap_append, ← rowF_len BAt.cells 3 BAt.len D, List.drop_left, rowF_len BAt.cells 3 BAt.len D] at h2
     exact h2)
    have hD1 := hid_in (bcells_one (bs := D) (fun y hy => hone.out y (by rw [hDT.out]; simp [hy])))
    have hT1 := hid_in (bcells_one (bs := T) (fun y hy => hone.out y (by rw [hDT.out]; simp [hy])))
    obtain ⟨i0, hi, hi0, hi1, hi2⟩ := info_parts infoBlock
    generalize (if lc = D.length then la else la.map (fun a => a.add (D.length * 3))) = laT at hTrow ⊢
    refine wpHold_branch (f := 6) (rs := [0, 7]) (by kernel_rfl) (by simp) ?_
    refine AllHold.cons rfl (by decide) (fun K hK => ?wayA) (AllHold.cons rfl (by decide) (fun K hK => ?wayB) AllHold.nil)
    case' wayA =>
     go_simp
     have bA : Below wk.heap.size wk (wk.alloc (.cells #[] 64)).drew := ((Below.refl wk.heap.size wk).alloc (Nat.le_refl _) (.cells #[] 64)).drew
     have oA : (wk.alloc (.cells #[] 64)).drew.ownsRow wk.heap.size 64 3 (.slice (some ⟨wk.heap.size, 0, none⟩) 0 0) 0 [] := World.ownsRow_lit (base := wk.heap.size) (e := 64) (size := 3) wk #[] 0 (Nat.le_refl _) (by decide) rfl
     refine hK.out _ _ (hKS.out _ bA) ?_
     clear hK K
     refine wpHold_branch (f := 5) (rs := [5, 7]) (by kernel_rfl) (by simp) ?_
     refine AllHold.cons rfl (by decide) (fun K hK => ?wayA1) (AllHold.cons rfl (by decide) (fun K hK => ?wayA2) AllHold.nil)
    case' wayA1 =>
     refine step_append_has rfl _ _ 22 rfl wk.heap.size 64 i0 _ 3 56 Tryz.underlying22 hi hi0 hi1 hi2 rfl (by decide) _ 0 _ rfl oA _ D.length _ rfl (hDrow.out.below bA) hD1.out (by unfold maxLen; omega) (by omega) bA.size ?_
     intro ao5 c5 u5 own5 hg5 _
     simp only [Nat.zero_add] at own5 ⊢
     have b5 := bA.grown hg5 bA.size (fun q hq => by cases hq; exact Nat.le_refl _)
     refine hK.out _ _ (hKS.out _ b5) ?_
     clear hK K
     refine wpHold_branch (f := 4) (rs := [7]) (by kernel_rfl) (by simp) ?_
     refine AllHold.cons rfl (by decide) (fun K hK => ?_) AllHold.nil
     go_simp
     have bU := b5.alloc b5.size (.cells #[.string xk, .string xn, .slice xa nx xc] 64)
     have own7 := own5.alloc (.cells #[.string xk, .string xn, .slice xa nx xc] 64)
     have has7 := lit_has u5 #[.string xk, .string xn, .slice xa nx xc] 64 3 rfl
     refine hK.out _ _ (hKS.out _ bU) ?_
     clear hK K
     generalize u5.alloc (.cells #[.string xk, .string xn, .slice xa nx xc] 64) = U at bU own7 has7 ⊢
     clear own5 hg5 b5 oA bA
    case' wayA2 =>
     go_simp
     have b7 : Below wk.heap.size wk ((wk.alloc (.cells #[] 64)).alloc (.cells #[.string xk, .string xn, .slice xa nx xc] 64)).drew := (((Below.refl wk.heap.size wk).alloc (Nat.le_refl _) (.cells #[] 64)).alloc (by simp) _).drew
     have o7 : ((wk.alloc (.cells #[] 64)).alloc (.cells #[.string xk, .string xn, .slice xa nx xc] 64)).drew.ownsRow wk.heap.size 64 3 (.slice (some ⟨wk.heap.size, 0, none⟩) 0 0) 0 [] := oA.alloc (.cells #[.string xk, .string xn, .slice xa nx xc] 64)
     have h7 : HasRow ((wk.alloc (.cells #[] 64)).alloc (.cells #[.string xk, .string xn, .slice xa nx xc] 64)).drew (.slice (some ⟨wk.heap.size + 1, 0, none⟩) 1 1) 1 3 [.string xk, .string xn, .slice xa nx xc] := by
      have := lit_has (wk.alloc (.cells #[] 64)) #[.string xk, .string xn, .slice xa nx xc] 64 3 rfl
      rw [World.size_alloc] at this
      exact this
     refine hK.out _ _ (hKS.out _ b7) ?_
     clear hK K
     refine wpHold_branch (f := 4) (rs := [5]) (by kernel_rfl) (by simp) ?_
     refine AllHold.cons rfl (by decide) (fun K hK => ?_) AllHold.nil
     refine step_append_has rfl _ _ 22 rfl wk.heap.size 64 i0 _ 3 56 Tryz.underlying22 hi hi0 hi1 hi2 rfl (by decide) _ 0 _ rfl o7 _ D.length _ rfl (hDrow.out.below b7) hD1.out (by unfold maxLen; omega) (by omega) b7.size ?_
     intro ao5 c5 U own7 hg5 _
     simp only [Nat.zero_add] at own7 ⊢
     have bU := b7.grown hg5 b7.size (fun q hq => by cases hq; exact Nat.le_refl _)
     have has7 := h7.far (.inr (fun b off m c e => by cases e; show wk.heap.size + 1 ≠ wk.heap.size; omega)) hg5
     refine hK.out _ _ (hKS.out _ bU) ?_
     clear hK K o7 h7 hg5 b7 oA bA
    case' wayB =>
     go_simp
     have bB : Below wk.heap.size wk (wk.alloc (.cells #[.string xk, .string xn, .slice xa nx xc] 64)).drew := ((Below.refl wk.heap.size wk).alloc (Nat.le_refl _) _).drew
     refine hK.out _ _ (hKS.out _ bB) ?_
     clear hK K
     refine wpHold_branch (f := 5) (rs := [0]) (by kernel_rfl) (by simp) ?_
     refine AllHold.cons rfl (by decide) (fun K hK => ?_) AllHold.nil
     go_simp
     have b7 : Below wk.heap.size wk ((wk.alloc (.cells #[.string xk, .string xn, .slice xa nx xc] 64)).alloc (.cells #[] 64)).drew := (((Below.refl wk.heap.size wk).alloc (Nat.le_refl _) _).alloc (by simp) _).drew
     have o7 : ((wk.alloc (.cells #[.string xk, .string xn, .slice xa nx xc] 64)).alloc (.cells #[] 64)).drew.ownsRow wk.heap.size 64 3 (.slice (some ⟨wk.heap.size + 1, 0, none⟩) 0 0) 0 [] := by
      have := World.ownsRow_lit (base := wk.heap.size) (e := 64) (size := 3) (wk.alloc (.cells #[.string xk, .string xn, .slice xa nx xc] 64)) #[] 0 (by simp) (by decide) rfl
      rw [World.size_alloc] at this
      exact this
     have h7 : HasRow ((wk.alloc (.cells #[.string xk, .string xn, .slice xa nx xc] 64)).alloc (.cells #[] 64)).drew (.slice (some ⟨wk.heap.size, 0, none⟩) 1 1) 1 3 [.string xk, .string xn, .slice xa nx xc] := (lit_has wk #[.string xk, .string xn, .slice xa nx xc] 64 3 rfl).below ((Below.refl _ _).alloc (Nat.le_refl _) _).drew
     refine hK.out _ _ (hKS.out _ b7) ?_
     clear hK K
     refine wpHold_branch (f := 4) (rs := [5]) (by kernel_rfl) (by simp) ?_
     refine AllHold.cons rfl (by decide) (fun K hK => ?_) AllHold.nil
     refine step_append_has rfl _ _ 22 rfl wk.heap.size 64 i0 _ 3 56 Tryz.underlying22 hi hi0 hi1 hi2 rfl (by decide) _ 0 _ rfl o7 _ D.length _ rfl (hDrow.out.below b7) hD1.out (by unfold maxLen; omega) (by omega) b7.size ?_
     intro ao5 c5 U own7 hg5 _
     simp only [Nat.zero_add] at own7 ⊢
     have bU := b7.grown hg5 b7.size (fun q hq => by cases hq; show wk.heap.size ≤ wk.heap.size + 1; omega)
     have has7 := h7.far (.inr (fun b off m c e => by cases e; show wk.heap.size ≠ wk.heap.size + 1; omega)) hg5
     refine hK.out _ _ (hKS.out _ bU) ?_
     clear hK K o7 h7 hg5 b7 bB
    all_goals
     refine wpHold_branch (f := 3) (rs := [8]) (by kernel_rfl) (by simp) ?_
     refine AllHold.cons rfl (by decide) (fun K hK => ?_) AllHold.nil
     have hbase5 : ∀ q, (Value.slice ao5 (D.length) c5).ownBlock = some q → wk.heap.size ≤ q := fun q hq => (own7.lt q hq).1
     refine step_append_has rfl _ _ 22 rfl wk.heap.size 64 i0 _ 3 56 Tryz.underlying22 hi hi0 hi1 hi2 rfl (by decide) _ (D.length) _ rfl own7 _ 1 _ rfl has7 (by intro z hz; simp at hz; rcases hz with rfl | rfl | rfl <;> rfl) (by unfold maxLen; omega) (by omega) bU.size ?_
     intro ao8 c8 u8 own8 hg8 _
     have b8 := bU.grown hg8 bU.size hbase5
     refine hK.out _ _ (hKS.out _ b8) ?_
     clear hK K
     refine wpHold_branch (f := 2) (rs := [13]) (by kernel_rfl) (by simp) ?_
     refine AllHold.cons rfl (by decide) (fun K hK => ?_) AllHold.nil
     have hbase8 : ∀ q, (Value.slice ao8 (D.length + 1) c8).ownBlock = some q → wk.heap.size ≤ q := fun q hq => (own8.lt q hq).1
     refine step_append_has rfl _ _ 22 rfl wk.heap.size 64 i0 _ 3 56 Tryz.underlying22 hi hi0 hi1 hi2 rfl (by decide) _ (D.length + 1) _ rfl own8 _ (len - D.length) _ rfl (hTrow.out.below b8) hT1.out (by unfold maxLen; omega) (by omega) b8.size ?_
     intro ao9 c9 u9 own9 hg9 _
     have b9 := b8.grown hg9 b8.size hbase8
     refine hK.out _ _ (hKS.out _ b9) ?_
     clear hK K own7 has7 own8 hg8 hg9 hbase5 hbase8 b8 bU
     refine wpHold_branch (f := 1) (rs := [14]) (by kernel_rfl) (by simp) ?_
     refine AllHold.cons rfl (by decide) (fun K hK => ?_) AllHold.nil
     go_simp
     refine hK.out _ _ (hKS.out _ b9) ?_
     clear hK K
     have z09 := (b9.block w.heap.size (by have := bk'.size; omega)).trans z0k
     have z29 := (b9.block (w.heap.size + 2) (by have := bk'.size; omega)).trans z2k
     have m0 := cell_of_block z09 0
     have fr2 := frozen_of_block z09 0
     simp only [List.getElem?_toArray, List.getElem?_cons_zero] at m0
     refine wpHold_last (by kernel_rfl) rfl (by kernel_rfl) ?_
     intro K hK
     have hkz : w.heap.size + 3 ≤ wk.heap.size := by have := bk'.size; omega
     have G9 := gk.trans (b9.mono (by omega))
     have O9 := hid_in own9
     have z2s : (u9.setCell ⟨w.heap.size, 0, none⟩ (.slice ao9 (D.length + 1 + (len - D.length)) c9)).heap[w.heap.size + 2]? = some (.cells #[.slice none 0 0] 24 (0, 0)) := by rw [Below.heap_setCell _ _ _ _ (by simp)]; exact z29
     clear own9
     generalize hN9 : D.length + 1 + (len - D.length) = N9 at *
     have eN9 := hid_in hN9
     clear hN9
     go_simp
     refine hK.out _ _ (NoPanic.normal ?_)
     clear hK K
     go_wp2_with (with_reducible show wpList _ _ _ (Oper.mk _ (Op.store _ (Operand.tmp 4) _) _ _ _ _ :: _) _ _; refine wpList_store_row rfl 24 _ _ rfl (w.heap.size + 2) #[.slice ao9 N9 c9] ?_ ?_ 24 _ z2s ?_ ?_ ?_ ?_)
     all_goals (first | rfl | kernel_rfl | exact sheet_size | skip)
     have z5 : (World.setRow (u9.setCell ⟨w.heap.size, 0, none⟩ (.slice ao9 N9 c9)) (w.heap.size + 2) #[.slice ao9 N9 c9]).heap[w.heap.size + 2]? = some (.cells #[.slice ao9 N9 c9] 24 (0, 0)) := setRow_heap _ _ _ _ _ _ z2s
     have G9' := G9.setCell (p := ⟨w.heap.size, 0, none⟩) (Nat.le_refl _) (.slice ao9 N9 c9)
     have b5 : Below w.heap.size w (World.setRow (u9.setCell ⟨w.heap.size, 0, none⟩ (.slice ao9 N9 c9)) (w.heap.size + 2) #[.slice ao9 N9 c9]) :=
      ⟨G9'.os, G9'.tape, G9'.output, by rw [setRow_size]; exact G9'.size, fun k hk => by rw [setRow_other _ _ _ _ (by omega)]; exact G9'.block k hk⟩
     have o5 := own_mono (own_setRow (own_setCell O9.out ⟨w.heap.size, 0, none⟩ (by simp; omega) (.slice ao9 N9 c9)) (w.heap.size + 2) (by omega) #[.slice ao9 N9 c9]) (show w.heap.size ≤ wk.heap.size by omega)
     have y0 := cell_of_block z5 0
     simp only [List.getElem?_toArray, List.getElem?_cons_zero] at y0
     generalize World.setRow _ _ _ = W at b5 y0 z5 o5 ⊢
     have f1 : (D ++ (⟨xk, xn, .slice xa nx xc, xl⟩ : BAt) :: T).map BAt.plain = putIn blockLt ⟨xk, xn, xl.map LAt.plain⟩ (bl.map BAt.plain) := by
      have h1 := putIn_split blockLt ⟨xk, xn, xl.map LAt.plain⟩ (D.map BAt.plain) (T.map BAt.plain) hlt.out hst.out
      rw [show (bl.map BAt.plain) = D.map BAt.plain ++ T.map BAt.plain from by rw [hDT.out]; simp]
      exact (show _ = _ from by simp [BAt.plain]).trans h1.symm
     have f2 : W.ownsRow w.heap.size 64 3 (.slice ao9 N9 c9) (D ++ (⟨xk, xn, .slice xa nx xc, xl⟩ : BAt) :: T).length ((D ++ (⟨xk, xn, .slice xa nx xc, xl⟩ : BAt) :: T).flatMap BAt.cells) := by
      have e1 : (D ++ (⟨xk, xn, .slice xa nx xc, xl⟩ : BAt) :: T).length = N9 := by
       have h1 := en.out
       rw [hDT.out] at h1
       rw [← eN9.out]
       simp at h1 ⊢
       omega
      have e2 : (D ++ (⟨xk, xn, .slice xa nx xc, xl⟩ : BAt) :: T).flatMap BAt.cells = [] ++ D.flatMap BAt.cells ++ [.string xk, .string xn, .slice xa nx xc] ++ T.flatMap BAt.cells := by simp [BAt.cells]
      rw [e1, e2]
      exact o5
     exact bodyPost_ret (v := .agg #[.slice ao9 N9 c9]) (by simp [results, Tryz.results46, go_sem, y0]) rfl ⟨_, D, T, hDT.out, rfl, f1, f2, b5⟩
   ·obtain ⟨y, T', rfl, hyl⟩ := hB.out.1 rfl
    have hDT' : Hid (bl = (D ++ [y]) ++ T') := by have := hDT.out; show bl = _; rw [this]; simp
    have hlt' : Hid (∀ z ∈ (D ++ [y]).map BAt.plain, blockLt z ⟨xk, xn, xl.map LAt.plain⟩ = true) := by
     show ∀ z ∈ _, _
     intro z hz
     rw [List.map_append, List.mem_append] at hz
     rcases hz with hz | hz
     ·exact hlt.out z hz
     ·simp only [List.map_cons, List.map_nil, List.mem_singleton] at hz
      rw [hz]; exact hyl
    have hDl2 : D.length < len := by have := en.out; rw [hDT.out] at this; simp at this; omega
    clear hB v2 u0 u1 u2 HBS hDT hlt hyl z0 z1 z2
    go_wp2
    go_roundw
    case rel => exact ⟨D ++ [y], T', by simp, by simp; omega, hDT', hlt', BK⟩
    case measure => simp [intOf]; omega
end Go.Proofs.YtpdahhnjhggocabGreatDoor
namespace Go.Proofs.YtpdahhnjhggocabGreatDoor
open Go.RowKit
theorem belowGrown {B p : Nat} {a w w' : World} (h : Below B a w) (hB : B ≤ w.heap.size) (hp : B ≤ p) (g : w.grownBy w' (some p)) : Below B a w' :=
 h.grown g hB (fun k hk => by simp at hk; omega)
def PutAll (R : List Plain) (b : BAt) (x : LAt) (w : World) (e : Ending) (w' : World) : Prop := ∃ a n c ls', e = .returned (.agg #[.string b.kind, .string b.name, .slice a n c]) ∧ (ls'.map LAt.plain = putIn (lineLt R) x.plain (b.ls.map LAt.plain) ∧ ls'.length = b.ls.length + 1 ∧ (∀ y ∈ ls', y = x ∨ y ∈ b.ls) ∧ LinesIn w' (.slice a n c) ls' ∧ ∀ q, q < w.heap.size → LinesFar q b.v b.ls → FarV q x.v x.ws.length → LinesFar q (.slice a n c) ls') ∧ Below w.heap.size w w'
theorem l3PutLine_all {b : BAt} {x : LAt} {w : World} (hb : BlockIn w b) (hs : LinesSmall b.ls) (hx : LineIn w x) (hxs : x.ws.length ≤ 1048576) : Calls Tryz.prog 70 #[.agg #[.string b.kind, .string b.name, b.v], .agg #[.string x.key, x.v]] w fun e w' => PutAll (rulesOf b.kind) b x w e w' := by
 refine (l3PutLine_any hb hs hx hxs).mono ?_
 rintro e w' ⟨v', D, T, hDT, rfl, hp, ho, bb⟩
 obtain ⟨a, c, rfl, _⟩ := own_form ho
 have hm : ∀ y ∈ D ++ x :: T, y = x ∨ y ∈ b.ls := by
  intro y hy
  rw [hDT]
  simp only [List.mem_append, List.mem_cons] at hy ⊢
  rcases hy with hy | rfl | hy
  ·exact .inr (.inl hy)
  ·exact .inl rfl
  ·exact .inr (.inr hy)
 refine ⟨a, _, c, D ++ x :: T, rfl, ⟨hp, by rw [hDT]; simp; omega, hm, ⟨own_has ho, fun y hy => ?_⟩, fun q hq hf hxf => ⟨FarV.above ho hq, fun y hy => ?_⟩⟩, bb⟩
 ·rcases hm y hy with rfl | hy
  ·exact hx.below bb
  ·exact (hb.2 y hy).below bb
 ·rcases hm y hy with rfl | hy
  ·exact hxf
  ·exact hf.2 y hy
def BlocksFar (q : Nat) (v : Value) (bs : List BAt) : Prop := FarV q v bs.length ∧ ∀ x ∈ bs, LinesFar q x.v x.ls
theorem BlocksIn.far {w w' : World} {q : Nat} {v : Value} {bs : List BAt} (h : BlocksIn w v bs) (hf : BlocksFar q v bs) (hg : w.grownBy w' (some q)) : BlocksIn w' v bs := ⟨h.1.far hf.1 hg, fun x hx => LinesIn.far (h.2 x hx) (hf.2 x hx) hg⟩
theorem BlocksOwn.far {B q : Nat} {w : World} {v : Value} {bs : List BAt} (h : BlocksOwn B w v bs) (hq : q < B) : BlocksFar q v bs :=
 ⟨FarV.above h.row hq, fun x hx => ⟨FarV.above (h.lines x hx).row hq, fun y hy => FarV.above ((h.lines x hx).words y hy) hq⟩⟩
def PutBAll (v : Value) (bs : List BAt) (x : BAt) (w : World) (e : Ending) (w' : World) : Prop := ∃ a n c bs', e = .returned (.agg #[.slice a n c]) ∧ (bs'.map BAt.plain = putIn blockLt x.plain (bs.map BAt.plain) ∧ bs'.length = bs.length + 1 ∧ (∀ y ∈ bs', y = x ∨ y ∈ bs) ∧ BlocksIn w' (.slice a n c) bs' ∧ ∀ q, q < w.heap.size → BlocksFar q v bs → LinesFar q x.v x.ls → BlocksFar q (.slice a n c) bs') ∧ Below w.heap.size w w'
theorem l3PutBlock_all {v : Value} {bs : List BAt} {x : BAt} {w : World} (hb : BlocksIn w v bs) (hl : bs.length ≤ 1048576) (hx : BlockIn w x) : Calls Tryz.prog 46 #[.agg #[v], .agg #[.string x.kind, .string x.name, x.v]] w fun e w' => PutBAll v bs x w e w' := by
 refine (l3PutBlock_any hb.1 (fun y hy => by obtain ⟨a, c, e⟩ := (hb.2 y hy).1.form; exact ⟨a, _, c, e⟩) hl (by obtain ⟨a, c, e⟩ := hx.1.form; exact ⟨a, _, c, e⟩)).mono ?_
 rintro e w' ⟨v', D, T, hDT, rfl, hp, ho, bb⟩
 obtain ⟨a, c, rfl, _⟩ := own_form ho
 have hm : ∀ y ∈ D ++ x :: T, y = x ∨ y ∈ bs := by
  intro y hy
  rw [hDT]
  simp only [List.mem_append, List.mem_cons] at hy ⊢
  rcases hy with hy | rfl | hy
  ·exact .inr (.inl hy)
  ·exact .inl rfl
  ·exact .inr (.inr hy)
 refine ⟨a, _, c, D ++ x :: T, rfl, ⟨hp, by rw [hDT]; simp; omega, hm, ⟨own_has ho, fun y hy => ?_⟩, fun q hq hf hxf => ⟨FarV.above ho hq, fun y hy => ?_⟩⟩, bb⟩
 ·rcases hm y hy with rfl | hy
  ·exact LinesIn.below hx bb
  ·exact LinesIn.below (hb.2 y hy) bb
 ·rcases hm y hy with rfl | hy
  ·exact hxf
  ·exact hf.2 y hy
theorem LinesIn.fresh {w : World} {q : Nat} {v : Value} {ls : List LAt} (h : LinesIn w v ls) (hq : w.heap.size ≤ q) : LinesFar q v ls := ⟨FarV.of_lt h.1 (by decide) hq, fun y hy => FarV.of_lt (h.2 y hy) (by decide) hq⟩
end Go.Proofs.YtpdahhnjhggocabGreatDoor
namespace Go.Proofs.YtpdahhnjhggocabGreatDoor
open Go.RowKit
theorem grown_setCell' (W : World) (g j : Nat) (u : Value) : W.grownBy (W.setCell ⟨g, j, none⟩ u) (some g) := ⟨rfl, rfl, rfl, by simp, fun i _ hi => heap_setCell_other W ⟨g, j, none⟩ i _ (fun e => hi (by simp [e]))⟩
end Go.Proofs.YtpdahhnjhggocabGreatDoor
namespace Go.Proofs.YtpdahhnjhggocabGreatDoor
open Go.RowKit
def PutFar (g : Nat) (R : List Plain) (b : BAt) (x : LAt) (w : World) (e : Ending) (w' : World) : Prop := ∃ a n c ls', e = .returned (.agg #[.string b.kind, .string b.name, .slice a n c]) ∧ (ls'.map LAt.plain = putIn (lineLt R) x.plain (b.ls.map LAt.plain) ∧ ls'.length = b.ls.length + 1 ∧ (∀ y ∈ ls', y = x ∨ y ∈ b.ls) ∧ LinesIn w' (.slice a n c) ls' ∧ LinesFar g (.slice a n c) ls') ∧ Below w.heap.size w w'
theorem l3PutLine_at {g : Nat} {b : BAt} {x : LAt} {w : World} (hb : BlockIn w b) (hs : LinesSmall b.ls) (hx : LineIn w x) (hxs : x.ws.length ≤ 1048576) (hf : LinesFar g b.v b.ls) (hxf : FarV g x.v x.ws.length) (hg : g < w.heap.size) : Calls Tryz.prog 70 #[.agg #[.string b.kind, .string b.name, b.v], .agg #[.string x.key, x.v]] w fun e w' => PutFar g (rulesOf b.kind) b x w e w' := by
 refine (l3PutLine_any hb hs hx hxs).mono ?_
 rintro e w' ⟨v', D, T, hDT, rfl, hp, ho, bb⟩
 obtain ⟨a, c, rfl, _⟩ := own_form ho
 have hm : ∀ y ∈ D ++ x :: T, y = x ∨ y ∈ b.ls := by
  intro y hy
  rw [hDT]
  simp only [List.mem_append, List.mem_cons] at hy ⊢
  rcases hy with hy | rfl | hy
  ·exact .inr (.inl hy)
  ·exact .inl rfl
  ·exact .inr (.inr hy)
 refine ⟨a, _, c, D ++ x :: T, rfl, ⟨hp, by rw [hDT]; simp; omega, hm, ⟨own_has ho, fun y hy => ?_⟩, FarV.above ho hg, fun y hy => ?_⟩, bb⟩
 ·rcases hm y hy with rfl | hy
  ·exact hx.below bb
  ·exact (hb.2 y hy).below bb
 ·rcases hm y hy with rfl | hy
  ·exact hxf
  ·exact hf.2 y hy
def FillRel (B g len c2 : Nat) (xk xn : ByteArray) (P : List PLine) (D T : List BAt) (nr : Nat) (wq : World) (i : Value) (wi : World) : Prop := ∃ (k : Nat) (b : BAt), i = .int .i64 (k : Int) ∧ k ≤ nr ∧ (b.kind = xk ∧ b.name = xn ∧ b.ls.map LAt.plain = ((rulesOf xk).take k).foldl (stepF (rulesOf xk)) P ∧ LinesSmall b.ls ∧ b.ls.length ≤ 120 + k) ∧ BRow B wi (.slice (some ⟨g, 0, none⟩) len c2) (D ++ b :: T) ∧ wq.grownBy wi (some g)
theorem below_far {B g : Nat} {a w w' : World} (h : Below B a w) (hB : B ≤ w.heap.size) (hg : B ≤ g) (k : w.grownBy w' (some g)) : Below B a w' := ⟨k.os.trans h.os, k.tape.trans h.tape, k.output.trans h.output, Nat.le_trans h.size k.size, fun i hi => (k.block i (Nat.lt_of_lt_of_le hi hB) (by intro e; cases e; omega)).trans (h.block i hi)⟩
theorem small_put {x : LAt} {ls ls' : List LAt} (h : LinesSmall ls) (hx : x.ws.length ≤ 1048576 ∧ ∀ y ∈ x.ws, y.length ≤ 1048576) (hl : ls'.length ≤ 1048576) (hm : ∀ y ∈ ls', y = x ∨ y ∈ ls) : LinesSmall ls' := ⟨hl, fun y hy => by
 rcases hm y hy with rfl | hy
 ·exact hx
 ·exact h.2 y hy⟩
set_option maxHeartbeats 16000000 in
set_option maxRecDepth 100000 in
theorem specFill_any {v : Value} {bs : List BAt} {w : World} (hbs : BlocksIn w v bs) (hsm : BlocksSmall bs) : Calls Tryz.prog 22 #[.agg #[v]] w fun e w' => ∃ v' bs', e = .returned (.agg #[v']) ∧ bs'.map BAt.plain = fillS (bs.map BAt.plain) ∧ BlocksOwn w.heap.size w' v' bs' ∧ Below w.heap.size w w' := by
 obtain ⟨ao, cap, rfl⟩ := hbs.1.form
 have hc := two_boxes (w := w) (cs := #[.slice ao bs.length cap]) (ds := #[.slice none 0 0]) (T := 24) (U := 24)
 have c0 := hc.1 0
 simp only [List.getElem?_toArray, List.getElem?_cons_zero] at c0
 clear hc
 have G0 : Below w.heap.size w ((w.alloc (.cells #[.slice ao bs.length cap] 24)).alloc (.cells #[.slice none 0 0] 24)) := ((Below.refl _ _).alloc (Nat.le_refl _) _).alloc (by simp) _
 have hz := alloc_here (w.alloc (.cells #[.slice ao bs.length cap] 24)) (.cells #[.slice none 0 0] 24)
 simp only [World.size_alloc] at hz
 have HV := specValid_any (hbs.below G0) hsm
 have hBS := hid_in hbs
 have hSM := hid_in hsm
 clear hbs hsm
 generalize hn : bs.length = len0 at *
 clear hn
 generalize hW0 : (w.alloc (.cells #[.slice ao len0 cap] 24)).alloc (.cells #[.slice none 0 0] 24) = W0 at *
 have hsz0 : W0.heap.size = w.heap.size + 2 := by rw [← hW0]; simp
 go_enter Tryz.func22, Tryz.ntmps22
 go_wp2_with (go_at_call 61; (try rw [hW0]); refine HV.mono ?_)
 first | rintro e w1 rfl b1 | rintro e w1 ⟨rfl, b1⟩
 have c1 := (b1.cell (p := ⟨w.heap.size, 0, none⟩) (by simp; omega)).trans c0
 have z1 := (b1.block (w.heap.size + 1) (by omega)).trans hz
 have hsz1 := b1.size
 have g1 := G0.trans (b1.mono G0.size)
 clear HV c0 hz hW0
 cases hok : sheetB (bs.map BAt.plain)
 ·have HG := hid_in (show ([] : List BAt).map BAt.plain = fillS (bs.map BAt.plain) from by unfold fillS; rw [hok]; rfl)
  clear hok
  go_wp2_with (with_reducible show wpList _ _ _ (Oper.mk _ (Op.store _ (Operand.tmp 2) _) _ _ _ _ :: _) _ _; refine wpList_store_row rfl 24 _ _ rfl (w.heap.size + 1) #[.slice none 0 0] ?_ ?_ 24 _ z1 ?_ ?_ ?_ ?_)
  all_goals (first | rfl | kernel_rfl | exact sheet_size | skip)
  have z5 : (w1.setRow (w.heap.size + 1) #[.slice none 0 0]).heap[w.heap.size + 1]? = some (.cells #[.slice none 0 0] 24 (0, 0)) := setRow_heap _ _ _ _ _ _ z1
  have b5 : Below w.heap.size w (w1.setRow (w.heap.size + 1) #[.slice none 0 0]) :=
   ⟨g1.os, g1.tape, g1.output, by rw [setRow_size]; exact g1.size, fun k hk => by rw [setRow_other _ _ _ _ (by omega)]; exact g1.block k hk⟩
  have y0 := cell_of_block z5 0
  simp only [List.getElem?_toArray, List.getElem?_cons_zero] at y0
  generalize w1.setRow (w.heap.size + 1) #[.slice none 0 0] = W at b5 y0 z5 ⊢
  first | exact bodyPost_ret (v := .agg #[.slice none 0 0]) (by simp [results, Tryz.results22, go_sem, y0]) rfl ⟨_, [], rfl, HG.out, blocks_none _ _, b5⟩ | exact bodyPost_ret (v := .agg #[.slice none 0 0]) (by simp [results, Tryz.results22, go_sem, y0]) rfl ⟨_, rfl, [], HG.out, blocks_none _ _, b5⟩
 ·have HOK := hid_in hok
  clear hok
  have HC := l3Copy_any (hBS.out.below g1) hSM.out
  go_wp2_with (go_at_call 49; refine HC.mono ?_)
  first | rintro e w2 v2 rfl bs2 hp2 o2 b2 | rintro e w2 v2 bs2 rfl hp2 o2 b2 | rintro e w2 ⟨v2, bs2, rfl, hp2, o2, b2⟩
  have hSM2 := hid_in (hSM.out.same hp2)
  have HP2 := hid_in hp2
  have g2 := g1.trans (b2.mono g1.size)
  have z2 := (b2.block (w.heap.size + 1) (by omega)).trans z1
  have hsz2 := b2.size
  obtain ⟨a2, c2, rfl, hform⟩ := own_form o2.row
  have hFm := hid_in hform
  have hLT := hid_in (fun q (hq : (Value.slice a2 bs2.length c2).ownBlock = some q) => o2.row.lt q hq)
  have x3 : Below w2.heap.size w2 (w2.alloc (.cells #[.slice a2 bs2.length c2] 24)) := (Below.refl _ _).alloc (Nat.le_refl _) _
  have o3 := hid_in (o2.below x3).brow
  have m3 := one_box (w := w2) (cs := #[.slice a2 bs2.length c2]) (T := 24) 0
  simp only [List.getElem?_toArray, List.getElem?_cons_zero] at m3
  have z3 := (x3.block (w.heap.size + 1) (by omega)).trans z2
  have g3 := g2.trans (x3.mono g2.size)
  have hsz3 : (w2.alloc (.cells #[.slice a2 bs2.length c2] 24)).heap.size = w2.heap.size + 1 := by simp
  have hl2 : bs2.length ≤ 1048576 := hSM2.out.1
  clear HC hp2 o2 b2 z1 z2 c1 x3 hform
  generalize hlen : bs2.length = len at *
  have en := hid_in hlen
  clear hlen
  generalize hW3 : w2.alloc (.cells #[.slice a2 len c2] 24) = w3 at *
  have eW3 := hid_in hW3
  clear hW3
  go_wp2
  go_loopw [4] (fun i wr => ∃ (D T : List BAt), i = .int .i64 (D.length : Int) ∧ D.length + T.length = len ∧ FillTo bs2 D T ∧ BRow w1.heap.size wr (.slice a2 len c2) (D ++ T) ∧ Below w1.heap.size w3 wr ∧ wr.cell? ⟨w2.heap.size, 0, none⟩ = some (.slice a2 len c2)) (fun i _ => len - (intOf i).toNat)
  case atStart =>
   rw [eW3.out]
   exact ⟨[], bs2, rfl, by simpa using en.out, ⟨[], rfl, rfl⟩, o3.out, Below.refl _ _, m3⟩
  case round =>
   obtain ⟨D, T, rfl, hDT, hTT, hm, bw, cx⟩ := hrel
   have hszw := bw.size
   cases T with
   | nil =>
    simp only [List.length_nil, Nat.add_zero, List.append_nil] at hDT hm
    obtain ⟨D0, e1, e2⟩ := hTT
    rw [List.append_nil] at e1
    subst e1
    have hsmD := fill_small (by rw [HP2.out]; exact sheetB_iff.1 HOK.out) hSM2.out e2
    have HG := hid_in (show D.map BAt.plain = fillS (bs.map BAt.plain) from by unfold fillS; rw [if_pos HOK.out, e2, HP2.out])
    have hmb := hm.bin
    rw [← hDT] at hmb
    have HC := l3Copy_any hmb hsmD
    rw [hDT] at HC
    have gw := g3.trans (bw.mono (by have := g1.size; omega))
    have z4 := (bw.block (w.heap.size + 1) (by omega)).trans z3
    have hlt : ¬ ((D.length : Int) < (len : Int)) := by omega
    clear hm e2 hsmD o3 m3 hmb
    go_wp2_with (go_at_call 49; refine HC.mono ?_)
    first | rintro e w5 v5 rfl bs5 hp5 o5 b5 | rintro e w5 v5 bs5 rfl hp5 o5 b5 | rintro e w5 ⟨v5, bs5, rfl, hp5, o5, b5⟩
    have z5 := (b5.block (w.heap.size + 1) (by omega)).trans z4
    have g5 := gw.trans (b5.mono gw.size)
    have HG5 := hid_in (hp5.trans HG.out)
    have O5 := hid_in (o5.mono (show w.heap.size + 2 ≤ wr.heap.size by omega))
    obtain ⟨a5, c5, rfl, _⟩ := own_form o5.row
    clear HC hp5 o5 b5 HG z4
    generalize bs5.length = n5 at *
    go_wp2_with (with_reducible show wpList _ _ _ (Oper.mk _ (Op.store _ (Operand.tmp 2) _) _ _ _ _ :: _) _ _; refine wpList_store_row rfl 24 _ _ rfl (w.heap.size + 1) #[.slice a5 n5 c5] ?_ ?_ 24 _ z5 ?_ ?_ ?_ ?_)
    all_goals (first | rfl | kernel_rfl | exact sheet_size | skip)
    have z6 : (w5.setRow (w.heap.size + 1) #[.slice a5 n5 c5]).heap[w.heap.size + 1]? = some (.cells #[.slice a5 n5 c5] 24 (0, 0)) := setRow_heap _ _ _ _ _ _ z5
    have b6 : Below w.heap.size w (w5.setRow (w.heap.size + 1) #[.slice a5 n5 c5]) :=
     ⟨g5.os, g5.tape, g5.output, by rw [setRow_size]; exact g5.size, fun k hk => by rw [setRow_other _ _ _ _ (by omega)]; exact g5.block k hk⟩
    have o6 := (O5.out.setRow (w.heap.size + 1) (by omega) #[.slice a5 n5 c5]).mono (show w.heap.size ≤ w.heap.size + 2 by omega)
    have y0 := cell_of_block z6 0
    simp only [List.getElem?_toArray, List.getElem?_cons_zero] at y0
    generalize w5.setRow (w.heap.size + 1) #[.slice a5 n5 c5] = W at b6 y0 z6 o6 ⊢
    first | exact bodyPost_ret (v := .agg #[.slice a5 n5 c5]) (by simp [results, Tryz.results22, go_sem, y0]) rfl ⟨_, bs5, rfl, HG5.out, o6, b6⟩ | exact bodyPost_ret (v := .agg #[.slice a5 n5 c5]) (by simp [results, Tryz.results22, go_sem, y0]) rfl ⟨_, rfl, bs5, HG5.out, o6, b6⟩
   | cons x T =>
    simp only [List.length_cons] at hDT
    obtain ⟨wo, hwo⟩ : ∃ wo, wo = wr := ⟨_, rfl⟩
    subst hwo
    have hlt : ((D.length : Int) < (len : Int)) := by omega
    obtain ⟨g, rfl⟩ : ∃ g, a2 = some ⟨g, 0, none⟩ := by
     rcases hFm.out with h0 | h0
     ·omega
     ·exact h0
    have d0 := hm.cell 0 (by decide)
    have hxb : x ∈ bs2 := by obtain ⟨D0, e1, _⟩ := hTT; rw [e1]; simp
    have hxs := (hSM2.out.2 x hxb).2
    have hxok := hid_in (show LinesOk (rulesOf x.kind) (x.ls.map LAt.plain) from ((sheetB_iff.1 HOK.out).2.1 x.plain (by rw [← HP2.out]; exact List.mem_map_of_mem hxb)).2.2)
    have hxn : x.ls.length ≤ 120 := by
     have h1 := hxok.out.few
     have h2 := (rulesOf_like x.kind).1
     rw [List.length_map] at h1
     omega
    simp only [BAt.cells, List.getElem?_cons_zero, Nat.add_zero] at d0
    have HM := hid_in hm
    have HTT := hid_in hTT
    have hgX : g < w2.heap.size := (hLT.out g rfl).2
    have hgl := (hLT.out g rfl).1
    have hxs' := hid_in hxs
    have HSR := fun W => specRules_any x.kind W
    clear hm hTT hxs o3 m3
    obtain ⟨xk, xn, xv, xl⟩ := x
    simp only at *
    have i1 : (0 : Int) ≤ (D.length : Int) := by omega
    go_wp2_with (go_at_call 68; refine (HSR _).mono ?_)
    rintro e w4 ⟨vr, L, rfl, hpl, hr, b4⟩
    have hLl := rulesOf_twelve xk hpl
    have hsz4 := b4.size
    have cx4 := (b4.cell (p := ⟨w2.heap.size, 0, none⟩) (World.block_lt_of_cell? wo _ cx)).trans cx
    have HM4 := hid_in (HM.out.below b4)
    obtain ⟨ra, rc, rfl, _⟩ := own_form (show w4.ownsRow wo.heap.size 105 4 vr L.length (L.flatMap RAt.cells) from Mem.head hr)
    have hgo : g < wo.heap.size := by omega
    have HRI := hid_in hr.rin
    have HRF := hid_in (show FarV g (.slice ra L.length rc) L.length from FarV.above (Mem.head hr) hgo)
    have HDF := hid_in (show ∀ r ∈ L, HasRow w4 r.vd r.ds.length 1 (strs r.ds) ∧ FarV g r.vd r.ds.length ∧ r.ds.length ≤ 1048576 ∧ ∀ y ∈ r.ds, y.length ≤ 1048576 from fun r hrm => by
     obtain ⟨D0, T0, hDT⟩ := List.append_of_mem hrm
     have h1 : w4.ownsRow wo.heap.size 9 1 r.vd r.ds.length (strs r.ds) := by have := hr.rm; rw [hDT] at this; exact this.defs
     exact ⟨own_has h1, FarV.above h1 hgo, defs_small hpl hrm⟩)
    have HPL := hid_in hpl
    clear hr hpl HSR cx d0
    generalize hnr : L.length = nr at *
    have enr := hid_in hnr
    clear hnr
    go_wp2
    go_loopw [6] (fun i wi => FillRel w1.heap.size g len c2 xk xn (xl.map LAt.plain) D T nr w4 i wi) (fun i _ => nr - (intOf i).toNat)
    case atStart => exact ⟨0, ⟨xk, xn, xv, xl⟩, rfl, by omega, ⟨rfl, rfl, by simp, hxs'.out, by simpa using hxn⟩, HM4.out, ⟨rfl, rfl, rfl, Nat.le_refl _, fun _ _ _ => rfl⟩⟩
    case round =>
     obtain ⟨wi, hwi⟩ : ∃ wi, wi = wr := ⟨_, rfl⟩
     subst hwi
     obtain ⟨k, b, rfl, hk, hbf, hm, gi⟩ := hrel
     have hszi := gi.size
     have cxi : wi.cell? ⟨w2.heap.size, 0, none⟩ = some (.slice (some ⟨g, 0, none⟩) len c2) := (gi.cell_far ⟨w2.heap.size, 0, none⟩ (by simp; omega) (by intro e; cases e; exact absurd hgX (Nat.lt_irrefl _))).trans cx4
     by_cases hk2 : k < nr
     ·obtain ⟨D1, r, T1, ey, hD1⟩ := split1 L k (by have := enr.out; omega)
      have hri := HRI.out.1.far (by rw [enr.out]; exact HRF.out) gi
      rw [ey] at hri
      obtain ⟨rg, roff, rfl, r0, r1, r2, r3⟩ := hri.rule
      have hrm : r ∈ L := by rw [ey]; simp
      obtain ⟨hd1, hd2, hd3⟩ := HDF.out r hrm
      have hdi := hd1.far hd2 gi
      obtain ⟨ad, cd, ed⟩ := hdi.form
      rw [hD1] at r0 r2 r3
      have hbin : LinesIn wi b.v b.ls := (hm.2 b (by simp)).1
      have hbfar := (hm.2 b (by simp)).2 g rfl
      have e0 := hm.cell 0 (by decide)
      have e1 := hm.cell 1 (by decide)
      have e2 := hm.cell 2 (by decide)
      simp only [BAt.cells, List.getElem?_cons_zero, List.getElem?_cons_succ, Nat.add_zero] at e0 e1 e2
      obtain ⟨la, lc, eb⟩ := hbin.1.form
      obtain ⟨bk, bn, bv, bl⟩ := b
      simp only at hbf hbin hbfar e0 e1 e2 eb
      obtain ⟨rfl, rfl, hbp, hbs, hbl⟩ := hbf
      subst eb
      have hst := hid_in (show ((rulesOf bk).take (k + 1)).foldl (stepF (rulesOf bk)) (xl.map LAt.plain) = stepF (rulesOf bk) (bl.map LAt.plain) r.plain from by
       rw [hbp, ← hD1]
       have e : rulesOf bk = D1.map RAt.plain ++ r.plain :: T1.map RAt.plain := by rw [← HPL.out, ey]; simp
       have := steps_take (ls := xl.map LAt.plain) e
       rw [List.length_map] at this
       exact this)
      have hds : r.ds.length ≤ 1048576 ∧ ∀ y ∈ r.ds, y.length ≤ 1048576 := hd3
      rw [ed] at hdi hd2 r3
      have HL5 : ∀ p : Gr wi, Calls Tryz.prog 69 #[.agg #[.string bk, .string bn, .slice la bl.length lc], .string r.key] p.u fun e w' => NonePost (!hasK (bl.map LAt.plain) r.key) p.u e w' := fun p => l5Of_none r.key (b := ⟨bk, bn, .slice la bl.length lc, bl⟩) (hbin.below p.h) hbs
      have HPUT : ∀ p : Gr wi, Calls Tryz.prog 70 #[.agg #[.string bk, .string bn, .slice la bl.length lc], .agg #[.string r.key, .slice ad r.ds.length cd]] p.u fun e w' => PutFar g (rulesOf bk) ⟨bk, bn, .slice la bl.length lc, bl⟩ ⟨r.key, .slice ad r.ds.length cd, r.ds⟩ p.u e w' := fun p => l3PutLine_at (b := ⟨bk, bn, .slice la bl.length lc, bl⟩) (x := ⟨r.key, .slice ad r.ds.length cd, r.ds⟩) (hbin.below p.h) hbs (HasRow.below hdi p.h) hds.1 hbfar hd2 (by have := p.h.size; omega)
      have hno := hid_in (show (!r.many && !hasK (bl.map LAt.plain) r.key) = false → stepF (rulesOf bk) (bl.map LAt.plain) r.plain = bl.map LAt.plain from fun h => by
       unfold stepF
       rw [show isUnsaid (bl.map LAt.plain) r.plain = false from h]; rfl)
      have hyes := hid_in (show (!r.many && !hasK (bl.map LAt.plain) r.key) = true → stepF (rulesOf bk) (bl.map LAt.plain) r.plain = putIn (lineLt (rulesOf bk)) ⟨r.key, r.ds⟩ (bl.map LAt.plain) from fun h => by
       unfold stepF
       rw [show isUnsaid (bl.map LAt.plain) r.plain = true from h]; rfl)
      have k1 : (0 : Int) ≤ (k : Int) := by omega
      have k2 : (k : Int) < (nr : Int) := by omega
      have HMI := hid_in hm
      have HBS := hid_in hbs
      have HDS := hid_in hds
      clear hm hri r1 hrm hd1 hd2 hd3 hdi ed hbin hbfar hbp hbs ey hD1 HDF
      generalize hKK : (!hasK (bl.map LAt.plain) r.key) = KK at *
      clear hKK
      generalize hnl : bl.length = nl at *
      have enl := hid_in hnl
      clear hnl
      generalize r.key = rk at *
      generalize r.many = rm at *
      generalize hnd : r.ds.length = nd at *
      have ednd := hid_in hnd
      clear hnd
      go_upto_region 11 with fail
      go_cut [53] from 33 to 53 (fun c wx => c = .bool (!rm && KK) ∧ Below wi.heap.size wi wx)
      case first =>
       have v0 := fun p : Gr wi => gr_cell cxi p
       have v1 := fun p : Gr wi => gr_cell e0 p
       have v2 := fun p : Gr wi => gr_cell e1 p
       have v3 := fun p : Gr wi => gr_cell e2 p
       have v4 := fun p : Gr wi => gr_cell r0 p
       have v5 := fun p : Gr wi => gr_cell r2 p
       clear HPUT hst hno hyes HMI HBS HDS HM4 HRI HRF HPL HTT hxok hxs' HM e0 e1 e2 r0 r2 r3 cxi
       cases rm
       ·refine wp_region_upM 21 21 (by kernel_rfl) rfl ?_
        refine wpUp_mask [true, true, true, true, true, true, true, true, true, true, true, true, true, true, true, true, true, false, false, false, false] 4 rfl (by kernel_rfl) ?_
        simp only [maskL_t, maskL_f, maskL_n]
        iterate 17 (refine wpQuietU_step (fun K hK => ?_); go_simp; refine hK _ ?_; clear hK K)
        refine wpQuietU_nil ?_
        refine wpUp_branch (f := 3) (rs := [17]) (by kernel_rfl) (by simp) ?_
        rintro ⟨wp, bp⟩
        refine AllUp.cons rfl (by decide) (fun K hK => ?_) AllUp.nil
        go_simp
        go_wp2_with (go_at_call 69; refine (HL5 ⟨wp, bp⟩).mono ?_; rintro e w7 ⟨a7, n7, c7, rfl, h7, b7⟩)
        refine hK.out _ _ b7 ?_
        clear hK K
        refine wpUp_mask [false, false, false, false, false, false, false, false, false, false, false, false, false, false, false, false, false, false, true, true, true] 0 rfl (by kernel_rfl) ?_
        simp only [maskL_t, maskL_f, maskL_n]
        iterate 3 (refine wpQuietU_step (fun K hK => ?_); go_simp; refine hK _ ?_; clear hK K)
        refine wpQuietU_nil ?_
        refine wpUp_done (by kernel_rfl) ?_ 0
        rintro ⟨wz, bz⟩
        refine NoPanic.normal ?_
        go_wp2_with fail
        go_meet
        exact ⟨rfl, bp.trans ((b7.trans (bz.mono b7.size)).mono bp.size)⟩
       ·refine wp_region_gr (by kernel_rfl) (by kernel_rfl) ?_
        iterate 7 quiet_step (fail)
        iterate 13 (with_reducible refine quiet_skip ?_ ?_; kernel_rfl; simp only [Act.put, List.setIfInBounds_toArray, List.set_cons_zero, List.set_cons_succ])
        quiet_step (fail)
        refine wpQuiet_nil ?_
        rintro _ ⟨⟨wq, bq⟩, rfl⟩
        go_wp2_with fail
        go_meet
        exact ⟨rfl, bq⟩
      case rest =>
       obtain ⟨wj, hwj⟩ : ∃ wj, wj = wc := ⟨_, rfl⟩
       subst hwj
       obtain ⟨rfl, bj⟩ := hcut
       have hszj := bj.size
       have HMJ := hid_in (HMI.out.below bj)
       have gj := grown_trans gi (grown_of_below bj (some g))
       cases hUU : (!rm && KK)
       ·have hst' := hid_in (hst.out.trans (hno.out hUU))
        clear hst hno hyes HPUT HL5 hUU
        go_wp2
        go_roundw
        case rel => exact ⟨k + 1, ⟨bk, bn, .slice la nl lc, bl⟩, by go_num, by omega, ⟨rfl, rfl, hst'.out.symm, HBS.out, by have := enl.out; simp only; omega⟩, HMJ.out, gj⟩
        case measure => simp [intOf]; omega
       ·have hst' := hid_in (hst.out.trans (hyes.out hUU))
        have v0 := fun p : Gr wj => gr_cell ((bj.cell (World.block_lt_of_cell? wi _ cxi)).trans cxi) p
        have v1 := fun p : Gr wj => gr_cell ((bj.cell (World.block_lt_of_cell? wi _ e0)).trans e0) p
        have v2 := fun p : Gr wj => gr_cell ((bj.cell (World.block_lt_of_cell? wi _ e1)).trans e1) p
        have v3 := fun p : Gr wj => gr_cell ((bj.cell (World.block_lt_of_cell? wi _ e2)).trans e2) p
        have v4 := fun p : Gr wj => gr_cell ((bj.cell (World.block_lt_of_cell? wi _ r0)).trans r0) p
        have v6 := fun p : Gr wj => gr_cell ((bj.cell (World.block_lt_of_cell? wi _ r3)).trans r3) p
        have hnn : (D ++ (⟨bk, bn, .slice la nl lc, bl⟩ : BAt) :: T).length = len := by simp; omega
        clear hst hno hyes HL5 hUU HMI HM4 HRI HRF HPL HTT hxok hxs' HM e0 e1 e2 r0 r2 r3 cxi
        go_upto_region 12 with fail
        refine wp_region_upM 21 22 (by kernel_rfl) rfl ?_
        refine wpUp_mask [true, true, true, true, true, true, true, true, true, true, true, true, true, true, true, true, true, true, true, false, false, false] 3 rfl (by kernel_rfl) ?_
        simp only [maskL_t, maskL_f, maskL_n]
        iterate 19 (refine wpQuietU_step (fun K hK => ?_); go_simp; refine hK _ ?_; clear hK K)
        refine wpQuietU_nil ?_
        refine wpUp_branch (f := 2) (rs := [19]) (by kernel_rfl) (by simp) ?_
        rintro ⟨wp, bp⟩
        refine AllUp.cons rfl (by decide) (fun K hK => ?_) AllUp.nil
        go_simp
        go_wp2_with (go_at_call 70; refine (HPUT ⟨wp, bj.trans (bp.mono bj.size)⟩).mono ?_; rintro e w7 ⟨a7, n7, c7, ls7, rfl, h7, b7⟩)
        refine hK.out _ _ b7 ?_
        clear hK K
        refine wpUp_mask [false, false, false, false, false, false, false, false, false, false, false, false, false, false, false, false, false, false, false, false, true, false] 1 rfl (by kernel_rfl) ?_
        simp only [maskL_t, maskL_f, maskL_n]
        iterate 1 (refine wpQuietU_step (fun K hK => ?_); go_simp; refine hK _ ?_; clear hK K)
        refine wpQuietU_nil ?_
        refine wpUp_last (by kernel_rfl) rfl (by kernel_rfl) ?_
        rintro ⟨wz, bz⟩ K hK
        have Bp := bp.trans ((b7.trans (bz.mono b7.size)).mono bp.size)
        have hmz := HMJ.out.below Bp
        have hset := hmz.set (b := ⟨bk, bn, .slice a7 n7 c7, ls7⟩) hnn (h7.2.2.2.1.below bz) h7.2.2.2.2
        have hth := hmz.there hnn
        rw [if_pos (by rfl)]
        refine wp_store_mid 64 _ _ rfl g (D.length * 3) #[.string bk, .string bn, .slice a7 n7 c7] rfl rfl hth (by kernel_rfl) (all_oneCell_toArray (cs := [.string bk, .string bn, .slice a7 n7 c7]) (by intro z hz; simp at hz; rcases hz with rfl | rfl | rfl <;> rfl)) ?_
        refine hK.out _ _ (NoPanic.normal ?_)
        clear hK K
        have HR := hid_in (show FillRel w1.heap.size g len c2 bk bn (xl.map LAt.plain) D T nr w4 (.int .i64 ((k + 1 : Nat) : Int)) (wz.setCells g (D.length * 3) [.string bk, .string bn, .slice a7 n7 c7]) from
         ⟨k + 1, ⟨bk, bn, .slice a7 n7 c7, ls7⟩, rfl, by omega, ⟨rfl, rfl, h7.1.trans hst'.out.symm, small_put (x := ⟨rk, .slice ad nd cd, r.ds⟩) HBS.out ⟨by rw [ednd.out]; exact HDS.out.1, HDS.out.2⟩ (by have := h7.2.1; have := enl.out; simp only at *; omega) h7.2.2.1, by have := h7.2.1; have := enl.out; simp only at *; omega⟩, hset.1, grown_trans gj (grown_trans (grown_of_below Bp (some g)) hset.2)⟩)
        clear hset hth hmz h7 HMJ
        go_wp2
        go_roundw
        case rel => exact HR.out
        case measure => simp [intOf]; omega
     ·obtain rfl : k = nr := by omega
      obtain ⟨bk, bn, bv, bl⟩ := b
      simp only at hbf
      obtain ⟨rfl, rfl, hbp, hbs, hbl⟩ := hbf
      have hall : (rulesOf bk).take k = rulesOf bk := by rw [List.take_of_length_le]; rw [← HPL.out, List.length_map, enr.out]; exact Nat.le_refl _
      rw [hall, steps_fill hxok.out (rulesOf_nodupK bk)] at hbp
      have HST := hid_in (HTT.out.step (b := ⟨bk, bn, bv, bl⟩) (show PBlock.mk bk bn (bl.map LAt.plain) = PBlock.mk bk bn (fillL (rulesOf bk) (xl.map LAt.plain)) from by rw [hbp]))
      have hlt2 : ¬ ((k : Int) < (k : Int)) := by omega
      have HMI := hid_in hm
      have hBF := below_far (bw.trans (b4.mono (by omega))) (by omega) hgl gi
      clear hm hbp hbs hall HM HM4 HTT HRI HRF HDF HPL hxok hxs'
      go_wp2
      go_roundw
      case rel => exact ⟨D ++ [⟨bk, bn, bv, bl⟩], T, by simp, by simp; omega, HST.out, by rw [List.append_assoc]; exact HMI.out, hBF, cxi⟩
      case measure => simp [intOf]; omega
end Go.Proofs.YtpdahhnjhggocabGreatDoor
