import Derived.Test.YtpdahhnjhggocabGreatDoorBun30
import Derived.Test.YtpdahhnjhggocabGreatDoorBun29
import Derived.Test.YtpdahhnjhggocabGreatDoorBun27
import Derived.Test.YtpdahhnjhggocabGreatDoorBun26
import Derived.Test.YtpdahhnjhggocabGreatDoorBun23
import Derived.Test.YtpdahhnjhggocabGreatDoorBun17
namespace Go.Proofs.YtpdahhnjhggocabGreatDoor
open Go.RowKit
open Classical in
noncomputable def eqLs (P Q : List PLine) : Bool := decide (P = Q)
open Classical in
theorem eqLs_true {P Q : List PLine} (h : P = Q) : eqLs P Q = true := decide_eq_true h
open Classical in
theorem eqLs_false {P Q : List PLine} (h : P ≠ Q) : eqLs P Q = false := decide_eq_false h
theorem bytes_inj {a b : ByteArray} (h : a.toList = b.toList) : a = b := by
  rw [ByteArray.toList_eq, ByteArray.toList_eq] at h
  exact ByteArray.ext (Array.toList_inj.1 h)
theorem plain_ne {x y : LAt} (h : ¬ (x.key.toList = y.key.toList ∧ x.ws = y.ws)) : x.plain ≠ y.plain := fun e => h ⟨congrArg (fun p : PLine => p.key.toList) e, congrArg PLine.ws e⟩
theorem plain_eq {x y : LAt} (h : x.key.toList = y.key.toList) (h2 : x.ws = y.ws) : x.plain = y.plain := by
  show (⟨x.key, x.ws⟩ : PLine) = ⟨y.key, y.ws⟩
  rw [bytes_inj h, h2]
set_option maxHeartbeats 4000000 in
set_option maxRecDepth 100000 in
theorem l7Same_any {va vb : Value} {xs ys : List LAt} {w : World} (h1 : LinesIn w va xs) (h2 : LinesIn w vb ys) (s1 : LinesSmall xs) (s2 : LinesSmall ys) : Calls Tryz.prog 156 #[va, vb] w fun e w' => e = .returned (.bool (eqLs (xs.map LAt.plain) (ys.map LAt.plain))) ∧ Below w.heap.size w w' := by
  obtain ⟨ao, ca, rfl⟩ := h1.1.form
  obtain ⟨bo, cb, rfl⟩ := h2.1.form
  by_cases hl : xs.length = ys.length
  · have EN := hid_in hl
    have H1 := hid_in h1
    have H2 := hid_in h2
    have S1 := hid_in s1
    have S2 := hid_in s2
    have hn2 : xs.length ≤ 1048576 := s1.1
    rw [← hl]
    clear h1 h2 s1 s2 hl
    generalize hn : xs.length = n at *
    have en := hid_in hn
    clear hn
    have hnn : ((n : Int) != (n : Int)) = false := by simp
    go_enter Tryz.func156, Tryz.ntmps156
    go_wp2
    go_loopw [5] (fun i wr => ∃ j : Nat, i = .int .i64 (j : Int) ∧ j ≤ n ∧ Hid ((xs.take j).map LAt.plain = (ys.take j).map LAt.plain) ∧ Below w.heap.size w wr) (fun i _ => n - (intOf i).toNat)
    case atStart => exact ⟨0, rfl, by omega, hid_in (by simp), Below.refl _ _⟩
    case round =>
      obtain ⟨j, rfl, hj, hA, bw⟩ := hrel
      by_cases hlt : j < n
      · obtain ⟨D, x, T, e1, hD⟩ := split1 xs j (by have := en.out; omega)
        obtain ⟨D', y, T', e2, hD'⟩ := split1 ys j (by have := EN.out; have := en.out; omega)
        have hx := H1.out.below bw
        have hy := H2.out.below bw
        have hxm : x ∈ xs := by rw [e1]; simp
        have hym : y ∈ ys := by rw [e2]; simp
        have hxr := hx.1
        have hyr := hy.1
        rw [e1] at hxr
        rw [e2] at hyr
        obtain ⟨g, off, rfl, c1, c2⟩ := hxr.line
        obtain ⟨g', off', rfl, d1, d2⟩ := hyr.line
        have hxl := hx.2 x hxm
        have hyl := hy.2 y hym
        obtain ⟨ax, cx, ex⟩ := HasRow.form hxl
        obtain ⟨ay, cy, ey⟩ := HasRow.form hyl
        have hxw := (S1.out.2 x hxm).1
        have hyw := (S2.out.2 y hym).1
        unfold LineIn at hxl hyl
        rw [ex] at c2 hxl
        rw [ey] at d2 hyl
        simp only [hD] at c1 c2
        simp only [hD'] at d1 d2
        have HNE := hid_in (show ¬ (x.key.toList = y.key.toList ∧ x.ws = y.ws) → eqLs (xs.map LAt.plain) (ys.map LAt.plain) = false from fun h => eqLs_false (fun e => by
          have h0 := congrArg (fun l : List PLine => l[j]?) e
          simp only [List.getElem?_map, e1, e2, List.getElem?_append_right (show D.length ≤ j by omega), List.getElem?_append_right (show D'.length ≤ j by omega), hD, hD', Nat.sub_self, List.getElem?_cons_zero, Option.map_some] at h0
          exact plain_ne h (Option.some.inj h0)))
        have HEQ := hid_in (show x.key.toList = y.key.toList → x.ws = y.ws → (xs.take (j + 1)).map LAt.plain = (ys.take (j + 1)).map LAt.plain from fun h h' => by
          have t1 : xs.take (j + 1) = xs.take j ++ [x] := by rw [e1, ← hD, take_front, take_one]
          have t2 : ys.take (j + 1) = ys.take j ++ [y] := by rw [e2, ← hD', take_front, take_one]
          rw [t1, t2, List.map_append, List.map_append, hA.out, List.map_singleton, List.map_singleton, plain_eq h h'])
        have j0 : (0 : Int) ≤ (j : Int) := by omega
        have j1 : (j : Int) < (n : Int) := by omega
        have u1 := fun p : Gr wr => gr_cell c1 p
        have u2 := fun p : Gr wr => gr_cell c2 p
        have v1 := fun p : Gr wr => gr_cell d1 p
        have v2 := fun p : Gr wr => gr_cell d2 p
        have HW : ∀ p : Gr wr, Calls Tryz.prog 74 #[.slice ax x.ws.length cx, .slice ay y.ws.length cy] p.u fun e w' => e = .returned (.bool (decide (x.ws = y.ws))) ∧ Below p.u.heap.size p.u w' := fun p => l3Words_any (hxl.below p.h) (hyl.below p.h) hxw hyw
        generalize hB : decide (x.ws = y.ws) = WB at HW
        have EB := hid_in hB
        clear hx hy hxm hym hxr hyr hxl hyl ex ey e1 e2 hD hD' hxw hyw c1 c2 d1 d2 hA hB
        generalize x.key = xk at *
        generalize y.key = yk at *
        generalize x.ws.length = nx at *
        generalize y.ws.length = ny at *
        go_upto_region 6 with fail
        refine wp_region_gr (by kernel_rfl) (by kernel_rfl) ?_
        cases hk : (xk.toList == yk.toList)
        · have hk' : (xk.toList != yk.toList) = true := by rw [bne, hk]; rfl
          have HF := HNE.out (fun h => by rw [beq_eq_false_iff_ne] at hk; exact hk h.1)
          iterate 12 quiet_step (fail)
          iterate 12 (with_reducible refine quiet_skip ?_ ?_; kernel_rfl; simp only [Act.put, List.setIfInBounds_toArray, List.set_cons_zero, List.set_cons_succ])
          quiet_step (fail)
          refine wpQuiet_nil ?_
          rintro _ ⟨⟨wq, bq⟩, rfl⟩
          have B := hid_in (bw.trans (bq.mono bw.size))
          clear u1 u2 v1 v2 HW bq bw
          go_wp2
          go_ret
          exact ⟨HF ▸ rfl, B.out⟩
        · have hk' : (xk.toList != yk.toList) = false := by rw [bne, hk]; rfl
          have hke := hid_in (beq_iff_eq.1 hk)
          iterate 22 quiet_step (fail)
          quiet_step ((go_at_call 74; refine gr_of (HW _)))
          iterate 2 quiet_step (fail)
          refine wpQuiet_nil ?_
          rintro _ ⟨⟨wq, bq⟩, rfl⟩
          have B := hid_in (bw.trans (bq.mono bw.size))
          clear u1 u2 v1 v2 HW bq bw
          cases WB
          · have HF := HNE.out (fun h => of_decide_eq_false EB.out h.2)
            go_wp2
            go_ret
            exact ⟨HF ▸ rfl, B.out⟩
          · have HT := hid_in (HEQ.out hke.out (of_decide_eq_true EB.out))
            go_wp2
            go_roundw
            case rel => exact ⟨j + 1, by go_num, by omega, HT, B.out⟩
            case measure => simp [intOf]; omega
      · obtain rfl : j = n := by omega
        have HT := eqLs_true (show xs.map LAt.plain = ys.map LAt.plain from by
          have h := hA.out
          have e : xs.length = ys.length := en.out.trans EN.out
          rw [← en.out, List.take_length, e, List.take_length] at h
          exact h)
        clear hA
        go_wp2
        go_ret
        exact ⟨HT ▸ rfl, bw⟩
  · have HF := eqLs_false (show xs.map LAt.plain ≠ ys.map LAt.plain from fun e => hl (by have := congrArg List.length e; simpa using this))
    have hne : ((xs.length : Int) != (ys.length : Int)) = true := by rw [bne_iff_ne]; omega
    clear h1 h2 s1 s2 hl
    generalize xs.length = n at *
    generalize ys.length = m at *
    go_enter Tryz.func156, Tryz.ntmps156
    go_wp2
    go_ret
    exact ⟨HF ▸ rfl, Below.refl _ _⟩
end Go.Proofs.YtpdahhnjhggocabGreatDoor
namespace Go.Proofs.YtpdahhnjhggocabGreatDoor
open Go.RowKit
theorem changes_pushR {B : Nat} {wc w2 w3 : World} {vk v3 : Value} {done : List CAt} {x : CAt} {cs : Array Value} {T : TypeId} {rest : List MRow} (hm : Mem B wc (crows vk done ++ rest)) (hB : B ≤ wc.heap.size) (o2 : LinesOwn wc.heap.size w2 x.v x.ls) (b2 : Below wc.heap.size wc w2)
    (hown3 : w3.ownsRow B 131 5 v3 (done.length + 1) (done.flatMap CAt.cells ++ x.cells)) (hgrow : (w2.alloc (.cells cs T)).grownBy w3 vk.ownBlock) (hv : v3.ownBlock = vk.ownBlock ∨ v3.ownBlock = some (w2.alloc (.cells cs T)).heap.size) :
    Mem B w3 (crows v3 (done ++ [x]) ++ rest) ∧ Below B wc w3 := by
  have m2 : Mem B w2 (x.rows ++ (crows vk done ++ rest)) := Mem.join hm o2 b2 hB
  have m3 : Mem B w2 (⟨vk, 131, 5, done.length, done.flatMap CAt.cells⟩ :: (done.flatMap CAt.rows ++ x.rows ++ rest)) := m2.perm (by
    unfold crows
    rw [List.cons_append, List.append_assoc]
    exact List.perm_middle.trans ((List.perm_append_comm_assoc _ _ _).cons _))
  have ba := (Below.refl w2.heap.size w2).alloc (Nat.le_refl _) (.cells cs T)
  have m4 := m3.below ba
  have m5 := m4.grow (r' := ⟨v3, 131, 5, done.length + 1, done.flatMap CAt.cells ++ x.cells⟩) hown3 hgrow hv
  refine ⟨?_, ?_⟩
  · unfold crows
    rw [List.flatMap_append, List.flatMap_append, List.length_append, List.flatMap_singleton, List.flatMap_singleton]
    exact m5
  · have hz := b2.size
    exact ((b2.mono hB).trans (ba.mono (by omega))).grown hgrow (by simp; omega) (fun k hk => (Mem.lt m3 (List.mem_cons_self ..) hk).1)
theorem grown_setRowD (W : World) (R : Nat) (cs : Array Value) : W.grownBy (W.setRow R cs) (some R) := ⟨rfl, rfl, rfl, by rw [setRow_size]; exact Nat.le_refl _, fun i _ hi => setRow_other _ _ _ _ (fun e => hi (by rw [e]))⟩
open Classical in
theorem eqLs_eq {P Q : List PLine} (h : eqLs P Q = true) : P = Q := of_decide_eq_true h
open Classical in
theorem eqLs_ne {P Q : List PLine} (h : eqLs P Q = false) : P ≠ Q := of_decide_eq_false h
def BlkPost (P : List PChange) (w : World) (e : Ending) (w' : World) : Prop := ∃ v' cs', e = .returned v' ∧ cs'.map CAt.plain = P ∧ (∀ c ∈ cs', LinesSmall c.ls) ∧ ChangesOwn w.heap.size w' v' cs' ∧ cs'.length ≤ 12 ∧ Below w.heap.size w w'
def BlkRel (B : Nat) (w2 : World) (xk xn : ByteArray) (P Q : List PLine) (nr : Nat) (rr : List MRow) (out i : Value) (wr : World) : Prop := ∃ (k : Nat) (cs : List CAt), i = .int .i64 (k : Int) ∧ k ≤ nr ∧ cs.map CAt.plain = ((rulesOf xk).take k).flatMap (fun p => diffK xk xn P Q p.1) ∧ (∀ c ∈ cs, LinesSmall c.ls) ∧ cs.length ≤ k ∧ Mem B wr (crows out cs ++ rr) ∧ Below B w2 wr
theorem take_flat {α β : Type} {l D T : List α} {x : α} {k : Nat} (f : α → List β) (e : l = D ++ x :: T) (hD : D.length = k) : (l.take (k + 1)).flatMap f = (l.take k).flatMap f ++ f x := by
  subst e hD
  rw [take_front, take_one, List.flatMap_append, List.flatMap_singleton]
set_option maxHeartbeats 8000000 in
set_option maxRecDepth 100000 in
theorem l7Block_any {x y : BAt} {w : World} (hx : BlockIn w x) (hy : BlockIn w y) (sx : LinesSmall x.ls) (sy : LinesSmall y.ls) : Calls Tryz.prog 91 #[.agg #[.string x.kind, .string x.name, x.v], .agg #[.string y.kind, .string y.name, y.v]] w fun e w' => BlkPost (diffB x.plain y.plain) w e w' := by
  obtain ⟨xk, xn, xv, xl⟩ := x
  obtain ⟨yk, yn, yv, yl⟩ := y
  unfold BlockIn at hx hy
  simp only at *
  obtain ⟨xa, xc, rfl⟩ := hx.1.form
  obtain ⟨ya, yc, rfl⟩ := hy.1.form
  have G : Below w.heap.size w ((w.alloc (.cells #[.string xk, .string xn, .slice xa xl.length xc] 64)).alloc (.cells #[.string yk, .string yn, .slice ya yl.length yc] 64)) := ((Below.refl w.heap.size w).alloc (Nat.le_refl _) _).alloc (by simp) _
  have hwz : ((w.alloc (.cells #[.string xk, .string xn, .slice xa xl.length xc] 64)).alloc (.cells #[.string yk, .string yn, .slice ya yl.length yc] 64)).heap.size = w.heap.size + 2 := by simp
  have zA : ((w.alloc (.cells #[.string xk, .string xn, .slice xa xl.length xc] 64)).alloc (.cells #[.string yk, .string yn, .slice ya yl.length yc] 64)).heap[w.heap.size]? = some (.cells #[.string xk, .string xn, .slice xa xl.length xc] 64 (0, 0)) := by
    have b1 := (Below.refl (w.alloc (.cells #[.string xk, .string xn, .slice xa xl.length xc] 64)).heap.size (w.alloc (.cells #[.string xk, .string xn, .slice xa xl.length xc] 64))).alloc (Nat.le_refl _) (.cells #[.string yk, .string yn, .slice ya yl.length yc] 64)
    rw [b1.block w.heap.size (by simp)]; exact alloc_here w _
  have zB : ((w.alloc (.cells #[.string xk, .string xn, .slice xa xl.length xc] 64)).alloc (.cells #[.string yk, .string yn, .slice ya yl.length yc] 64)).heap[w.heap.size + 1]? = some (.cells #[.string yk, .string yn, .slice ya yl.length yc] 64 (0, 0)) := by
    have := alloc_here (w.alloc (.cells #[.string xk, .string xn, .slice xa xl.length xc] 64)) (.cells #[.string yk, .string yn, .slice ya yl.length yc] 64)
    rw [World.size_alloc] at this; exact this
  have HX2 := hid_in (show LinesIn _ (.slice xa xl.length xc) xl from LinesIn.below hx G)
  have HY2 := hid_in (show LinesIn _ (.slice ya yl.length yc) yl from LinesIn.below hy G)
  have SX := hid_in sx
  have SY := hid_in sy
  generalize hw2 : (w.alloc (.cells #[.string xk, .string xn, .slice xa xl.length xc] 64)).alloc (.cells #[.string yk, .string yn, .slice ya yl.length yc] 64) = w2 at *
  have ew2 := hid_in hw2
  have hown0 := World.ownsRow_lit (base := w.heap.size + 2) (e := 131) (size := 5) w2 #[] 0 (by omega) (by decide) rfl
  rw [hwz] at hown0
  have b00 := (Below.refl (w.heap.size + 2) w2).alloc (by omega) (.cells #[] 131)
  have M0 : Mem (w.heap.size + 2) (w2.alloc (.cells #[] 131)) (crows (.slice (some ⟨w.heap.size + 2, 0, none⟩) 0 0) []) := ⟨fun r hr => by rw [List.mem_singleton.1 hr]; exact hown0, by simp [crows]⟩
  have s3 : (w2.alloc (.cells #[] 131)).heap.size = w.heap.size + 3 := by rw [World.size_alloc, hwz]
  have zA3 := (b00.block w.heap.size (by omega)).trans zA
  have a0 := cell_of_block zA3 0
  simp only [List.getElem?_toArray, List.getElem?_cons_zero] at a0
  have HSR := fun W => specRules_any xk W
  obtain ⟨i0, hi, hz0, hz1, hz2⟩ := info_parts infoChange
  clear hx hy sx sy hw2 hown0
  generalize hnx : xl.length = nx at *
  have enx := hid_in hnx
  clear hnx
  generalize hny : yl.length = ny at *
  have eny := hid_in hny
  clear hny
  go_enter Tryz.func91, Tryz.ntmps91
  go_upto_region 2 with fail
  rw [ew2.out]
  go_wp2_with (go_at_call 68; refine (HSR _).mono ?_)
  rintro e w4 ⟨vr, L, rfl, hpl, hr, b4⟩
  have hLl := rulesOf_twelve xk hpl
  have HPL := hid_in hpl
  obtain ⟨ra, rc, rfl, _⟩ := own_form (show w4.ownsRow _ 105 4 vr L.length (L.flatMap RAt.cells) from Mem.head hr)
  obtain ⟨rr, hrr⟩ : ∃ rr, (⟨.slice ra L.length rc, 105, 4, L.length, L.flatMap RAt.cells⟩ :: L.flatMap RAt.rows : List MRow) = rr := ⟨_, rfl⟩
  have M4 : Mem (w.heap.size + 2) w4 (crows (.slice (some ⟨w.heap.size + 2, 0, none⟩) 0 0) [] ++ rr) := by
    rw [← hrr]
    exact (Mem.join M0 hr b4 (by omega)).perm List.perm_append_comm
  have B4 : Below (w.heap.size + 2) w2 w4 := b00.trans (b4.mono (by omega))
  have HI := hid_in (show BlkRel (w.heap.size + 2) w2 xk xn (xl.map LAt.plain) (yl.map LAt.plain) L.length rr (.slice (some ⟨w.heap.size + 2, 0, none⟩) 0 0) (.int .i64 0) w4 from ⟨0, [], rfl, by omega, by simp, by simp, by simp, M4, B4⟩)
  have ERR := hid_in hrr
  clear hr b4 hpl HSR M0 M4 B4 b00 zA3 a0 hrr s3
  generalize hnr : L.length = nr at *
  have enr := hid_in hnr
  clear hnr
  go_wp2
  go_loopw [5, 7] (fun out i wr => BlkRel (w.heap.size + 2) w2 xk xn (xl.map LAt.plain) (yl.map LAt.plain) nr rr out i wr) (fun _ i _ => nr - (intOf i).toNat)
  case atStart => exact HI.out
  case round =>
    clear HI
    obtain ⟨k, cs, rfl, hk, hcs, hsm, hcl, hm, bw⟩ := hrel
    obtain ⟨qa, qc, rfl, _⟩ := own_form (show wr.ownsRow (w.heap.size + 2) 131 5 _ cs.length (cs.flatMap CAt.cells) from Mem.head hm)
    have hszw := bw.size
    rw [hwz] at hszw
    have hB2 : Below w2.heap.size w2 wr := by rw [hwz]; exact bw
    have kA := (bw.block w.heap.size (by omega)).trans zA
    have kB := (bw.block (w.heap.size + 1) (by omega)).trans zB
    by_cases hlt : k < nr
    · obtain ⟨D, r, T, eL, hD⟩ := split1 L k (by have := enr.out; omega)
      have hrow : HasRow wr (.slice ra nr rc) nr 4 (L.flatMap RAt.cells) := by
        have := Mem.right hm
        rw [← ERR.out] at this
        have h := own_has (Mem.head this)
        exact h
      rw [eL] at hrow
      obtain ⟨rg, roff, rfl, r0, _, _, _⟩ := hrow.rule
      rw [hD] at r0
      have a0 := cell_of_block kA 0
      have a1 := cell_of_block kA 1
      have a2 := cell_of_block kA 2
      have b0 := cell_of_block kB 0
      have b1 := cell_of_block kB 1
      have b2 := cell_of_block kB 2
      simp only [List.getElem?_toArray, List.getElem?_cons_zero, List.getElem?_cons_succ] at a0 a1 a2 b0 b1 b2
      have k1 : (0 : Int) ≤ (k : Int) := by omega
      have k2 : (k : Int) < (nr : Int) := by omega
      have HST := hid_in (show ((rulesOf xk).take (k + 1)).flatMap (fun p => diffK xk xn (xl.map LAt.plain) (yl.map LAt.plain) p.1) = cs.map CAt.plain ++ diffK xk xn (xl.map LAt.plain) (yl.map LAt.plain) r.key from by
        have e : rulesOf xk = D.map RAt.plain ++ r.plain :: T.map RAt.plain := by rw [← HPL.out, eL]; simp
        rw [take_flat _ e (by rw [List.length_map]; exact hD), hcs]; rfl)
      have HXr := hid_in (HX2.out.below hB2)
      have HYr := hid_in (HY2.out.below hB2)
      have HM := hid_in hm
      have HSM := hid_in hsm
      clear hm hsm hcs hrow kA kB eL hD
      generalize r.key = rk at *
      have u0 := fun p : Gr wr => gr_cell a0 p
      have u1 := fun p : Gr wr => gr_cell a1 p
      have u2 := fun p : Gr wr => gr_cell a2 p
      have u3 := fun p : Gr wr => gr_cell r0 p
      have HL5 : ∀ p : Gr wr, Calls Tryz.prog 69 #[.agg #[.string xk, .string xn, .slice xa nx xc], .string rk] p.u fun e w' => ∃ v' ls', e = .returned v' ∧ ls'.map LAt.plain = ofK (xl.map LAt.plain) rk ∧ LinesOwn p.u.heap.size w' v' ls' ∧ LinesSmall ls' ∧ Below p.u.heap.size p.u w' := fun p => by
        have := l5Of_any (b := ⟨xk, xn, .slice xa nx xc, xl⟩) rk (w := p.u) (HXr.out.below p.h) SX.out
        exact this
      go_upto_region 6 with fail
      refine wp_region_upM 7 8 (by kernel_rfl) rfl ?_
      refine wpUp_mask [true, true, true, true, true, true, false, false] 2 rfl (by kernel_rfl) ?_
      simp only [maskL_t, maskL_f, maskL_n]
      iterate 6 (refine wpQuietU_step (fun K hK => ?_); go_simp; refine hK _ ?_; clear hK K)
      refine wpQuietU_nil ?_
      refine wpUp_branch (f := 1) (rs := [6]) (by kernel_rfl) (by simp) ?_
      rintro ⟨wp, bp⟩
      refine AllUp.cons rfl (by decide) (fun K hK => ?_) AllUp.nil
      go_simp
      go_wp2_with (go_at_call 69; refine (HL5 ⟨wp, bp⟩).mono ?_; rintro e w5 ⟨v5, ls5, rfl, hp5, o5, s5, b5⟩)
      refine hK.out _ _ b5 ?_
      clear hK K
      refine wpUp_last (by kernel_rfl) rfl (by kernel_rfl) ?_
      rintro ⟨wz, bz⟩ K hK
      go_simp
      refine hK.out _ _ (NoPanic.normal ?_)
      clear hK K
      have hz5 := b5.size
      have B5 : Below wr.heap.size wr wz := bp.trans ((b5.trans (bz.mono b5.size)).mono bp.size)
      have O5 := hid_in ((o5.below bz).lin)
      have S5 := hid_in s5
      have HP5 := hid_in hp5
      obtain ⟨a5, c5, rfl, _⟩ := own_form o5.row
      have e0 := (B5.cell (World.block_lt_of_cell? wr _ b0)).trans b0
      have e1 := (B5.cell (World.block_lt_of_cell? wr _ b1)).trans b1
      have e2 := (B5.cell (World.block_lt_of_cell? wr _ b2)).trans b2
      have f0 := (B5.cell (World.block_lt_of_cell? wr _ a0)).trans a0
      have f1 := (B5.cell (World.block_lt_of_cell? wr _ a1)).trans a1
      have r5 := (B5.cell (World.block_lt_of_cell? wr _ r0)).trans r0
      have HYz := hid_in (HYr.out.below B5)
      have HMz := hid_in (HM.out.below B5)
      have bwz := bw.trans (B5.mono (by omega))
      clear u0 u1 u2 u3 HL5 o5 s5 hp5 b5 bp bz a0 a1 a2 b0 b1 b2 r0 HXr HYr HM
      generalize hn5 : ls5.length = n5 at *
      have en5 := hid_in hn5
      clear hn5
      have v0 := fun p : Gr wz => gr_cell e0 p
      have v1 := fun p : Gr wz => gr_cell e1 p
      have v2 := fun p : Gr wz => gr_cell e2 p
      have v3 := fun p : Gr wz => gr_cell r5 p
      have HL6 : ∀ p : Gr wz, Calls Tryz.prog 69 #[.agg #[.string yk, .string yn, .slice ya ny yc], .string rk] p.u fun e w' => ∃ v' ls', e = .returned v' ∧ ls'.map LAt.plain = ofK (yl.map LAt.plain) rk ∧ LinesOwn p.u.heap.size w' v' ls' ∧ LinesSmall ls' ∧ Below p.u.heap.size p.u w' := fun p => by
        have := l5Of_any (b := ⟨yk, yn, .slice ya ny yc, yl⟩) rk (w := p.u) (HYz.out.below p.h) SY.out
        exact this
      go_upto_region 7 with fail
      refine wp_region_upM 7 8 (by kernel_rfl) rfl ?_
      refine wpUp_mask [true, true, true, true, true, true, false, false] 2 rfl (by kernel_rfl) ?_
      simp only [maskL_t, maskL_f, maskL_n]
      iterate 6 (refine wpQuietU_step (fun K hK => ?_); go_simp; refine hK _ ?_; clear hK K)
      refine wpQuietU_nil ?_
      refine wpUp_branch (f := 1) (rs := [6]) (by kernel_rfl) (by simp) ?_
      rintro ⟨wp, bp⟩
      refine AllUp.cons rfl (by decide) (fun K hK => ?_) AllUp.nil
      go_simp
      go_wp2_with (go_at_call 69; refine (HL6 ⟨wp, bp⟩).mono ?_; rintro e w7 ⟨v7, ls7, rfl, hp7, o7, s7, b7⟩)
      refine hK.out _ _ b7 ?_
      clear hK K
      refine wpUp_last (by kernel_rfl) rfl (by kernel_rfl) ?_
      rintro ⟨w8, b8⟩ K hK
      go_simp
      refine hK.out _ _ (NoPanic.normal ?_)
      clear hK K
      have hz7 := b7.size
      have B7 : Below wp.heap.size wp w8 := b7.trans (b8.mono b7.size)
      have Bz : Below wz.heap.size wz w8 := bp.trans (B7.mono bp.size)
      have O7 := hid_in (o7.below b8)
      have S7 := hid_in s7
      have HP7 := hid_in hp7
      obtain ⟨a7, c7, rfl, _⟩ := own_form o7.row
      have HMp := hid_in (HMz.out.below bp)
      have bwp := bwz.trans (bp.mono (by have := bwz.size; omega))
      have HSAME := l7Same_any (w := w8) (O5.out.below Bz) O7.out.lin S5.out S7.out
      rw [HP5.out, HP7.out] at HSAME
      clear v0 v1 v2 v3 HL6 o7 s7 hp7 b7 b8 HMz bwz HYz
      generalize hn7 : ls7.length = n7 at *
      have en7 := hid_in hn7
      clear hn7
      generalize hEQ : eqLs (ofK (xl.map LAt.plain) rk) (ofK (yl.map LAt.plain) rk) = EQ at HSAME
      have EEQ := hid_in hEQ
      clear hEQ
      go_wp2_with (go_at_call 156; refine HSAME.mono ?_)
      first | rintro e w9 rfl b9 | rintro e w9 ⟨rfl, b9⟩
      have B9 : Below wp.heap.size wp w9 := B7.trans (b9.mono B7.size)
      have hpz := bwp.size
      clear HSAME
      cases EQ
      · have BZ9 : Below wz.heap.size wz w9 := Bz.trans (b9.mono Bz.size)
        have h0 := (BZ9.cell (World.block_lt_of_cell? wz _ f0)).trans f0
        have h1 := (BZ9.cell (World.block_lt_of_cell? wz _ f1)).trans f1
        have h2 := (BZ9.cell (World.block_lt_of_cell? wz _ r5)).trans r5
        have hS0 : (fun W : World => W.cell? ⟨w.heap.size, 0, none⟩ = some (.string xk) ∧ W.cell? ⟨w.heap.size, 1, none⟩ = some (.string xn) ∧ W.cell? ⟨rg, roff + k * 4, none⟩ = some (.string rk)) w9.drew := ⟨h0, h1, h2⟩
        have s0 := fun p : { W : World // W.cell? ⟨w.heap.size, 0, none⟩ = some (.string xk) ∧ W.cell? ⟨w.heap.size, 1, none⟩ = some (.string xn) ∧ W.cell? ⟨rg, roff + k * 4, none⟩ = some (.string rk) } => p.2.1
        have s1 := fun p : { W : World // W.cell? ⟨w.heap.size, 0, none⟩ = some (.string xk) ∧ W.cell? ⟨w.heap.size, 1, none⟩ = some (.string xn) ∧ W.cell? ⟨rg, roff + k * 4, none⟩ = some (.string rk) } => p.2.2.1
        have s2 := fun p : { W : World // W.cell? ⟨w.heap.size, 0, none⟩ = some (.string xk) ∧ W.cell? ⟨w.heap.size, 1, none⟩ = some (.string xn) ∧ W.cell? ⟨rg, roff + k * 4, none⟩ = some (.string rk) } => p.2.2.2
        letI : Inhabited { W : World // W.cell? ⟨w.heap.size, 0, none⟩ = some (.string xk) ∧ W.cell? ⟨w.heap.size, 1, none⟩ = some (.string xn) ∧ W.cell? ⟨rg, roff + k * 4, none⟩ = some (.string rk) } := ⟨⟨w9.drew, hS0⟩⟩
        go_upto_region 9 with fail
        refine wp_region_hold (S := fun W => W.cell? ⟨w.heap.size, 0, none⟩ = some (.string xk) ∧ W.cell? ⟨w.heap.size, 1, none⟩ = some (.string xn) ∧ W.cell? ⟨rg, roff + k * 4, none⟩ = some (.string rk)) 12 13 (by kernel_rfl) rfl ?_
        refine wpHold_mask [true, true, true, true, true, true, true, true, true, true, true, false, false] 2 rfl (by kernel_rfl) hS0 ?_
        simp only [maskL_t, maskL_f, maskL_n]
        iterate 11 (refine wpReads_step (fun K hK => ?_); go_simp; refine hK _ ?_; clear hK K)
        refine wpReads_nil ?_
        clear s0 s1 s2
        refine wpHold_branch (f := 1) (rs := [11]) (by kernel_rfl) (by simp) ?_
        refine AllHold.cons rfl (by decide) (fun K hK => ?_) AllHold.nil
        go_simp
        have zR := alloc_here w9 (.cells #[.int .i64 0, .string ⟨#[]⟩, .string ⟨#[]⟩, .string ⟨#[]⟩, .slice none 0 0] 131)
        have bR : Below w9.heap.size w9 (w9.alloc (.cells #[.int .i64 0, .string ⟨#[]⟩, .string ⟨#[]⟩, .string ⟨#[]⟩, .slice none 0 0] 131)).drew := ((Below.refl w9.heap.size w9).alloc (Nat.le_refl _) _).drew
        refine hK.out _ _ ⟨(bR.cell (World.block_lt_of_cell? w9 _ h0)).trans h0, (bR.cell (World.block_lt_of_cell? w9 _ h1)).trans h1, (bR.cell (World.block_lt_of_cell? w9 _ h2)).trans h2⟩ ?_
        clear hK K
        have zR : (w9.alloc (.cells #[.int .i64 0, .string ⟨#[]⟩, .string ⟨#[]⟩, .string ⟨#[]⟩, .slice none 0 0] 131)).drew.heap[w9.heap.size]? = _ := zR
        generalize hWR : (w9.alloc (.cells #[.int .i64 0, .string ⟨#[]⟩, .string ⟨#[]⟩, .string ⟨#[]⟩, .slice none 0 0] 131)).drew = WR at *
        clear hWR
        refine wpHold_last (by kernel_rfl) rfl (by kernel_rfl) ?_
        intro K hK
        rw [if_pos (by rfl)]
        refine wp_store_row 131 _ _ rfl w9.heap.size #[.int .i64 3, .string xk, .string xn, .string rk, .slice a7 n7 c7] rfl rfl 131 _ zR (by kernel_rfl) rfl (by first | rfl | kernel_rfl) ?_
        refine hK.out _ _ (NoPanic.normal ?_)
        clear hK K
        have zX := setRow_heap WR w9.heap.size _ #[.int .i64 3, .string xk, .string xn, .string rk, .slice a7 n7 c7] _ _ zR
        have BX : Below w9.heap.size w9 (WR.setRow w9.heap.size #[.int .i64 3, .string xk, .string xn, .string rk, .slice a7 n7 c7]) := bR.grown (grown_setRowD WR w9.heap.size #[.int .i64 3, .string xk, .string xn, .string rk, .slice a7 n7 c7]) bR.size (fun q hq => by cases hq; exact Nat.le_refl _)
        generalize WR.setRow w9.heap.size #[.int .i64 3, .string xk, .string xn, .string rk, .slice a7 n7 c7] = WX at *
        clear zR bR h0 h1 h2 f0 f1 e0 e1 e2 r5
        by_cases hn0 : n7 = 0
        · have HEM := hid_in (show ls7.map LAt.plain = [] from by rw [List.length_eq_zero_iff.1 (en7.out.trans hn0)]; rfl)
          subst hn0
          have fX := frozen_of_block zX 0
          have gX := cell_of_block zX 0
          simp only [List.getElem?_toArray, List.getElem?_cons_zero] at gX
          have zX4 : (WX.setCell ⟨w9.heap.size, 0, none⟩ (.int .i64 4)).heap[w9.heap.size]? = some (.cells #[.int .i64 4, .string xk, .string xn, .string rk, .slice a7 0 c7] 131 (0, 0)) := by rw [heap_setCell_same WX w9.heap.size 0 _ _ _ zX]; rfl
          have BX4 := below_setCell BX ⟨w9.heap.size, 0, none⟩ (Nat.le_refl _) (.int .i64 4)
          go_upto_region 12 with fail
          generalize WX.setCell ⟨w9.heap.size, 0, none⟩ (.int .i64 4) = WX at *
          rename_i WX0
          have zX := zX4
          have BX := BX4
          clear zX4 BX4 fX gX
          have OX := hid_in (O7.out.below ((b9.trans (BX.mono b9.size))))
          have BP : Below wp.heap.size wp WX := B9.trans (BX.mono B9.size)
          have g0 := cell_of_block zX 0
          have g1 := cell_of_block zX 1
          have g2 := cell_of_block zX 2
          have g3 := cell_of_block zX 3
          have g4 := cell_of_block zX 4
          simp only [List.getElem?_toArray, List.getElem?_cons_zero, List.getElem?_cons_succ] at g0 g1 g2 g3 g4
          have hm3 : (WX.alloc (.cells #[.int .i64 4, .string xk, .string xn, .string rk, .slice a7 0 c7] 131)).ownsRow (w.heap.size + 2) 131 5 (.slice qa cs.length qc) cs.length (cs.flatMap CAt.cells) := (Mem.head (HMp.out.below BP)).alloc _
          have hrow := lit_has WX #[.int .i64 4, .string xk, .string xn, .string rk, .slice a7 0 c7] 131 5 rfl
          have hone : ∀ u ∈ (#[.int .i64 4, .string xk, .string xn, .string rk, .slice a7 0 c7] : Array Value).toList, u.oneCell' = true := by intro u hu; simp at hu; rcases hu with rfl | rfl | rfl | rfl | rfl <;> rfl
          have hBX := BP.size
          have hbase := hid_in (show ∀ q, (Value.slice qa cs.length qc).ownBlock = some q → w.heap.size + 2 ≤ q from fun q hq => (Mem.lt HMp.out (List.mem_append_left _ (List.mem_cons_self ..)) hq).1)
          go_wp2_with (at_builtin; refine wpList_append_has (by rfl) _ _ 49 (by rfl) (w.heap.size + 2) 131 i0 _ 5 80 Tryz.underlying49 hi hz0 hz1 hz2 rfl (by decide) _ cs.length _ (by rfl) hm3 _ 1 _ (by rfl) hrow hone ?c3 ?c4 (by rw [World.size_alloc]; omega) ?_)
          case c3 => unfold maxLen; omega
          case c4 => omega
          intro ao' cap' wE hownE hgE hvE
          have HPU := changes_pushR (x := ⟨4, xk, xn, rk, .slice a7 0 c7, ls7⟩) HMp.out (by omega) OX.out BP hownE hgE (by first | exact hvE | (rw [World.size_alloc]; exact hvE))
          have HR := hid_in (show BlkRel (w.heap.size + 2) w2 xk xn (xl.map LAt.plain) (yl.map LAt.plain) nr rr (.slice ao' (cs.length + 1) cap') (.int .i64 ((k : Int) + 1)) wE from ⟨k + 1, cs ++ [⟨4, xk, xn, rk, .slice a7 0 c7, ls7⟩], by rw [Int.natCast_add]; rfl, by omega, by
            rw [HST.out, List.map_append, List.map_singleton]
            unfold diffK
            rw [if_neg (eqLs_ne EEQ.out)]
            show _ = _ ++ [(⟨_, xk, xn, rk, ofK (yl.map LAt.plain) rk⟩ : PChange)]
            rw [← HP7.out, if_pos (by rw [HEM.out]; rfl)]; rfl, fun c hc => by
            rcases List.mem_append.1 hc with hc | hc
            · exact HSM.out c hc
            · rw [List.mem_singleton.1 hc]; exact S7.out, by simp; omega, HPU.1, bwp.trans (HPU.2.mono (Nat.le_refl _))⟩)
          clear hm3 hrow hone hownE hgE hvE HPU
          go_wp2
          go_roundw
          case rel => exact HR.out
          case measure => simp [intOf]; omega
        · have HEM := hid_in (show ls7.map LAt.plain ≠ [] from fun e => hn0 (by rw [← en7.out]; exact List.length_eq_zero_iff.2 (List.map_eq_nil_iff.1 e)))
          have hq0 : ((n7 : Int) == 0) = false := by rw [beq_eq_false_iff_ne]; omega
          have OX := hid_in (O7.out.below ((b9.trans (BX.mono b9.size))))
          have BP : Below wp.heap.size wp WX := B9.trans (BX.mono B9.size)
          have g0 := cell_of_block zX 0
          have g1 := cell_of_block zX 1
          have g2 := cell_of_block zX 2
          have g3 := cell_of_block zX 3
          have g4 := cell_of_block zX 4
          simp only [List.getElem?_toArray, List.getElem?_cons_zero, List.getElem?_cons_succ] at g0 g1 g2 g3 g4
          have hm3 : (WX.alloc (.cells #[.int .i64 3, .string xk, .string xn, .string rk, .slice a7 n7 c7] 131)).ownsRow (w.heap.size + 2) 131 5 (.slice qa cs.length qc) cs.length (cs.flatMap CAt.cells) := (Mem.head (HMp.out.below BP)).alloc _
          have hrow := lit_has WX #[.int .i64 3, .string xk, .string xn, .string rk, .slice a7 n7 c7] 131 5 rfl
          have hone : ∀ u ∈ (#[.int .i64 3, .string xk, .string xn, .string rk, .slice a7 n7 c7] : Array Value).toList, u.oneCell' = true := by intro u hu; simp at hu; rcases hu with rfl | rfl | rfl | rfl | rfl <;> rfl
          have hBX := BP.size
          have hbase := hid_in (show ∀ q, (Value.slice qa cs.length qc).ownBlock = some q → w.heap.size + 2 ≤ q from fun q hq => (Mem.lt HMp.out (List.mem_append_left _ (List.mem_cons_self ..)) hq).1)
          go_wp2_with (at_builtin; refine wpList_append_has (by rfl) _ _ 49 (by rfl) (w.heap.size + 2) 131 i0 _ 5 80 Tryz.underlying49 hi hz0 hz1 hz2 rfl (by decide) _ cs.length _ (by rfl) hm3 _ 1 _ (by rfl) hrow hone ?c3 ?c4 (by rw [World.size_alloc]; omega) ?_)
          case c3 => unfold maxLen; omega
          case c4 => omega
          intro ao' cap' wE hownE hgE hvE
          have HPU := changes_pushR (x := ⟨3, xk, xn, rk, .slice a7 n7 c7, ls7⟩) HMp.out (by omega) OX.out BP hownE hgE (by first | exact hvE | (rw [World.size_alloc]; exact hvE))
          have HR := hid_in (show BlkRel (w.heap.size + 2) w2 xk xn (xl.map LAt.plain) (yl.map LAt.plain) nr rr (.slice ao' (cs.length + 1) cap') (.int .i64 ((k : Int) + 1)) wE from ⟨k + 1, cs ++ [⟨3, xk, xn, rk, .slice a7 n7 c7, ls7⟩], by rw [Int.natCast_add]; rfl, by omega, by
            rw [HST.out, List.map_append, List.map_singleton]
            unfold diffK
            rw [if_neg (eqLs_ne EEQ.out)]
            show _ = _ ++ [(⟨_, xk, xn, rk, ofK (yl.map LAt.plain) rk⟩ : PChange)]
            rw [← HP7.out, if_neg (by rw [List.isEmpty_iff]; exact HEM.out)]; rfl, fun c hc => by
            rcases List.mem_append.1 hc with hc | hc
            · exact HSM.out c hc
            · rw [List.mem_singleton.1 hc]; exact S7.out, by simp; omega, HPU.1, bwp.trans (HPU.2.mono (Nat.le_refl _))⟩)
          clear hm3 hrow hone hownE hgE hvE HPU
          go_wp2
          go_roundw
          case rel => exact HR.out
          case measure => simp [intOf]; omega
      · have HR := hid_in (show BlkRel (w.heap.size + 2) w2 xk xn (xl.map LAt.plain) (yl.map LAt.plain) nr rr _ (.int .i64 ((k : Int) + 1)) w9 from ⟨k + 1, cs, by rw [Int.natCast_add]; rfl, by omega, by
          rw [HST.out]
          unfold diffK
          rw [if_pos (eqLs_eq EEQ.out), List.append_nil], HSM.out, by omega, HMp.out.below B9, bwp.trans (B9.mono (by omega))⟩)
        go_wp2
        go_roundw
        case rel => exact HR.out
        case measure => simp [intOf]; omega
    · obtain rfl : k = nr := by omega
      have HO := hid_in (show BlkPost (diffB ⟨xk, xn, xl.map LAt.plain⟩ ⟨yk, yn, yl.map LAt.plain⟩) w (.returned (.slice qa cs.length qc)) wr from ⟨_, cs, rfl, by
        rw [hcs, ← enr.out, ← List.length_map (f := RAt.plain), HPL.out, List.take_length]; rfl, hsm, Mem.mono (Mem.left hm) (by omega), by omega, G.trans (bw.mono (by omega))⟩)
      clear hm hsm hcs
      generalize cs.length = nc at *
      go_wp2
      go_ret
      exact HO.out
end Go.Proofs.YtpdahhnjhggocabGreatDoor
namespace Go.Proofs.YtpdahhnjhggocabGreatDoor
open Go.RowKit
theorem HasRow.drop {w : World} {ao : Option Addr} {n cap size : Nat} {xs : List Value} (h : HasRow w (.slice ao n cap) n size xs) (k : Nat) (hk : k ≤ n) : HasRow w (.slice (if cap = k then ao else ao.map (fun a => a.add (k * size))) (n - k) (cap - k)) (n - k) size (xs.drop (k * size)) := by
  obtain ⟨hl, ao', c', hv, hcap, hc⟩ := h
  cases hv
  refine ⟨?_, _, _, rfl, ⟨by omega, by omega⟩, ?_⟩
  · rw [List.length_drop, hl, Nat.sub_mul]
  · by_cases hkn : n - k = 0
    · exact .inl hkn
    · rcases hc with h0 | ⟨b, off, rfl, hc⟩
      · exact .inl (by omega)
      · refine .inr ⟨b, off + k * size, ?_, fun j u hj => ?_⟩
        · rw [if_neg (by omega), Option.map_some, add_at]
        · rw [List.getElem?_drop] at hj
          have := hc _ u hj
          rwa [show off + (k * size + j) = off + k * size + j by omega] at this
end Go.Proofs.YtpdahhnjhggocabGreatDoor
namespace Go.Proofs.YtpdahhnjhggocabGreatDoor
open Go.RowKit
end Go.Proofs.YtpdahhnjhggocabGreatDoor
namespace Go.Proofs.YtpdahhnjhggocabGreatDoor
open Go.RowKit
def BlocksFar (q : Nat) (v : Value) (bs : List BAt) : Prop := FarV q v bs.length ∧ ∀ x ∈ bs, LinesFar q x.v x.ls
theorem BlocksIn.far {w w' : World} {q : Nat} {v : Value} {bs : List BAt} (h : BlocksIn w v bs) (hf : BlocksFar q v bs) (hg : w.grownBy w' (some q)) : BlocksIn w' v bs := ⟨h.1.far hf.1 hg, fun x hx => LinesIn.far (h.2 x hx) (hf.2 x hx) hg⟩
theorem BlocksOwn.far {B q : Nat} {w : World} {v : Value} {bs : List BAt} (h : BlocksOwn B w v bs) (hq : q < B) : BlocksFar q v bs :=
  ⟨FarV.above h.row hq, fun x hx => ⟨FarV.above (h.lines x hx).row hq, fun y hy => FarV.above ((h.lines x hx).words y hy) hq⟩⟩
end Go.Proofs.YtpdahhnjhggocabGreatDoor
namespace Go.Proofs.YtpdahhnjhggocabGreatDoor
open Go.RowKit
end Go.Proofs.YtpdahhnjhggocabGreatDoor
