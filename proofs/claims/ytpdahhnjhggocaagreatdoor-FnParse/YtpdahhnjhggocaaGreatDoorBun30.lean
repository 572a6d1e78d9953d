import Derived.Test.YtpdahhnjhggocaaGreatDoorBun28
import Derived.Deep.DeepCutAuto
namespace Go.Proofs.YtpdahhnjhggocaaGreatDoor
open Go.RowKit
structure Gr (w : World) where
  u : World
  h : Below w.heap.size w u
instance (w : World) : Inhabited (Gr w) := ⟨⟨w, Below.refl _ _⟩⟩
theorem wp_region_gr {P : Program} {id : Nat} {Q : Exit → Act → World → Prop} {a : Act} {w : World} {l : List Oper} (hm : P.follows .mixedOrders = true) (hB : Region.lexB .any l.toArray = true)
    (h : wpQuiet P l.toArray (fun w' => ∃ p : Gr w, w' = p.u) (fun a' => ∀ w', (∃ p : Gr w, w' = p.u) → Q .normal a' w') l a) : (Code.region id l.toArray true).wp P Q a w :=
  wp_region_quiet (C := fun w' => ∃ p : Gr w, w' = p.u) hm hB ⟨⟨w.drew, (Below.refl _ _).drew⟩, rfl⟩ (by simpa using h)
theorem gr_of {P : Program} {f : FuncId} {args : Array Value} {w : World} {p : Gr w} {v : Value} (h : Calls P f args p.u fun e w' => e = .returned v ∧ Below p.u.heap.size p.u w') : Calls P f args p.u fun e w'' => e = .returned v ∧ ∃ q : Gr w, w'' = q.u :=
  h.mono fun _ w' ⟨he, hb⟩ => ⟨he, ⟨w', p.h.trans (hb.mono p.h.size)⟩, rfl⟩
theorem quiet_skip {P : Program} {ops : Array Oper} {C : World → Prop} {Q : Act → Prop} {o : Oper} {rest : List Oper} {a : Act} (hw : Region.wanted o (yielded ops a.tmps) = false) (h : wpQuiet P ops C Q rest (a.put o.dst undef)) : wpQuiet P ops C Q (o :: rest) a := by
  unfold wpQuiet; rw [if_neg (by rw [hw]; decide)]; exact h
theorem gr_cell {w : World} {a : Addr} {v : Value} (h : w.cell? a = some v) (p : Gr w) : p.u.cell? a = some v := (p.h.cell (World.block_lt_of_cell? w _ h)).trans h
def SpecTo (R : List Plain) (ls : List PLine) (k : Nat) : Prop := ∀ i, i < k → SpecAt R ls i
theorem SpecTo.zero (R : List Plain) (ls : List PLine) : SpecTo R ls 0 := fun _ h => by omega
theorem SpecTo.all {R : List Plain} {ls : List PLine} (h : SpecTo R ls ls.length) : true = linesB R ls := by
  rw [eq_comm, linesB_iff]; exact linesOk_spec h
def firstOk (R : List Plain) (ls : List PLine) (i : Nat) (a : PLine) : Prop := fitsIn R a.key a.ws = true ∧ (i = 0 ∨ ∃ b, ls[i - 1]? = some b ∧ lineLt R b a = true)
theorem SpecTo.succ {R : List Plain} {ls : List PLine} {i : Nat} {a : PLine} (h : SpecTo R ls i) (ha : ls[i]? = some a) (h1 : firstOk R ls i a) (h2 : (manyR R a.key = true ∨ keyN (ls.take (i + 1)) a.key ≤ 1) ∧ keyN (ls.take (i + 1)) a.key ≤ 10) : SpecTo R ls (i + 1) := by
  intro j hj
  by_cases e : j = i
  · subst e; exact ⟨a, ha, h1.1, h1.2, h2.1, h2.2⟩
  · exact h j (by omega)
end Go.Proofs.YtpdahhnjhggocaaGreatDoor
namespace Go.Proofs.YtpdahhnjhggocaaGreatDoor
open Go.RowKit
def SpecBTo (bs : List PBlock) (k : Nat) : Prop := ∀ i, i < k → SpecBlock bs i
theorem SpecBTo.zero (bs : List PBlock) : SpecBTo bs 0 := fun _ h => by omega
theorem SpecBTo.all {bs : List PBlock} (h : SpecBTo bs bs.length) (hl : bs.length ≤ 60) : true = sheetB bs := by
  rw [eq_comm, sheetB_iff]; exact sheetOk_spec hl h
def blockOk (bs : List PBlock) (i : Nat) (b : PBlock) : Prop := (rulesOf b.kind).length ≠ 0 ∧ nameB b.name.data.toList = true ∧ linesB (rulesOf b.kind) b.lines = true ∧ (i = 0 ∨ ∃ a, bs[i - 1]? = some a ∧ blockLt a b = true)
theorem SpecBTo.succ {bs : List PBlock} {i : Nat} {b : PBlock} (h : SpecBTo bs i) (hb : bs[i]? = some b) (h1 : blockOk bs i b) : SpecBTo bs (i + 1) := by
  intro j hj
  by_cases e : j = i
  · subst e; exact ⟨b, hb, h1.1, h1.2.1, linesB_iff.1 h1.2.2.1, h1.2.2.2⟩
  · exact h j (by omega)
end Go.Proofs.YtpdahhnjhggocaaGreatDoor
namespace Go.Proofs.YtpdahhnjhggocaaGreatDoor
open Go.RowKit
theorem bytes_ne (x y : List UInt8) : ((⟨x.toArray⟩ : ByteArray).toList != (⟨y.toArray⟩ : ByteArray).toList) = !decide (x = y) := by
  rw [ByteArray.toList_eq, ByteArray.toList_eq]
  by_cases h : x = y
  · simp [h]
  · simp [h]
theorem take_grow {α : Type} {xs ys : List α} {j : Nat} (h : xs.take j = ys.take j) (hx : j < xs.length) (hy : j < ys.length) (e : xs[j] = ys[j]) : xs.take (j + 1) = ys.take (j + 1) := by
  rw [List.take_succ_eq_append_getElem hx, List.take_succ_eq_append_getElem hy, h, e]
set_option maxHeartbeats 2000000 in
set_option maxRecDepth 100000 in
theorem wWords_g {va vb : Value} {xs ys : List (List UInt8)} {w : World} (ha : HasRow w va xs.length 1 (strs xs)) (hb : HasRow w vb ys.length 1 (strs ys)) (hn : xs.length ≤ 1048576) : Calls Tryz.prog 96 #[va, vb] w fun e w' => e = .returned (.bool (decide (xs = ys))) ∧ Below w.heap.size w w' := by
  obtain ⟨ao, ca, rfl⟩ := ha.form
  obtain ⟨bo, cb, rfl⟩ := hb.form
  by_cases hlen : xs.length = ys.length
  · have hA := hid_in ha
    have hB := hid_in hb
    have HD := hid_in (show ∀ b : Bool, (b = true ↔ xs = ys) → b = decide (xs = ys) from fun b h => by
      by_cases e : xs = ys
      · rw [h.2 e]; simp [e]
      · have : b = false := by cases b; rfl; exact absurd (h.1 rfl) e
        rw [this]; simp [e])
    rw [← hlen]
    generalize hN : xs.length = n at *
    have eN := hid_in hN
    have eL := hid_in hlen
    clear ha hb hN hlen
    have hn0 : ((n : Int) != (n : Int)) = false := by simp
    go_enter Tryz.func96, Tryz.ntmps96
    go_wp2
    go_loopw [5] (fun i wr => ∃ j : Nat, j ≤ n ∧ i = .int .i64 (j : Int) ∧ Hid (xs.take j = ys.take j) ∧ Below w.heap.size w wr) (fun i _ => n - (intOf i).toNat)
    case atStart => exact ⟨0, by omega, rfl, (by simp : xs.take 0 = ys.take 0), Below.refl _ _⟩
    case round =>
      obtain ⟨j, hj, rfl, ht, bw⟩ := hrel
      by_cases hlt : j < n
      · have hx : j < xs.length := by rw [eN.out]; exact hlt
        have hy : j < ys.length := by rw [← eL.out]; exact hlt
        obtain ⟨g, off, rfl, ca1⟩ := (hA.out.below bw).word j hx
        obtain ⟨g', off', rfl, cb1⟩ := (hB.out.below bw).word j hy
        have hne := hid_in (bytes_ne xs[j] ys[j])
        have i1 : (0 : Int) ≤ (j : Int) := by omega
        have i2 : (j : Int) < (n : Int) := by omega
        have hstep := hid_in (show xs[j] = ys[j] → xs.take (j + 1) = ys.take (j + 1) from take_grow ht.out hx hy)
        have hdiff := hid_in (show ¬ xs[j] = ys[j] → false = decide (xs = ys) from fun he => HD.out false ⟨(fun h => by cases h), (fun h => absurd (by subst h; rfl) he)⟩)
        clear ht HD hA hB
        have v1 := fun p : Gr wr => gr_cell ca1 p
        have v2 := fun p : Gr wr => gr_cell cb1 p
        clear ca1 cb1
        generalize hNE : (!decide (xs[j] = ys[j])) = NE at hne
        have eNE := hid_in hNE
        clear hNE
        generalize (⟨xs[j].toArray⟩ : ByteArray) = x at *
        generalize (⟨ys[j].toArray⟩ : ByteArray) = y at *
        go_upto_region 6 with fail
        go_cut [25] from 17 to 25 (fun c wx => c = .bool NE ∧ Below wr.heap.size wr wx)
        case first =>
          clear hstep hdiff eNE eN eL
          refine wp_region_gr (by kernel_rfl) (by kernel_rfl) ?_
          iterate 9 quiet_step (fail)
          refine wpQuiet_nil ?_
          rintro _ ⟨⟨wq, bq⟩, rfl⟩
          go_wp2_with fail
          go_meet
          exact ⟨by rw [← hne.out]; first | rfl | simp, bq⟩
        case rest =>
          obtain ⟨wk, hwk⟩ : ∃ wk, wk = wc := ⟨_, rfl⟩
          subst hwk
          obtain ⟨rfl, bk⟩ := hcut
          have BK := bw.trans (bk.mono bw.size)
          clear v1 v2 hne
          cases NE
          · have ht' : Hid (xs.take (j + 1) = ys.take (j + 1)) := hstep.out (by simpa using eNE.out)
            clear hstep hdiff eNE eN eL
            go_wp2
            go_roundw
            case rel => exact ⟨j + 1, by omega, by go_num, ht', BK⟩
            case measure => simp [intOf]; omega
          · have hr := hid_in (hdiff.out (by simpa using eNE.out))
            clear hstep hdiff eNE eN eL
            go_wp2
            go_ret
            exact ⟨congrArg (fun b => Ending.returned (Value.bool b)) hr.out, BK⟩
      · obtain rfl : j = n := by omega
        have hr := hid_in (HD.out true ⟨fun _ => by
          have := ht.out
          rw [List.take_of_length_le (by rw [eN.out]; exact Nat.le_refl _), List.take_of_length_le (by rw [← eL.out]; exact Nat.le_refl _)] at this
          exact this, fun _ => rfl⟩)
        clear ht HD hA hB eN eL
        go_wp2
        go_ret
        exact ⟨congrArg (fun b => Ending.returned (Value.bool b)) hr.out, bw⟩
  · have hr : decide (xs = ys) = false := by
      rw [decide_eq_false_iff_not]; exact fun e => hlen (by rw [e])
    rw [hr]
    have hn0 : ((xs.length : Int) != (ys.length : Int)) = true := by simp; omega
    clear ha hb
    generalize xs.length = n at *
    generalize ys.length = m at *
    go_enter Tryz.func96, Tryz.ntmps96
    go_wp2
    go_ret
    exact ⟨rfl, Below.refl _ _⟩
open Classical in
noncomputable def eqB {α : Type} (a b : α) : Bool := decide (a = b)
theorem eqB_true {α : Type} {a b : α} (h : a = b) : eqB a b = true := by unfold eqB; simp [h]
theorem eqB_false {α : Type} {a b : α} (h : a ≠ b) : eqB a b = false := by unfold eqB; simp [h]
theorem eqB_iff {α : Type} {a b : α} : eqB a b = true ↔ a = b := by unfold eqB; simp
theorem keys_ne (a b : ByteArray) : (a.toList != b.toList) = !eqB a b := by
  by_cases h : a = b
  · rw [eqB_true h, h]; simp
  · rw [eqB_false h]
    simp only [bne_iff_ne, ne_eq, Bool.not_false]
    exact fun e => h (toList_inj e)
set_option maxHeartbeats 4000000 in
set_option maxRecDepth 100000 in
theorem wLines_g {va vb : Value} {xs ys : List LAt} {w : World} (ha : LinesIn w va xs) (hb : LinesIn w vb ys) (hs : LinesSmall xs) : Calls Tryz.prog 31 #[va, vb] w fun e w' => e = .returned (.bool (eqB (xs.map LAt.plain) (ys.map LAt.plain))) ∧ Below w.heap.size w w' := by
  obtain ⟨ao, ca, rfl⟩ := ha.1.form
  obtain ⟨bo, cb, rfl⟩ := hb.1.form
  by_cases hlen : xs.length = ys.length
  · have hA := hid_in ha
    have hB := hid_in hb
    have hS := hid_in hs
    have hl := hs.1
    rw [← hlen]
    generalize hN : xs.length = n at *
    have eN := hid_in hN
    have eL := hid_in hlen
    clear ha hb hs hN hlen
    have hn0 : ((n : Int) != (n : Int)) = false := by simp
    go_enter Tryz.func31, Tryz.ntmps31
    go_wp2
    go_loopw [5] (fun i wr => ∃ (D T D' T' : List LAt), i = .int .i64 (D.length : Int) ∧ D.length ≤ n ∧ Hid (xs = D ++ T ∧ ys = D' ++ T' ∧ D.length = D'.length ∧ D.map LAt.plain = D'.map LAt.plain) ∧ Below w.heap.size w wr) (fun i _ => n - (intOf i).toNat)
    case atStart => exact ⟨[], xs, [], ys, rfl, by simp, (⟨rfl, rfl, rfl, rfl⟩ : xs = [] ++ xs ∧ ys = [] ++ ys ∧ _), Below.refl _ _⟩
    case round =>
      obtain ⟨D, T, D', T', rfl, hDl, hsp, bw⟩ := hrel
      cases T with
      | nil =>
        have hDn : D.length = n := by rw [← eN.out, hsp.out.1]; simp
        have hno : ¬ ((D.length : Int) < (n : Int)) := by omega
        have hr := hid_in (show true = eqB (xs.map LAt.plain) (ys.map LAt.plain) from by
          obtain ⟨e1, e2, e3, e4⟩ := hsp.out
          have : T' = [] := by
            have h1 := eL.out
            have h2 := congrArg List.length e2
            rw [List.length_append] at h2
            exact List.length_eq_zero_iff.1 (by omega)
          subst this
          rw [List.append_nil] at e1 e2
          rw [e1, e2, eqB_true e4])
        clear hsp hA hB hS eN eL
        go_wp2
        go_ret
        exact ⟨congrArg (fun b => Ending.returned (Value.bool b)) hr.out, bw⟩
      | cons x T =>
        obtain ⟨e1, e2, e3, e4⟩ := hsp.out
        have hDn : D.length < n := by have h1 := eN.out; rw [e1] at h1; simp at h1; omega
        obtain ⟨y, T'', rfl⟩ : ∃ y T'', T' = y :: T'' := by
          cases T' with
          | nil =>
            exfalso
            have h1 := eL.out
            have h2 := congrArg List.length e2
            simp at h2
            omega
          | cons y t => exact ⟨y, t, rfl⟩
        have hxm : x ∈ xs := by rw [e1]; simp
        have hym : y ∈ ys := by rw [e2]; simp
        have hA' := hA.out.below bw
        have hB' := hB.out.below bw
        have hAr := hA'.1
        have hBr := hB'.1
        rw [e1] at hAr
        rw [e2] at hBr
        obtain ⟨g, off, rfl, x1, x2⟩ := hAr.line
        obtain ⟨g', off', rfl, y1, y2⟩ := hBr.line
        rw [← e3] at y1 y2
        have hxi := hA'.2 x hxm
        have hyi := hB'.2 y hym
        obtain ⟨xa, xc, ex⟩ := HasRow.form hxi
        obtain ⟨ya, yc, ey⟩ := HasRow.form hyi
        unfold LineIn at hxi hyi
        rw [ex] at x2 hxi
        rw [ey] at y2 hyi
        have hxl := (hS.out.2 x hxm).1
        have HW : ∀ p : Gr wr, Calls Tryz.prog 96 #[.slice xa x.ws.length xc, .slice ya y.ws.length yc] p.u fun e w' => e = .returned (.bool (decide (x.ws = y.ws))) ∧ Below p.u.heap.size p.u w' := fun p => wWords_g (hxi.below p.h) (hyi.below p.h) hxl
        have hke := keys_ne x.key y.key
        have hstep := hid_in (show (!eqB x.key y.key || !decide (x.ws = y.ws)) = false → (xs = (D ++ [x]) ++ T ∧ ys = (D' ++ [y]) ++ T'' ∧ (D ++ [x]).length = (D' ++ [y]).length ∧ (D ++ [x]).map LAt.plain = (D' ++ [y]).map LAt.plain) from fun h => by
          simp only [Bool.or_eq_false_iff, Bool.not_eq_false'] at h
          refine ⟨by rw [e1]; simp, by rw [e2]; simp, by simp [e3], ?_⟩
          rw [List.map_append, List.map_append, e4]
          congr 1
          show [LAt.plain x] = [LAt.plain y]
          unfold LAt.plain
          rw [eqB_iff.1 h.1, of_decide_eq_true h.2])
        have hdiff := hid_in (show (!eqB x.key y.key || !decide (x.ws = y.ws)) = true → false = eqB (xs.map LAt.plain) (ys.map LAt.plain) from fun h => by
          rw [eqB_false]
          intro e
          rw [e1, e2, List.map_append, List.map_append] at e
          have h2 := (List.append_inj e (by simp [e3])).2
          rw [List.map_cons, List.map_cons] at h2
          have h3 := (List.cons.inj h2).1
          have k1 : x.key = y.key := congrArg PLine.key h3
          have k2 : x.ws = y.ws := congrArg PLine.ws h3
          rw [eqB_true k1] at h
          simp [k2] at h)
        have hyes : ((D.length : Int) < (n : Int)) := by omega
        have i1 : (0 : Int) ≤ (D.length : Int) := by omega
        have v1 := fun p : Gr wr => gr_cell x1 p
        have v2 := fun p : Gr wr => gr_cell x2 p
        have v3 := fun p : Gr wr => gr_cell y1 p
        have v4 := fun p : Gr wr => gr_cell y2 p
        clear hsp hA hB hS eN eL e1 e2 e3 e4 hA' hB' hAr hBr hxi hyi ex ey x1 x2 y1 y2 hxm hym
        have hDS : (D ++ [x]).length = D.length + 1 := by simp
        generalize decide (x.ws = y.ws) = WE at *
        generalize eqB x.key y.key = KE at *
        generalize x.key = xk at *
        generalize y.key = yk at *
        generalize x.ws.length = nx at *
        generalize y.ws.length = ny at *
        go_upto_region 6 with fail
        go_cut [41] from 17 to 41 (fun c wx => c = .bool (!KE || !WE) ∧ Below wr.heap.size wr wx)
        case first =>
          clear hstep hdiff
          cases KE
          · have hkn : ¬ xk.toList = yk.toList := by simpa using hke
            have hk1 : (xk.toList != yk.toList) = true := hke
            have hk2 : (xk.toList == yk.toList) = false := by simpa using hkn
            have hk3 : decide (xk.toList = yk.toList) = false := by simpa using hkn
            clear hke
            refine wp_region_gr (by kernel_rfl) (by kernel_rfl) ?_
            iterate 12 quiet_step (fail)
            iterate 12 (with_reducible refine quiet_skip ?_ ?_; kernel_rfl; simp only [Act.put, List.setIfInBounds_toArray, List.set_cons_zero, List.set_cons_succ])
            quiet_step (fail)
            refine wpQuiet_nil ?_
            rintro _ ⟨⟨wq, bq⟩, rfl⟩
            go_wp2_with fail
            go_meet
            exact ⟨rfl, bq⟩
          · have hkn : xk.toList = yk.toList := by simpa using hke
            have hk1 : (xk.toList != yk.toList) = false := hke
            clear hke
            refine wp_region_gr (by kernel_rfl) (by kernel_rfl) ?_
            iterate 22 quiet_step (fail)
            quiet_step ((go_at_call 96; refine gr_of (HW _)))
            iterate 2 quiet_step (fail)
            refine wpQuiet_nil ?_
            rintro _ ⟨⟨wq, bq⟩, rfl⟩
            go_wp2_with fail
            go_meet
            exact ⟨rfl, bq⟩
        case rest =>
          obtain ⟨wk, hwk⟩ : ∃ wk, wk = wc := ⟨_, rfl⟩
          subst hwk
          obtain ⟨rfl, bk⟩ := hcut
          have BK := bw.trans (bk.mono bw.size)
          clear v1 v2 v3 v4 HW hke
          cases hC : (!KE || !WE)
          · have hs' : Hid _ := hstep.out hC
            clear hstep hdiff hC
            go_wp2
            go_roundw
            case rel => exact ⟨D ++ [x], T, D' ++ [y], T'', by simp, by omega, hs', BK⟩
            case measure => simp [intOf]; omega
          · have hr := hid_in (hdiff.out hC)
            clear hstep hdiff hC
            go_wp2
            go_ret
            exact ⟨congrArg (fun b => Ending.returned (Value.bool b)) hr.out, BK⟩
  · have hr : eqB (xs.map LAt.plain) (ys.map LAt.plain) = false := eqB_false fun e => hlen (by have := congrArg List.length e; simpa using this)
    rw [hr]
    have hn0 : ((xs.length : Int) != (ys.length : Int)) = true := by simp; omega
    clear ha hb
    generalize xs.length = n at *
    generalize ys.length = m at *
    go_enter Tryz.func31, Tryz.ntmps31
    go_wp2
    go_ret
    exact ⟨rfl, Below.refl _ _⟩
end Go.Proofs.YtpdahhnjhggocaaGreatDoor
namespace Go.Proofs.YtpdahhnjhggocaaGreatDoor
open Go.RowKit
set_option maxHeartbeats 8000000 in
set_option maxRecDepth 100000 in
theorem wSheet_g {va vb : Value} {xs ys : List BAt} {w : World} (ha : BlocksIn w va xs) (hb : BlocksIn w vb ys) (hs : BlocksSmall xs) : Calls Tryz.prog 12 #[.agg #[va], .agg #[vb]] w fun e w' => e = .returned (.bool (eqB (xs.map BAt.plain) (ys.map BAt.plain))) ∧ Below w.heap.size w w' := by
  obtain ⟨ao, ca, rfl⟩ := ha.1.form
  obtain ⟨bo, cb, rfl⟩ := hb.1.form
  have hc := two_boxes (w := w) (cs := #[.slice ao xs.length ca]) (ds := #[.slice bo ys.length cb]) (T := 25) (U := 25)
  have c0 := hc.1 0
  have d0 := hc.2 0
  simp only [List.getElem?_toArray, List.getElem?_cons_zero] at c0 d0
  clear hc
  have G0 : Below w.heap.size w ((w.alloc (.cells #[.slice ao xs.length ca] 25)).alloc (.cells #[.slice bo ys.length cb] 25)) := ((Below.refl _ _).alloc (Nat.le_refl _) _).alloc (by simp) _
  by_cases hlen : xs.length = ys.length
  · have hA := hid_in (ha.below G0)
    have hB := hid_in (hb.below G0)
    have hS := hid_in hs
    have hl := hs.1
    rw [← hlen] at d0 G0 c0 hA hB ⊢
    generalize hN : xs.length = n at *
    have eN := hid_in hN
    have eL := hid_in hlen
    clear ha hb hs hN hlen
    have hn0 : ((n : Int) != (n : Int)) = false := by simp
    generalize hW0 : (w.alloc (.cells #[.slice ao n ca] 25)).alloc (.cells #[.slice bo n cb] 25) = W0 at *
    go_enter Tryz.func12, Tryz.ntmps12
    go_wp2
    go_loopw [5] (fun i wr => ∃ (D T D' T' : List BAt), i = .int .i64 (D.length : Int) ∧ D.length ≤ n ∧ Hid (xs = D ++ T ∧ ys = D' ++ T' ∧ D.length = D'.length ∧ D.map BAt.plain = D'.map BAt.plain) ∧ Below W0.heap.size W0 wr) (fun i _ => n - (intOf i).toNat)
    case atStart =>
      try rw [hW0]
      exact ⟨[], xs, [], ys, rfl, by simp, (⟨rfl, rfl, rfl, rfl⟩ : xs = [] ++ xs ∧ ys = [] ++ ys ∧ _), Below.refl _ _⟩
    case round =>
      obtain ⟨D, T, D', T', rfl, hDl, hsp, bw⟩ := hrel
      have G1 := G0.trans (bw.mono G0.size)
      have c1 := (bw.cell (World.block_lt_of_cell? W0 _ c0)).trans c0
      have d1 := (bw.cell (World.block_lt_of_cell? W0 _ d0)).trans d0
      clear hW0
      cases T with
      | nil =>
        have hDn : D.length = n := by rw [← eN.out, hsp.out.1]; simp
        have hno : ¬ ((D.length : Int) < (n : Int)) := by omega
        have hr := hid_in (show true = eqB (xs.map BAt.plain) (ys.map BAt.plain) from by
          obtain ⟨e1, e2, e3, e4⟩ := hsp.out
          have : T' = [] := by
            have h1 := eL.out
            have h2 := congrArg List.length e2
            rw [List.length_append] at h2
            exact List.length_eq_zero_iff.1 (by omega)
          subst this
          rw [List.append_nil] at e1 e2
          rw [e1, e2, eqB_true e4])
        clear hsp hA hB hS eN eL c0 d0
        go_wp2
        go_ret
        exact ⟨congrArg (fun b => Ending.returned (Value.bool b)) hr.out, G1⟩
      | cons x T =>
        obtain ⟨e1, e2, e3, e4⟩ := hsp.out
        have hDn : D.length < n := by have h1 := eN.out; rw [e1] at h1; simp at h1; omega
        obtain ⟨y, T'', rfl⟩ : ∃ y T'', T' = y :: T'' := by
          cases T' with
          | nil =>
            exfalso
            have h1 := eL.out
            have h2 := congrArg List.length e2
            simp at h2
            omega
          | cons y t => exact ⟨y, t, rfl⟩
        have hxm : x ∈ xs := by rw [e1]; simp
        have hym : y ∈ ys := by rw [e2]; simp
        have hA' := hA.out.below bw
        have hB' := hB.out.below bw
        have hAr := hA'.1
        have hBr := hB'.1
        rw [e1] at hAr
        rw [e2] at hBr
        obtain ⟨g, off, rfl, x1, x2, x3⟩ := hAr.block
        obtain ⟨g', off', rfl, y1, y2, y3⟩ := hBr.block
        rw [← e3] at y1 y2 y3
        have hxi := hA'.2 x hxm
        have hyi := hB'.2 y hym
        obtain ⟨xa, xc, ex⟩ := hxi.1.form
        obtain ⟨ya, yc, ey⟩ := hyi.1.form
        unfold BlockIn at hxi hyi
        rw [ex] at x3 hxi
        rw [ey] at y3 hyi
        have hxl := (hS.out.2 x hxm).2
        have HW : ∀ p : Gr wr, Calls Tryz.prog 31 #[.slice xa x.ls.length xc, .slice ya y.ls.length yc] p.u fun e w' => e = .returned (.bool (eqB (x.ls.map LAt.plain) (y.ls.map LAt.plain))) ∧ Below p.u.heap.size p.u w' := fun p => wLines_g (hxi.below p.h) (hyi.below p.h) hxl
        have hke := keys_ne x.kind y.kind
        have hne := keys_ne x.name y.name
        have hstep := hid_in (show (!eqB x.kind y.kind || !eqB x.name y.name || !eqB (x.ls.map LAt.plain) (y.ls.map LAt.plain)) = false → (xs = (D ++ [x]) ++ T ∧ ys = (D' ++ [y]) ++ T'' ∧ (D ++ [x]).length = (D' ++ [y]).length ∧ (D ++ [x]).map BAt.plain = (D' ++ [y]).map BAt.plain) from fun h => by
          simp only [Bool.or_eq_false_iff, Bool.not_eq_false'] at h
          refine ⟨by rw [e1]; simp, by rw [e2]; simp, by simp [e3], ?_⟩
          rw [List.map_append, List.map_append, e4]
          congr 1
          show [BAt.plain x] = [BAt.plain y]
          unfold BAt.plain
          rw [eqB_iff.1 h.1.1, eqB_iff.1 h.1.2, eqB_iff.1 h.2])
        have hdiff := hid_in (show (!eqB x.kind y.kind || !eqB x.name y.name || !eqB (x.ls.map LAt.plain) (y.ls.map LAt.plain)) = true → false = eqB (xs.map BAt.plain) (ys.map BAt.plain) from fun h => by
          rw [eqB_false]
          intro e
          rw [e1, e2, List.map_append, List.map_append] at e
          have h2 := (List.append_inj e (by simp [e3])).2
          rw [List.map_cons, List.map_cons] at h2
          have h3 := (List.cons.inj h2).1
          have k1 : x.kind = y.kind := congrArg PBlock.kind h3
          have k2 : x.name = y.name := congrArg PBlock.name h3
          have k3 : x.ls.map LAt.plain = y.ls.map LAt.plain := congrArg PBlock.lines h3
          rw [eqB_true k1, eqB_true k2, eqB_true k3] at h
          cases h)
        have hyes : ((D.length : Int) < (n : Int)) := by omega
        have i1 : (0 : Int) ≤ (D.length : Int) := by omega
        have u1 := fun p : Gr wr => gr_cell c1 p
        have u2 := fun p : Gr wr => gr_cell d1 p
        have v1 := fun p : Gr wr => gr_cell x1 p
        have v2 := fun p : Gr wr => gr_cell x2 p
        have v3 := fun p : Gr wr => gr_cell x3 p
        have v4 := fun p : Gr wr => gr_cell y1 p
        have v5 := fun p : Gr wr => gr_cell y2 p
        have v6 := fun p : Gr wr => gr_cell y3 p
        clear hsp hA hB hS eN eL e1 e2 e3 e4 hA' hB' hAr hBr hxi hyi ex ey x1 x2 x3 y1 y2 y3 hxm hym c0 d0
        have hDS : (D ++ [x]).length = D.length + 1 := by simp
        generalize eqB (x.ls.map LAt.plain) (y.ls.map LAt.plain) = WE at *
        generalize eqB x.kind y.kind = KE at *
        generalize eqB x.name y.name = NE at *
        generalize x.kind = xk at *
        generalize y.kind = yk at *
        generalize x.name = xn at *
        generalize y.name = yn at *
        generalize x.ls.length = nx at *
        generalize y.ls.length = ny at *
        go_upto_region 6 with fail
        go_cut [63] from 20 to 63 (fun c wx => c = .bool (!KE || !NE || !WE) ∧ Below wr.heap.size wr wx)
        case first =>
          clear hstep hdiff c1 d1
          cases KE
          · have hkn : ¬ xk.toList = yk.toList := by simpa using hke
            have hk1 : (xk.toList != yk.toList) = true := hke
            have hk2 : (xk.toList == yk.toList) = false := by simpa using hkn
            have hk3 : decide (xk.toList = yk.toList) = false := by simpa using hkn
            clear hke hne
            refine wp_region_gr (by kernel_rfl) (by kernel_rfl) ?_
            iterate 14 quiet_step (fail)
            iterate 13 (with_reducible refine quiet_skip ?_ ?_; kernel_rfl; simp only [Act.put, List.setIfInBounds_toArray, List.set_cons_zero, List.set_cons_succ])
            iterate 2 quiet_step (fail)
            iterate 14 (with_reducible refine quiet_skip ?_ ?_; kernel_rfl; simp only [Act.put, List.setIfInBounds_toArray, List.set_cons_zero, List.set_cons_succ])
            quiet_step (fail)
            refine wpQuiet_nil ?_
            rintro _ ⟨⟨wq, bq⟩, rfl⟩
            go_wp2_with fail
            go_meet
            exact ⟨rfl, bq⟩
          · have hkn : xk.toList = yk.toList := by simpa using hke
            have hk1 : (xk.toList != yk.toList) = false := hke
            clear hke
            cases NE
            · have hnn : ¬ xn.toList = yn.toList := by simpa using hne
              have hn1 : (xn.toList != yn.toList) = true := hne
              have hn2 : (xn.toList == yn.toList) = false := by simpa using hnn
              have hn3 : decide (xn.toList = yn.toList) = false := by simpa using hnn
              clear hne
              refine wp_region_gr (by kernel_rfl) (by kernel_rfl) ?_
              iterate 29 quiet_step (fail)
              iterate 14 (with_reducible refine quiet_skip ?_ ?_; kernel_rfl; simp only [Act.put, List.setIfInBounds_toArray, List.set_cons_zero, List.set_cons_succ])
              quiet_step (fail)
              refine wpQuiet_nil ?_
              rintro _ ⟨⟨wq, bq⟩, rfl⟩
              go_wp2_with fail
              go_meet
              exact ⟨rfl, bq⟩
            · have hnn : xn.toList = yn.toList := by simpa using hne
              have hn1 : (xn.toList != yn.toList) = false := hne
              clear hne
              refine wp_region_gr (by kernel_rfl) (by kernel_rfl) ?_
              iterate 41 quiet_step (fail)
              quiet_step ((go_at_call 31; refine gr_of (HW _)))
              iterate 2 quiet_step (fail)
              refine wpQuiet_nil ?_
              rintro _ ⟨⟨wq, bq⟩, rfl⟩
              go_wp2_with fail
              go_meet
              exact ⟨rfl, bq⟩
        case rest =>
          obtain ⟨wk, hwk⟩ : ∃ wk, wk = wc := ⟨_, rfl⟩
          subst hwk
          obtain ⟨rfl, bk⟩ := hcut
          have BK := bw.trans (bk.mono bw.size)
          have GK := G0.trans (BK.mono G0.size)
          clear v1 v2 v3 v4 v5 v6 u1 u2 HW hke hne
          cases hC : (!KE || !NE || !WE)
          · have hs' : Hid _ := hstep.out hC
            clear hstep hdiff hC
            go_wp2
            go_roundw
            case rel => exact ⟨D ++ [x], T, D' ++ [y], T'', by simp, by omega, hs', BK⟩
            case measure => simp [intOf]; omega
          · have hr := hid_in (hdiff.out hC)
            clear hstep hdiff hC
            go_wp2
            go_ret
            exact ⟨congrArg (fun b => Ending.returned (Value.bool b)) hr.out, GK⟩
  · have hr : eqB (xs.map BAt.plain) (ys.map BAt.plain) = false := eqB_false fun e => hlen (by have := congrArg List.length e; simpa using this)
    rw [hr]
    have hn0 : ((xs.length : Int) != (ys.length : Int)) = true := by simp; omega
    clear ha hb hr
    generalize xs.length = n at *
    generalize ys.length = m at *
    go_enter Tryz.func12, Tryz.ntmps12
    go_wp2
    go_ret
    exact ⟨rfl, G0⟩
end Go.Proofs.YtpdahhnjhggocaaGreatDoor
