import Derived.Test.YtpdahhnjhggocabGreatDoorBun26
import Derived.Test.YtpdahhnjhggocabGreatDoorBun25
import Derived.Test.YtpdahhnjhggocabGreatDoorBun23
import Derived.Test.YtpdahhnjhggocabGreatDoorBun10
import Derived.Deep.MidRow
namespace Go.Proofs.YtpdahhnjhggocabGreatDoor
open Go.RowKit
end Go.Proofs.YtpdahhnjhggocabGreatDoor
namespace Go.Proofs.YtpdahhnjhggocabGreatDoor
open Go.RowKit
end Go.Proofs.YtpdahhnjhggocabGreatDoor
namespace Go.Proofs.YtpdahhnjhggocabGreatDoor
open Go.RowKit
set_option maxHeartbeats 1000000 in
set_option maxRecDepth 100000 in
theorem eqWords_any {n m ca cb : Nat} {ao bo : Option Addr} {xs : List (List UInt8)} {w : World} (h1 : HasRow w (.slice ao n ca) xs.length 1 (strs xs)) (h2 : HasRow w (.slice bo m cb) xs.length 1 (strs xs)) (hn : n ≤ 1048576) : Calls Tryz.prog 150 #[.slice ao n ca, .slice bo m cb] w fun e w' => e = .returned (.bool true) ∧ Below w.heap.size w w' := by
  have en := hid_in (show n = xs.length by obtain ⟨_, _, _, e, _⟩ := h1; cases e; rfl)
  have em : m = n := by rw [en.out]; obtain ⟨_, _, _, e, _⟩ := h2; cases e; rfl
  subst em
  have hn0 : ((m : Int) != (m : Int)) = false := by simp
  go_enter Tryz.func150, Tryz.ntmps150
  go_wp2
  go_loopw [5] (fun i wr => ∃ j q : Nat, j ≤ m ∧ i = .int .i64 (j : Int) ∧ wr = w.drewN q) (fun i _ => m - (intOf i).toNat)
  case atStart => exact ⟨0, 0, by omega, rfl, rfl⟩
  case round =>
    obtain ⟨j, q, hj, rfl, rfl⟩ := hrel
    by_cases hlt : j < m
    · have lk : j < xs.length := by have := en.out; omega
      obtain ⟨b, off, rfl, c1⟩ := h1.word j lk
      obtain ⟨b2, off2, rfl, c2⟩ := h2.word j lk
      generalize (⟨xs[j].toArray⟩ : ByteArray) = x at *
      clear h1 h2
      go_wp2
      go_quiet (fail)
      go_wp2
      go_roundw
      case rel => exact ⟨j + 1, _, by omega, by go_num, by first | rfl | exact World.drewN_drewN _ _ _⟩
      case measure => simp [intOf]; omega
    · obtain rfl : j = m := by omega
      clear h1 h2
      go_wp2
      go_ret
      exact ⟨rfl, below_drewN (Below.refl _ _) q⟩
set_option maxHeartbeats 1000000 in
set_option maxRecDepth 100000 in
theorem eqLine_any {x y : LAt} {w : World} (hx : LineIn w x) (hy : LineIn w y) (he : x.plain = y.plain) (hn : x.ws.length ≤ 1048576) : Calls Tryz.prog 80 #[.agg #[.string x.key, x.v], .agg #[.string y.key, y.v]] w fun e w' => e = .returned (.bool true) ∧ Below w.heap.size w w' := by
  obtain ⟨xk, xv, xw⟩ := x
  obtain ⟨yk, yv, yw⟩ := y
  simp only [LAt.plain, PLine.mk.injEq] at he
  obtain ⟨rfl, rfl⟩ := he
  unfold LineIn at hx hy
  simp only at hx hy hn ⊢
  obtain ⟨ax, cx, rfl⟩ := hx.form
  obtain ⟨ay, cy, rfl⟩ := hy.form
  have G := ((Below.refl w.heap.size w).alloc (Nat.le_refl _) (.cells #[.string xk, .slice ax xw.length cx] 82)).alloc (by simp) (.cells #[.string xk, .slice ay xw.length cy] 82)
  have hc := two_boxes (w := w) (cs := #[.string xk, .slice ax xw.length cx]) (ds := #[.string xk, .slice ay xw.length cy]) (T := 82) (U := 82)
  have c0 := hc.1 0
  have c1 := hc.1 1
  have d0 := hc.2 0
  have d1 := hc.2 1
  simp only [List.getElem?_toArray, List.getElem?_cons_zero, List.getElem?_cons_succ] at c0 c1 d0 d1
  have HE := eqWords_any (hx.below G) (hy.below G) hn
  clear hc hx hy
  generalize xw.length = n at *
  go_enter Tryz.func80, Tryz.ntmps80
  go_wp2_with (go_at_call 150; refine HE.mono ?_; rintro e w2 ⟨rfl, b2⟩)
  go_ret
  exact ⟨rfl, G.trans (b2.mono G.size)⟩
theorem same_at {α β : Type} {f : α → β} {xs ys : List α} (h : xs.map f = ys.map f) (j : Nat) (hj : j < xs.length) : ∃ D x T D' y T', xs = D ++ x :: T ∧ ys = D' ++ y :: T' ∧ D.length = j ∧ D'.length = j ∧ f x = f y := by
  have hl : xs.length = ys.length := by have := congrArg List.length h; simpa using this
  obtain ⟨D, x, T, rfl, hD⟩ := split1 xs j hj
  obtain ⟨D', y, T', rfl, hD'⟩ := split1 ys j (by omega)
  refine ⟨D, x, T, D', y, T', rfl, rfl, hD, hD', ?_⟩
  rw [List.map_append, List.map_append, List.map_cons, List.map_cons] at h
  have := (List.append_inj h (by simp; omega)).2
  simp only [List.cons.injEq] at this
  exact this.1
set_option maxHeartbeats 2000000 in
set_option maxRecDepth 100000 in
theorem eqLines_any {v u : Value} {xs ys : List LAt} {w : World} (h1 : LinesIn w v xs) (h2 : LinesIn w u ys) (he : xs.map LAt.plain = ys.map LAt.plain) (hs : LinesSmall xs) : Calls Tryz.prog 28 #[v, u] w fun e w' => e = .returned (.bool true) ∧ Below w.heap.size w w' := by
  obtain ⟨ao, ca, rfl⟩ := h1.1.form
  obtain ⟨bo, cb, rfl⟩ := h2.1.form
  have hl : ys.length = xs.length := by have := congrArg List.length he; simpa using this.symm
  rw [hl]
  rw [hl] at h2
  have hn := hs.1
  generalize hN : xs.length = n at *
  have en := hid_in hN
  clear hN hl
  have hn0 : ((n : Int) != (n : Int)) = false := by simp
  go_enter Tryz.func28, Tryz.ntmps28
  go_wp2
  go_loopw [5] (fun i wr => ∃ j : Nat, j ≤ n ∧ i = .int .i64 (j : Int) ∧ Below w.heap.size w wr) (fun i _ => n - (intOf i).toNat)
  case atStart => exact ⟨0, by omega, rfl, Below.refl _ _⟩
  case round =>
    obtain ⟨j, hj, rfl, bw⟩ := hrel
    by_cases hlt : j < n
    · obtain ⟨D, x, T, D', y, T', e1, e2, hD, hD', hxy⟩ := same_at he j (by have := en.out; omega)
      have h5 := h1.below bw
      have h6 := h2.below bw
      have hxm : x ∈ xs := by rw [e1]; simp
      have hym : y ∈ ys := by rw [e2]; simp
      have h7 := h5
      have h8 := h6
      rw [e1] at h7
      rw [e2] at h8
      obtain ⟨g, off, rfl, c1, c2⟩ := h7.1.line
      obtain ⟨g', off', rfl, d1, d2⟩ := h8.1.line
      rw [hD] at c1 c2
      rw [hD'] at d1 d2
      have HX := fun p : Gr wr => eqLine_any ((h5.2 x hxm).below p.h) ((h6.2 y hym).below p.h) hxy (hs.2 x hxm).1
      have k1 := fun p : Gr wr => gr_cell c1 p
      have k2 := fun p : Gr wr => gr_cell c2 p
      have k3 := fun p : Gr wr => gr_cell d1 p
      have k4 := fun p : Gr wr => gr_cell d2 p
      obtain ⟨ax, cx, ex⟩ := HasRow.form (h5.2 x hxm)
      obtain ⟨ay, cy, ey⟩ := HasRow.form (h6.2 y hym)
      rw [ex] at k2
      rw [ey] at k4
      simp only [ex, ey] at HX
      have i0 : (0 : Int) ≤ (j : Int) := by omega
      have i1 : (j : Int) < (n : Int) := by omega
      clear h1 h2 h5 h6 h7 h8 hs he e1 e2 hxy c1 c2 d1 d2 hxm hym ex ey
      generalize x.ws.length = nx at *
      generalize y.ws.length = ny at *
      generalize x.key = xk at *
      generalize y.key = yk at *
      go_wp2
      refine wp_region_gr (by kernel_rfl) (by kernel_rfl) ?_
      iterate 8 quiet_step (fail)
      quiet_step ((go_at_call 80; refine gr_of (HX _)))
      quiet_step (fail)
      refine wpQuiet_nil ?_
      rintro _ ⟨⟨wq, bq⟩, rfl⟩
      go_wp2
      go_roundw
      case rel => exact ⟨j + 1, by omega, by go_num, bw.trans (bq.mono bw.size)⟩
      case measure => simp [intOf]; omega
    · obtain rfl : j = n := by omega
      clear h1 h2 hs he
      go_wp2
      go_ret
      exact ⟨rfl, bw⟩
set_option maxHeartbeats 1000000 in
set_option maxRecDepth 100000 in
theorem eqBlock_any {x y : BAt} {w : World} (hx : BlockIn w x) (hy : BlockIn w y) (he : x.plain = y.plain) (hs : LinesSmall x.ls) : Calls Tryz.prog 125 #[.agg #[.string x.kind, .string x.name, x.v], .agg #[.string y.kind, .string y.name, y.v]] w fun e w' => e = .returned (.bool true) ∧ Below w.heap.size w w' := by
  obtain ⟨xk, xn, xv, xl⟩ := x
  obtain ⟨yk, yn, yv, yl⟩ := y
  simp only [BAt.plain, PBlock.mk.injEq] at he
  obtain ⟨rfl, rfl, hl⟩ := he
  unfold BlockIn at hx hy
  simp only at hx hy hs ⊢
  obtain ⟨ax, cx, rfl⟩ := hx.1.form
  obtain ⟨ay, cy, rfl⟩ := hy.1.form
  have G := ((Below.refl w.heap.size w).alloc (Nat.le_refl _) (.cells #[.string xk, .string xn, .slice ax xl.length cx] 64)).alloc (by simp) (.cells #[.string xk, .string xn, .slice ay yl.length cy] 64)
  have hc := two_boxes (w := w) (cs := #[.string xk, .string xn, .slice ax xl.length cx]) (ds := #[.string xk, .string xn, .slice ay yl.length cy]) (T := 64) (U := 64)
  have c0 := hc.1 0
  have c1 := hc.1 1
  have c2 := hc.1 2
  have d0 := hc.2 0
  have d1 := hc.2 1
  have d2 := hc.2 2
  simp only [List.getElem?_toArray, List.getElem?_cons_zero, List.getElem?_cons_succ] at c0 c1 c2 d0 d1 d2
  have HE := eqLines_any (hx.below G) (hy.below G) hl hs
  clear hc hx hy hl hs
  generalize xl.length = n at *
  generalize yl.length = m at *
  go_enter Tryz.func125, Tryz.ntmps125
  go_wp2_with (go_at_call 28; refine HE.mono ?_; rintro e w2 ⟨rfl, b2⟩)
  go_ret
  exact ⟨rfl, G.trans (b2.mono G.size)⟩
set_option maxHeartbeats 2000000 in
set_option maxRecDepth 100000 in
theorem eqBlocks_any {v u : Value} {xs ys : List BAt} {w : World} (h1 : BlocksIn w v xs) (h2 : BlocksIn w u ys) (he : xs.map BAt.plain = ys.map BAt.plain) (hs : xs.length ≤ 1048576 ∧ ∀ x ∈ xs, LinesSmall x.ls) : Calls Tryz.prog 57 #[v, u] w fun e w' => e = .returned (.bool true) ∧ Below w.heap.size w w' := by
  obtain ⟨ao, ca, rfl⟩ := h1.1.form
  obtain ⟨bo, cb, rfl⟩ := h2.1.form
  have hl : ys.length = xs.length := by have := congrArg List.length he; simpa using this.symm
  rw [hl]
  rw [hl] at h2
  have hn := hs.1
  generalize hN : xs.length = n at *
  have en := hid_in hN
  clear hN hl
  have hn0 : ((n : Int) != (n : Int)) = false := by simp
  go_enter Tryz.func57, Tryz.ntmps57
  go_wp2
  go_loopw [5] (fun i wr => ∃ j : Nat, j ≤ n ∧ i = .int .i64 (j : Int) ∧ Below w.heap.size w wr) (fun i _ => n - (intOf i).toNat)
  case atStart => exact ⟨0, by omega, rfl, Below.refl _ _⟩
  case round =>
    obtain ⟨j, hj, rfl, bw⟩ := hrel
    by_cases hlt : j < n
    · obtain ⟨D, x, T, D', y, T', e1, e2, hD, hD', hxy⟩ := same_at he j (by have := en.out; omega)
      have h5 := h1.below bw
      have h6 := h2.below bw
      have hxm : x ∈ xs := by rw [e1]; simp
      have hym : y ∈ ys := by rw [e2]; simp
      have h7 := h5
      have h8 := h6
      rw [e1] at h7
      rw [e2] at h8
      obtain ⟨g, off, rfl, c1, c2, c3⟩ := h7.1.block
      obtain ⟨g', off', rfl, d1, d2, d3⟩ := h8.1.block
      rw [hD] at c1 c2 c3
      rw [hD'] at d1 d2 d3
      have HX := fun p : Gr wr => eqBlock_any ((h5.2 x hxm).below p.h) ((h6.2 y hym).below p.h) hxy (hs.2 x hxm)
      have k1 := fun p : Gr wr => gr_cell c1 p
      have k2 := fun p : Gr wr => gr_cell c2 p
      have k3 := fun p : Gr wr => gr_cell c3 p
      have k4 := fun p : Gr wr => gr_cell d1 p
      have k5 := fun p : Gr wr => gr_cell d2 p
      have k6 := fun p : Gr wr => gr_cell d3 p
      obtain ⟨ax, cx, ex⟩ := (h5.2 x hxm).1.form
      obtain ⟨ay, cy, ey⟩ := (h6.2 y hym).1.form
      rw [ex] at k3
      rw [ey] at k6
      simp only [ex, ey] at HX
      have i0 : (0 : Int) ≤ (j : Int) := by omega
      have i1 : (j : Int) < (n : Int) := by omega
      clear h1 h2 h5 h6 h7 h8 hs he e1 e2 hxy c1 c2 c3 d1 d2 d3 hxm hym ex ey
      generalize x.ls.length = nx at *
      generalize y.ls.length = ny at *
      generalize x.kind = xk at *
      generalize y.kind = yk at *
      generalize x.name = xn at *
      generalize y.name = yn at *
      go_wp2
      refine wp_region_gr (by kernel_rfl) (by kernel_rfl) ?_
      iterate 8 quiet_step (fail)
      quiet_step ((go_at_call 125; refine gr_of (HX _)))
      quiet_step (fail)
      refine wpQuiet_nil ?_
      rintro _ ⟨⟨wq, bq⟩, rfl⟩
      go_wp2
      go_roundw
      case rel => exact ⟨j + 1, by omega, by go_num, bw.trans (bq.mono bw.size)⟩
      case measure => simp [intOf]; omega
    · obtain rfl : j = n := by omega
      clear h1 h2 hs he
      go_wp2
      go_ret
      exact ⟨rfl, bw⟩
set_option maxHeartbeats 1000000 in
set_option maxRecDepth 100000 in
theorem eqSheet_any {v u : Value} {xs ys : List BAt} {w : World} (h1 : BlocksIn w v xs) (h2 : BlocksIn w u ys) (he : xs.map BAt.plain = ys.map BAt.plain) (hs : xs.length ≤ 1048576 ∧ ∀ x ∈ xs, LinesSmall x.ls) : Calls Tryz.prog 14 #[.agg #[v], .agg #[u]] w fun e w' => e = .returned (.bool true) ∧ Below w.heap.size w w' := by
  obtain ⟨ax, cx, rfl⟩ := h1.1.form
  obtain ⟨ay, cy, rfl⟩ := h2.1.form
  have G := ((Below.refl w.heap.size w).alloc (Nat.le_refl _) (.cells #[.slice ax xs.length cx] 24)).alloc (by simp) (.cells #[.slice ay ys.length cy] 24)
  have hc := two_boxes (w := w) (cs := #[.slice ax xs.length cx]) (ds := #[.slice ay ys.length cy]) (T := 24) (U := 24)
  have c0 := hc.1 0
  have d0 := hc.2 0
  simp only [List.getElem?_toArray, List.getElem?_cons_zero] at c0 d0
  have HE := eqBlocks_any (h1.below G) (h2.below G) he hs
  clear hc h1 h2 he hs
  generalize xs.length = n at *
  generalize ys.length = m at *
  go_enter Tryz.func14, Tryz.ntmps14
  go_wp2_with (go_at_call 57; refine HE.mono ?_; rintro e w2 ⟨rfl, b2⟩)
  go_ret
  exact ⟨rfl, G.trans (b2.mono G.size)⟩
end Go.Proofs.YtpdahhnjhggocabGreatDoor
namespace Go.Proofs.YtpdahhnjhggocabGreatDoor
open Go.RowKit
def nextL (k : Nat) (r : LAt) : Nat := k + 1 + r.ws.length
set_option maxHeartbeats 400000 in
theorem markLines_zero (ao : Option Addr) (cap k : Nat) (w : World) : Calls Tryz.prog 29 #[.slice ao 0 cap, .int .i64 (k : Int)] w fun e w' => e = .returned (.int .i64 (k : Int)) ∧ w' = w := by
  go_enter Tryz.func29, Tryz.ntmps29
  go_wp2
  refine wp_loop_rounds 1 ?_
  rw [rounds_succ]
  go_wp2
  go_ret
  exact ⟨rfl, rfl⟩
set_option maxHeartbeats 400000 in
theorem heldLines_zero (ao : Option Addr) (cap k : Nat) (w : World) : Calls Tryz.prog 30 #[.slice ao 0 cap, .int .i64 (k : Int)] w fun e w' => e = .returned (.int .i64 (k : Int)) ∧ w' = w := by
  go_enter Tryz.func30, Tryz.ntmps30
  go_wp2
  refine wp_loop_rounds 1 ?_
  rw [rounds_succ]
  go_wp2
  go_ret
  exact ⟨rfl, rfl⟩
theorem LM.form {B : Nat} {w : World} {v : Value} {C : List LAt} {rest : List MRow} (h : LM B w v C rest) : ∃ ao cap, v = .slice ao C.length cap ∧ (C = [] ∨ ∃ g, ao = some ⟨g, 0, none⟩) := by
  obtain ⟨ao, cap, e, hf⟩ := own_form h.own.row
  exact ⟨ao, cap, e, hf.imp (fun h0 => List.length_eq_zero_iff.1 h0) id⟩
end Go.Proofs.YtpdahhnjhggocabGreatDoor
namespace Go.Proofs.YtpdahhnjhggocabGreatDoor
open Go.RowKit
set_option maxHeartbeats 400000 in
theorem markBlocks_zero (ao : Option Addr) (cap k : Nat) (w : World) : Calls Tryz.prog 58 #[.slice ao 0 cap, .int .i64 (k : Int)] w fun e w' => e = .returned (.int .i64 (k : Int)) ∧ w' = w := by
  go_enter Tryz.func58, Tryz.ntmps58
  go_wp2
  refine wp_loop_rounds 1 ?_
  rw [rounds_succ]
  go_wp2
  go_ret
  exact ⟨rfl, rfl⟩
set_option maxHeartbeats 400000 in
theorem heldBlocks_zero (ao : Option Addr) (cap k : Nat) (w : World) : Calls Tryz.prog 59 #[.slice ao 0 cap, .int .i64 (k : Int)] w fun e w' => e = .returned (.int .i64 (k : Int)) ∧ w' = w := by
  go_enter Tryz.func59, Tryz.ntmps59
  go_wp2
  refine wp_loop_rounds 1 ?_
  rw [rounds_succ]
  go_wp2
  go_ret
  exact ⟨rfl, rfl⟩
theorem BM.form {B : Nat} {w : World} {v : Value} {C : List BAt} {rest : List MRow} (h : BM B w v C rest) : ∃ ao cap, v = .slice ao C.length cap ∧ (C = [] ∨ ∃ g, ao = some ⟨g, 0, none⟩) := by
  obtain ⟨ao, cap, e, hf⟩ := own_form h.own.row
  exact ⟨ao, cap, e, hf.imp (fun h0 => List.length_eq_zero_iff.1 h0) id⟩
end Go.Proofs.YtpdahhnjhggocabGreatDoor
namespace Go.Proofs.YtpdahhnjhggocabGreatDoor
open Go.RowKit
def BoolPost (b : Bool) (w : World) (e : Ending) (w' : World) : Prop := e = .returned (.bool b) ∧ Below w.heap.size w w'
def IntPost (n : Nat) (w : World) (e : Ending) (w' : World) : Prop := e = .returned (.int .i64 (n : Int)) ∧ Below w.heap.size w w'
theorem eqSheet_p {v u : Value} {xs ys : List BAt} {w : World} (h1 : BlocksIn w v xs) (h2 : BlocksIn w u ys) (he : xs.map BAt.plain = ys.map BAt.plain) (hs : xs.length ≤ 1048576 ∧ ∀ x ∈ xs, LinesSmall x.ls) : Calls Tryz.prog 14 #[.agg #[v], .agg #[u]] w fun e w' => BoolPost true w e w' := eqSheet_any h1 h2 he hs
theorem box_row (w : World) (v : Value) (T : TypeId) : (w.alloc (.cells #[v] T)).ownsRow w.heap.size T 1 (.slice (some ⟨w.heap.size, 0, none⟩) 1 1) 1 [v] := World.ownsRow_lit (base := w.heap.size) (e := T) (size := 1) w #[v] 1 (Nat.le_refl _) (by decide) rfl
theorem row_box {B g : Nat} {w : World} {T : TypeId} {v : Value} (h : w.ownsRow B T 1 (.slice (some ⟨g, 0, none⟩) 1 1) 1 [v]) : w.cell? ⟨g, 0, none⟩ = some v := by
  have := h.cells (g := g) rfl 0 v rfl
  rwa [add_off] at this
end Go.Proofs.YtpdahhnjhggocabGreatDoor
