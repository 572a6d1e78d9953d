import Derived.Test.YtpdahhnjhggocabGreatDoorBun29
import Derived.Test.YtpdahhnjhggocabGreatDoorBun20
import Derived.Test.YtpdahhnjhggocabGreatDoorBun15
import Derived.Test.YtpdahhnjhggocabGreatDoorBun13
namespace Go.Proofs.YtpdahhnjhggocabGreatDoor
open Go.RowKit
theorem others_below {e : TypeId} {b : Option Nat} {w u : World} (h : Below w.heap.size w u) : Lib.OthersKept e b w u := by
 intro k o hk _ _
 have hkl : k < w.heap.size := (Array.getElem?_eq_some_iff.1 hk).1
 rw [h.block k hkl]; exact hk
theorem strCells_bytes (s : ByteArray) : Lib.strCells s = Lib.byteCells s.data.toList := by
 simp [Lib.strCells, Lib.byteCells]
theorem byteCells_app (l m : List UInt8) : Lib.byteCells (l ++ m) = Lib.byteCells l ++ Lib.byteCells m := by
 simp [Lib.byteCells]
def Txt (B b : Nat) (l : List UInt8) (w : World) : Prop := Bld B b (Lib.byteCells l) w
theorem Txt.gr {B b : Nat} {l : List UInt8} {w u : World} (h : Txt B b l w) (hb : Below w.heap.size w u) : Txt B b l u := bldF_gr h hb
def Wrote (B b : Nat) (l : List UInt8) (w w' : World) : Prop := Txt B b l w' ∧ Below B w w' ∧ Lib.OthersKept 5 (some b) w w'
theorem Txt.lt {B b : Nat} {l : List UInt8} {w : World} (h : Txt B b l w) : b < w.heap.size := by
 rcases h with h | h <;> exact h.lt
theorem txtByte_any {B b : Nat} {l : List UInt8} (c : UInt8) {w : World} (h : Txt B b l w) (hl : l.length + 1 ≤ 140737488355328) (hB : B ≤ w.heap.size) : Calls Tryz.prog 102 #[.pointer (some ⟨b, 0, none⟩), .int .u8 (c.toNat : Int)] w fun e w' => e = .returned .nilIface ∧ Wrote B b (l ++ [c]) w w' := by
 refine (bldByte_any B b (Lib.byteCells l) c.toNat w h (by rw [Lib.byteCells_length]; exact hl) hB).mono ?_
 rintro e w' ⟨rfl, h1, h2, h3⟩
 refine ⟨rfl, .inr ?_, h2, h3⟩
 rw [byteCells_app]; exact h1
theorem txtString_any {B b : Nat} {l : List UInt8} (s : ByteArray) {w : World} (h : Txt B b l w) (hl : l.length + s.data.toList.length ≤ 140737488355328) (hB : B ≤ w.heap.size) : Calls Tryz.prog 101 #[.pointer (some ⟨b, 0, none⟩), .string s] w fun e w' => e = .returned (.tuple #[.int .i64 s.size, .nilIface]) ∧ Wrote B b (l ++ s.data.toList) w w' := by
 refine (bldString_any B b (Lib.byteCells l) s w h (by rw [Lib.byteCells_length]; simpa using hl) hB).mono ?_
 rintro e w' ⟨rfl, h1, h2, h3⟩
 refine ⟨rfl, .inr ?_, h2, h3⟩
 rw [byteCells_app, ← strCells_bytes]; exact h1
def lineTo (key : ByteArray) (ws : List (List UInt8)) (j : Nat) : List UInt8 := key.data.toList ++ (ws.take j).flatMap (fun w => 32 :: wordL w)
theorem lineTo_zero (key : ByteArray) (ws : List (List UInt8)) : lineTo key ws 0 = key.data.toList := by simp [lineTo]
theorem lineTo_succ (key : ByteArray) (ws : List (List UInt8)) (j : Nat) (hj : j < ws.length) : lineTo key ws (j + 1) = lineTo key ws j ++ [32] ++ wordL ws[j] := by
 unfold lineTo
 rw [List.take_succ_eq_append_getElem hj, List.flatMap_append]
 simp
theorem lineTo_all (x : LAt) : lineTo x.key x.ws x.ws.length = lineL x.plain := by
 simp [lineTo, lineL, LAt.plain]
theorem lineTo_le (key : ByteArray) (ws : List (List UInt8)) (j : Nat) : (lineTo key ws j).length ≤ (lineTo key ws ws.length).length := by
 unfold lineTo
 conv => rhs; rw [List.take_length, ← List.take_append_drop j ws, List.flatMap_append]
 simp
theorem Wrote.trans {B b : Nat} {l m : List UInt8} {w u v : World} (h : Wrote B b l w u) (k : Wrote B b m u v) : Wrote B b m w v := ⟨k.1, h.2.1.trans k.2.1, h.2.2.trans k.2.2⟩
theorem Wrote.gr {B b : Nat} {m : List UInt8} {w u v : World} (hB : B ≤ w.heap.size) (h : Below w.heap.size w u) (k : Wrote B b m u v) : Wrote B b m w v := ⟨k.1, (h.mono hB).trans k.2.1, (others_below h).trans k.2.2⟩
set_option maxHeartbeats 4000000 in
set_option maxRecDepth 100000 in
theorem writeLine_any {B b : Nat} {l : List UInt8} {x : LAt} {w0 w : World} (hB : B = w0.heap.size) (hx : LineIn w0 x) (hb : Below B w0 w) (h : Txt B b l w) (hl : l.length + (lineL x.plain).length ≤ 140737488355328) (hn : x.ws.length ≤ 1048576) (hs : ∀ y ∈ x.ws, y.length ≤ 1048576) : Calls Tryz.prog 133 #[.pointer (some ⟨b, 0, none⟩), .agg #[.string x.key, x.v]] w fun e w' => e = .returned (.tuple #[]) ∧ Wrote B b (l ++ lineL x.plain) w w' := by
 obtain ⟨ax, cx, e1⟩ := hx.form
 rw [← lineTo_all] at hl ⊢
 have hx' : HasRow w0 (.slice ax x.ws.length cx) x.ws.length 1 (strs x.ws) := e1 ▸ hx
 rw [e1]
 clear hx e1
 obtain ⟨key, v, ws⟩ := x
 simp only at *
 have hle := hid_in (fun j => Nat.le_trans (Nat.add_le_add_left (lineTo_le key ws j) l.length) hl)
 have hlen : l.length + key.data.toList.length ≤ 140737488355328 := by have := hle.out 0; rw [lineTo_zero] at this; exact this
 have hZ := hid_in (lineTo_zero key ws)
 have hs' := hid_in hs
 generalize hws : ws.length = n at *
 have hN := hid_in hws
 have hX := hid_in hx'
 clear hws hx' hl hs
 have hBw : B ≤ w.heap.size := by rw [hB]; exact hb.size
 have hbq := h.lt
 have hne : some w.heap.size ≠ some b := by intro e; cases e; omega
 have hno : ∀ c fz, (Obj.cells #[.string key, .slice ax n cx] 82) ≠ .cells c 5 fz := by intro c fz e; cases e
 have hbox : (w.alloc (.cells #[.string key, .slice ax n cx] 82)).heap[w.heap.size]? = some (.cells #[.string key, .slice ax n cx] 82) := by unfold World.alloc; simp
 have c0 := one_box (w := w) (cs := #[.string key, .slice ax n cx]) (T := 82) 0
 have gw : Below w.heap.size w (w.alloc (.cells #[.string key, .slice ax n cx] 82)) := (Below.refl w.heap.size w).alloc (Nat.le_refl _) (.cells #[.string key, .slice ax n cx] 82)
 go_enter Tryz.func133, Tryz.ntmps133
 go_upto_region 1 with fail
 generalize hw1 : w.alloc (.cells #[.string key, .slice ax n cx] 82) = w1 at *
 clear hw1
 have k0 := fun p : Gr w1 => gr_cell c0 p
 refine wp_region_last 5 (by kernel_rfl) rfl rfl (by kernel_rfl) ?_
 simp only [List.take_succ_cons, List.take_zero]
 iterate 5 quiet_step (fail)
 refine wpQuiet_nil ?_
 intro p K hK
 go_simp
 have gp : Below w.heap.size w p.u := gw.trans (p.h.mono gw.size)
 have hBp : B ≤ p.u.heap.size := Nat.le_trans hBw gp.size
 refine (txtString_any key (h.gr gp) hlen hBp).mono ?_
 rintro e w2 ⟨rfl, W2⟩
 refine hK _ _ ?_
 have hqp := others_below (e := 5) (b := some b) p.h _ _ hbox hne hno
 have hq2 := W2.2.2 _ _ hqp hne hno
 have d1 : w2.cell? ⟨w.heap.size, 1, none⟩ = some (.slice ax n cx) := by rw [Lib.cell_of_heap hq2]; rfl
 have W := hid_in (Wrote.gr hBw gp W2)
 clear hK K hqp hq2 W2 gp hBp k0 c0 hbox hno hne gw
 go_wp2
 go_loopw [15] (fun i wr => ∃ j : Nat, j ≤ n ∧ i = .int .i64 (j : Int) ∧ Wrote B b (l ++ lineTo key ws j) w wr) (fun i _ => n - (intOf i).toNat)
 case atStart => exact ⟨0, by omega, rfl, by rw [hZ.out]; exact W.out⟩
 case round =>
  obtain ⟨j, hj, rfl, Wj⟩ := hrel
  by_cases hlt : j < n
  ·have hjl : j < ws.length := by rw [hN.out]; exact hlt
   obtain ⟨g, off, rfl, cw⟩ := hX.out.word j hjl
   have cw' : wr.cell? ⟨g, off + j, none⟩ = some (.string ⟨ws[j].toArray⟩) := ((hb.trans Wj.2.1).cell (by rw [hB]; exact World.block_lt_of_cell? w0 _ cw)).trans cw
   have hsj := hs'.out ws[j] (List.getElem_mem hjl)
   have hSj := hid_in (lineTo_succ key ws j hjl)
   have hlj := hle.out (j + 1)
   rw [hSj.out] at hlj
   generalize hy : ws[j] = y at *
   generalize hl1 : lineTo key ws (j + 1) = l1 at *
   generalize lineTo key ws j = l0 at *
   simp only [List.length_append, List.length_singleton] at hlj
   have hBr : B ≤ wr.heap.size := Nat.le_trans hBw Wj.2.1.size
   have HB := txtByte_any (32 : UInt8) Wj.1 (by rw [List.length_append]; omega) hBr
   have i1 : (j : Int) < (n : Int) := by omega
   have i0 : (0 : Int) ≤ (j : Int) := by omega
   clear cw W
   go_wp2_with (go_at_call 102; refine HB.mono ?_)
   rintro e w3 ⟨rfl, W3⟩
   clear HB
   go_upto_region 6 with fail
   have HW := fun q : Gr w3 => implWord_any ⟨y.toArray⟩ q.u (by show y.toArray.size ≤ 1048576; simpa using hsj)
   refine wp_region_last 5 (by kernel_rfl) rfl rfl (by kernel_rfl) ?_
   simp only [List.take_succ_cons, List.take_zero]
   iterate 4 quiet_step (fail)
   quiet_step ((go_at_call 206; refine gr_of (HW _)))
   refine wpQuiet_nil ?_
   intro q K hK
   go_simp
   have hB3 : B ≤ w3.heap.size := Nat.le_trans hBr W3.2.1.size
   refine (txtString_any _ (W3.1.gr q.h) (by simp only [List.length_append, List.length_singleton]; omega) (Nat.le_trans hB3 q.h.size)).mono ?_
   rintro e w4 ⟨rfl, W4⟩
   refine hK _ _ ?_
   clear hK K
   have W5 := hid_in (Wj.trans (W3.trans (Wrote.gr hB3 q.h W4)))
   go_wp2
   go_roundw
   case rel => exact ⟨j + 1, by omega, by go_num, by rw [hl1, hSj.out]; simpa using W5.out⟩
   case measure => simp [intOf]; omega
  ·obtain rfl : j = n := by omega
   have W5 := hid_in Wj
   clear Wj
   go_wp2
   go_end0
   exact ⟨rfl, W5.out⟩
end Go.Proofs.YtpdahhnjhggocabGreatDoor
namespace Go.Proofs.YtpdahhnjhggocabGreatDoor
open Go.RowKit
theorem txtString_to {B b : Nat} {l : List UInt8} (s : ByteArray) {w : World} (h : Txt B b l w) (hl : l.length + s.data.toList.length ≤ 140737488355328) (hB : B ≤ w.heap.size) : ∃ v t, Hid (t = l ++ s.data.toList) ∧ Calls Tryz.prog 101 #[.pointer (some ⟨b, 0, none⟩), .string s] w fun e w' => e = .returned v ∧ Wrote B b t w w' := ⟨_, _, rfl, txtString_any s h hl hB⟩
end Go.Proofs.YtpdahhnjhggocabGreatDoor
namespace Go.Proofs.YtpdahhnjhggocabGreatDoor
open Go.RowKit
abbrev Rbl (B b : Nat) (bs : List Value) (w : World) : Prop := Lib.IsBuilderF 98 5 B b bs w
abbrev RblAt (B b : Nat) (bs : List Value) (w : World) : Prop := Lib.BuilderAtF 98 5 B b (.pointer (some ⟨b, 0, none⟩)) bs w
theorem rblLies : liesAt Tryz.prog Tryz.prog.depth 98 (2 / Tryz.prog.cellsOf 98) 0 98 1 = true := by kernel_rfl
theorem rblSize : (Tryz.prog.info? 98).map (·.size) = some 2 := by kernel_rfl
set_option maxHeartbeats 1000000 in
set_option maxRecDepth 100000 in
theorem rblCheck_any (B b : Nat) (bs : List Value) (w : World) (h : Rbl B b bs w) : Calls Tryz.prog 170 #[.pointer (some ⟨b, 0, none⟩)] w fun e w' => e = .returned (.tuple #[]) ∧ RblAt B b bs w' ∧ Below B w w' ∧ Lib.OthersKept 5 (some b) w w' := by
 obtain ⟨j, hj, hjs⟩ := Option.map_eq_some_iff.1 rblSize
 rcases h with h | h
 ·have h0 := h.cell0
  have hsh := h.shape
  have hfz := h.frozen0
  have hu := hid_in (h.used (.pointer (some ⟨b, 0, none⟩)))
  have hB := h.1
  clear h
  go_enter Tryz.func170, Tryz.ntmps170
  go_wp2
  rw [Lib.run_to_unsafe _ ⟨b, 0, none⟩ Tryz.underlying96 Tryz.underlying164 hj (by rw [hjs]; decide) hsh (Nat.zero_lt_succ 1)]
  simp only [Result.andThen]
  rw [Oper.upon_value]
  go_wp2
  rw [run_callFunc_extern Tryz.func227 (by kernel_rfl) (by kernel_rfl) (by kernel_rfl) (e := Extern.AbiNoEscape.same) (by kernel_rfl)]
  rw [Lib.run_noEscape]
  simp only [Result.andThen]
  rw [Oper.upon_value]
  go_wp2
  rw [Lib.run_from_unsafe _ ⟨b, 0, none⟩ Tryz.underlying164 Tryz.underlying96 hj hsh rblLies]
  simp only [Result.andThen]
  rw [Oper.upon_value]
  go_wp2
  go_end0
  exact ⟨rfl, hu.out, (Below.refl B w).setCell (p := ⟨b, 0, none⟩) hB _, (Lib.OthersKept.refl _ _ w).setCell ⟨b, 0, none⟩ rfl _⟩
 ·have h0 := h.cell0
  have hh := hid_in h
  clear h
  go_enter Tryz.func170, Tryz.ntmps170
  go_wp2
  rw [Lib.run_neq_ptr_same _ _ Tryz.underlying96 hj]
  go_wp2
  go_end0
  exact ⟨rfl, hh.out, Below.refl B _, Lib.OthersKept.refl _ _ _⟩
theorem rblInfo5 : (Tryz.prog.info? 5).map (fun i => (i.zero, i.size, i.bytes)) = some (some (.int .u8 0), 1, 1) := by kernel_rfl
theorem rblCells5 : Tryz.prog.cellsOf 5 = 1 := by kernel_rfl
set_option maxHeartbeats 2000000 in
set_option maxRecDepth 100000 in
theorem rblByte_any (B b : Nat) (bs : List Value) (c : Int) (w : World) (h : Rbl B b bs w) (hlen : bs.length + 1 ≤ 140737488355328) (hBw : B ≤ w.heap.size) : Calls Tryz.prog 102 #[.pointer (some ⟨b, 0, none⟩), .int .u8 c] w fun e w' => e = .returned .nilIface ∧ RblAt B b (bs ++ [.int .u8 c]) w' ∧ Below B w w' ∧ Lib.OthersKept 5 (some b) w w' := by
 obtain ⟨i0, hi, hz0, hz1, hz2⟩ := info_parts rblInfo5
 have H := rblCheck_any B b bs w h
 clear h
 go_enter Tryz.func102, Tryz.ntmps102
 go_wp2_with (go_at_call 170; refine H.mono ?_)
 rintro e w1 ⟨rfl, h1, hb1, hk1⟩
 clear H
 obtain ⟨hB, v, hbk, hown, hne⟩ := h1
 have c0 : w1.cell? ⟨b, 0, none⟩ = some (.pointer (some ⟨b, 0, none⟩)) := by rw [Lib.cell_of_heap hbk]; rfl
 have c1 : w1.cell? ⟨b, 1, none⟩ = some v := by rw [Lib.cell_of_heap hbk]; rfl
 go_wp2_with (at_builtin; refine wpList_append_ownF _ rfl _ _ 93 rfl B 5 i0 (.int .u8 0) 1 1 Tryz.underlying93 hi hz0 hz1 hz2 rfl (by decide) _ _ _ rfl (hown.alloc _) ⟨w1.heap.size, 0, none⟩ 1 1 [.int .u8 c] rfl rfl ?c1 ?c2 ?c3 ?c4 ?c5 ?_)
 case c1 =>
  intro j u hj
  match j, hj with
  | 0, hj => simp at hj; subst hj; simp [Addr.add]
 case c2 => intro u hu; simp at hu; subst hu; rfl
 case c3 => unfold maxLen; omega
 case c4 => omega
 case c5 => have := hb1.size; simp; omega
 intro v' w2 hown' hgrow _
 have hlt : b < w1.heap.size := by
  rcases Nat.lt_or_ge b w1.heap.size with h' | h'
  ·exact h'
  ·simp [Array.getElem?_eq_none h'] at hbk
 have hb2 : w2.heap[b]? = some (.cells #[.pointer (some ⟨b, 0, none⟩), v] 98 (0, 0)) := by
  rw [hgrow.block b (by simp; omega) (fun e => hne e.symm), Lib.alloc_old w1 _ b hlt]
  exact hbk
 have d0 : w2.cell? ⟨b, 0, none⟩ = some (.pointer (some ⟨b, 0, none⟩)) := by rw [Lib.cell_of_heap hb2]; rfl
 have d1 : w2.cell? ⟨b, 1, none⟩ = some v := by rw [Lib.cell_of_heap hb2]; rfl
 have f1 : w2.frozen? ⟨b, 1, none⟩ = false := Lib.frozen_of_heap hb2 1
 obtain ⟨g, cap, rfl⟩ : ∃ g cap, v' = .slice (some ⟨g, 0, none⟩) (bs.length + 1) cap := by
  rcases hown'.2 with ⟨_, h0⟩ | ⟨g, cap, cur, fz, hv, _⟩
  ·omega
  ·exact ⟨g, cap, hv⟩
 go_wp2
 go_ret
 refine ⟨rfl, ?_, ?_, ((hk1.alloc _).grown hgrow (Lib.ownsRowF_kind (hown.alloc _))).setCell ⟨b, 1, none⟩ rfl _⟩
 ·exact Lib.BuilderAtF.put (T := 98) (e := 5) hB hb2 (bs' := bs ++ [.int .u8 c]) (by simpa using hown') (by decide)
 ·exact ((hb1.alloc (by have := hb1.size; omega) _).grown hgrow (by have := hb1.size; simp; omega) (fun k hk => (hown.lt k hk).1)).setCell (p := ⟨b, 1, none⟩) hB _
set_option maxHeartbeats 2000000 in
set_option maxRecDepth 100000 in
theorem rblString_any (B b : Nat) (bs : List Value) (s : ByteArray) (w : World) (h : Rbl B b bs w) (hlen : bs.length + s.size ≤ 140737488355328) (hBw : B ≤ w.heap.size) : Calls Tryz.prog 101 #[.pointer (some ⟨b, 0, none⟩), .string s] w fun e w' => e = .returned (.tuple #[.int .i64 s.size, .nilIface]) ∧ RblAt B b (bs ++ Lib.strCells s) w' ∧ Below B w w' ∧ Lib.OthersKept 5 (some b) w w' := by
 obtain ⟨i0, hi, hz0, hz1, hz2⟩ := info_parts rblInfo5
 have H := rblCheck_any B b bs w h
 clear h
 go_enter Tryz.func101, Tryz.ntmps101
 go_wp2_with (go_at_call 170; refine H.mono ?_)
 rintro e w1 ⟨rfl, h1, hb1, hk1⟩
 clear H
 obtain ⟨hB, v, hbk, hown, hne⟩ := h1
 have c0 : w1.cell? ⟨b, 0, none⟩ = some (.pointer (some ⟨b, 0, none⟩)) := by rw [Lib.cell_of_heap hbk]; rfl
 have c1 : w1.cell? ⟨b, 1, none⟩ = some v := by rw [Lib.cell_of_heap hbk]; rfl
 go_wp2_with (at_builtin; refine Lib.wpList_append_own_stringF _ rfl _ _ 93 9 rfl B 5 i0 Tryz.underlying93 Tryz.underlying9 hi hz0 hz1 hz2 _ _ _ rfl hown s rfl ?c3 ?c4 ?c5 ?_)
 case c3 => unfold maxLen; omega
 case c4 => omega
 case c5 => have := hb1.size; omega
 intro v' w2 hown' hgrow _
 have hlt : b < w1.heap.size := by
  rcases Nat.lt_or_ge b w1.heap.size with h' | h'
  ·exact h'
  ·simp [Array.getElem?_eq_none h'] at hbk
 have hb2 : w2.heap[b]? = some (.cells #[.pointer (some ⟨b, 0, none⟩), v] 98 (0, 0)) := by
  rw [hgrow.block b hlt (fun e => hne e.symm)]
  exact hbk
 have d0 : w2.cell? ⟨b, 0, none⟩ = some (.pointer (some ⟨b, 0, none⟩)) := by rw [Lib.cell_of_heap hb2]; rfl
 have d1 : w2.cell? ⟨b, 1, none⟩ = some v := by rw [Lib.cell_of_heap hb2]; rfl
 have f1 : w2.frozen? ⟨b, 1, none⟩ = false := Lib.frozen_of_heap hb2 1
 obtain ⟨ao, n', cap, rfl⟩ : ∃ ao n' cap, v' = .slice ao n' cap := by
  rcases hown'.2 with ⟨hv, _⟩ | ⟨g, cap, cur, fz, hv, _⟩
  ·exact ⟨_, _, _, hv⟩
  ·exact ⟨_, _, _, hv⟩
 go_wp2
 go_ret2
 refine ⟨rfl, ?_, ?_, (hk1.grown hgrow (Lib.ownsRowF_kind hown)).setCell ⟨b, 1, none⟩ rfl _⟩
 ·exact Lib.BuilderAtF.put (T := 98) (e := 5) hB hb2 (bs' := bs ++ Lib.strCells s) (by simpa [Lib.strCells_length] using hown') (by decide)
 ·exact (hb1.grown hgrow (by have := hb1.size; omega) (fun k hk => (hown.lt k hk).1)).setCell (p := ⟨b, 1, none⟩) hB _
set_option maxHeartbeats 1000000 in
set_option maxRecDepth 100000 in
theorem rblText_any (B b : Nat) (l : List UInt8) (w : World) (h : Rbl B b (Lib.byteCells l) w) (h0 : l ≠ []) : Calls Tryz.prog 67 #[.pointer (some ⟨b, 0, none⟩)] w fun e w' => e = .returned (.string ⟨l.toArray⟩) ∧ Rbl B b (Lib.byteCells l) w' ∧ Below B w w' ∧ Lib.OthersKept 5 (some b) w w' := by
 obtain ⟨p, hp, hAt⟩ : ∃ p, (p = .pointer none ∨ p = .pointer (some ⟨b, 0, none⟩)) ∧ Lib.BuilderAtF 98 5 B b p (Lib.byteCells l) w := by
  rcases h with h | h
  ·exact ⟨_, .inl rfl, h⟩
  ·exact ⟨_, .inr rfl, h⟩
 obtain ⟨hB, v, hbk, hown, hne⟩ := hAt
 have hl0 : l.length ≠ 0 := by simpa using h0
 rw [Lib.byteCells_length] at hown
 obtain ⟨g, cap, cur, fz, rfl, hbg, hg, hfz, hnc, hcm, hcs, htake⟩ : ∃ g cap cur fz, v = .slice (some ⟨g, 0, none⟩) l.length cap ∧ B ≤ g ∧ w.heap[g]? = some (.cells cur 5 fz) ∧ fz.2 ≤ l.length * 1 ∧ l.length ≤ cap ∧ cap ≤ maxLen ∧ cur.size = cap * 1 ∧ cur.toList.take (l.length * 1) = Lib.byteCells l := by
  rcases hown.2 with ⟨_, hz⟩ | ⟨g, cap, cur, fz, hv, r⟩
  ·exact absurd hz hl0
  ·exact ⟨g, cap, cur, fz, hv, r⟩
 have c1 : w.drew.cell? ⟨b, 1, none⟩ = some (.slice (some ⟨g, 0, none⟩) l.length cap) := by
  have : w.drew.heap[b]? = some (.cells #[p, .slice (some ⟨g, 0, none⟩) l.length cap] 98 (0, 0)) := hbk
  rw [Lib.cell_of_heap this]; rfl
 have hSD : (Builtin.unsafeSliceData_ #[93] 198 #[.slice (some ⟨g, 0, none⟩) l.length cap]).run Tryz.prog w.drew = .ok (.pointer (some ⟨g, 0, none⟩)) w.drew :=
  Lib.run_unsafeSliceData_row _ _ _ _ _ _ (by omega)
 have hUS : (Builtin.unsafeString_ #[198, 3] 9 #[.pointer (some ⟨g, 0, none⟩), .int .i64 l.length]).run Tryz.prog w.drew = .ok (.string ⟨l.toArray⟩) (w.drew.freeze ⟨g, 0, none⟩ l.length) := by
  refine Lib.run_unsafeString_row w.drew 198 3 9 5 Tryz.underlying198 rblCells5 g cur.size (by have hg' : w.drew.heap[g]? = some (.cells cur 5 fz) := hg; simp [World.shape?, hg']) l h0 (by omega) (by unfold maxLen at hcm; omega) ?_
  intro j x hx
  have := hown.cells (g := g) rfl j (.int .u8 x.toNat) (by simp [Lib.byteCells, hx])
  exact this
 have hkeep : Rbl B b (Lib.byteCells l) (w.drew.freeze ⟨g, 0, none⟩ l.length) := by
  have hA : Lib.BuilderAtF 98 5 B b p (Lib.byteCells l) w.drew := ⟨hB, _, hbk, by rw [Lib.byteCells_length]; exact hown, hne⟩
  have hF := hA.froze (g := g) (cap := cap) (by rw [Lib.byteCells_length]; exact c1)
  rw [Lib.byteCells_length] at hF
  rcases hp with rfl | rfl
  ·exact .inl hF
  ·exact .inr hF
 have mixed : Tryz.prog.follows .mixedOrders = true := by kernel_rfl
 go_enter Tryz.func67, Tryz.ntmps67
 go_wp2
 go_region_o
 all_goals (go_wp2; go_ret; exact ⟨rfl, hkeep, Lib.below_freeze (Below.drew (Below.refl B w)) (p := ⟨g, 0, none⟩) hbg _, ((Lib.OthersKept.refl _ _ w).drew).freeze ⟨g, 0, none⟩ _ ⟨cur, fz, hg⟩⟩)
def Rtx (B b : Nat) (l : List UInt8) (w : World) : Prop := Rbl B b (Lib.byteCells l) w
theorem Rtx.gr {B b : Nat} {l : List UInt8} {w u : World} (h : Rtx B b l w) (hb : Below w.heap.size w u) : Rtx B b l u := bldF_gr h hb
def Rwt (B b : Nat) (l : List UInt8) (w w' : World) : Prop := Rtx B b l w' ∧ Below B w w' ∧ Lib.OthersKept 5 (some b) w w'
theorem Rtx.lt {B b : Nat} {l : List UInt8} {w : World} (h : Rtx B b l w) : b < w.heap.size := by
 rcases h with h | h <;> exact h.lt
theorem rtxByte_any {B b : Nat} {l : List UInt8} (c : UInt8) {w : World} (h : Rtx B b l w) (hl : l.length + 1 ≤ 140737488355328) (hB : B ≤ w.heap.size) : Calls Tryz.prog 102 #[.pointer (some ⟨b, 0, none⟩), .int .u8 (c.toNat : Int)] w fun e w' => e = .returned .nilIface ∧ Rwt B b (l ++ [c]) w w' := by
 refine (rblByte_any B b (Lib.byteCells l) c.toNat w h (by rw [Lib.byteCells_length]; exact hl) hB).mono ?_
 rintro e w' ⟨rfl, h1, h2, h3⟩
 refine ⟨rfl, .inr ?_, h2, h3⟩
 rw [byteCells_app]; exact h1
theorem rtxString_any {B b : Nat} {l : List UInt8} (s : ByteArray) {w : World} (h : Rtx B b l w) (hl : l.length + s.data.toList.length ≤ 140737488355328) (hB : B ≤ w.heap.size) : Calls Tryz.prog 101 #[.pointer (some ⟨b, 0, none⟩), .string s] w fun e w' => e = .returned (.tuple #[.int .i64 s.size, .nilIface]) ∧ Rwt B b (l ++ s.data.toList) w w' := by
 refine (rblString_any B b (Lib.byteCells l) s w h (by rw [Lib.byteCells_length]; simpa using hl) hB).mono ?_
 rintro e w' ⟨rfl, h1, h2, h3⟩
 refine ⟨rfl, .inr ?_, h2, h3⟩
 rw [byteCells_app, ← strCells_bytes]; exact h1
theorem Rwt.trans {B b : Nat} {l m : List UInt8} {w u v : World} (h : Rwt B b l w u) (k : Rwt B b m u v) : Rwt B b m w v := ⟨k.1, h.2.1.trans k.2.1, h.2.2.trans k.2.2⟩
theorem Rwt.gr {B b : Nat} {m : List UInt8} {w u v : World} (hB : B ≤ w.heap.size) (h : Below w.heap.size w u) (k : Rwt B b m u v) : Rwt B b m w v := ⟨k.1, (h.mono hB).trans k.2.1, (others_below h).trans k.2.2⟩
end Go.Proofs.YtpdahhnjhggocabGreatDoor
