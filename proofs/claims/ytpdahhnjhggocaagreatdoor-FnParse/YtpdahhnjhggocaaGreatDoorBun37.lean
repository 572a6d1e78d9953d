import Derived.Test.YtpdahhnjhggocaaGreatDoorBun33
import Derived.Test.YtpdahhnjhggocaaGreatDoorBun22
import Derived.Test.YtpdahhnjhggocaaGreatDoorBun17
import Derived.Test.YtpdahhnjhggocaaGreatDoorBun14
namespace Go.Proofs.YtpdahhnjhggocaaGreatDoor
open Go.RowKit
theorem others_below {e : TypeId} {b : Option Nat} {w u : World} (h : Below w.heap.size w u) : Lib.OthersKept e b w u := by
  intro k o hk _ _
  have hkl : k < w.heap.size := (Array.getElem?_eq_some_iff.1 hk).1
  rw [h.block k hkl]; exact hk
theorem strCells_bytes (s : ByteArray) : Lib.strCells s = Lib.byteCells s.data.toList := by
  simp [Lib.strCells, Lib.byteCells]
theorem byteCells_app (l m : List UInt8) : Lib.byteCells (l ++ m) = Lib.byteCells l ++ Lib.byteCells m := by
  simp [Lib.byteCells]
def Txt (B b : Nat) (l : List UInt8) (w : World) : Prop := Bld B b (Lib.byteCells l) w
theorem Txt.gr {B b : Nat} {l : List UInt8} {w u : World} (h : Txt B b l w) (hb : Below w.heap.size w u) : Txt B b l u := bldF_gr h hb
def Wrote (B b : Nat) (l : List UInt8) (w w' : World) : Prop := Txt B b l w' ∧ Below B w w' ∧ Lib.OthersKept 5 (some b) w w'
theorem Txt.lt {B b : Nat} {l : List UInt8} {w : World} (h : Txt B b l w) : b < w.heap.size := by
  rcases h with h | h <;> exact h.lt
theorem txtByte_any {B b : Nat} {l : List UInt8} (c : UInt8) {w : World} (h : Txt B b l w) (hl : l.length + 1 ≤ 140737488355328) (hB : B ≤ w.heap.size) : Calls Tryz.prog 102 #[.pointer (some ⟨b, 0, none⟩), .int .u8 (c.toNat : Int)] w fun e w' => e = .returned .nilIface ∧ Wrote B b (l ++ [c]) w w' := by
  refine (bldByte_any B b (Lib.byteCells l) c.toNat w h (by rw [Lib.byteCells_length]; exact hl) hB).mono ?_
  rintro e w' ⟨rfl, h1, h2, h3⟩
  refine ⟨rfl, .inr ?_, h2, h3⟩
  rw [byteCells_app]; exact h1
theorem txtString_any {B b : Nat} {l : List UInt8} (s : ByteArray) {w : World} (h : Txt B b l w) (hl : l.length + s.data.toList.length ≤ 140737488355328) (hB : B ≤ w.heap.size) : Calls Tryz.prog 101 #[.pointer (some ⟨b, 0, none⟩), .string s] w fun e w' => e = .returned (.tuple #[.int .i64 s.size, .nilIface]) ∧ Wrote B b (l ++ s.data.toList) w w' := by
  refine (bldString_any B b (Lib.byteCells l) s w h (by rw [Lib.byteCells_length]; simpa using hl) hB).mono ?_
  rintro e w' ⟨rfl, h1, h2, h3⟩
  refine ⟨rfl, .inr ?_, h2, h3⟩
  rw [byteCells_app, ← strCells_bytes]; exact h1
def lineTo (key : ByteArray) (ws : List (List UInt8)) (j : Nat) : List UInt8 := key.data.toList ++ (ws.take j).flatMap (fun w => 32 :: wordL w)
theorem lineTo_zero (key : ByteArray) (ws : List (List UInt8)) : lineTo key ws 0 = key.data.toList := by simp [lineTo]
theorem lineTo_succ (key : ByteArray) (ws : List (List UInt8)) (j : Nat) (hj : j < ws.length) : lineTo key ws (j + 1) = lineTo key ws j ++ [32] ++ wordL ws[j] := by
  unfold lineTo
  rw [List.take_succ_eq_append_getElem hj, List.flatMap_append]
  simp
theorem lineTo_all (x : LAt) : lineTo x.key x.ws x.ws.length = lineL x.plain := by
  simp [lineTo, lineL, LAt.plain]
theorem lineTo_le (key : ByteArray) (ws : List (List UInt8)) (j : Nat) : (lineTo key ws j).length ≤ (lineTo key ws ws.length).length := by
  unfold lineTo
  conv => rhs; rw [List.take_length, ← List.take_append_drop j ws, List.flatMap_append]
  simp
theorem Wrote.trans {B b : Nat} {l m : List UInt8} {w u v : World} (h : Wrote B b l w u) (k : Wrote B b m u v) : Wrote B b m w v := ⟨k.1, h.2.1.trans k.2.1, h.2.2.trans k.2.2⟩
theorem Wrote.gr {B b : Nat} {m : List UInt8} {w u v : World} (hB : B ≤ w.heap.size) (h : Below w.heap.size w u) (k : Wrote B b m u v) : Wrote B b m w v := ⟨k.1, (h.mono hB).trans k.2.1, (others_below h).trans k.2.2⟩
set_option maxHeartbeats 4000000 in
set_option maxRecDepth 100000 in
theorem writeLine_any {B b : Nat} {l : List UInt8} {x : LAt} {w0 w : World} (hB : B = w0.heap.size) (hx : LineIn w0 x) (hb : Below B w0 w) (h : Txt B b l w) (hl : l.length + (lineL x.plain).length ≤ 140737488355328) (hn : x.ws.length ≤ 1048576) (hs : ∀ y ∈ x.ws, y.length ≤ 1048576) : Calls Tryz.prog 137 #[.pointer (some ⟨b, 0, none⟩), .agg #[.string x.key, x.v]] w fun e w' => e = .returned (.tuple #[]) ∧ Wrote B b (l ++ lineL x.plain) w w' := by
  obtain ⟨ax, cx, e1⟩ := hx.form
  rw [← lineTo_all] at hl ⊢
  have hx' : HasRow w0 (.slice ax x.ws.length cx) x.ws.length 1 (strs x.ws) := e1 ▸ hx
  rw [e1]
  clear hx e1
  obtain ⟨key, v, ws⟩ := x
  simp only at *
  have hle := hid_in (fun j => Nat.le_trans (Nat.add_le_add_left (lineTo_le key ws j) l.length) hl)
  have hlen : l.length + key.data.toList.length ≤ 140737488355328 := by have := hle.out 0; rw [lineTo_zero] at this; exact this
  have hZ := hid_in (lineTo_zero key ws)
  have hs' := hid_in hs
  generalize hws : ws.length = n at *
  have hN := hid_in hws
  have hX := hid_in hx'
  clear hws hx' hl hs
  have hBw : B ≤ w.heap.size := by rw [hB]; exact hb.size
  have hbq := h.lt
  have hne : some w.heap.size ≠ some b := by intro e; cases e; omega
  have hno : ∀ c fz, (Obj.cells #[.string key, .slice ax n cx] 115) ≠ .cells c 5 fz := by intro c fz e; cases e
  have hbox : (w.alloc (.cells #[.string key, .slice ax n cx] 115)).heap[w.heap.size]? = some (.cells #[.string key, .slice ax n cx] 115) := by unfold World.alloc; simp
  have c0 := one_box (w := w) (cs := #[.string key, .slice ax n cx]) (T := 115) 0
  have gw : Below w.heap.size w (w.alloc (.cells #[.string key, .slice ax n cx] 115)) := (Below.refl w.heap.size w).alloc (Nat.le_refl _) (.cells #[.string key, .slice ax n cx] 115)
  go_enter Tryz.func137, Tryz.ntmps137
  go_upto_region 1 with fail
  generalize hw1 : w.alloc (.cells #[.string key, .slice ax n cx] 115) = w1 at *
  clear hw1
  have k0 := fun p : Gr w1 => gr_cell c0 p
  refine wp_region_last 5 (by kernel_rfl) rfl rfl (by kernel_rfl) ?_
  simp only [List.take_succ_cons, List.take_zero]
  iterate 5 quiet_step (fail)
  refine wpQuiet_nil ?_
  intro p K hK
  go_simp
  have gp : Below w.heap.size w p.u := gw.trans (p.h.mono gw.size)
  have hBp : B ≤ p.u.heap.size := Nat.le_trans hBw gp.size
  refine (txtString_any key (h.gr gp) hlen hBp).mono ?_
  rintro e w2 ⟨rfl, W2⟩
  refine hK _ _ ?_
  have hqp := others_below (e := 5) (b := some b) p.h _ _ hbox hne hno
  have hq2 := W2.2.2 _ _ hqp hne hno
  have d1 : w2.cell? ⟨w.heap.size, 1, none⟩ = some (.slice ax n cx) := by rw [Lib.cell_of_heap hq2]; rfl
  have W := hid_in (Wrote.gr hBw gp W2)
  clear hK K hqp hq2 W2 gp hBp k0 c0 hbox hno hne gw
  go_wp2
  go_loopw [15] (fun i wr => ∃ j : Nat, j ≤ n ∧ i = .int .i64 (j : Int) ∧ Wrote B b (l ++ lineTo key ws j) w wr) (fun i _ => n - (intOf i).toNat)
  case atStart => exact ⟨0, by omega, rfl, by rw [hZ.out]; exact W.out⟩
  case round =>
    obtain ⟨j, hj, rfl, Wj⟩ := hrel
    by_cases hlt : j < n
    · have hjl : j < ws.length := by rw [hN.out]; exact hlt
      obtain ⟨g, off, rfl, cw⟩ := hX.out.word j hjl
      have cw' : wr.cell? ⟨g, off + j, none⟩ = some (.string ⟨ws[j].toArray⟩) := ((hb.trans Wj.2.1).cell (by rw [hB]; exact World.block_lt_of_cell? w0 _ cw)).trans cw
      have hsj := hs'.out ws[j] (List.getElem_mem hjl)
      have hSj := hid_in (lineTo_succ key ws j hjl)
      have hlj := hle.out (j + 1)
      rw [hSj.out] at hlj
      generalize hy : ws[j] = y at *
      generalize hl1 : lineTo key ws (j + 1) = l1 at *
      generalize lineTo key ws j = l0 at *
      simp only [List.length_append, List.length_singleton] at hlj
      have hBr : B ≤ wr.heap.size := Nat.le_trans hBw Wj.2.1.size
      have HB := txtByte_any (32 : UInt8) Wj.1 (by rw [List.length_append]; omega) hBr
      have i1 : (j : Int) < (n : Int) := by omega
      have i0 : (0 : Int) ≤ (j : Int) := by omega
      clear cw W
      go_wp2_with (go_at_call 102; refine HB.mono ?_)
      rintro e w3 ⟨rfl, W3⟩
      clear HB
      go_upto_region 6 with fail
      have HW := fun q : Gr w3 => implWord_any ⟨y.toArray⟩ q.u (by show y.toArray.size ≤ 1048576; simpa using hsj)
      refine wp_region_last 5 (by kernel_rfl) rfl rfl (by kernel_rfl) ?_
      simp only [List.take_succ_cons, List.take_zero]
      iterate 4 quiet_step (fail)
      quiet_step ((go_at_call 181; refine gr_of (HW _)))
      refine wpQuiet_nil ?_
      intro q K hK
      go_simp
      have hB3 : B ≤ w3.heap.size := Nat.le_trans hBr W3.2.1.size
      refine (txtString_any _ (W3.1.gr q.h) (by simp only [List.length_append, List.length_singleton]; omega) (Nat.le_trans hB3 q.h.size)).mono ?_
      rintro e w4 ⟨rfl, W4⟩
      refine hK _ _ ?_
      clear hK K
      have W5 := hid_in (Wj.trans (W3.trans (Wrote.gr hB3 q.h W4)))
      go_wp2
      go_roundw
      case rel => exact ⟨j + 1, by omega, by go_num, by rw [hl1, hSj.out]; simpa using W5.out⟩
      case measure => simp [intOf]; omega
    · obtain rfl : j = n := by omega
      have W5 := hid_in Wj
      clear Wj
      go_wp2
      go_end0
      exact ⟨rfl, W5.out⟩
end Go.Proofs.YtpdahhnjhggocaaGreatDoor
namespace Go.Proofs.YtpdahhnjhggocaaGreatDoor
open Go.RowKit
def blockTo (b : PBlock) (j : Nat) : List UInt8 := headL b ++ 10 :: (b.lines.take j).flatMap (fun a => 32 :: 32 :: lineL a ++ [10])
theorem blockTo_zero (b : PBlock) : blockTo b 0 = headL b ++ [10] := by simp [blockTo]
theorem blockTo_succ (b : PBlock) (j : Nat) (a : PLine) (hj : b.lines[j]? = some a) : blockTo b (j + 1) = blockTo b j ++ [32, 32] ++ lineL a ++ [10] := by
  unfold blockTo
  rw [List.take_add_one, hj]
  simp
theorem blockTo_all (b : PBlock) : blockTo b b.lines.length ++ [101, 110, 100, 10] = blockL b := by
  simp [blockTo, blockL]
theorem blockTo_le (b : PBlock) (j : Nat) : (blockTo b j).length + 4 ≤ (blockL b).length := by
  rw [← blockTo_all]
  unfold blockTo
  conv => rhs; rw [List.take_length, ← List.take_append_drop j b.lines, List.flatMap_append]
  simp
  omega
theorem txtString_to {B b : Nat} {l : List UInt8} (s : ByteArray) {w : World} (h : Txt B b l w) (hl : l.length + s.data.toList.length ≤ 140737488355328) (hB : B ≤ w.heap.size) : ∃ v t, Hid (t = l ++ s.data.toList) ∧ Calls Tryz.prog 101 #[.pointer (some ⟨b, 0, none⟩), .string s] w fun e w' => e = .returned v ∧ Wrote B b t w w' := ⟨_, _, rfl, txtString_any s h hl hB⟩
set_option maxHeartbeats 4000000 in
set_option maxRecDepth 100000 in
theorem writeBlock_any {B b : Nat} {l : List UInt8} {x : BAt} {w0 w : World} (hB : B = w0.heap.size) (hx : BlockIn w0 x) (hb : Below B w0 w) (h : Txt B b l w) (hl : l.length + (blockL x.plain).length ≤ 140737488355328) (hs : LinesSmall x.ls) : Calls Tryz.prog 69 #[.pointer (some ⟨b, 0, none⟩), .agg #[.string x.kind, .string x.name, x.v]] w fun e w' => e = .returned (.tuple #[]) ∧ Wrote B b (l ++ blockL x.plain) w w' := by
  obtain ⟨ax, cx, e1⟩ := hx.1.form
  have hX := hid_in (show LinesIn w0 (.slice ax x.ls.length cx) x.ls from e1 ▸ hx)
  rw [e1]
  clear hx e1
  obtain ⟨kind, name, v, ls⟩ := x
  simp only at *
  have hle := hid_in (fun j => Nat.le_trans (Nat.add_le_add_left (blockTo_le (BAt.plain ⟨kind, name, v, ls⟩) j) l.length) hl)
  have hA := hid_in (blockTo_all (BAt.plain ⟨kind, name, v, ls⟩))
  have hZ := hid_in (blockTo_zero (BAt.plain ⟨kind, name, v, ls⟩))
  have hZ0 := hle.out 0
  rw [hZ.out] at hZ0
  have hP := hid_in (show (BAt.plain ⟨kind, name, v, ls⟩).lines = ls.map LAt.plain from rfl)
  have hH := hid_in (show headL (BAt.plain ⟨kind, name, v, ls⟩) = kind.data.toList ++ 32 :: name.data.toList from rfl)
  generalize BAt.plain ⟨kind, name, v, ls⟩ = pb at *
  have hs' := hid_in hs
  have hn := hs.1
  generalize hls : ls.length = n at *
  have hN := hid_in hls
  clear hls hl hs
  have hBw : B ≤ w.heap.size := by rw [hB]; exact hb.size
  have hbq := h.lt
  replace hB := hid_in hB
  have hne : some w.heap.size ≠ some b := by intro e; cases e; omega
  have hno : ∀ c fz, (Obj.cells #[.string kind, .string name, .slice ax n cx] 46) ≠ .cells c 5 fz := by intro c fz e; cases e
  have hbox : (w.alloc (.cells #[.string kind, .string name, .slice ax n cx] 46)).heap[w.heap.size]? = some (.cells #[.string kind, .string name, .slice ax n cx] 46) := by unfold World.alloc; simp
  have c0 := one_box (w := w) (cs := #[.string kind, .string name, .slice ax n cx]) (T := 46) 0
  have c1 := one_box (w := w) (cs := #[.string kind, .string name, .slice ax n cx]) (T := 46) 1
  have gw : Below w.heap.size w (w.alloc (.cells #[.string kind, .string name, .slice ax n cx] 46)) := (Below.refl w.heap.size w).alloc (Nat.le_refl _) (.cells #[.string kind, .string name, .slice ax n cx] 46)
  have hks : kind.size + 1 + name.size + 1 ≤ 140737488355328 := by
    rw [hH.out] at hZ0
    simp at hZ0
    omega
  have f1 : ¬ 9223372036854775807 < kind.size + 1 := by omega
  have f2 : ¬ 9223372036854775807 < kind.size + 1 + name.size := by omega
  have f3 : ¬ 9223372036854775807 < kind.size + 1 + name.size + 1 := by omega
  go_enter Tryz.func69, Tryz.ntmps69
  go_upto_region 1 with fail
  generalize hw1 : w.alloc (.cells #[.string kind, .string name, .slice ax n cx] 46) = w1 at *
  clear hw1
  have k0 := fun p : Gr w1 => gr_cell c0 p
  have k1 := fun p : Gr w1 => gr_cell c1 p
  refine wp_region_last 10 (by kernel_rfl) rfl rfl (by kernel_rfl) ?_
  simp only [List.take_succ_cons, List.take_zero]
  iterate 10 quiet_step (fail)
  refine wpQuiet_nil ?_
  intro p K hK
  go_simp
  have gp : Below w.heap.size w p.u := gw.trans (p.h.mono gw.size)
  have hBp : B ≤ p.u.heap.size := Nat.le_trans hBw gp.size
  have hhd : (kind ++ ⟨#[32]⟩ ++ name ++ ⟨#[10]⟩ : ByteArray).data.toList = headL pb ++ [10] := by rw [hH.out]; simp
  generalize (kind ++ ⟨#[32]⟩ ++ name ++ ⟨#[10]⟩ : ByteArray) = hd at *
  refine (txtString_any _ (h.gr gp) (by rw [hhd]; omega) hBp).mono ?_
  rintro e w2 ⟨rfl, W2⟩
  refine hK _ _ ?_
  have hqp := others_below (e := 5) (b := some b) p.h _ _ hbox hne hno
  have hq2 := W2.2.2 _ _ hqp hne hno
  have d1 : w2.cell? ⟨w.heap.size, 2, none⟩ = some (.slice ax n cx) := by rw [Lib.cell_of_heap hq2]; rfl
  have W := hid_in (Wrote.gr hBw gp W2)
  rw [hhd, ← hZ.out] at W
  clear hK K hqp hq2 W2 gp hBp k0 k1 c0 c1 hbox hno hne gw hhd f1 f2 f3 hks hZ0
  go_wp2
  go_loopw [20] (fun i wr => ∃ j : Nat, j ≤ n ∧ i = .int .i64 (j : Int) ∧ Wrote B b (l ++ blockTo pb j) w wr) (fun i _ => n - (intOf i).toNat)
  case atStart => exact ⟨0, by omega, rfl, W.out⟩
  case round =>
    obtain ⟨j, hj, rfl, Wj⟩ := hrel
    by_cases hlt : j < n
    · obtain ⟨D, y, T, e0, hD⟩ := split1 ls j (by have := hN.out; omega)
      have hX6 := hX.out
      rw [e0] at hX6
      obtain ⟨g, off, rfl, c3, c4⟩ := hX6.1.line
      have hym : y ∈ ls := by rw [e0]; simp
      obtain ⟨ay, cy, e2⟩ := (hX.out.2 y hym).form
      rw [hD] at c3 c4
      rw [e2] at c4
      have hbr := hb.trans Wj.2.1
      have c3' := (hbr.cell (by rw [hB.out]; exact World.block_lt_of_cell? w0 _ c3)).trans c3
      have c4' := (hbr.cell (by rw [hB.out]; exact World.block_lt_of_cell? w0 _ c4)).trans c4
      have hPx : pb.lines[j]? = some y.plain := by rw [hP.out, e0, ← hD]; simp
      have hSj := hid_in (blockTo_succ pb j y.plain hPx)
      have hlj := hle.out (j + 1)
      rw [hSj.out] at hlj
      generalize hl1 : blockTo pb (j + 1) = l1 at *
      generalize blockTo pb j = l0 at *
      simp only [List.length_append, List.length_singleton] at hlj
      have hBr : B ≤ wr.heap.size := Nat.le_trans hBw Wj.2.1.size
      have i1 : (j : Int) < (n : Int) := by omega
      have i0 : (0 : Int) ≤ (j : Int) := by omega
      have hys := hs'.out.2 y hym
      have HLine := fun (W : World) (t : List UInt8) (hbW : Below B w0 W) (hT : Txt B b t W) ht => writeLine_any hB.out (hX.out.2 y hym) hbW hT ht hys.1 hys.2
      rw [e2] at HLine
      have HL := hid_in HLine
      clear c3 c4 W HLine hX6 e2
      generalize y.ws.length = ny at *
      generalize y.key = yk at *
      have ga : Below wr.heap.size wr (wr.alloc (.cells #[.string yk, .slice ay ny cy] 115)) := (Below.refl wr.heap.size wr).alloc (Nat.le_refl _) _
      have hbl : (wr.alloc (.cells #[.string yk, .slice ay ny cy] 115)).heap[wr.heap.size]? = some (.cells #[.string yk, .slice ay ny cy] 115) := by unfold World.alloc; simp
      have hbq' := Wj.1.lt
      have hne : some wr.heap.size ≠ some b := by intro e; cases e; omega
      have hno : ∀ c fz, (Obj.cells #[.string yk, .slice ay ny cy] 115) ≠ .cells c 5 fz := by intro c fz e; cases e
      obtain ⟨v1, t1, ht1, H1⟩ := txtString_to ⟨#[32, 32]⟩ (Wj.1.gr ga) (by show (l ++ l0).length + 2 ≤ _; rw [List.length_append]; omega) (Nat.le_trans hBr ga.size)
      go_wp2_with (go_at_call 101; refine H1.mono ?_)
      first | rintro e w3 rfl W3 | rintro e w3 ⟨rfl, W3⟩
      have hq3 := W3.2.2 _ _ hbl hne hno
      have d3 : w3.cell? ⟨wr.heap.size, 0, none⟩ = some (.string yk) := by rw [Lib.cell_of_heap hq3]; rfl
      have d4 : w3.cell? ⟨wr.heap.size, 1, none⟩ = some (.slice ay ny cy) := by rw [Lib.cell_of_heap hq3]; rfl
      have W3' := Wj.trans (Wrote.gr hBr ga W3)
      have H2 := HL.out w3 _ (hb.trans W3'.2.1) W3.1 (by rw [ht1.out]; show (l ++ l0 ++ [32, 32]).length + _ ≤ _; simp only [List.length_append, List.length_cons, List.length_nil] at hlj ⊢; omega)
      clear H1 hbl hne hno hq3 W3 ga hbq'
      go_wp2_with (go_at_call 137; refine H2.mono ?_)
      first | rintro e w4 rfl W4 | rintro e w4 ⟨rfl, W4⟩
      have W4' := W3'.trans W4
      have H3 := txtByte_any (10 : UInt8) W4.1 (by rw [ht1.out]; show (l ++ l0 ++ [32, 32] ++ _).length + _ ≤ _; simp only [List.length_append, List.length_cons, List.length_nil] at hlj ⊢; omega) (Nat.le_trans hBw W4'.2.1.size)
      clear H2 W4
      go_wp2_with (go_at_call 102; refine H3.mono ?_)
      first | rintro e w5 rfl W5 | rintro e w5 ⟨rfl, W5⟩
      have W5' := hid_in (W4'.trans W5)
      clear H3 W5 W4' W3'
      go_wp2
      go_roundw
      case rel => exact ⟨j + 1, by omega, by go_num, by rw [hl1, hSj.out]; have := W5'.out; rw [ht1.out] at this; simpa using this⟩
      case measure => simp [intOf]; omega
    · obtain rfl : j = n := by omega
      have hlj := hle.out j
      have hPn := hid_in (show pb.lines.length = j by rw [hP.out, List.length_map, hN.out])
      obtain ⟨v1, t1, ht1, H1⟩ := txtString_to ⟨#[101, 110, 100, 10]⟩ Wj.1 (by show (l ++ blockTo pb j).length + 4 ≤ _; rw [List.length_append]; omega) (Nat.le_trans hBw Wj.2.1.size)
      clear W
      go_wp2_with (go_at_call 101; refine H1.mono ?_)
      first | rintro e w3 rfl W3 | rintro e w3 ⟨rfl, W3⟩
      have W5 := hid_in (Wj.trans W3)
      clear Wj W3 H1
      go_wp2
      go_end0
      refine ⟨rfl, ?_⟩
      have := W5.out
      rw [ht1.out] at this
      rw [← hA.out, hPn.out, ← List.append_assoc]
      exact this
end Go.Proofs.YtpdahhnjhggocaaGreatDoor
