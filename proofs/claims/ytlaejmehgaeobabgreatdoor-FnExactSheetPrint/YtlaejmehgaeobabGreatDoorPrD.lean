import Derived.Test.YtlaejmehgaeobabGreatDoorPrC
import Derived.Test.YtlaejmehgaeobabGreatDoorLast
import Derived.Test.YtlaejmehgaeobabGreatDoorPrintP
import Derived.Test.YtlaejmehgaeobabGreatDoorWordImpl
namespace Go.Proofs.YtlaejmehgaeobabGreatDoor
open Go.RowKit
theorem others_below {e : TypeId} {b : Option Nat} {w u : World} (h : Below w.heap.size w u) : Lib.OthersKept e b w u := by
  intro k o hk _ _
  have hkl : k < w.heap.size := (Array.getElem?_eq_some_iff.1 hk).1
  rw [h.block k hkl]; exact hk
theorem strCells_bytes (s : ByteArray) : Lib.strCells s = Lib.byteCells s.data.toList := by
  simp [Lib.strCells, Lib.byteCells]
theorem byteCells_app (l m : List UInt8) : Lib.byteCells (l ++ m) = Lib.byteCells l ++ Lib.byteCells m := by
  simp [Lib.byteCells]
/-- A text as it is built. -/
def Txt (B b : Nat) (l : List UInt8) (w : World) : Prop := Bld B b (Lib.byteCells l) w
theorem Txt.gr {B b : Nat} {l : List UInt8} {w u : World} (h : Txt B b l w) (hb : Below w.heap.size w u) : Txt B b l u := bldF_gr h hb
/-- What a write leaves. -/
def Wrote (B b : Nat) (l : List UInt8) (w w' : World) : Prop := Txt B b l w' ∧ Below B w w' ∧ Lib.OthersKept 5 (some b) w w'
theorem Txt.lt {B b : Nat} {l : List UInt8} {w : World} (h : Txt B b l w) : b < w.heap.size := by
  rcases h with h | h <;> exact h.lt
theorem txtByte_any {B b : Nat} {l : List UInt8} (c : UInt8) {w : World} (h : Txt B b l w) (hl : l.length + 1 ≤ 140737488355328) (hB : B ≤ w.heap.size) : Calls Tryz.prog 78 #[.pointer (some ⟨b, 0, none⟩), .int .u8 (c.toNat : Int)] w fun e w' => e = .returned .nilIface ∧ Wrote B b (l ++ [c]) w w' := by
  refine (bldByte_any B b (Lib.byteCells l) c.toNat w h (by rw [Lib.byteCells_length]; exact hl) hB).mono ?_
  rintro e w' ⟨rfl, h1, h2, h3⟩
  refine ⟨rfl, .inr ?_, h2, h3⟩
  rw [byteCells_app]; exact h1
theorem txtString_any {B b : Nat} {l : List UInt8} (s : ByteArray) {w : World} (h : Txt B b l w) (hl : l.length + s.data.toList.length ≤ 140737488355328) (hB : B ≤ w.heap.size) : Calls Tryz.prog 76 #[.pointer (some ⟨b, 0, none⟩), .string s] w fun e w' => e = .returned (.tuple #[.int .i64 s.size, .nilIface]) ∧ Wrote B b (l ++ s.data.toList) w w' := by
  refine (bldString_any B b (Lib.byteCells l) s w h (by rw [Lib.byteCells_length]; simpa using hl) hB).mono ?_
  rintro e w' ⟨rfl, h1, h2, h3⟩
  refine ⟨rfl, .inr ?_, h2, h3⟩
  rw [byteCells_app, ← strCells_bytes]; exact h1
def lineTo (key : ByteArray) (ws : List (List UInt8)) (j : Nat) : List UInt8 := key.data.toList ++ (ws.take j).flatMap (fun w => 32 :: wordL w)
theorem lineTo_zero (key : ByteArray) (ws : List (List UInt8)) : lineTo key ws 0 = key.data.toList := by simp [lineTo]
theorem lineTo_succ (key : ByteArray) (ws : List (List UInt8)) (j : Nat) (hj : j < ws.length) : lineTo key ws (j + 1) = lineTo key ws j ++ [32] ++ wordL ws[j] := by
  unfold lineTo
  rw [List.take_succ_eq_append_getElem hj, List.flatMap_append]
  simp
theorem lineTo_all (x : LAt) : lineTo x.key x.ws x.ws.length = lineL x.plain := by
  simp [lineTo, lineL, LAt.plain]
theorem lineTo_le (key : ByteArray) (ws : List (List UInt8)) (j : Nat) : (lineTo key ws j).length ≤ (lineTo key ws ws.length).length := by
  unfold lineTo
  conv => rhs; rw [List.take_length, ← List.take_append_drop j ws, List.flatMap_append]
  simp
theorem Wrote.trans {B b : Nat} {l m : List UInt8} {w u v : World} (h : Wrote B b l w u) (k : Wrote B b m u v) : Wrote B b m w v := ⟨k.1, h.2.1.trans k.2.1, h.2.2.trans k.2.2⟩
theorem Wrote.gr {B b : Nat} {m : List UInt8} {w u v : World} (hB : B ≤ w.heap.size) (h : Below w.heap.size w u) (k : Wrote B b m u v) : Wrote B b m w v := ⟨k.1, (h.mono hB).trans k.2.1, (others_below h).trans k.2.2⟩
set_option maxHeartbeats 4000000 in
set_option maxRecDepth 100000 in
theorem writeLine_any {B b : Nat} {l : List UInt8} {x : LAt} {w0 w : World} (hB : B = w0.heap.size) (hx : LineIn w0 x) (hb : Below B w0 w) (h : Txt B b l w) (hl : l.length + (lineL x.plain).length ≤ 140737488355328) (hn : x.ws.length ≤ 1048576) (hs : ∀ y ∈ x.ws, y.length ≤ 1048576) : Calls Tryz.prog 77 #[.pointer (some ⟨b, 0, none⟩), .agg #[.string x.key, x.v]] w fun e w' => e = .returned (.tuple #[]) ∧ Wrote B b (l ++ lineL x.plain) w w' := by
  obtain ⟨ax, cx, e1⟩ := hx.form
  rw [← lineTo_all] at hl ⊢
  have hx' : HasRow w0 (.slice ax x.ws.length cx) x.ws.length 1 (strs x.ws) := e1 ▸ hx
  rw [e1]
  clear hx e1
  obtain ⟨key, v, ws⟩ := x
  simp only at *
  have hle := hid_in (fun j => Nat.le_trans (Nat.add_le_add_left (lineTo_le key ws j) l.length) hl)
  have hlen : l.length + key.data.toList.length ≤ 140737488355328 := by have := hle.out 0; rw [lineTo_zero] at this; exact this
  have hZ := hid_in (lineTo_zero key ws)
  have hs' := hid_in hs
  generalize hws : ws.length = n at *
  have hN := hid_in hws
  have hX := hid_in hx'
  clear hws hx' hl hs
  have hBw : B ≤ w.heap.size := by rw [hB]; exact hb.size
  have hbq := h.lt
  have hne : some w.heap.size ≠ some b := by intro e; cases e; omega
  have hno : ∀ c fz, (Obj.cells #[.string key, .slice ax n cx] 63) ≠ .cells c 5 fz := by intro c fz e; cases e
  have hbox : (w.alloc (.cells #[.string key, .slice ax n cx] 63)).heap[w.heap.size]? = some (.cells #[.string key, .slice ax n cx] 63) := by unfold World.alloc; simp
  have c0 := one_box (w := w) (cs := #[.string key, .slice ax n cx]) (T := 63) 0
  have gw : Below w.heap.size w (w.alloc (.cells #[.string key, .slice ax n cx] 63)) := (Below.refl w.heap.size w).alloc (Nat.le_refl _) (.cells #[.string key, .slice ax n cx] 63)
  go_enter Tryz.func77, Tryz.ntmps77
  go_upto_region 1 with fail
  generalize hw1 : w.alloc (.cells #[.string key, .slice ax n cx] 63) = w1 at *
  clear hw1
  have k0 := fun p : Gr w1 => gr_cell c0 p
  refine wp_region_last 5 (by kernel_rfl) rfl rfl (by kernel_rfl) ?_
  simp only [List.take_succ_cons, List.take_zero]
  iterate 5 quiet_step (fail)
  refine wpQuiet_nil ?_
  intro p K hK
  go_simp
  have gp : Below w.heap.size w p.u := gw.trans (p.h.mono gw.size)
  have hBp : B ≤ p.u.heap.size := Nat.le_trans hBw gp.size
  refine (txtString_any key (h.gr gp) hlen hBp).mono ?_
  rintro e w2 ⟨rfl, W2⟩
  refine hK _ _ ?_
  have hqp := others_below (e := 5) (b := some b) p.h _ _ hbox hne hno
  have hq2 := W2.2.2 _ _ hqp hne hno
  have d1 : w2.cell? ⟨w.heap.size, 1, none⟩ = some (.slice ax n cx) := by rw [Lib.cell_of_heap hq2]; rfl
  have W := hid_in (Wrote.gr hBw gp W2)
  clear hK K hqp hq2 W2 gp hBp k0 c0 hbox hno hne gw
  go_wp2
  go_loopw [15] (fun i wr => ∃ j : Nat, j ≤ n ∧ i = .int .i64 (j : Int) ∧ Wrote B b (l ++ lineTo key ws j) w wr) (fun i _ => n - (intOf i).toNat)
  case atStart => exact ⟨0, by omega, rfl, by rw [hZ.out]; exact W.out⟩
  case round =>
    obtain ⟨j, hj, rfl, Wj⟩ := hrel
    by_cases hlt : j < n
    · have hjl : j < ws.length := by rw [hN.out]; exact hlt
      obtain ⟨g, off, rfl, cw⟩ := hX.out.word j hjl
      have cw' : wr.cell? ⟨g, off + j, none⟩ = some (.string ⟨ws[j].toArray⟩) := ((hb.trans Wj.2.1).cell (by rw [hB]; exact World.block_lt_of_cell? w0 _ cw)).trans cw
      have hsj := hs'.out ws[j] (List.getElem_mem hjl)
      have hSj := hid_in (lineTo_succ key ws j hjl)
      have hlj := hle.out (j + 1)
      rw [hSj.out] at hlj
      generalize hy : ws[j] = y at *
      generalize hl1 : lineTo key ws (j + 1) = l1 at *
      generalize lineTo key ws j = l0 at *
      simp only [List.length_append, List.length_singleton] at hlj
      have hBr : B ≤ wr.heap.size := Nat.le_trans hBw Wj.2.1.size
      have HB := txtByte_any (32 : UInt8) Wj.1 (by rw [List.length_append]; omega) hBr
      have i1 : (j : Int) < (n : Int) := by omega
      have i0 : (0 : Int) ≤ (j : Int) := by omega
      clear cw W
      go_wp2_with (go_at_call 78; refine HB.mono ?_)
      rintro e w3 ⟨rfl, W3⟩
      clear HB
      go_upto_region 6 with fail
      have HW := fun q : Gr w3 => implWord_any ⟨y.toArray⟩ q.u (by show y.toArray.size ≤ 1048576; simpa using hsj)
      refine wp_region_last 5 (by kernel_rfl) rfl rfl (by kernel_rfl) ?_
      simp only [List.take_succ_cons, List.take_zero]
      iterate 4 quiet_step (fail)
      quiet_step ((go_at_call 127; refine gr_of (HW _)))
      refine wpQuiet_nil ?_
      intro q K hK
      go_simp
      have hB3 : B ≤ w3.heap.size := Nat.le_trans hBr W3.2.1.size
      refine (txtString_any _ (W3.1.gr q.h) (by simp only [List.length_append, List.length_singleton]; omega) (Nat.le_trans hB3 q.h.size)).mono ?_
      rintro e w4 ⟨rfl, W4⟩
      refine hK _ _ ?_
      clear hK K
      have W5 := hid_in (Wj.trans (W3.trans (Wrote.gr hB3 q.h W4)))
      go_wp2
      go_roundw
      case rel => exact ⟨j + 1, by omega, by go_num, by rw [hl1, hSj.out]; simpa using W5.out⟩
      case measure => simp [intOf]; omega
    · obtain rfl : j = n := by omega
      have W5 := hid_in Wj
      clear Wj
      go_wp2
      go_end0
      exact ⟨rfl, W5.out⟩
end Go.Proofs.YtlaejmehgaeobabGreatDoor
