import Derived.Test.YtpdahhnjhggocabGreatDoorBun35
import Derived.Test.YtpdahhnjhggocabGreatDoorBun30
import Derived.Test.YtpdahhnjhggocabGreatDoorBun29
import Derived.Test.YtpdahhnjhggocabGreatDoorBun28
import Derived.Test.YtpdahhnjhggocabGreatDoorBun27
import Derived.Test.YtpdahhnjhggocabGreatDoorBun26
import Derived.Test.YtpdahhnjhggocabGreatDoorBun24
import Derived.Test.YtpdahhnjhggocabGreatDoorBun19
import Derived.Test.YtpdahhnjhggocabGreatDoorBun16
namespace Go.Proofs.YtpdahhnjhggocabGreatDoor
open Go.RowKit
def RdBox (R : Nat) (rest : ByteArray) (m : Nat) (W : World) : Prop := W.heap[R]? = some (.cells #[.string rest, .int .i64 (m : Int)] 162 (0, 0))
def flt (m : Nat) (code : Int) : Value := .iface 77 (.agg #[.int .i64 (m : Int), .int .i64 code])
set_option maxHeartbeats 400000 in
theorem fault_any {R m : Nat} {rest : ByteArray} {W : World} (h : RdBox R rest m W) (code : Int) : Calls Tryz.prog 231 #[.pointer (some ⟨R, 0, none⟩), .int .i64 code] W fun e w' => e = .returned (flt m code) ∧ w' = W := by
 have c1 := cell_of_block h 1
 simp only [List.getElem?_toArray, List.getElem?_cons_zero, List.getElem?_cons_succ] at c1
 go_enter Tryz.func231, Tryz.ntmps231
 go_wp2
 go_ret
 exact ⟨rfl, rfl⟩
def WordsPost (R n : Nat) (ls : List (List UInt8)) (w : World) (e : Ending) (w' : World) : Prop := w.grownBy w' (some R) ∧ match nextW n ls with
 | .ended m => e = .returned (.tuple #[.slice none 0 0, .nilIface]) ∧ RdBox R ⟨#[]⟩ m w'
 | .bad m => e = .returned (.tuple #[.slice none 0 0, flt m 1])
 | .words m x xs rest => ∃ a c r, e = .returned (.tuple #[.slice a (xs.length + 1) c, .nilIface]) ∧ textLines r.data.toList = rest ∧ r.size ≤ 1048576 ∧ RdBox R r m w' ∧ w'.ownsRow w.heap.size 9 1 (.slice a (xs.length + 1) c) (xs.length + 1) (strs (x :: xs))
def rdLen (R : Nat) (W : World) : Nat := match W.cell? ⟨R, 0, none⟩ with
 | some (.string s) => s.size
 | _ => 0
theorem RdBox.len {R m : Nat} {rest : ByteArray} {W : World} (h : RdBox R rest m W) : rdLen R W = rest.size := by
 have c0 := cell_of_block h 0
 simp only [List.getElem?_toArray, List.getElem?_cons_zero] at c0
 unfold rdLen; rw [c0]
def LoopRw (R n : Nat) (ls : List (List UInt8)) (w W : World) : Prop := ∃ (rest : ByteArray) (m : Nat), RdBox R rest (m + 1) W ∧ nextW m (textLines rest.data.toList) = nextW n ls ∧ rest.size ≤ 1048576 ∧ m + (textLines rest.data.toList).length = n + ls.length ∧ w.grownBy W (some R)
theorem RdBox.line {R m m' : Nat} {rest : ByteArray} {W : World} (h : RdBox R rest m W) : RdBox R rest m' (W.setCell ⟨R, 1, none⟩ (.int .i64 (m' : Int))) := by
 unfold RdBox at *
 rw [heap_setCell_same W R 1 _ _ _ h]; rfl
theorem RdBox.rest {R m : Nat} {rest rest' : ByteArray} {W : World} (h : RdBox R rest m W) : RdBox R rest' m (W.setCell ⟨R, 0, none⟩ (.string rest')) := by
 unfold RdBox at *
 rw [heap_setCell_same W R 0 _ _ _ h]; rfl
theorem RdBox.below {R m : Nat} {rest : ByteArray} {W W' : World} (h : RdBox R rest m W) (hb : Below W.heap.size W W') : RdBox R rest m W' := (hb.block R (Array.getElem?_eq_some_iff.1 h).1).trans h
theorem bytes_nil {s : ByteArray} (h : s.size = 0) : s = ⟨#[]⟩ := by
 cases s with
 | mk d => have : d = #[] := Array.eq_empty_of_size_eq_zero h; rw [this]
set_option maxHeartbeats 4000000 in
set_option maxRecDepth 100000 in
theorem words_any {R n : Nat} {rest : ByteArray} {w : World} (h : RdBox R rest n w) (hs : rest.size ≤ 1048576) (hn : n + (textLines rest.data.toList).length ≤ 1000000) : Calls Tryz.prog 174 #[.pointer (some ⟨R, 0, none⟩)] w fun e w' => WordsPost R n (textLines rest.data.toList) w e w' := by
 have c1 := cell_of_block h 1
 have f1 := frozen_of_block h 1
 simp only [List.getElem?_toArray, List.getElem?_cons_zero, List.getElem?_cons_succ] at c1
 have HL0 := hid_in (show LoopRw R n (textLines rest.data.toList) w (w.setCell ⟨R, 1, none⟩ (.int .i64 ((n + 1 : Nat) : Int))) from ⟨rest, n, h.line, rfl, hs, rfl, grown_setCell' w R 1 _⟩)
 have e1 : ((n + 1 : Nat) : Int) = (n : Int) + 1 := by omega
 rw [e1] at HL0
 generalize hls : textLines rest.data.toList = ls at *
 have hnl : n ≤ 1000000 := by omega
 clear h hs hls e1
 go_enter Tryz.func174, Tryz.ntmps174
 go_wp2
 go_loopw [] (fun wr => LoopRw R n ls w wr) (fun wr => rdLen R wr)
 case atStart => exact HL0.out
 case round =>
  clear HL0 c1 f1
  obtain ⟨rs, m, hB, hN, hsz, hml, hg⟩ := hrel
  have c0 := cell_of_block hB 0
  have c1 := cell_of_block hB 1
  have f0 := frozen_of_block hB 0
  have f1 := frozen_of_block hB 1
  simp only [List.getElem?_toArray, List.getElem?_cons_zero, List.getElem?_cons_succ] at c0 c1
  by_cases h0 : rs.size = 0
  ·obtain rfl := bytes_nil h0
   have HO := hid_in (show WordsPost R n ls w (.returned (.tuple #[.slice none 0 0, .nilIface])) wr from ⟨hg, by rw [← hN]; exact ⟨rfl, hB⟩⟩)
   clear hB hN hml hg h0
   go_wp2
   go_ret2
   exact HO.out
  ·have hne := ne_empty rs (by omega)
   have hnl0 : rs.data.toList ≠ [] := by
    intro e
    have : rs.data.toList.length = rs.size := by simp
    rw [e] at this; simp at this; omega
   have HC := strCut_any rs wr hsz
   have HBH := hid_in hB
   have HLW := hid_in hB.len
   clear hB
   go_wp2_with (go_at_call 229; refine HC.mono ?_)
   rintro e w2 ⟨x, y, bb, rfl, hcut, b2⟩
   have hlx := hcut.lines hnl0
   have hcl := hcut.len
   have hyl := hcut.lt hnl0
   have zx : x.data.toList.length = x.size := by simp
   have zy : y.data.toList.length = y.size := by simp
   have zr : rs.data.toList.length = rs.size := by simp
   rw [hlx] at hN hml
   have hB2 := HBH.out.below b2
   have hB3 := hB2.rest (rest' := y)
   have g3 := grown_trans (grown_trans hg (grown_of_below b2 (some R))) (grown_setCell' w2 R 0 (.string y))
   have d0 := cell_of_block hB2 0
   have k0 := frozen_of_block hB2 0
   simp only [List.getElem?_toArray, List.getElem?_cons_zero] at d0
   have HW := implWords_any x (w2.setCell ⟨R, 0, none⟩ (.string y)) (by omega)
   have hz3 := g3.size
   have HB3 := hid_in hB3
   have HG3 := hid_in g3
   have HNH := hid_in hN
   have HX := hid_in hlx
   have hmz : m ≤ 1000000 := by simp only [List.length_cons] at hml; omega
   clear HC hcut hlx hB2 hB3 g3 hN HBH c0 c1 f0 f1 hg b2 hnl0
   go_wp2_with (go_at_call 230; refine HW.mono ?_)
   rintro e w4 ⟨v, rfl, ho, b4⟩
   obtain ⟨wa, wc, rfl, _⟩ := own_form ho
   have hB4 := HB3.out.below b4
   have g4 := grown_trans HG3.out (grown_of_below b4 (some R))
   have hO4 := own_mono ho hz3
   clear HW HB3 HG3 ho d0 k0
   cases hc : cutL x.data.toList with
   | none =>
    simp only [hc, Option.isNone_none, Option.getD_none, List.length_nil] at hO4 ⊢
    have bx := (Below.refl w4.heap.size w4).alloc (Nat.le_refl _) (.cells #[.slice wa 0 wc, .bool true] 66)
    have hB5 := hB4.below bx
    have g5 := grown_trans g4 (grown_of_below bx (some R))
    have FA := fault_any hB5 1
    have HO := hid_in (show WordsPost R n ls w (.returned (.tuple #[.slice none 0 0, flt (m + 1) 1])) (w4.alloc (.cells #[.slice wa 0 wc, .bool true] 66)) from ⟨g5, by rw [← HNH.out, nextW_bad hc]⟩)
    clear hB4 hB5 g4 g5 hO4 HNH HX
    go_wp2_with (go_at_call 231; refine FA.mono ?_; rintro e w6 ⟨rfl, rfl⟩)
    go_ret2
    exact HO.out
   | some wl =>
    cases wl with
    | nil =>
     simp only [hc, Option.isNone_some, Option.getD_some, List.length_nil] at hO4 ⊢
     have bx := (Below.refl w4.heap.size w4).alloc (Nat.le_refl _) (.cells #[.slice wa 0 wc, .bool false] 66)
     have hB5 := hB4.below bx
     have g5 := grown_trans g4 (grown_of_below bx (some R))
     have c1 := cell_of_block hB5 1
     have f1 := frozen_of_block hB5 1
     simp only [List.getElem?_toArray, List.getElem?_cons_zero, List.getElem?_cons_succ] at c1
     have HO := hid_in (show LoopRw R n ls w ((w4.alloc (.cells #[.slice wa 0 wc, .bool false] 66)).setCell ⟨R, 1, none⟩ (.int .i64 ((m + 1 + 1 : Nat) : Int))) from ⟨y, m + 1, hB5.line, by rw [← HNH.out, nextW_blank hc], by omega, by simp only [List.length_cons] at hml; omega, grown_trans g5 (grown_setCell' _ R 1 _)⟩)
     have e2 : ((m + 1 + 1 : Nat) : Int) = ((m + 1 : Nat) : Int) + 1 := by omega
     rw [e2] at HO
     have hRl : rdLen R ((w4.alloc (.cells #[.slice wa 0 wc, .bool false] 66)).setCell ⟨R, 1, none⟩ (.int .i64 (((m + 1 : Nat) : Int) + 1))) = y.size := by rw [← e2]; exact (hB5.line (m' := m + 1 + 1)).len
     have HRL := hid_in hRl
     clear hB4 hB5 g4 g5 hO4 HNH HX hRl e2
     go_wp2
     go_roundw
     case rel => exact HO.out
     case measure =>
      have q := HRL.out
      rw [show ((m + 1 : Nat) : Int) = (m : Int) + 1 by omega] at q
      rw [q, HLW.out]
      omega
    | cons a ts =>
     simp only [hc, Option.isNone_some, Option.getD_some, List.length_cons] at hO4 ⊢
     have bx := (Below.refl w4.heap.size w4).alloc (Nat.le_refl _) (.cells #[.slice wa (ts.length + 1) wc, .bool false] 66)
     have hB5 := hB4.below bx
     have g5 := grown_trans g4 (grown_of_below bx (some R))
     have HO := hid_in (show WordsPost R n ls w (.returned (.tuple #[.slice wa (ts.length + 1) wc, .nilIface])) (w4.alloc (.cells #[.slice wa (ts.length + 1) wc, .bool false] 66)) from ⟨g5, by rw [← HNH.out, nextW_words hc]; exact ⟨wa, wc, y, rfl, rfl, by omega, hB5, own_below hO4 bx⟩⟩)
     clear hB4 hB5 g4 g5 hO4 HNH HX
     generalize ts.length = na at *
     have hna : ((na : Int) + 1 > 0) := by omega
     go_wp2
     go_ret2
     exact HO.out
end Go.Proofs.YtpdahhnjhggocabGreatDoor
namespace Go.Proofs.YtpdahhnjhggocabGreatDoor
open Go.RowKit
def BeginPost (done : List PBlock) (m : Nat) (x : List UInt8) (xs : List (List UInt8)) (w : World) (e : Ending) (w' : World) : Prop := Below w.heap.size w w' ∧ (((stepW done none x xs).1 ≠ 0 ∧ e = .returned (.tuple #[.agg #[.string ⟨#[]⟩, .string ⟨#[]⟩, .slice none 0 0], flt m (stepW done none x xs).1])) ∨ ((stepW done none x xs).1 = 0 ∧ ∃ nm, xs = [nm] ∧ e = .returned (.tuple #[.agg #[.string (keyOf x), .string (keyOf nm), .slice none 0 0], .nilIface])))
set_option maxHeartbeats 4000000 in
set_option maxRecDepth 100000 in
theorem begin_any {R m : Nat} {rest : ByteArray} {v : Value} {bs : List BAt} {wa : Option Addr} {wc : Nat} {x : List UInt8} {xs : List (List UInt8)} {w : World} (h : RdBox R rest m w) (hb : BlocksIn w v bs) (hl : bs.length ≤ 1048576) (hw : HasRow w (.slice wa (xs.length + 1) wc) (xs.length + 1) 1 (strs (x :: xs))) (h200 : ∀ y ∈ x :: xs, y.length ≤ 200) (hx7 : xs.length ≤ 7) : Calls Tryz.prog 175 #[.pointer (some ⟨R, 0, none⟩), v, .slice wa (xs.length + 1) wc] w fun e w' => BeginPost (bs.map BAt.plain) m x xs w e w' := by
 have b0 := (Below.refl w.heap.size w).alloc (Nat.le_refl _) (.cells #[.string ⟨#[]⟩, .string ⟨#[]⟩, .slice none 0 0] 64)
 have z0 := alloc_here w (.cells #[.string ⟨#[]⟩, .string ⟨#[]⟩, .slice none 0 0] 64)
 obtain ⟨va, vc, rfl⟩ := hb.1.form
 by_cases hx1 : xs.length = 1
 ·match xs, hx1, hw, h200 with
  | [nm], _, hw, h200 =>
   obtain ⟨g, off, rfl, k0⟩ := hw.word 0 (by simp)
   obtain ⟨g', off', e', k1⟩ := hw.word 1 (by simp)
   cases e'
   simp only [List.getElem_cons_zero, List.getElem_cons_succ, Nat.add_zero] at k0 k1
   have l0 := World.block_lt_of_cell? _ _ k0
   have l1 := World.block_lt_of_cell? _ _ k1
   have i0 := (b0.cell l0).trans k0
   have i1 := (b0.cell l1).trans k1
   have hB0 := h.below b0
   have hb0 := hb.below b0
   have r0 := cell_of_block z0 0
   have r1 := cell_of_block z0 1
   have r2 := cell_of_block z0 2
   have q0 := frozen_of_block z0 0
   have q1 := frozen_of_block z0 1
   have q2 := frozen_of_block z0 2
   simp only [List.getElem?_toArray, List.getElem?_cons_zero, List.getElem?_cons_succ] at r0 r1 r2
   have hnm : (keyOf nm).size ≤ 1048576 := by
    have := h200 nm (by simp)
    show nm.toArray.size ≤ 1048576
    rw [List.size_toArray]; omega
   generalize hcode : headFault (bs.map BAt.plain) (keyOf x) (keyOf nm) = code
   have HO : ∀ W, Below w.heap.size w W → (code ≠ 0 → BeginPost (bs.map BAt.plain) m x [nm] w (.returned (.tuple #[.agg #[.string ⟨#[]⟩, .string ⟨#[]⟩, .slice none 0 0], flt m code])) W) ∧ (code = 0 → BeginPost (bs.map BAt.plain) m x [nm] w (.returned (.tuple #[.agg #[.string (keyOf x), .string (keyOf nm), .slice none 0 0], .nilIface])) W) := fun W hB => by
    constructor
    ·intro hc
     exact ⟨hB, .inl (by rw [stepW_head, hcode]; exact ⟨hc, rfl⟩)⟩
    ·intro hc
     exact ⟨hB, .inr (by rw [stepW_head, hcode]; exact ⟨hc, nm, rfl, rfl⟩)⟩
   have HOH := hid_in HO
   clear HO h hb hw h200 k0 k1 l0 l1 z0
   generalize hw1 : w.alloc (.cells #[.string ⟨#[]⟩, .string ⟨#[]⟩, .slice none 0 0] 64) = w1 at *
   have ew1 := hid_in hw1
   have hz1 : w1.heap.size = w.heap.size + 1 := by rw [← hw1]; simp
   clear hw1
   have HF : ∀ p : Gr w1, Calls Tryz.prog 130 #[.slice va bs.length vc, .string ⟨x.toArray⟩, .string ⟨nm.toArray⟩] p.u fun e w' => e = .returned (.int .i64 code) ∧ Below p.u.heap.size p.u w' := fun p => by
    have := headFault_any (keyOf x) (keyOf nm) (hb0.below p.h) hl hnm
    rw [hcode] at this
    exact this
   have u0 := fun p : Gr w1 => gr_cell i0 p
   have u1 := fun p : Gr w1 => gr_cell i1 p
   have HB0 := hid_in hB0
   have B0 := hid_in b0
   clear hb0 hcode hB0 b0
   generalize bs.length = nb at *
   go_enter Tryz.func175, Tryz.ntmps175
   go_upto_region 3 with fail
   rw [ew1.out]
   refine wp_region_gr (by kernel_rfl) (by kernel_rfl) ?_
   iterate 7 quiet_step (fail)
   quiet_step ((go_at_call 130; refine gr_of (HF _)))
   quiet_step (fail)
   refine wpQuiet_nil ?_
   rintro _ ⟨⟨wq, bq⟩, rfl⟩
   have B1 := B0.out.trans (bq.mono B0.out.size)
   have hBq := HB0.out.below bq
   have j0 := (bq.cell (World.block_lt_of_cell? _ _ i0)).trans i0
   have j1 := (bq.cell (World.block_lt_of_cell? _ _ i1)).trans i1
   have s0 := (bq.cell (World.block_lt_of_cell? _ _ r0)).trans r0
   have s1 := (bq.cell (World.block_lt_of_cell? _ _ r1)).trans r1
   have s2 := (bq.cell (World.block_lt_of_cell? _ _ r2)).trans r2
   have t0 := (bq.frozen (World.block_lt_of_cell? _ _ r0)).trans q0
   have t1 := (bq.frozen (World.block_lt_of_cell? _ _ r1)).trans q1
   have t2 := (bq.frozen (World.block_lt_of_cell? _ _ r2)).trans q2
   clear HF u0 u1 i0 i1 r0 r1 r2 q0 q1 q2
   by_cases hc : code = 0
   ·subst hc
    clear hBq
    go_wp2
    go_region
    go_wp2
    exact bodyPost_ret (v := .tuple #[.agg #[.string ⟨x.toArray⟩, .string ⟨nm.toArray⟩, .slice none 0 0], .nilIface]) (by simp [results, Tryz.results175, go_sem, s0, s1, s2]) rfl ((HOH.out _ (Below.drew (below_setCell (below_setCell (below_setCell B1 ⟨w.heap.size, 0, none⟩ (Nat.le_refl _) _) ⟨w.heap.size, 1, none⟩ (Nat.le_refl _) _) ⟨w.heap.size, 2, none⟩ (Nat.le_refl _) _))).2 (by trivial))
   ·have hcn : (code == 0) = false := by rw [beq_eq_false_iff_ne]; exact hc
    have FA := fault_any hBq code
    clear hBq j0 j1
    go_wp2_with (go_at_call 231; refine FA.mono ?_; rintro e w6 ⟨rfl, rfl⟩)
    exact bodyPost_ret (v := .tuple #[.agg #[.string ⟨#[]⟩, .string ⟨#[]⟩, .slice none 0 0], flt m code]) (by simp [results, Tryz.results175, go_sem, s0, s1, s2]) rfl ((HOH.out _ (below_setCell (below_setCell (below_setCell B1 ⟨w.heap.size, 0, none⟩ (Nat.le_refl _) _) ⟨w.heap.size, 1, none⟩ (Nat.le_refl _) _) ⟨w.heap.size, 2, none⟩ (Nat.le_refl _) _)).1 hc)
 ·have hne : (((xs.length : Int) + 1) == 2) = false := by rw [beq_eq_false_iff_ne]; omega
  have FA := fault_any (h.below b0) 2
  have e0 := stepW_out (done := bs.map BAt.plain) (w := x) hx1
  have r0 := cell_of_block z0 0
  have r1 := cell_of_block z0 1
  have r2 := cell_of_block z0 2
  have q0 := frozen_of_block z0 0
  have q1 := frozen_of_block z0 1
  have q2 := frozen_of_block z0 2
  simp only [List.getElem?_toArray, List.getElem?_cons_zero, List.getElem?_cons_succ] at r0 r1 r2
  have HO := fun W (hB : Below w.heap.size w W) => (show BeginPost (bs.map BAt.plain) m x xs w (.returned (.tuple #[.agg #[.string ⟨#[]⟩, .string ⟨#[]⟩, .slice none 0 0], flt m 2])) W from ⟨hB, .inl (by rw [e0]; exact ⟨by simp, rfl⟩)⟩)
  have HOH := hid_in HO
  have B0 := hid_in b0
  clear HO h hb hw b0 z0 e0 h200
  generalize bs.length = nb at *
  generalize xs.length = nx at *
  go_enter Tryz.func175, Tryz.ntmps175
  go_wp2_with (go_at_call 231; refine FA.mono ?_; rintro e w6 ⟨rfl, rfl⟩)
  exact bodyPost_ret (v := .tuple #[.agg #[.string ⟨#[]⟩, .string ⟨#[]⟩, .slice none 0 0], flt m 2]) (by simp [results, Tryz.results175, go_sem]) rfl (HOH.out _ B0.out)
end Go.Proofs.YtpdahhnjhggocabGreatDoor
namespace Go.Proofs.YtpdahhnjhggocabGreatDoor
open Go.RowKit
def headAt (bs : List PBlock) (kind name : ByteArray) : Int := match bs.findIdx? (isHead kind name) with
 | none => -1
 | some j => (j : Int)
def HeadAt (bs : List BAt) (kind name : ByteArray) (e : Ending) : Prop := e = .returned (.int .i64 (headAt (bs.map BAt.plain) kind name))
theorem head_none {bs : List BAt} {kind name : ByteArray} (h : (bs.map BAt.plain).find? (isHead kind name) = none) : HeadAt bs kind name (.returned (.int .i64 (-1))) := by
 have : (bs.map BAt.plain).findIdx? (isHead kind name) = none := by
  rw [List.findIdx?_eq_none_iff]
  intro x hx
  have := List.find?_eq_none.1 h x hx
  simpa using this
 unfold HeadAt headAt
 rw [this]
theorem head_hit {D T : List BAt} {x : BAt} {kind name : ByteArray} (h : NoHead (D.map BAt.plain ++ x.plain :: T.map BAt.plain) kind name (D.map BAt.plain).length) (hx : isHead kind name x.plain = true) : HeadAt (D ++ x :: T) kind name (.returned (.int .i64 (D.length : Int))) := by
 have hn : (D.map BAt.plain).findIdx? (isHead kind name) = none := by
  rw [List.findIdx?_eq_none_iff]
  intro y hy
  unfold NoHead at h
  rw [List.take_append_of_le_length (Nat.le_refl _), List.take_length] at h
  exact h y hy
 have : ((D ++ x :: T).map BAt.plain).findIdx? (isHead kind name) = some D.length := by
  rw [List.map_append, List.map_cons, List.findIdx?_append, hn, List.findIdx?_cons, if_pos hx]; simp
 unfold HeadAt headAt
 rw [this]
theorem headAt_any {bs : List PBlock} {kind name : ByteArray} : (0 ≤ headAt bs kind name) ↔ bs.any (fun o => o.kind.toList == kind.toList && o.name.toList == name.toList) = true := by
 unfold headAt
 cases h : bs.findIdx? (isHead kind name) with
 | none =>
  have h1 := List.findIdx?_eq_none_iff.1 h
  constructor
  ·intro h2; simp at h2
  ·intro h2
   obtain ⟨y, hy, he⟩ := List.any_eq_true.1 h2
   have := h1 y hy
   rw [show isHead kind name y = (y.kind.toList == kind.toList && y.name.toList == name.toList) from rfl, he] at this
   cases this
 | some j =>
  constructor
  ·intro _
   obtain ⟨hj, he, _⟩ := List.findIdx?_eq_some_iff_getElem.1 h
   exact List.any_eq_true.2 ⟨_, List.getElem_mem hj, he⟩
  ·intro _; simp
set_option maxHeartbeats 2000000 in
set_option maxRecDepth 100000 in
theorem l3Find_at {v : Value} {bs : List BAt} (kind name : ByteArray) {w : World} (h : BlocksIn w v bs) (hl : bs.length ≤ 1048576) : Calls Tryz.prog 76 #[.agg #[v], .string kind, .string name] w fun e w' => HeadAt bs kind name e ∧ Below w.heap.size w w' := by
 obtain ⟨ao, cap, rfl⟩ := h.1.form
 have G := (Below.refl w.heap.size w).alloc (Nat.le_refl _) (.cells #[.slice ao bs.length cap] 24)
 have k0 := one_box (w := w) (cs := #[.slice ao bs.length cap]) (T := 24) 0
 simp only [List.getElem?_toArray, List.getElem?_cons_zero] at k0
 have h1 := h.below G
 clear h
 generalize hn : bs.length = n at *
 have en := hid_in hn
 clear hn
 go_enter Tryz.func76, Tryz.ntmps76
 go_wp2
 go_loop [7] (fun i => ∃ j : Nat, j ≤ n ∧ i = .int .i64 (j : Int) ∧ NoHead (bs.map BAt.plain) kind name j) (fun i => n - (intOf i).toNat)
 case atStart => exact ⟨0, by omega, rfl, NoHead.zero _ _ _⟩
 case round =>
  obtain ⟨j, hj, rfl, hA⟩ := hrel
  by_cases hlt : j < n
  ·obtain ⟨D, x, T, rfl, hD⟩ := split1 bs j (by have := en.out; omega)
   obtain ⟨g, off, rfl, c1, c2, c3⟩ := h1.1.block
   have hA2 : NoHead (D.map BAt.plain ++ x.plain :: T.map BAt.plain) kind name (D.map BAt.plain).length := by rw [List.length_map, hD]; simpa using hA
   have hyes := hid_in (show isHead kind name x.plain = true → HeadAt (D ++ x :: T) kind name (.returned (.int .i64 (j : Int))) from fun hh => by rw [← hD]; exact head_hit hA2 hh)
   have hno := hid_in (show isHead kind name x.plain = false → NoHead ((D ++ x :: T).map BAt.plain) kind name (j + 1) from fun hh => by have := hA2.succ hh; rw [List.length_map, hD] at this; simpa using this)
   rw [hD] at c1 c2 c3
   have hd : isHead kind name x.plain = ((x.kind.toList == kind.toList) && (x.name.toList == name.toList)) := rfl
   rw [hd] at hyes hno
   have hB0 : (0 : Int) ≤ (j : Int) := by omega
   have hB1 : (j : Int) < (n : Int) := by omega
   clear h1 hA hA2 hd hD en
   generalize x.kind = xk at *
   generalize x.name = xn at *
   cases h1 : (xk.toList == kind.toList)
   ·have HN := hid_in (hno.out (by rw [h1]; rfl))
    clear hyes hno
    go_wp2
    go_round
    case rel => exact ⟨j + 1, by omega, by go_num, HN.out⟩
    case measure => simp [intOf]; omega
   ·cases h2 : (xn.toList == name.toList)
    ·have HN := hid_in (hno.out (by rw [h1, h2]; rfl))
     clear hyes hno
     go_wp2
     go_round
     case rel => exact ⟨j + 1, by omega, by go_num, HN.out⟩
     case measure => simp [intOf]; omega
    ·have HN := hid_in (hyes.out (by rw [h1, h2]; rfl))
     clear hyes hno
     go_wp2
     go_ret
     exact ⟨HN.out, G⟩
  ·obtain rfl : j = n := by omega
   have HN := hid_in (show HeadAt bs kind name (.returned (.int .i64 (-1))) from head_none (NoHead.none (by rw [List.length_map, en.out]; exact hA)))
   clear h1 hA
   go_wp2
   go_ret
   exact ⟨HN.out, G⟩
end Go.Proofs.YtpdahhnjhggocabGreatDoor
namespace Go.Proofs.YtpdahhnjhggocabGreatDoor
open Go.RowKit
theorem ccells_one {cs : List CAt} (h : ∀ x ∈ cs, ∃ a n c, x.v = .slice a n c) : ∀ u ∈ cs.flatMap CAt.cells, u.oneCell' = true := by
 intro u hu
 obtain ⟨x, hx, hu⟩ := List.mem_flatMap.1 hu
 obtain ⟨a, n, c, e⟩ := h x hx
 unfold CAt.cells at hu
 rw [e] at hu
 simp at hu
 rcases hu with rfl | rfl | rfl | rfl | rfl <;> rfl
theorem changes_many {B : Nat} {wc w2 w3 : World} {vk v2 v3 : Value} {done new : List CAt} (hm : ChangesOwn B wc vk done) (hB : B ≤ wc.heap.size) (o2 : ChangesOwn wc.heap.size w2 v2 new) (b2 : Below wc.heap.size wc w2)
  (hown3 : w3.ownsRow B 131 5 v3 (done.length + new.length) (done.flatMap CAt.cells ++ new.flatMap CAt.cells)) (hgrow : w2.grownBy w3 vk.ownBlock) (hv : v3.ownBlock = vk.ownBlock ∨ v3.ownBlock = some w2.heap.size) :
  ChangesOwn B w3 v3 (done ++ new) ∧ Below B wc w3 := by
 have m2 : Mem B w2 (crows v2 new ++ crows vk done) := Mem.join hm o2 b2 hB
 have m3 : Mem B w2 (⟨vk, 131, 5, done.length, done.flatMap CAt.cells⟩ :: (done.flatMap CAt.rows ++ crows v2 new)) := m2.perm (by
  unfold crows
  exact List.perm_append_comm)
 have m5 := m3.grow (r' := ⟨v3, 131, 5, done.length + new.length, done.flatMap CAt.cells ++ new.flatMap CAt.cells⟩) hown3 hgrow hv
 have m6 : Mem B w3 (⟨v2, 131, 5, new.length, new.flatMap CAt.cells⟩ :: ⟨v3, 131, 5, done.length + new.length, done.flatMap CAt.cells ++ new.flatMap CAt.cells⟩ :: (done.flatMap CAt.rows ++ new.flatMap CAt.rows)) := m5.perm (by
  unfold crows
  exact (List.perm_middle.cons _).trans (List.Perm.swap _ _ _))
 refine ⟨?_, ?_⟩
 ·unfold ChangesOwn crows
  rw [List.flatMap_append, List.flatMap_append, List.length_append]
  exact m6.tail
 ·exact (b2.mono hB).grown hgrow (Nat.le_trans hB b2.size) (fun k hk => (Mem.lt m3 (List.mem_cons_self ..) hk).1)
theorem lines_nil (B : Nat) (w : World) : LinesOwn B w (.slice none 0 0) [] := ⟨fun r hr => by rw [List.mem_singleton.1 hr]; exact World.ownsRow_nil _ _ 82 2, by simp [lrows]⟩
theorem headAt_neg {bs : List PBlock} {kind name : ByteArray} : headAt bs kind name < 0 ↔ bs.find? (isHead kind name) = none := by
 unfold headAt
 cases h : bs.findIdx? (isHead kind name) with
 | none =>
  refine ⟨fun _ => ?_, fun _ => by decide⟩
  rw [List.find?_eq_none]
  intro x hx
  have := List.findIdx?_eq_none_iff.1 h x hx
  simp [this]
 | some j =>
  refine ⟨fun h2 => absurd h2 (by simp), fun h2 => ?_⟩
  obtain ⟨hj, he, _⟩ := List.findIdx?_eq_some_iff_getElem.1 h
  exact absurd he (List.find?_eq_none.1 h2 _ (List.getElem_mem hj))
theorem headAt_some {bs : List PBlock} {kind name : ByteArray} (h : ¬ headAt bs kind name < 0) : ∃ j : Nat, ∃ hj : j < bs.length, headAt bs kind name = (j : Int) ∧ bs.find? (isHead kind name) = some bs[j] := by
 unfold headAt at h ⊢
 cases he : bs.findIdx? (isHead kind name) with
 | none => rw [he] at h; exact absurd (by decide) h
 | some j =>
  obtain ⟨hj, h1, h2⟩ := List.findIdx?_eq_some_iff_getElem.1 he
  refine ⟨j, hj, rfl, ?_⟩
  rw [List.find?_eq_some_iff_getElem]
  exact ⟨h1, j, hj, rfl, fun k hk => by have := h2 k hk; simpa using this⟩
theorem goneS_snoc {A B : List PBlock} {D T : List PBlock} {x : PBlock} (e : A = D ++ x :: T) : goneS (A.take (D.length + 1)) B = goneS (A.take D.length) B ++ (if (B.find? (isHead x.kind x.name)).isNone = true then [goneOf x] else []) := by
 subst e
 rw [take_one, take_front]
 unfold goneS
 rw [List.filter_append, List.map_append]
 congr 1
 by_cases h : (B.find? (isHead x.kind x.name)).isNone = true
 ·rw [if_pos h]; simp [h]
 ·rw [if_neg h]; simp [h]
theorem undrewD {w w' : World} {row : Option Nat} (h : w.drew.grownBy w' row) : w.grownBy w' row := ⟨h.os, h.tape, h.output, h.size, h.block⟩
end Go.Proofs.YtpdahhnjhggocabGreatDoor
namespace Go.Proofs.YtpdahhnjhggocabGreatDoor
open Go.RowKit
def DiffPost (P : List PChange) (w : World) (e : Ending) (w' : World) : Prop := ∃ v' cs', e = .returned v' ∧ cs'.map CAt.plain = P ∧ (∀ c ∈ cs', LinesSmall c.ls) ∧ cs'.length ≤ 14000000 ∧ ChangesOwn w.heap.size w' v' cs' ∧ Below w.heap.size w w'
def Rel1 (B : Nat) (w2 : World) (A Q : List PBlock) (na : Nat) (out i : Value) (wr : World) : Prop := ∃ (k : Nat) (cs : List CAt), i = .int .i64 (k : Int) ∧ k ≤ na ∧ cs.map CAt.plain = goneS (A.take k) Q ∧ (∀ c ∈ cs, LinesSmall c.ls) ∧ cs.length ≤ k ∧ ChangesOwn B wr out cs ∧ Below B w2 wr
def Rel2 (B : Nat) (w2 : World) (A Q : List PBlock) (na nb : Nat) (out i : Value) (wr : World) : Prop := ∃ (k : Nat) (cs : List CAt), i = .int .i64 (k : Int) ∧ k ≤ nb ∧ cs.map CAt.plain = goneS A Q ++ (Q.take k).flatMap (diffY A) ∧ (∀ c ∈ cs, LinesSmall c.ls) ∧ cs.length ≤ na + 12 * k ∧ ChangesOwn B wr out cs ∧ Below B w2 wr
set_option maxHeartbeats 8000000 in
set_option maxRecDepth 100000 in
theorem specDiff_any {va vb : Value} {az bs : List BAt} {w : World} (ha : BlocksIn w va az) (hb : BlocksIn w vb bs) (sa : BlocksSmall az) (sb : BlocksSmall bs) : Calls Tryz.prog 33 #[.agg #[va], .agg #[vb]] w fun e w' => DiffPost (diffS (az.map BAt.plain) (bs.map BAt.plain)) w e w' := by
 obtain ⟨aa, ac, rfl⟩ := ha.1.form
 obtain ⟨ba, bc, rfl⟩ := hb.1.form
 have G : Below w.heap.size w ((w.alloc (.cells #[.slice aa az.length ac] 24)).alloc (.cells #[.slice ba bs.length bc] 24)) := ((Below.refl w.heap.size w).alloc (Nat.le_refl _) _).alloc (by simp) _
 have hwz : ((w.alloc (.cells #[.slice aa az.length ac] 24)).alloc (.cells #[.slice ba bs.length bc] 24)).heap.size = w.heap.size + 2 := by simp
 have zA : ((w.alloc (.cells #[.slice aa az.length ac] 24)).alloc (.cells #[.slice ba bs.length bc] 24)).heap[w.heap.size]? = some (.cells #[.slice aa az.length ac] 24 (0, 0)) := by
  have b1 := (Below.refl (w.alloc (.cells #[.slice aa az.length ac] 24)).heap.size (w.alloc (.cells #[.slice aa az.length ac] 24))).alloc (Nat.le_refl _) (.cells #[.slice ba bs.length bc] 24)
  rw [b1.block w.heap.size (by simp)]; exact alloc_here w _
 have zB : ((w.alloc (.cells #[.slice aa az.length ac] 24)).alloc (.cells #[.slice ba bs.length bc] 24)).heap[w.heap.size + 1]? = some (.cells #[.slice ba bs.length bc] 24 (0, 0)) := by
  have := alloc_here (w.alloc (.cells #[.slice aa az.length ac] 24)) (.cells #[.slice ba bs.length bc] 24)
  rw [World.size_alloc] at this; exact this
 have HA2 := hid_in (ha.below G)
 have HB2 := hid_in (hb.below G)
 have SA := hid_in sa
 have SB := hid_in sb
 have hal : az.length ≤ 1048576 := sa.1
 have hbl : bs.length ≤ 1048576 := sb.1
 generalize hw2 : (w.alloc (.cells #[.slice aa az.length ac] 24)).alloc (.cells #[.slice ba bs.length bc] 24) = w2 at *
 have ew2 := hid_in hw2
 have cA := cell_of_block zA 0
 have cB := cell_of_block zB 0
 simp only [List.getElem?_toArray, List.getElem?_cons_zero] at cA cB
 have hown0 := World.ownsRow_lit (base := w.heap.size + 2) (e := 131) (size := 5) w2 #[] 0 (by omega) (by decide) rfl
 rw [hwz] at hown0
 have b00 := (Below.refl (w.heap.size + 2) w2).alloc (by omega) (.cells #[] 131)
 have M0 : ChangesOwn (w.heap.size + 2) (w2.alloc (.cells #[] 131)) (.slice (some ⟨w.heap.size + 2, 0, none⟩) 0 0) [] := ⟨fun r hr => by rw [List.mem_singleton.1 hr]; exact hown0, by simp [crows]⟩
 have s3 : (w2.alloc (.cells #[] 131)).heap.size = w.heap.size + 3 := by rw [World.size_alloc, hwz]
 have x0 := (b00.cell (p := ⟨w.heap.size, 0, none⟩) (by simp)).trans cA
 have x1 := (b00.cell (p := ⟨w.heap.size + 1, 0, none⟩) (by simp)).trans cB
 have HA3 := HA2.out.below (by rw [hwz]; exact b00)
 have HB3 := HB2.out.below (by rw [hwz]; exact b00)
 have HVA := fun W (h : Below (w.heap.size + 2) w2 W) => specValid_any (HA2.out.below (by rw [hwz]; exact h)) SA.out
 have HVB := fun W (h : Below (w.heap.size + 2) w2 W) => specValid_any (HB2.out.below (by rw [hwz]; exact h)) SB.out
 clear ha hb sa sb hw2 hown0 HA3 HB3
 obtain ⟨PA, ePA⟩ : ∃ PA, az.map BAt.plain = PA := ⟨_, rfl⟩
 obtain ⟨PB, ePB⟩ : ∃ PB, bs.map BAt.plain = PB := ⟨_, rfl⟩
 rw [ePA] at HVA
 rw [ePB] at HVB
 rw [ePA, ePB]
 have EPA := hid_in ePA
 have EPB := hid_in ePB
 have HDF := hid_in (show ∀ b1 b2, sheetB PA = b1 → sheetB PB = b2 → diffS PA PB = if b1 = true ∧ b2 = true then goneS PA PB ++ PB.flatMap (diffY PA) else [] from fun b1 b2 h1 h2 => by rw [← h1, ← h2]; rfl)
 generalize hv1 : sheetB PA = V1 at HVA
 generalize hv2 : sheetB PB = V2 at HVB
 have HV := hid_in (HDF.out V1 V2 hv1 hv2)
 clear ePA ePB HDF hv1 hv2
 generalize hna : az.length = na at *
 have ena := hid_in hna
 clear hna
 generalize hnb : bs.length = nb at *
 have enb := hid_in hnb
 clear hnb
 go_enter Tryz.func33, Tryz.ntmps33
 go_upto_region 2 with fail
 rw [ew2.out]
 go_wp2_with (go_at_call 61; refine (HVA _ b00).mono ?_)
 first | rintro e w4 rfl b4 | rintro e w4 ⟨rfl, b4⟩
 have B4 : Below (w.heap.size + 2) w2 w4 := b00.trans (b4.mono (by omega))
 have y0 := (B4.cell (p := ⟨w.heap.size, 0, none⟩) (by simp)).trans cA
 have y1 := (B4.cell (p := ⟨w.heap.size + 1, 0, none⟩) (by simp)).trans cB
 have M4 := M0.below b4
 cases V1
 ·have HO := hid_in (show DiffPost (diffS PA PB) w (.returned (.slice (some ⟨w.heap.size + 2, 0, none⟩) 0 0)) w4 from ⟨_, [], rfl, by rw [HV.out]; simp, by simp, by simp, Mem.mono M4 (by omega), G.trans (B4.mono (by omega))⟩)
  clear M4 M0 HVA HVB
  go_wp2
  go_ret
  exact HO.out
 ·go_wp2_with (go_at_call 61; refine (HVB _ B4).mono ?_)
  first | rintro e w5 rfl b5 | rintro e w5 ⟨rfl, b5⟩
  have B5 : Below (w.heap.size + 2) w2 w5 := B4.trans (b5.mono (by have := B4.size; omega))
  have M5 := M4.below b5
  cases V2
  ·have HO := hid_in (show DiffPost (diffS PA PB) w (.returned (.slice (some ⟨w.heap.size + 2, 0, none⟩) 0 0)) w5 from ⟨_, [], rfl, by rw [HV.out]; simp, by simp, by simp, Mem.mono M5 (by omega), G.trans (B5.mono (by omega))⟩)
   clear M4 M5 M0 HVA HVB
   go_wp2
   go_ret
   exact HO.out
  ·have HI1 := hid_in (show Rel1 (w.heap.size + 2) w2 PA PB na (.slice (some ⟨w.heap.size + 2, 0, none⟩) 0 0) (.int .i64 0) w5 from ⟨0, [], rfl, by omega, by simp [goneS], by simp, by simp, M5, B5⟩)
   clear M4 M5 M0 HVA HVB B5 B4 b4 b5 y0 y1 x0 x1 b00 s3
   go_wp2
   go_loopw [5, 6] (fun out i wr => Rel1 (w.heap.size + 2) w2 PA PB na out i wr) (fun _ i _ => na - (intOf i).toNat)
   case atStart => exact HI1.out
   case round =>
    clear HI1
    obtain ⟨k, cs, rfl, hk, hcs, hsm, hcl, hm, bw⟩ := hrel
    obtain ⟨qa, qc, rfl, _⟩ := own_form (show wr.ownsRow (w.heap.size + 2) 131 5 _ cs.length (cs.flatMap CAt.cells) from Mem.head hm)
    have hszw := bw.size
    rw [hwz] at hszw
    have hB2 : Below w2.heap.size w2 wr := by rw [hwz]; exact bw
    have kA := (bw.cell (p := ⟨w.heap.size, 0, none⟩) (by simp)).trans cA
    have kB := (bw.cell (p := ⟨w.heap.size + 1, 0, none⟩) (by simp)).trans cB
    by_cases hlt : k < na
    ·obtain ⟨D, x, T, eL, hD⟩ := split1 az k (by have := ena.out; omega)
     have hrow := HA2.out.1
     rw [eL] at hrow
     obtain ⟨g, off, rfl, d0, d1, _⟩ := hrow.block
     rw [hD] at d0 d1
     have lg := World.block_lt_of_cell? w2 _ d0
     simp only [hwz] at lg
     have c0 := (bw.cell (p := ⟨g, off + k * 3, none⟩) lg).trans d0
     have c1 := (bw.cell (p := ⟨g, off + k * 3 + 1, none⟩) lg).trans d1
     have k1 : (0 : Int) ≤ (k : Int) := by omega
     have k2 : (k : Int) < (na : Int) := by omega
     have HST := hid_in (show goneS (PA.take (k + 1)) PB = cs.map CAt.plain ++ (if (PB.find? (isHead x.kind x.name)).isNone = true then [goneOf x.plain] else []) from by
      have e : PA = D.map BAt.plain ++ x.plain :: T.map BAt.plain := by rw [← EPA.out, eL]; simp
      have := goneS_snoc (B := PB) e
      rw [List.length_map, hD] at this
      rw [this, hcs]; rfl)
     have HF : ∀ p : Gr wr, Calls Tryz.prog 76 #[.agg #[.slice ba nb bc], .string x.kind, .string x.name] p.u fun e w' => e = .returned (.int .i64 (headAt PB x.kind x.name)) ∧ Below p.u.heap.size p.u w' := fun p => by
      have := l3Find_at x.kind x.name ((HB2.out.below hB2).below p.h) (by rw [enb.out]; exact hbl)
      rw [← EPB.out]
      exact this
     have HGN := hid_in (show goneOf x.plain = ⟨1, x.kind, x.name, ⟨#[]⟩, []⟩ from rfl)
     have u0 := fun p : Gr wr => gr_cell kA p
     have u1 := fun p : Gr wr => gr_cell kB p
     have u2 := fun p : Gr wr => gr_cell c0 p
     have u3 := fun p : Gr wr => gr_cell c1 p
     have HNG := hid_in (@headAt_neg PB x.kind x.name)
     have HM := hid_in hm
     have HSM := hid_in hsm
     clear hm hsm hcs hrow eL hD
     generalize x.kind = xk at *
     generalize x.name = xn at *
     generalize hat : headAt PB xk xn = AT at *
     clear hat
     go_upto_region 7 with fail
     refine wp_region_gr (by kernel_rfl) (by kernel_rfl) ?_
     iterate 13 quiet_step (fail)
     quiet_step ((go_at_call 76; refine gr_of (HF _)))
     quiet_step (fail)
     refine wpQuiet_nil ?_
     rintro wq ⟨⟨_, bq⟩, rfl⟩
     have hq := bq.size
     have Bq := bw.trans (bq.mono (by omega))
     clear u0 u1 u2 u3 HF kA kB c0 c1
     by_cases hneg : AT < 0
     ·have HS8 := hid_in (show ∀ W, Below (w.heap.size + 2) w2 W → W.cell? ⟨w.heap.size, 0, none⟩ = some (.slice (some ⟨g, off, none⟩) na ac) ∧ W.cell? ⟨g, off + k * 3, none⟩ = some (.string xk) ∧ W.cell? ⟨g, off + k * 3 + 1, none⟩ = some (.string xn) from fun W hu => ⟨(hu.cell (p := ⟨w.heap.size, 0, none⟩) (by simp)).trans cA, (hu.cell (p := ⟨g, off + k * 3, none⟩) lg).trans d0, (hu.cell (p := ⟨g, off + k * 3 + 1, none⟩) lg).trans d1⟩)
      have Bd : Below (w.heap.size + 2) w2 wq.drew := Bq.drew
      have s0 := fun p : { W : World // W.cell? ⟨w.heap.size, 0, none⟩ = some (.slice (some ⟨g, off, none⟩) na ac) ∧ W.cell? ⟨g, off + k * 3, none⟩ = some (.string xk) ∧ W.cell? ⟨g, off + k * 3 + 1, none⟩ = some (.string xn) } => p.2.1
      have s1 := fun p : { W : World // W.cell? ⟨w.heap.size, 0, none⟩ = some (.slice (some ⟨g, off, none⟩) na ac) ∧ W.cell? ⟨g, off + k * 3, none⟩ = some (.string xk) ∧ W.cell? ⟨g, off + k * 3 + 1, none⟩ = some (.string xn) } => p.2.2.1
      have s2 := fun p : { W : World // W.cell? ⟨w.heap.size, 0, none⟩ = some (.slice (some ⟨g, off, none⟩) na ac) ∧ W.cell? ⟨g, off + k * 3, none⟩ = some (.string xk) ∧ W.cell? ⟨g, off + k * 3 + 1, none⟩ = some (.string xn) } => p.2.2.2
      letI : Inhabited { W : World // W.cell? ⟨w.heap.size, 0, none⟩ = some (.slice (some ⟨g, off, none⟩) na ac) ∧ W.cell? ⟨g, off + k * 3, none⟩ = some (.string xk) ∧ W.cell? ⟨g, off + k * 3 + 1, none⟩ = some (.string xn) } := ⟨⟨wq.drew, HS8.out _ Bd⟩⟩
      obtain ⟨i0, hi, hi0, hi1, hi2⟩ := info_parts infoChange
      go_upto_region 8 with fail
      refine wp_region_hold (S := fun W => W.cell? ⟨w.heap.size, 0, none⟩ = some (.slice (some ⟨g, off, none⟩) na ac) ∧ W.cell? ⟨g, off + k * 3, none⟩ = some (.string xk) ∧ W.cell? ⟨g, off + k * 3 + 1, none⟩ = some (.string xn)) 16 17 (by kernel_rfl) rfl ?_
      refine wpHold_mask [true, true, true, true, true, true, true, true, true, true, true, true, true, true, false, false, false] 3 rfl (by kernel_rfl) (HS8.out _ Bd) ?_
      simp only [maskL_t, maskL_f, maskL_n]
      iterate 14 (refine wpReads_step (fun K hK => ?_); go_simp; refine hK _ ?_; clear hK K)
      refine wpReads_nil ?_
      clear s0 s1 s2
      refine wpHold_branch (f := 2) (rs := [14]) (by kernel_rfl) (by simp) ?_
      refine AllHold.cons rfl (by decide) (fun K hK => ?_) AllHold.nil
      go_simp
      have bN : Below wq.heap.size wq (wq.alloc (.cells #[.int .i64 1, .string xk, .string xn, .string ⟨#[]⟩, .slice none 0 0] 131)).drew := ((Below.refl wq.heap.size wq).alloc (Nat.le_refl _) _).drew
      have hm3 : (wq.alloc (.cells #[.int .i64 1, .string xk, .string xn, .string ⟨#[]⟩, .slice none 0 0] 131)).drew.ownsRow (w.heap.size + 2) 131 5 (.slice qa cs.length qc) cs.length (cs.flatMap CAt.cells) := (HM.out.below bq).row.alloc _
      have hrow : HasRow (wq.alloc (.cells #[.int .i64 1, .string xk, .string xn, .string ⟨#[]⟩, .slice none 0 0] 131)).drew _ 1 5 _ := lit_has wq #[.int .i64 1, .string xk, .string xn, .string ⟨#[]⟩, .slice none 0 0] 131 5 rfl
      have hone : ∀ u ∈ (#[.int .i64 1, .string xk, .string xn, .string ⟨#[]⟩, .slice none 0 0] : Array Value).toList, u.oneCell' = true := by intro u hu; simp at hu; rcases hu with rfl | rfl | rfl | rfl | rfl <;> rfl
      refine hK.out _ _ (HS8.out _ (Bq.trans (bN.mono (by omega)))) ?_
      clear hK K
      refine wpHold_branch (f := 1) (rs := [15]) (by kernel_rfl) (by simp) ?_
      refine AllHold.cons rfl (by decide) (fun K hK => ?_) AllHold.nil
      refine step_append_has rfl _ _ 49 rfl (w.heap.size + 2) 131 i0 _ 5 80 Tryz.underlying49 hi hi0 hi1 hi2 rfl (by decide) _ cs.length _ rfl hm3 _ 1 _ rfl hrow hone (by unfold maxLen; omega) (by omega) (by show _ ≤ (wq.alloc _).heap.size; rw [World.size_alloc]; omega) ?_
      intro ao' cap' wE hownE hgE hvE
      have HPU := changes_push (x := ⟨1, xk, xn, ⟨#[]⟩, .slice none 0 0, []⟩) (HM.out.below bq) (by omega) (lines_nil wq.heap.size wq) (Below.refl _ _) hownE (undrewD hgE) hvE
      have BE := Bq.trans (HPU.2.mono (by omega))
      refine hK.out _ _ (HS8.out _ BE) ?_
      clear hK K
      have HR := hid_in (show Rel1 (w.heap.size + 2) w2 PA PB na (.slice ao' (cs.length + 1) cap') (.int .i64 ((k : Int) + 1)) wE from ⟨k + 1, cs ++ [⟨1, xk, xn, ⟨#[]⟩, .slice none 0 0, []⟩], by rw [Int.natCast_add]; rfl, by omega, by
       rw [HST.out, if_pos (Option.isNone_iff_eq_none.2 (HNG.out.1 hneg)), List.map_append, HGN.out]; rfl, fun c hc => by
       rcases List.mem_append.1 hc with hc | hc
       ·exact HSM.out c hc
       ·rw [List.mem_singleton.1 hc]; exact ⟨by simp, fun z hz => by cases hz⟩, by simp; omega, HPU.1, BE⟩)
      clear hm3 hrow hone hownE hgE hvE HPU bN
      refine wpHold_last (by kernel_rfl) rfl (by kernel_rfl) ?_
      intro K hK
      go_simp
      refine hK.out _ _ (NoPanic.normal ?_)
      clear hK K
      go_wp2
      go_roundw
      case rel => exact HR.out
      case measure => simp [intOf]; omega
     ·have HR := hid_in (show Rel1 (w.heap.size + 2) w2 PA PB na (.slice qa cs.length qc) (.int .i64 ((k : Int) + 1)) wq from ⟨k + 1, cs, by rw [Int.natCast_add]; rfl, by omega, by
       rw [HST.out, if_neg (fun h => hneg (HNG.out.2 (Option.isNone_iff_eq_none.1 h))), List.append_nil], HSM.out, by omega, HM.out.below bq, Bq⟩)
      go_wp2
      go_roundw
      case rel => exact HR.out
      case measure => simp [intOf]; omega
    ·obtain rfl : k = na := by omega
     have hPA : PA.take k = PA := by rw [← EPA.out, ← ena.out, ← List.length_map (f := BAt.plain), List.take_length]
     rw [hPA] at hcs
     have HI2 := hid_in (show Rel2 (w.heap.size + 2) w2 PA PB k nb (.slice qa cs.length qc) (.int .i64 0) wr from ⟨0, cs, rfl, by omega, by rw [hcs]; simp, hsm, by omega, hm, bw⟩)
     clear hm hsm hcs hPA bw hB2 hcl
     generalize cs.length = nc at *
     generalize hna : k = na at *
     clear hna
     obtain ⟨wo, hwo⟩ : ∃ wo, wo = wr := ⟨_, rfl⟩
     subst hwo
     go_wp2
     go_loopw [5, 7] (fun out i wr => Rel2 (w.heap.size + 2) w2 PA PB na nb out i wr) (fun _ i _ => nb - (intOf i).toNat)
     case atStart => exact HI2.out
     case round =>
      clear HI2
      obtain ⟨k, cs, rfl, hk, hcs, hsm, hcl, hm, bw⟩ := hrel
      obtain ⟨qa, qc, rfl, _⟩ := own_form (show wr.ownsRow (w.heap.size + 2) 131 5 _ cs.length (cs.flatMap CAt.cells) from Mem.head hm)
      have hszw := bw.size
      rw [hwz] at hszw
      have hB2 : Below w2.heap.size w2 wr := by rw [hwz]; exact bw
      have kA := (bw.cell (p := ⟨w.heap.size, 0, none⟩) (by simp)).trans cA
      have kB := (bw.cell (p := ⟨w.heap.size + 1, 0, none⟩) (by simp)).trans cB
      by_cases hlt : k < nb
      ·obtain ⟨D, y, T, eL, hD⟩ := split1 bs k (by have := enb.out; omega)
       have hrow := HB2.out.1
       rw [eL] at hrow
       obtain ⟨g, off, rfl, d0, d1, d2⟩ := hrow.block
       rw [hD] at d0 d1 d2
       have hym : y ∈ bs := by rw [eL]; simp
       have hyl := (HB2.out.below hB2).2 y hym
       have hys := (SB.out.2 y hym).2
       have HST := hid_in (show (PB.take (k + 1)).flatMap (diffY PA) = (PB.take k).flatMap (diffY PA) ++ diffY PA y.plain from take_flat _ (show PB = D.map BAt.plain ++ y.plain :: T.map BAt.plain by rw [← EPB.out, eL]; simp) (by rw [List.length_map]; exact hD))
       obtain ⟨yk, yn, yv, yl⟩ := y
       simp only at d0 d1 d2 hys
       have hyl : LinesIn wr yv yl := hyl
       obtain ⟨ya, yc, rfl⟩ := hyl.1.form
       have HYP := hid_in (show (⟨yk, yn, .slice ya yl.length yc, yl⟩ : BAt).plain = ⟨yk, yn, yl.map LAt.plain⟩ from rfl)
       rw [HYP.out] at HST
       have lg := World.block_lt_of_cell? w2 _ d0
       simp only [hwz] at lg
       have c0 := (bw.cell (p := ⟨g, off + k * 3, none⟩) lg).trans d0
       have c1 := (bw.cell (p := ⟨g, off + k * 3 + 1, none⟩) lg).trans d1
       have c2 := (bw.cell (p := ⟨g, off + k * 3 + 2, none⟩) lg).trans d2
       have k1 : (0 : Int) ≤ (k : Int) := by omega
       have k2 : (k : Int) < (nb : Int) := by omega
       generalize hny : yl.length = ny at *
       have eny := hid_in hny
       clear hny
       have bR := (Below.refl wr.heap.size wr).alloc (Nat.le_refl _) (.cells #[.string yk, .string yn, .slice ya ny yc] 64)
       have zR := alloc_here wr (.cells #[.string yk, .string yn, .slice ya ny yc] 64)
       have y0 := cell_of_block zR 0
       have y1 := cell_of_block zR 1
       have y2 := cell_of_block zR 2
       simp only [List.getElem?_toArray, List.getElem?_cons_zero, List.getElem?_cons_succ] at y0 y1 y2
       have x0 := (bR.cell (World.block_lt_of_cell? wr _ kA)).trans kA
       have HF := l3Find_at yk yn ((HA2.out.below hB2).below bR) (by rw [ena.out]; exact hal)
       unfold HeadAt at HF
       rw [EPA.out] at HF
       have HNG := hid_in (@headAt_neg PA yk yn)
       have HSOME := hid_in (@headAt_some PA yk yn)
       have hOWN := hid_in (show (Value.slice qa cs.length qc).ownBlock ≠ some wr.heap.size from fun e => Nat.lt_irrefl _ (Mem.lt hm (List.mem_cons_self ..) e).2)
       have HM := hid_in (hm.below bR)
       have HSM := hid_in hsm
       have HCS := hid_in hcs
       have HYL := hid_in (hyl.below bR)
       have HYS := hid_in hys
       have BR := bw.trans (bR.mono (by omega))
       clear hm hsm hcs hrow eL hD hym hyl hys d0 d1 d2 HYP
       generalize hat : headAt PA yk yn = AT at *
       clear hat
       generalize hWR : wr.alloc (.cells #[.string yk, .string yn, .slice ya ny yc] 64) = WR at *
       have eWR := hid_in hWR
       clear hWR zR
       have hzR : wr.heap.size < WR.heap.size := World.block_lt_of_cell? WR _ y0
       go_upto_region 13 with fail
       rw [eWR.out]
       go_wp2_with (go_at_call 76; refine HF.mono ?_)
       first | rintro e wq rfl bq | rintro e wq ⟨rfl, bq⟩
       have hq := bq.size
       have Bq := BR.trans (bq.mono (by omega))
       have HMq := hid_in (HM.out.below bq)
       have HSY := hid_in (show ∀ W, Below wq.heap.size wq W → W.cell? ⟨wr.heap.size, 0, none⟩ = some (.string yk) ∧ W.cell? ⟨wr.heap.size, 1, none⟩ = some (.string yn) ∧ W.cell? ⟨wr.heap.size, 2, none⟩ = some (.slice ya ny yc) from fun W hu => by
        have e := bq.trans (hu.mono hq)
        exact ⟨(e.cell (World.block_lt_of_cell? WR _ y0)).trans y0, (e.cell (World.block_lt_of_cell? WR _ y1)).trans y1, (e.cell (World.block_lt_of_cell? WR _ y2)).trans y2⟩)
       clear HF c0 c1 c2 kA kB x0 HM bR
       obtain ⟨i0, hi, hi0, hi1, hi2⟩ := info_parts infoChange
       by_cases hneg : AT < 0
       ·have HL := l3Lines_any (HYL.out.below bq) HYS.out
        have Bd : Below wq.heap.size wq wq.drew := (Below.refl _ _).drew
        have HLd := l3Lines_any ((HYL.out.below bq).below Bd) HYS.out
        clear HL
        have s0 := fun p : { W : World // W.cell? ⟨wr.heap.size, 0, none⟩ = some (.string yk) ∧ W.cell? ⟨wr.heap.size, 1, none⟩ = some (.string yn) ∧ W.cell? ⟨wr.heap.size, 2, none⟩ = some (.slice ya ny yc) } => p.2.1
        have s1 := fun p : { W : World // W.cell? ⟨wr.heap.size, 0, none⟩ = some (.string yk) ∧ W.cell? ⟨wr.heap.size, 1, none⟩ = some (.string yn) ∧ W.cell? ⟨wr.heap.size, 2, none⟩ = some (.slice ya ny yc) } => p.2.2.1
        have s2 := fun p : { W : World // W.cell? ⟨wr.heap.size, 0, none⟩ = some (.string yk) ∧ W.cell? ⟨wr.heap.size, 1, none⟩ = some (.string yn) ∧ W.cell? ⟨wr.heap.size, 2, none⟩ = some (.slice ya ny yc) } => p.2.2.2
        letI : Inhabited { W : World // W.cell? ⟨wr.heap.size, 0, none⟩ = some (.string yk) ∧ W.cell? ⟨wr.heap.size, 1, none⟩ = some (.string yn) ∧ W.cell? ⟨wr.heap.size, 2, none⟩ = some (.slice ya ny yc) } := ⟨⟨wq.drew, HSY.out _ Bd⟩⟩
        go_upto_region 15 with fail
        refine wp_region_hold (S := fun W => W.cell? ⟨wr.heap.size, 0, none⟩ = some (.string yk) ∧ W.cell? ⟨wr.heap.size, 1, none⟩ = some (.string yn) ∧ W.cell? ⟨wr.heap.size, 2, none⟩ = some (.slice ya ny yc)) 11 12 (by kernel_rfl) rfl ?_
        refine wpHold_mask [true, true, true, true, true, true, true, false, false, false, false, false] 5 rfl (by kernel_rfl) (HSY.out _ Bd) ?_
        simp only [maskL_t, maskL_f, maskL_n]
        iterate 7 (refine wpReads_step (fun K hK => ?_); go_simp; refine hK _ ?_; clear hK K)
        refine wpReads_nil ?_
        clear s0 s1 s2
        refine wpHold_branch (f := 4) (rs := [7]) (by kernel_rfl) (by simp) ?_
        refine AllHold.cons rfl (by decide) (fun K hK => ?_) AllHold.nil
        go_simp
        go_wp2_with (go_at_call 90; refine HLd.mono ?_; rintro e w7 ⟨v7, ls7, rfl, hp7, o7, b7⟩; obtain ⟨a7, c7, rfl, _⟩ := own_form o7.row)
        have b7' : Below wq.heap.size wq w7 := Bd.trans b7
        refine hK.out _ _ (HSY.out _ b7') ?_
        clear hK K
        refine wpHold_mask [false, false, false, false, false, false, false, false, true, false, false, false] 3 rfl (by kernel_rfl) (HSY.out _ b7') ?_
        simp only [maskL_t, maskL_f, maskL_n]
        iterate 1 (refine wpReads_step (fun K hK => ?_); go_simp; refine hK _ ?_; clear hK K)
        refine wpReads_nil ?_
        refine wpHold_branch (f := 2) (rs := [9]) (by kernel_rfl) (by simp) ?_
        refine AllHold.cons rfl (by decide) (fun K hK => ?_) AllHold.nil
        go_simp
        have bN : Below wq.heap.size wq (w7.alloc (.cells #[.int .i64 2, .string yk, .string yn, .string ⟨#[]⟩, .slice a7 ls7.length c7] 131)) := b7'.alloc b7'.size _
        have hm3 : (w7.alloc (.cells #[.int .i64 2, .string yk, .string yn, .string ⟨#[]⟩, .slice a7 ls7.length c7] 131)).ownsRow (w.heap.size + 2) 131 5 (.slice qa cs.length qc) cs.length (cs.flatMap CAt.cells) := (HMq.out.below b7').row.alloc _
        have hrow := lit_has w7 #[.int .i64 2, .string yk, .string yn, .string ⟨#[]⟩, .slice a7 ls7.length c7] 131 5 rfl
        have hone : ∀ u ∈ (#[.int .i64 2, .string yk, .string yn, .string ⟨#[]⟩, .slice a7 ls7.length c7] : Array Value).toList, u.oneCell' = true := by intro u hu; simp at hu; rcases hu with rfl | rfl | rfl | rfl | rfl <;> rfl
        refine hK.out _ _ (HSY.out _ bN) ?_
        clear hK K
        refine wpHold_branch (f := 1) (rs := [10]) (by kernel_rfl) (by simp) ?_
        refine AllHold.cons rfl (by decide) (fun K hK => ?_) AllHold.nil
        have hz7 := b7'.size
        refine step_append_has rfl _ _ 49 rfl (w.heap.size + 2) 131 i0 _ 5 80 Tryz.underlying49 hi hi0 hi1 hi2 rfl (by decide) _ cs.length _ rfl hm3 _ 1 _ rfl hrow hone (by unfold maxLen; omega) (by omega) (by rw [World.size_alloc]; omega) ?_
        intro ao' cap' wE hownE hgE hvE
        have HPU := changes_push (x := ⟨2, yk, yn, ⟨#[]⟩, .slice a7 ls7.length c7, ls7⟩) HMq.out (by omega) o7 b7' hownE hgE hvE
        have BE := Bq.trans (HPU.2.mono (by omega))
        have hRz : wr.heap.size < (w7.alloc (.cells #[.int .i64 2, .string yk, .string yn, .string ⟨#[]⟩, .slice a7 ls7.length c7] 131)).heap.size := by rw [World.size_alloc]; omega
        have HSN := HSY.out _ bN
        have HSE : wE.cell? ⟨wr.heap.size, 0, none⟩ = some (.string yk) ∧ wE.cell? ⟨wr.heap.size, 1, none⟩ = some (.string yn) ∧ wE.cell? ⟨wr.heap.size, 2, none⟩ = some (.slice ya ny yc) := ⟨(hgE.cell_far ⟨wr.heap.size, 0, none⟩ hRz (Ne.symm hOWN.out)).trans HSN.1, (hgE.cell_far ⟨wr.heap.size, 1, none⟩ hRz (Ne.symm hOWN.out)).trans HSN.2.1, (hgE.cell_far ⟨wr.heap.size, 2, none⟩ hRz (Ne.symm hOWN.out)).trans HSN.2.2⟩
        refine hK.out _ _ HSE ?_
        clear hK K
        have HR := hid_in (show Rel2 (w.heap.size + 2) w2 PA PB na nb (.slice ao' (cs.length + 1) cap') (.int .i64 ((k : Int) + 1)) wE from ⟨k + 1, cs ++ [⟨2, yk, yn, ⟨#[]⟩, .slice a7 ls7.length c7, ls7⟩], by rw [Int.natCast_add]; rfl, by omega, by
         rw [HST.out, List.map_append, HCS.out, List.append_assoc]
         congr 2
         unfold diffY
         rw [show PA.find? (isHead (⟨yk, yn, yl.map LAt.plain⟩ : PBlock).kind (⟨yk, yn, yl.map LAt.plain⟩ : PBlock).name) = none from HNG.out.1 hneg]
         show [(⟨2, yk, yn, ⟨#[]⟩, ls7.map LAt.plain⟩ : PChange)] = [newOf ⟨yk, yn, yl.map LAt.plain⟩]
         rw [hp7]; rfl, fun c hc => by
         rcases List.mem_append.1 hc with hc | hc
         ·exact HSM.out c hc
         ·rw [List.mem_singleton.1 hc]; exact HYS.out.same hp7, by simp; omega, HPU.1, BE⟩)
        clear hm3 hrow hone hownE hgE hvE HPU bN
        refine wpHold_last (by kernel_rfl) rfl (by kernel_rfl) ?_
        intro K hK
        go_simp
        refine hK.out _ _ (NoPanic.normal ?_)
        clear hK K
        go_wp2
        go_roundw
        case rel => exact HR.out
        case measure => simp [intOf]; omega
       ·obtain ⟨j, hj, rfl, hfind⟩ := HSOME.out (by omega)
        have hjz : j < az.length := by rw [← EPA.out, List.length_map] at hj; exact hj
        obtain ⟨D2, x, T2, eL2, hD2⟩ := split1 az j hjz
        have hPx : PA[j]'hj = x.plain := by
         have h1 : PA[j]? = some x.plain := by rw [← EPA.out, eL2, List.getElem?_map, List.getElem?_append_right (by omega), hD2, Nat.sub_self]; rfl
         rw [List.getElem?_eq_getElem hj] at h1; exact Option.some.inj h1
        rw [hPx] at hfind
        have hrow2 := HA2.out.1
        rw [eL2] at hrow2
        obtain ⟨g2, off2, eaa, p0, p1, p2⟩ := hrow2.block
        subst eaa
        rw [hD2] at p0 p1 p2
        have hxm : x ∈ az := by rw [eL2]; simp
        have hxs := (SA.out.2 x hxm).2
        have hB2q : Below w2.heap.size w2 wq := by rw [hwz]; exact Bq
        have Bd : Below wq.heap.size wq wq.drew := (Below.refl _ _).drew
        have hxl := ((HA2.out.below hB2q).below Bd).2 x hxm
        have HBK := l7Block_any (x := x) (y := ⟨yk, yn, .slice ya ny yc, yl⟩) (w := wq.drew) hxl ((HYL.out.below bq).below Bd) hxs HYS.out
        have HDY := hid_in (show diffY PA ⟨yk, yn, yl.map LAt.plain⟩ = diffB x.plain ⟨yk, yn, yl.map LAt.plain⟩ from by
         unfold diffY
         rw [show PA.find? (isHead (⟨yk, yn, yl.map LAt.plain⟩ : PBlock).kind (⟨yk, yn, yl.map LAt.plain⟩ : PBlock).name) = some x.plain from hfind])
        obtain ⟨xk, xn, xv, xl⟩ := x
        have hxl2 : LinesIn wq.drew xv xl := hxl
        obtain ⟨xa, xc, rfl⟩ := hxl2.1.form
        simp only at HBK p0 p1 p2
        have lg2 := World.block_lt_of_cell? w2 _ p0
        simp only [hwz] at lg2
        generalize hnx : xl.length = nx at *
        clear hnx
        have HS6 := hid_in (show ∀ W, Below (w.heap.size + 2) w2 W → (W.cell? ⟨wr.heap.size, 0, none⟩ = some (.string yk) ∧ W.cell? ⟨wr.heap.size, 1, none⟩ = some (.string yn) ∧ W.cell? ⟨wr.heap.size, 2, none⟩ = some (.slice ya ny yc)) → W.cell? ⟨w.heap.size, 0, none⟩ = some (.slice (some ⟨g2, off2, none⟩) na ac) ∧ (W.cell? ⟨g2, off2 + j * 3, none⟩ = some (.string xk) ∧ W.cell? ⟨g2, off2 + j * 3 + 1, none⟩ = some (.string xn) ∧ W.cell? ⟨g2, off2 + j * 3 + 2, none⟩ = some (.slice xa nx xc)) ∧ (W.cell? ⟨wr.heap.size, 0, none⟩ = some (.string yk) ∧ W.cell? ⟨wr.heap.size, 1, none⟩ = some (.string yn) ∧ W.cell? ⟨wr.heap.size, 2, none⟩ = some (.slice ya ny yc)) from fun W hu hs => ⟨(hu.cell (p := ⟨w.heap.size, 0, none⟩) (by simp)).trans cA, ⟨(hu.cell (p := ⟨g2, off2 + j * 3, none⟩) lg2).trans p0, (hu.cell (p := ⟨g2, off2 + j * 3 + 1, none⟩) lg2).trans p1, (hu.cell (p := ⟨g2, off2 + j * 3 + 2, none⟩) lg2).trans p2⟩, hs⟩)
        clear hxl hxl2 hxs hxm hrow2 eL2 hPx p0 p1 p2 hfind hB2q
        have j0 : (0 : Int) ≤ (j : Int) := by omega
        have j1 : (j : Int) < (na : Int) := by rw [ena.out] at hjz; omega
        have hS0 := HS6.out _ Bq.drew (HSY.out _ Bd)
        have s0 := fun p : { W : World // W.cell? ⟨w.heap.size, 0, none⟩ = some (.slice (some ⟨g2, off2, none⟩) na ac) ∧ (W.cell? ⟨g2, off2 + j * 3, none⟩ = some (.string xk) ∧ W.cell? ⟨g2, off2 + j * 3 + 1, none⟩ = some (.string xn) ∧ W.cell? ⟨g2, off2 + j * 3 + 2, none⟩ = some (.slice xa nx xc)) ∧ (W.cell? ⟨wr.heap.size, 0, none⟩ = some (.string yk) ∧ W.cell? ⟨wr.heap.size, 1, none⟩ = some (.string yn) ∧ W.cell? ⟨wr.heap.size, 2, none⟩ = some (.slice ya ny yc)) } => p.2.1
        have s1 := fun p : { W : World // W.cell? ⟨w.heap.size, 0, none⟩ = some (.slice (some ⟨g2, off2, none⟩) na ac) ∧ (W.cell? ⟨g2, off2 + j * 3, none⟩ = some (.string xk) ∧ W.cell? ⟨g2, off2 + j * 3 + 1, none⟩ = some (.string xn) ∧ W.cell? ⟨g2, off2 + j * 3 + 2, none⟩ = some (.slice xa nx xc)) ∧ (W.cell? ⟨wr.heap.size, 0, none⟩ = some (.string yk) ∧ W.cell? ⟨wr.heap.size, 1, none⟩ = some (.string yn) ∧ W.cell? ⟨wr.heap.size, 2, none⟩ = some (.slice ya ny yc)) } => p.2.2.1.1
        have s2 := fun p : { W : World // W.cell? ⟨w.heap.size, 0, none⟩ = some (.slice (some ⟨g2, off2, none⟩) na ac) ∧ (W.cell? ⟨g2, off2 + j * 3, none⟩ = some (.string xk) ∧ W.cell? ⟨g2, off2 + j * 3 + 1, none⟩ = some (.string xn) ∧ W.cell? ⟨g2, off2 + j * 3 + 2, none⟩ = some (.slice xa nx xc)) ∧ (W.cell? ⟨wr.heap.size, 0, none⟩ = some (.string yk) ∧ W.cell? ⟨wr.heap.size, 1, none⟩ = some (.string yn) ∧ W.cell? ⟨wr.heap.size, 2, none⟩ = some (.slice ya ny yc)) } => p.2.2.1.2.1
        have s3 := fun p : { W : World // W.cell? ⟨w.heap.size, 0, none⟩ = some (.slice (some ⟨g2, off2, none⟩) na ac) ∧ (W.cell? ⟨g2, off2 + j * 3, none⟩ = some (.string xk) ∧ W.cell? ⟨g2, off2 + j * 3 + 1, none⟩ = some (.string xn) ∧ W.cell? ⟨g2, off2 + j * 3 + 2, none⟩ = some (.slice xa nx xc)) ∧ (W.cell? ⟨wr.heap.size, 0, none⟩ = some (.string yk) ∧ W.cell? ⟨wr.heap.size, 1, none⟩ = some (.string yn) ∧ W.cell? ⟨wr.heap.size, 2, none⟩ = some (.slice ya ny yc)) } => p.2.2.1.2.2
        have s4 := fun p : { W : World // W.cell? ⟨w.heap.size, 0, none⟩ = some (.slice (some ⟨g2, off2, none⟩) na ac) ∧ (W.cell? ⟨g2, off2 + j * 3, none⟩ = some (.string xk) ∧ W.cell? ⟨g2, off2 + j * 3 + 1, none⟩ = some (.string xn) ∧ W.cell? ⟨g2, off2 + j * 3 + 2, none⟩ = some (.slice xa nx xc)) ∧ (W.cell? ⟨wr.heap.size, 0, none⟩ = some (.string yk) ∧ W.cell? ⟨wr.heap.size, 1, none⟩ = some (.string yn) ∧ W.cell? ⟨wr.heap.size, 2, none⟩ = some (.slice ya ny yc)) } => p.2.2.2.1
        have s5 := fun p : { W : World // W.cell? ⟨w.heap.size, 0, none⟩ = some (.slice (some ⟨g2, off2, none⟩) na ac) ∧ (W.cell? ⟨g2, off2 + j * 3, none⟩ = some (.string xk) ∧ W.cell? ⟨g2, off2 + j * 3 + 1, none⟩ = some (.string xn) ∧ W.cell? ⟨g2, off2 + j * 3 + 2, none⟩ = some (.slice xa nx xc)) ∧ (W.cell? ⟨wr.heap.size, 0, none⟩ = some (.string yk) ∧ W.cell? ⟨wr.heap.size, 1, none⟩ = some (.string yn) ∧ W.cell? ⟨wr.heap.size, 2, none⟩ = some (.slice ya ny yc)) } => p.2.2.2.2.1
        have s6 := fun p : { W : World // W.cell? ⟨w.heap.size, 0, none⟩ = some (.slice (some ⟨g2, off2, none⟩) na ac) ∧ (W.cell? ⟨g2, off2 + j * 3, none⟩ = some (.string xk) ∧ W.cell? ⟨g2, off2 + j * 3 + 1, none⟩ = some (.string xn) ∧ W.cell? ⟨g2, off2 + j * 3 + 2, none⟩ = some (.slice xa nx xc)) ∧ (W.cell? ⟨wr.heap.size, 0, none⟩ = some (.string yk) ∧ W.cell? ⟨wr.heap.size, 1, none⟩ = some (.string yn) ∧ W.cell? ⟨wr.heap.size, 2, none⟩ = some (.slice ya ny yc)) } => p.2.2.2.2.2
        letI : Inhabited { W : World // W.cell? ⟨w.heap.size, 0, none⟩ = some (.slice (some ⟨g2, off2, none⟩) na ac) ∧ (W.cell? ⟨g2, off2 + j * 3, none⟩ = some (.string xk) ∧ W.cell? ⟨g2, off2 + j * 3 + 1, none⟩ = some (.string xn) ∧ W.cell? ⟨g2, off2 + j * 3 + 2, none⟩ = some (.slice xa nx xc)) ∧ (W.cell? ⟨wr.heap.size, 0, none⟩ = some (.string yk) ∧ W.cell? ⟨wr.heap.size, 1, none⟩ = some (.string yn) ∧ W.cell? ⟨wr.heap.size, 2, none⟩ = some (.slice ya ny yc)) } := ⟨⟨wq.drew, hS0⟩⟩
        go_upto_region 16 with fail
        refine wp_region_hold (S := fun W => W.cell? ⟨w.heap.size, 0, none⟩ = some (.slice (some ⟨g2, off2, none⟩) na ac) ∧ (W.cell? ⟨g2, off2 + j * 3, none⟩ = some (.string xk) ∧ W.cell? ⟨g2, off2 + j * 3 + 1, none⟩ = some (.string xn) ∧ W.cell? ⟨g2, off2 + j * 3 + 2, none⟩ = some (.slice xa nx xc)) ∧ (W.cell? ⟨wr.heap.size, 0, none⟩ = some (.string yk) ∧ W.cell? ⟨wr.heap.size, 1, none⟩ = some (.string yn) ∧ W.cell? ⟨wr.heap.size, 2, none⟩ = some (.slice ya ny yc))) 9 10 (by kernel_rfl) rfl ?_
        refine wpHold_mask [true, true, true, true, true, true, true, false, false, false] 3 rfl (by kernel_rfl) hS0 ?_
        simp only [maskL_t, maskL_f, maskL_n]
        iterate 7 (refine wpReads_step (fun K hK => ?_); go_simp; refine hK _ ?_; clear hK K)
        refine wpReads_nil ?_
        clear s0 s1 s2 s3 s4 s5 s6
        refine wpHold_branch (f := 2) (rs := [7]) (by kernel_rfl) (by simp) ?_
        refine AllHold.cons rfl (by decide) (fun K hK => ?_) AllHold.nil
        go_simp
        go_wp2_with (go_at_call 91; refine HBK.mono ?_; rintro e w7 ⟨v7, cs7, rfl, hp7, hs7, o7, hl7, b7⟩; obtain ⟨a7, c7, rfl, _⟩ := own_form o7.row)
        have b7' : Below wq.heap.size wq w7 := Bd.trans b7
        have hz7 := b7'.size
        have B7 := Bq.trans (b7'.mono (by omega))
        refine hK.out _ _ (HS6.out _ B7 (HSY.out _ b7')) ?_
        clear hK K
        refine wpHold_branch (f := 1) (rs := [8]) (by kernel_rfl) (by simp) ?_
        refine AllHold.cons rfl (by decide) (fun K hK => ?_) AllHold.nil
        have hm3 := (HMq.out.below b7').row
        have hrow := own_has o7.row
        have hone := ccells_one (cs := cs7) (fun z hz => by obtain ⟨a, c, e⟩ := HasRow.form (o7.cin.2 z hz).1; exact ⟨a, _, c, e⟩)
        refine step_append_has rfl _ _ 49 rfl (w.heap.size + 2) 131 i0 _ 5 80 Tryz.underlying49 hi hi0 hi1 hi2 rfl (by decide) _ cs.length _ rfl hm3 _ cs7.length _ rfl hrow hone (by unfold maxLen; omega) (by omega) (by omega) ?_
        intro ao' cap' wE hownE hgE hvE
        have HPU := changes_many HMq.out (by omega) o7 b7' hownE hgE hvE
        have BE := Bq.trans (HPU.2.mono (by omega))
        have hRz : wr.heap.size < w7.heap.size := by omega
        have HSN := HSY.out _ b7'
        have HSE : wE.cell? ⟨wr.heap.size, 0, none⟩ = some (.string yk) ∧ wE.cell? ⟨wr.heap.size, 1, none⟩ = some (.string yn) ∧ wE.cell? ⟨wr.heap.size, 2, none⟩ = some (.slice ya ny yc) := ⟨(hgE.cell_far ⟨wr.heap.size, 0, none⟩ hRz (Ne.symm hOWN.out)).trans HSN.1, (hgE.cell_far ⟨wr.heap.size, 1, none⟩ hRz (Ne.symm hOWN.out)).trans HSN.2.1, (hgE.cell_far ⟨wr.heap.size, 2, none⟩ hRz (Ne.symm hOWN.out)).trans HSN.2.2⟩
        refine hK.out _ _ (HS6.out _ BE HSE) ?_
        clear hK K
        have HR := hid_in (show Rel2 (w.heap.size + 2) w2 PA PB na nb (.slice ao' (cs.length + cs7.length) cap') (.int .i64 ((k : Int) + 1)) wE from ⟨k + 1, cs ++ cs7, by rw [Int.natCast_add]; rfl, by omega, by
         rw [HST.out, List.map_append, HCS.out, List.append_assoc, HDY.out, hp7]; rfl, fun c hc => by
         rcases List.mem_append.1 hc with hc | hc
         ·exact HSM.out c hc
         ·exact hs7 c hc, by rw [List.length_append]; omega, HPU.1, BE⟩)
        clear hm3 hrow hone hownE hgE hvE HPU o7 hp7
        generalize cs7.length = n77 at *
        refine wpHold_last (by kernel_rfl) rfl (by kernel_rfl) ?_
        intro K hK
        go_simp
        refine hK.out _ _ (NoPanic.normal ?_)
        clear hK K
        go_wp2
        go_roundw
        case rel => exact HR.out
        case measure => simp [intOf]; omega
      ·obtain rfl : k = nb := by omega
       have hPB : PB.take k = PB := by rw [← EPB.out, ← enb.out, ← List.length_map (f := BAt.plain), List.take_length]
       rw [hPB] at hcs
       have HO := hid_in (show DiffPost (diffS PA PB) w (.returned (.slice qa cs.length qc)) wr from ⟨_, cs, rfl, by rw [HV.out, hcs]; simp, hsm, by omega, Mem.mono hm (by omega), G.trans (bw.mono (by omega))⟩)
       clear hm hsm hcs
       generalize cs.length = nc2 at *
       go_wp2
       go_ret
       exact HO.out
end Go.Proofs.YtpdahhnjhggocabGreatDoor
namespace Go.Proofs.YtpdahhnjhggocabGreatDoor
open Go.RowKit
def cmpAt (P : List PBlock) (kind name : ByteArray) (t : Nat) : Int := match P[t]? with
 | some b => blockCmp b.kind b.name kind name
 | none => 0
def Belongs (P : List PBlock) (kind name : ByteArray) (i : Nat) : Prop := i ≤ P.length ∧ (∀ t, t < i → cmpAt P kind name t < 0) ∧ ∀ t, i ≤ t → t < P.length → ¬ cmpAt P kind name t < 0
def BsPost (P : List PBlock) (kind name : ByteArray) (w : World) (e : Ending) (w' : World) : Prop := ∃ (i : Nat) (f : Bool), e = .returned (.tuple #[.int .i64 (i : Int), .bool f]) ∧ Belongs P kind name i ∧ (f = true ↔ i < P.length ∧ cmpAt P kind name i = 0) ∧ Below w.heap.size w w'
set_option maxHeartbeats 4000000 in
set_option maxRecDepth 100000 in
theorem bsearch_any {v : Value} {bs : List BAt} (kind name : ByteArray) {w : World} (hb : BlocksIn w v bs) (hl : bs.length ≤ 1048576) (hmono : ∀ s t, s ≤ t → t < bs.length → cmpAt (bs.map BAt.plain) kind name t < 0 → cmpAt (bs.map BAt.plain) kind name s < 0) : Calls Tryz.prog 216 #[v, .agg #[.string kind, .string name, .slice none 0 0], .func (.func 56) #[] #[]] w fun e w' => BsPost (bs.map BAt.plain) kind name w e w' := by
 obtain ⟨ao, cap, rfl⟩ := hb.1.form
 have G := (Below.refl w.heap.size w).alloc (Nat.le_refl _) (.cells #[.string kind, .string name, .slice none 0 0] 64)
 have z := alloc_here w (.cells #[.string kind, .string name, .slice none 0 0] 64)
 have HB := hid_in (hb.below G)
 have HMO := hid_in hmono
 generalize hn : bs.length = n at *
 have en := hid_in hn
 clear hb hmono hn
 generalize hw1 : w.alloc (.cells #[.string kind, .string name, .slice none 0 0] 64) = w1 at *
 have ew1 := hid_in hw1
 clear hw1
 go_enter Tryz.func216, Tryz.ntmps216
 go_wp2
 rw [ew1.out]
 go_loopw [9, 10] (fun iv jv wr => ∃ (i j : Nat), iv = .int .i64 (i : Int) ∧ jv = .int .i64 (j : Int) ∧ i ≤ j ∧ j ≤ n ∧ Hid (∀ t, t < i → cmpAt (bs.map BAt.plain) kind name t < 0) ∧ Hid (∀ t, j ≤ t → t < n → ¬ cmpAt (bs.map BAt.plain) kind name t < 0) ∧ Below w1.heap.size w1 wr) (fun iv jv _ => (intOf jv - intOf iv).toNat)
 case atStart => exact ⟨0, n, rfl, rfl, by omega, by omega, hid_in (fun t h => by omega), hid_in (fun t h h2 => by omega), Below.refl _ _⟩
 case round =>
  obtain ⟨i, j, rfl, rfl, hij, hjn, hlo, hhi, bw⟩ := hrel
  have z0 := (bw.block w.heap.size (by rw [← ew1.out]; simp)).trans z
  have k0 := cell_of_block z0 0
  have k1 := cell_of_block z0 1
  have k2 := cell_of_block z0 2
  simp only [List.getElem?_toArray, List.getElem?_cons_zero, List.getElem?_cons_succ] at k0 k1 k2
  by_cases hlt : i < j
  ·have hlt' : ((i : Int) < (j : Int)) := by omega
   go_upto_region 5 with fail
   obtain ⟨h, hh, hi1, hi2⟩ : ∃ h : Nat, ((i : Int) + (j : Int)) / 2 = (h : Int) ∧ i ≤ h ∧ h < j := ⟨(i + j) / 2, by omega, by omega, by omega⟩
   rw [hh]
   obtain ⟨D, r, T, eL, hD⟩ := split1 bs h (by have := en.out; omega)
   have hbl := HB.out.below bw
   have hrow := hbl.1
   rw [eL] at hrow
   obtain ⟨g, off, rfl, c0, c1, c2⟩ := hrow.block
   obtain ⟨ra, rc, er⟩ := (hbl.2 r (by rw [eL]; simp)).1.form
   rw [er] at c2
   rw [hD] at c0 c1 c2
   have HAT := hid_in (show cmpAt (bs.map BAt.plain) kind name h = blockCmp r.kind r.name kind name from by
    unfold cmpAt
    rw [List.getElem?_map, eL, List.getElem?_append_right (by omega), hD, Nat.sub_self]; rfl)
   have HC : ∀ p : Gr wr, Calls Tryz.prog 56 #[.agg #[.string r.kind, .string r.name, .slice ra r.ls.length rc], .agg #[.string kind, .string name, .slice none 0 0]] p.u fun e w' => e = .returned (.int .i64 (blockCmp r.kind r.name kind name)) ∧ Below p.u.heap.size p.u w' := fun p => (compareBlocks_any r.kind r.name kind name r.ls.length 0 rc 0 ra none p.u).mono fun e w' h => ⟨h.1, h.2.1⟩
   have u0 := fun p : Gr wr => gr_cell c0 p
   have u1 := fun p : Gr wr => gr_cell c1 p
   have u2 := fun p : Gr wr => gr_cell c2 p
   have v0 := fun p : Gr wr => gr_cell k0 p
   have v1 := fun p : Gr wr => gr_cell k1 p
   have v2 := fun p : Gr wr => gr_cell k2 p
   have h0 : (0 : Int) ≤ (h : Int) := by omega
   have h1 : (h : Int) < (n : Int) := by omega
   clear hbl hrow er eL hD c0 c1 c2
   generalize r.kind = rk at *
   generalize r.name = rn at *
   generalize r.ls.length = nr at *
   generalize hcr : blockCmp rk rn kind name = cr at *
   clear hcr
   refine wp_region_gr (by kernel_rfl) (by kernel_rfl) ?_
   iterate 6 quiet_step (fail)
   quiet_step ((go_at_call 56; refine gr_of (HC _)))
   quiet_step (fail)
   refine wpQuiet_nil ?_
   rintro wq ⟨⟨_, bq⟩, rfl⟩
   have Bq := bw.trans (bq.mono bw.size)
   clear u0 u1 u2 v0 v1 v2 HC k0 k1 k2
   by_cases hneg : cr < 0
   ·have HLO := hid_in (show ∀ t, t < h + 1 → cmpAt (bs.map BAt.plain) kind name t < 0 from fun t ht => HMO.out t h (by omega) (by omega) (by rw [HAT.out]; exact hneg))
    go_wp2
    go_roundw
    case rel => exact ⟨h + 1, j, by go_num, rfl, by omega, by omega, HLO, hhi, Bq⟩
    case measure => simp [intOf]; omega
   ·have HHI := hid_in (show ∀ t, h ≤ t → t < n → ¬ cmpAt (bs.map BAt.plain) kind name t < 0 from fun t ht htn hc => hneg (by rw [← HAT.out]; exact HMO.out h t ht htn hc))
    go_wp2
    go_roundw
    case rel => exact ⟨i, h, rfl, rfl, by omega, by omega, hlo, HHI, Bq⟩
    case measure => simp [intOf]; omega
  ·obtain rfl : i = j := by omega
   have hlt' : ¬ ((i : Int) < (i : Int)) := by omega
   have HBL := hid_in (show Belongs (bs.map BAt.plain) kind name i from ⟨by rw [List.length_map, en.out]; exact hjn, hlo.out, fun t h h2 => hhi.out t h (by rw [List.length_map, en.out] at h2; exact h2)⟩)
   have hPL := hid_in (show (bs.map BAt.plain).length = n from by rw [List.length_map]; exact en.out)
   by_cases hin : i < n
   ·obtain ⟨D, r, T, eL, hD⟩ := split1 bs i (by have := en.out; omega)
    have hbl := HB.out.below bw
    have hrow := hbl.1
    rw [eL] at hrow
    obtain ⟨g, off, rfl, c0, c1, c2⟩ := hrow.block
    obtain ⟨ra, rc, er⟩ := (hbl.2 r (by rw [eL]; simp)).1.form
    rw [er] at c2
    rw [hD] at c0 c1 c2
    have HAT := hid_in (show cmpAt (bs.map BAt.plain) kind name i = blockCmp r.kind r.name kind name from by
     unfold cmpAt
     rw [List.getElem?_map, eL, List.getElem?_append_right (by omega), hD, Nat.sub_self]; rfl)
    have HC : ∀ p : Gr wr, Calls Tryz.prog 56 #[.agg #[.string r.kind, .string r.name, .slice ra r.ls.length rc], .agg #[.string kind, .string name, .slice none 0 0]] p.u fun e w' => e = .returned (.int .i64 (blockCmp r.kind r.name kind name)) ∧ Below p.u.heap.size p.u w' := fun p => (compareBlocks_any r.kind r.name kind name r.ls.length 0 rc 0 ra none p.u).mono fun e w' h => ⟨h.1, h.2.1⟩
    have u0 := fun p : Gr wr => gr_cell c0 p
    have u1 := fun p : Gr wr => gr_cell c1 p
    have u2 := fun p : Gr wr => gr_cell c2 p
    have v0 := fun p : Gr wr => gr_cell k0 p
    have v1 := fun p : Gr wr => gr_cell k1 p
    have v2 := fun p : Gr wr => gr_cell k2 p
    have h0 : (0 : Int) ≤ (i : Int) := by omega
    have h1 : (i : Int) < (n : Int) := by omega
    clear hbl hrow er eL hD c0 c1 c2 hlo hhi
    generalize r.kind = rk at *
    generalize r.name = rn at *
    generalize r.ls.length = nr at *
    generalize hcr : blockCmp rk rn kind name = cr at *
    clear hcr
    go_upto_region 8 with fail
    refine wp_region_gr (by kernel_rfl) (by kernel_rfl) ?_
    iterate 11 quiet_step (fail)
    quiet_step ((go_at_call 56; refine gr_of (HC _)))
    iterate 4 quiet_step (fail)
    refine wpQuiet_nil ?_
    rintro wq ⟨⟨_, bq⟩, rfl⟩
    have HO := hid_in (show BsPost (bs.map BAt.plain) kind name w (.returned (.tuple #[.int .i64 (i : Int), .bool (cr == 0)])) wq from ⟨i, cr == 0, rfl, HBL.out, by rw [hPL.out, HAT.out, beq_iff_eq]; exact ⟨fun h => ⟨hin, h⟩, fun h => h.2⟩, G.trans ((bw.trans (bq.mono bw.size)).mono G.size)⟩)
    clear u0 u1 u2 v0 v1 v2 HC k0 k1 k2
    go_wp2
    go_ret2
    exact HO.out
   ·have h1 : ¬ (i : Int) < (n : Int) := by omega
    have HO := hid_in (show ∀ wq, Below wr.heap.size wr wq → BsPost (bs.map BAt.plain) kind name w (.returned (.tuple #[.int .i64 (i : Int), .bool false])) wq from fun wq bq => ⟨i, false, rfl, HBL.out, by rw [hPL.out]; exact ⟨fun h => Bool.noConfusion h, fun h => absurd h.1 hin⟩, G.trans ((bw.trans (bq.mono bw.size)).mono G.size)⟩)
    clear hlo hhi
    go_upto_region 8 with fail
    refine wp_region_gr (by kernel_rfl) (by kernel_rfl) ?_
    iterate 5 quiet_step (fail)
    iterate 8 (with_reducible refine quiet_skip ?_ ?_; kernel_rfl; simp only [Act.put, List.setIfInBounds_toArray, List.set_cons_zero, List.set_cons_succ])
    iterate 3 quiet_step (fail)
    refine wpQuiet_nil ?_
    rintro wq ⟨⟨_, bq⟩, rfl⟩
    have HO2 := hid_in (HO.out wq bq)
    go_wp2
    go_ret2
    exact HO2.out
end Go.Proofs.YtpdahhnjhggocabGreatDoor
namespace Go.Proofs.YtpdahhnjhggocabGreatDoor
open Go.RowKit
set_option maxHeartbeats 2000000 in
set_option maxRecDepth 100000 in
theorem findBlock_any {v : Value} {bs : List BAt} (kind name : ByteArray) {w : World} (hb : BlocksIn w v bs) (hl : bs.length ≤ 1048576) (hmono : ∀ s t, s ≤ t → t < bs.length → cmpAt (bs.map BAt.plain) kind name t < 0 → cmpAt (bs.map BAt.plain) kind name s < 0) : Calls Tryz.prog 157 #[v, .agg #[.string kind, .string name]] w fun e w' => BsPost (bs.map BAt.plain) kind name w e w' := by
 obtain ⟨ao, cap, rfl⟩ := hb.1.form
 have G := (Below.refl w.heap.size w).alloc (Nat.le_refl _) (.cells #[.string kind, .string name] 124)
 have HS := bsearch_any kind name (hb.below G) hl hmono
 clear hb hmono
 generalize bs.length = n at *
 go_enter Tryz.func157, Tryz.ntmps157
 go_wp2_with (go_at_call 216; refine HS.mono ?_)
 rintro e w2 ⟨i, f, rfl, h1, h2, b2⟩
 have HO := hid_in (show BsPost (bs.map BAt.plain) kind name w (.returned (.tuple #[.int .i64 (i : Int), .bool f])) w2 from ⟨i, f, rfl, h1, h2, G.trans (b2.mono G.size)⟩)
 clear HS h1 h2 b2
 go_wp2
 go_ret2
 exact HO.out
theorem sheet_mono {P : List PBlock} (h : P.Pairwise (fun a b => blockLt a b = true)) (kind name : ByteArray) : ∀ s t, s ≤ t → t < P.length → cmpAt P kind name t < 0 → cmpAt P kind name s < 0 := by
 intro s t hst ht hc
 rcases Nat.lt_or_ge s t with hlt | hge
 ·have hs : s < P.length := by omega
  have h1 := List.pairwise_iff_getElem.1 h s t hs ht hlt
  unfold cmpAt at hc ⊢
  rw [List.getElem?_eq_getElem ht] at hc
  rw [List.getElem?_eq_getElem hs]
  simp only at hc ⊢
  have h2 := (blockCmp_lt P[t] ⟨kind, name, []⟩).1 hc
  exact (blockCmp_lt P[s] ⟨kind, name, []⟩).2 (blockLt_trans _ _ _ h1 h2)
 ·have : s = t := by omega
  rw [this]; exact hc
end Go.Proofs.YtpdahhnjhggocabGreatDoor
namespace Go.Proofs.YtpdahhnjhggocabGreatDoor
open Go.RowKit
set_option maxHeartbeats 2000000 in
set_option maxRecDepth 100000 in
theorem sameWords_any {kx ky : ByteArray} {xa ya : Option Addr} {nx ny cx cy : Nat} {xs ys : List (List UInt8)} {w : World} (h1 : HasRow w (.slice xa nx cx) xs.length 1 (strs xs)) (h2 : HasRow w (.slice ya ny cy) ys.length 1 (strs ys)) (hn : nx ≤ 1048576) (hm : ny ≤ 1048576) : Calls Tryz.prog 218 #[.agg #[.string kx, .slice xa nx cx], .agg #[.string ky, .slice ya ny cy]] w fun e w' => e = .returned (.bool (decide (xs = ys))) ∧ Below w.heap.size w w' := by
 have G : Below w.heap.size w ((w.alloc (.cells #[.string kx, .slice xa nx cx] 82)).alloc (.cells #[.string ky, .slice ya ny cy] 82)) := ((Below.refl w.heap.size w).alloc (Nat.le_refl _) _).alloc (by simp) _
 have HE := slicesEqual_any (h1.below G) (h2.below G) hn hm
 clear h1 h2
 go_enter Tryz.func218, Tryz.ntmps218
 go_wp2_with (go_at_call 147; refine HE.mono ?_)
 rintro e w2 ⟨rfl, q2, rfl⟩
 clear HE
 go_wp2
 go_ret
 exact ⟨rfl, below_drewN G q2⟩
set_option maxHeartbeats 4000000 in
set_option maxRecDepth 100000 in
theorem eqFunc_any {va vb : Value} {xs ys : List LAt} {w : World} (h1 : LinesIn w va xs) (h2 : LinesIn w vb ys) (s1 : LinesSmall xs) (s2 : LinesSmall ys) : Calls Tryz.prog 217 #[va, vb, .func (.func 218) #[] #[]] w fun e w' => e = .returned (.bool (decide (xs.map LAt.ws = ys.map LAt.ws))) ∧ Below w.heap.size w w' := by
 obtain ⟨ao, ca, rfl⟩ := h1.1.form
 obtain ⟨bo, cb, rfl⟩ := h2.1.form
 by_cases hl : xs.length = ys.length
 ·have EN := hid_in hl
  have H1 := hid_in h1
  have H2 := hid_in h2
  have S1 := hid_in s1
  have S2 := hid_in s2
  have hn2 : xs.length ≤ 1048576 := s1.1
  rw [← hl]
  clear h1 h2 s1 s2 hl
  generalize hn : xs.length = n at *
  have en := hid_in hn
  clear hn
  have hnn : ((n : Int) != (n : Int)) = false := by simp
  go_enter Tryz.func217, Tryz.ntmps217
  go_wp2
  go_loopw [17] (fun i wr => ∃ j : Nat, i = .int .i64 (j : Int) ∧ j ≤ n ∧ Hid ((xs.take j).map LAt.ws = (ys.take j).map LAt.ws) ∧ Below w.heap.size w wr) (fun i _ => n - (intOf i).toNat)
  case atStart => exact ⟨0, rfl, by omega, hid_in (by simp), Below.refl _ _⟩
  case round =>
   obtain ⟨j, rfl, hj, hA, bw⟩ := hrel
   by_cases hlt : j < n
   ·obtain ⟨D, x, T, e1, hD⟩ := split1 xs j (by have := en.out; omega)
    obtain ⟨D', y, T', e2, hD'⟩ := split1 ys j (by have := EN.out; have := en.out; omega)
    have hx := H1.out.below bw
    have hy := H2.out.below bw
    have hxm : x ∈ xs := by rw [e1]; simp
    have hym : y ∈ ys := by rw [e2]; simp
    have hxr := hx.1
    have hyr := hy.1
    rw [e1] at hxr
    rw [e2] at hyr
    obtain ⟨g, off, rfl, c1, c2⟩ := hxr.line
    obtain ⟨g', off', rfl, d1, d2⟩ := hyr.line
    have hxl := hx.2 x hxm
    have hyl := hy.2 y hym
    obtain ⟨ax, cx, ex⟩ := HasRow.form hxl
    obtain ⟨ay, cy, ey⟩ := HasRow.form hyl
    have hxw := (S1.out.2 x hxm).1
    have hyw := (S2.out.2 y hym).1
    unfold LineIn at hxl hyl
    rw [ex] at c2 hxl
    rw [ey] at d2 hyl
    simp only [hD] at c1 c2
    simp only [hD'] at d1 d2
    have HNE := hid_in (show ¬ x.ws = y.ws → decide (xs.map LAt.ws = ys.map LAt.ws) = false from fun h => decide_eq_false (fun e => by
     have h0 := congrArg (fun l : List (List (List UInt8)) => l[j]?) e
     simp only [List.getElem?_map, e1, e2, List.getElem?_append_right (show D.length ≤ j by omega), List.getElem?_append_right (show D'.length ≤ j by omega), hD, hD', Nat.sub_self, List.getElem?_cons_zero, Option.map_some] at h0
     exact h (Option.some.inj h0)))
    have HEQ := hid_in (show x.ws = y.ws → (xs.take (j + 1)).map LAt.ws = (ys.take (j + 1)).map LAt.ws from fun h' => by
     have t1 : xs.take (j + 1) = xs.take j ++ [x] := by rw [e1, ← hD, take_front, take_one]
     have t2 : ys.take (j + 1) = ys.take j ++ [y] := by rw [e2, ← hD', take_front, take_one]
     rw [t1, t2, List.map_append, List.map_append, hA.out, List.map_singleton, List.map_singleton, h'])
    have j0 : (0 : Int) ≤ (j : Int) := by omega
    have j1 : (j : Int) < (n : Int) := by omega
    have bx := (Below.refl wr.heap.size wr).alloc (Nat.le_refl _) (.cells #[.string x.key, .slice ax x.ws.length cx] 82)
    have by' := bx.alloc (by simp) (.cells #[.string y.key, .slice ay y.ws.length cy] 82)
    have f1 := (bx.cell (World.block_lt_of_cell? wr _ d1)).trans d1
    have f2 := (bx.cell (World.block_lt_of_cell? wr _ d2)).trans d2
    have zX : ((wr.alloc (.cells #[.string x.key, .slice ax x.ws.length cx] 82)).alloc (.cells #[.string y.key, .slice ay y.ws.length cy] 82)).heap[wr.heap.size]? = some (.cells #[.string x.key, .slice ax x.ws.length cx] 82 (0, 0)) := by
     have b1 := (Below.refl (wr.alloc (.cells #[.string x.key, .slice ax x.ws.length cx] 82)).heap.size (wr.alloc (.cells #[.string x.key, .slice ax x.ws.length cx] 82))).alloc (Nat.le_refl _) (.cells #[.string y.key, .slice ay y.ws.length cy] 82)
     rw [b1.block wr.heap.size (by simp)]; exact alloc_here wr _
    have zY : ((wr.alloc (.cells #[.string x.key, .slice ax x.ws.length cx] 82)).alloc (.cells #[.string y.key, .slice ay y.ws.length cy] 82)).heap[wr.heap.size + 1]? = some (.cells #[.string y.key, .slice ay y.ws.length cy] 82 (0, 0)) := by
     have := alloc_here (wr.alloc (.cells #[.string x.key, .slice ax x.ws.length cx] 82)) (.cells #[.string y.key, .slice ay y.ws.length cy] 82)
     rw [World.size_alloc] at this; exact this
    have k0 := cell_of_block zX 0
    have k1 := cell_of_block zX 1
    have l0 := cell_of_block zY 0
    have l1 := cell_of_block zY 1
    simp only [List.getElem?_toArray, List.getElem?_cons_zero, List.getElem?_cons_succ] at k0 k1 l0 l1
    have HW := sameWords_any (kx := x.key) (ky := y.key) (hxl.below by') (hyl.below by') hxw hyw
    generalize hB : decide (x.ws = y.ws) = WB at HW
    have EB := hid_in hB
    clear hx hy hxm hym hxr hyr hxl hyl ex ey e1 e2 hD hD' hxw hyw d1 d2 hA hB zX zY
    generalize x.key = xk at *
    generalize y.key = yk at *
    generalize x.ws.length = nx at *
    generalize y.ws.length = ny at *
    go_wp2_with (go_at_call 218; refine HW.mono ?_)
    rintro e w2 ⟨rfl, b2⟩
    have B := hid_in (bw.trans ((by'.trans (b2.mono by'.size)).mono bw.size))
    clear bw bx by' b2 HW k0 k1 l0 l1 c1 c2 f1 f2
    cases WB
    ·have HF := HNE.out (of_decide_eq_false EB.out)
     go_wp2
     go_ret
     exact ⟨HF ▸ rfl, B.out⟩
    ·have HT := hid_in (HEQ.out (of_decide_eq_true EB.out))
     go_wp2
     go_roundw
     case rel => exact ⟨j + 1, by go_num, by omega, HT, B.out⟩
     case measure => simp [intOf]; omega
   ·obtain rfl : j = n := by omega
    have HT := decide_eq_true (show xs.map LAt.ws = ys.map LAt.ws from by
     have h := hA.out
     have e : xs.length = ys.length := en.out.trans EN.out
     rw [← en.out, List.take_length, e, List.take_length] at h
     exact h)
    clear hA
    go_wp2
    go_ret
    exact ⟨HT ▸ rfl, bw⟩
 ·have HF := decide_eq_false (show ¬ xs.map LAt.ws = ys.map LAt.ws from fun e => hl (by have := congrArg List.length e; simpa using this))
  have hne : ((xs.length : Int) != (ys.length : Int)) = true := by rw [bne_iff_ne]; omega
  clear h1 h2 s1 s2 hl
  generalize xs.length = n at *
  generalize ys.length = m at *
  go_enter Tryz.func217, Tryz.ntmps217
  go_wp2
  go_ret
  exact ⟨HF ▸ rfl, Below.refl _ _⟩
end Go.Proofs.YtpdahhnjhggocabGreatDoor
namespace Go.Proofs.YtpdahhnjhggocabGreatDoor
open Go.RowKit
def opa3_0 : Oper := { dst := some 17, op := Op.move (Operand.tmp 3), type := 61, pos := "l3_parse.go:179", after := #[], guard := none }
def opa3_1 : Oper := { dst := some 18, op := Op.indexAddr 61 (Operand.tmp 17) (Operand.const (Value.int IntKind.i64 0)), type := 0, pos := "l3_parse.go:179", after := #[{ on := 0, ground := Ground.data }], guard := none }
def opa3_2 : Oper := { dst := some 19, op := Op.load 9 (Operand.tmp 18), type := 9, pos := "l3_parse.go:179", after := #[{ on := 1, ground := Ground.data }], guard := none }
def opa3_3 : Oper := { dst := some 20, op := Op.move (Operand.tmp 3), type := 61, pos := "l3_parse.go:179", after := #[], guard := none }
def opa3_4 : Oper := { dst := some 21, op := Op.slice 61 (Operand.tmp 20) (some (Operand.const (Value.int IntKind.i64 1))) none none, type := 61, pos := "l3_parse.go:179", after := #[{ on := 3, ground := Ground.data }], guard := none }
def opa3_5 : Oper := { dst := some 22, op := Op.build 82 #[(0, Operand.tmp 19), (1, Operand.tmp 21)], type := 82, pos := "l3_parse.go:179", after := #[{ on := 2, ground := Ground.data }, { on := 4, ground := Ground.data }], guard := none }
def opa3_6 : Oper := { dst := some 10, op := Op.alloc 82, type := 0, pos := "l3_parse.go:179", after := #[], guard := none }
def opa3_7 : Oper := { dst := none, op := Op.store 82 (Operand.tmp 10) (Operand.tmp 22), type := 0, pos := "l3_parse.go:179", after := #[{ on := 6, ground := Ground.data }, { on := 5, ground := Ground.data }, { on := 0, ground := Ground.phase }, { on := 1, ground := Ground.phase }, { on := 2, ground := Ground.phase }, { on := 3, ground := Ground.phase }, { on := 4, ground := Ground.phase }, { on := 5, ground := Ground.phase }, { on := 6, ground := Ground.phase }], guard := none }
def opsa3 : List Oper := [opa3_0, opa3_1, opa3_2, opa3_3, opa3_4, opa3_5, opa3_6, opa3_7]
def A3F (W0 : World) (g n wc : Nat) (ta : Option Addr) (key : ByteArray) (i : Nat) (x : Value) (W : World) : Prop := match i with
 | 0 => x = (.slice (some ⟨g, 0, none⟩) (n + 1) wc)
 | 1 => x = (.pointer (some ⟨g, 0, none⟩))
 | 2 => x = .string key
 | 3 => x = (.slice (some ⟨g, 0, none⟩) (n + 1) wc)
 | 4 => x = (.slice ta n (wc - 1))
 | 5 => x = .agg #[.string key, (.slice ta n (wc - 1))]
 | 6 => ∃ R, x = .pointer (some ⟨R, 0, none⟩) ∧ W.heap[R]? = some (.cells #[.string ⟨#[]⟩, .slice none 0 0] 82 (0, 0)) ∧ W0.heap.size ≤ R
 | _ => True
set_option maxHeartbeats 2000000 in
set_option maxRecDepth 10000 in
theorem regionA3 {Q : Exit → Act → World → Prop} {a : Act} {W0 : World} {g n wc : Nat} {ta : Option Addr} {key : ByteArray} (hta : (if wc = 1 then some ⟨g, 0, none⟩ else some ⟨g, 1, none⟩ : Option Addr) = ta) (hk : W0.cell? ⟨g, 0, none⟩ = some (.string key)) (hwc : n + 1 ≤ wc) (hs : a.eval (.tmp 3) = (.slice (some ⟨g, 0, none⟩) (n + 1) wc)) (hsz : a.tmps.size = 36)
  (hQ : ∀ v a' R W', a' = putS a [17, 18, 19, 20, 21, 22, 10] v → v 6 = .pointer (some ⟨R, 0, none⟩) → W0.heap.size ≤ R → Below W0.heap.size W0 W' → W'.heap[R]? = some (.cells #[.string key, (.slice ta n (wc - 1))] 82 (0, 0)) → Q .normal a' W') : (Code.region 3 opsa3.toArray true).wp Tryz.prog Q a W0 := by
 have hnd : ([17, 18, 19, 20, 21, 22, 10] : List Nat).Nodup := by decide
 have i0 : (0 : Int) < (n : Int) + 1 := by omega
 have i1 : (1 : Int) ≤ (n : Int) + 1 := by omega
 have i2 : (n : Int) + 1 ≤ (wc : Int) := by omega
 refine wp_region_invS0 [17, 18, 19, 20, 21, 22, 10] (A3F W0 g n wc ta key) (fun _ W => Below W0.heap.size W0 W) 7 8 [0, 1, 2, 3, 4, 5, 6, 7] (by kernel_rfl) rfl (by decide) (by kernel_rfl) ?h1 (Below.refl _ _).drew ?hall
 case h1 =>
  intro i x W hi
  unfold A3F
  split <;> first | omega | trivial
 refine AllInv.consQ (o := opa3_0) [] (by kernel_rfl) (by decide) (by kernel_rfl) rfl ?o0 (AllInv.consQ (o := opa3_1) [0] (by kernel_rfl) (by decide) (by kernel_rfl) rfl ?o1 (AllInv.consQ (o := opa3_2) [1] (by kernel_rfl) (by decide) (by kernel_rfl) rfl ?o2 (AllInv.consQ (o := opa3_3) [] (by kernel_rfl) (by decide) (by kernel_rfl) rfl ?o3 (AllInv.consQ (o := opa3_4) [3] (by kernel_rfl) (by decide) (by kernel_rfl) rfl ?o4 (AllInv.consQ (o := opa3_5) [2, 4] (by kernel_rfl) (by decide) (by kernel_rfl) rfl ?o5 (AllInv.consQ (o := opa3_6) [] (by kernel_rfl) (by decide) (by kernel_rfl) rfl ?o6 (AllInv.lastQ (o := opa3_7) [6, 5, 0, 1, 2, 3, 4, 5, 6] (by kernel_rfl) (by kernel_rfl) rfl ?o7)))))))
 case o0 =>
  rintro Q' L _ W h0L hpre ⟨v, rfl, hv, hb⟩ K hK
  have r3 := (eval_out (v := v) (show 3 ∉ ([17, 18, 19, 20, 21, 22, 10] : List Nat) by decide)).trans hs
  have he : execOp (putS a [17, 18, 19, 20, 21, 22, 10] v).eval opa3_0 = execOp (Act.eval ⟨#[undef], []⟩) ⟨some 0, .move (.const (.slice (some ⟨g, 0, none⟩) (n + 1) wc)), 0, "", #[], none⟩ := by simp only [execOp, eval_const, opa3_0, r3]
  refine Lid.mk ?_
  unfold Oper.wp
  rw [he]
  clear he
  go_simp
  exact hK.out _ _ (InvG.nextL (W := W) hv 0 (.slice (some ⟨g, 0, none⟩) (n + 1) wc) (put_in 0 hnd rfl) (fun _ _ _ h => h) rfl hb)
 case o1 =>
  rintro Q' L _ W h0L hpre ⟨v, rfl, hv, hb⟩ K hK
  have r17 : (putS a [17, 18, 19, 20, 21, 22, 10] v).eval (.tmp 17) = _ := (eval_in 0 hnd rfl (by omega)).trans (hv 0 (hpre 0 (by simp)))
  have he : execOp (putS a [17, 18, 19, 20, 21, 22, 10] v).eval opa3_1 = execOp (Act.eval ⟨#[undef], []⟩) ⟨some 0, .indexAddr 61 (.const (.slice (some ⟨g, 0, none⟩) (n + 1) wc)) (.const (.int .i64 0)), 0, "", #[], none⟩ := by simp only [execOp, eval_const, opa3_1, r17]
  refine Lid.mk ?_
  unfold Oper.wp
  rw [he]
  clear he
  go_simp
  exact hK.out _ _ (InvG.nextL (W := W) hv 1 (.pointer (some ⟨g, 0, none⟩)) (put_in 1 hnd rfl) (fun _ _ _ h => h) rfl hb)
 case o2 =>
  rintro Q' L _ W h0L hpre ⟨v, rfl, hv, hb⟩ K hK
  have r18 : (putS a [17, 18, 19, 20, 21, 22, 10] v).eval (.tmp 18) = _ := (eval_in 1 hnd rfl (by omega)).trans (hv 1 (hpre 1 (by simp)))
  have k1 := (hb.cell (World.block_lt_of_cell? _ _ hk)).trans hk
  have he : execOp (putS a [17, 18, 19, 20, 21, 22, 10] v).eval opa3_2 = execOp (Act.eval ⟨#[undef], []⟩) ⟨some 0, .load 9 (.const (.pointer (some ⟨g, 0, none⟩))), 0, "", #[], none⟩ := by simp only [execOp, eval_const, opa3_2, r18]
  refine Lid.mk ?_
  unfold Oper.wp
  rw [he]
  clear he
  go_simp
  exact hK.out _ _ (InvG.nextL (W := W) hv 2 (.string key) (put_in 2 hnd rfl) (fun _ _ _ h => h) rfl hb)
 case o3 =>
  rintro Q' L _ W h0L hpre ⟨v, rfl, hv, hb⟩ K hK
  have r3 := (eval_out (v := v) (show 3 ∉ ([17, 18, 19, 20, 21, 22, 10] : List Nat) by decide)).trans hs
  have he : execOp (putS a [17, 18, 19, 20, 21, 22, 10] v).eval opa3_3 = execOp (Act.eval ⟨#[undef], []⟩) ⟨some 0, .move (.const (.slice (some ⟨g, 0, none⟩) (n + 1) wc)), 0, "", #[], none⟩ := by simp only [execOp, eval_const, opa3_3, r3]
  refine Lid.mk ?_
  unfold Oper.wp
  rw [he]
  clear he
  go_simp
  exact hK.out _ _ (InvG.nextL (W := W) hv 3 (.slice (some ⟨g, 0, none⟩) (n + 1) wc) (put_in 3 hnd rfl) (fun _ _ _ h => h) rfl hb)
 case o4 =>
  rintro Q' L _ W h0L hpre ⟨v, rfl, hv, hb⟩ K hK
  have r20 : (putS a [17, 18, 19, 20, 21, 22, 10] v).eval (.tmp 20) = _ := (eval_in 3 hnd rfl (by omega)).trans (hv 3 (hpre 3 (by simp)))
  have he : execOp (putS a [17, 18, 19, 20, 21, 22, 10] v).eval opa3_4 = execOp (Act.eval ⟨#[undef], []⟩) ⟨some 0, .slice 61 (.const (.slice (some ⟨g, 0, none⟩) (n + 1) wc)) (some (.const (.int .i64 1))) none none, 0, "", #[], none⟩ := by simp only [execOp, eval_const, opa3_4, r20, Option.map_some, Option.map_none]
  refine Lid.mk ?_
  unfold Oper.wp
  rw [he]
  clear he
  go_simp
  exact hK.out _ _ (InvG.nextL (W := W) hv 4 (.slice ta n (wc - 1)) (put_in 4 hnd rfl) (fun _ _ _ h => h) rfl hb)
 case o5 =>
  rintro Q' L _ W h0L hpre ⟨v, rfl, hv, hb⟩ K hK
  have r19 : (putS a [17, 18, 19, 20, 21, 22, 10] v).eval (.tmp 19) = _ := (eval_in 2 hnd rfl (by omega)).trans (hv 2 (hpre 2 (by simp)))
  have r21 : (putS a [17, 18, 19, 20, 21, 22, 10] v).eval (.tmp 21) = _ := (eval_in 4 hnd rfl (by omega)).trans (hv 4 (hpre 4 (by simp)))
  have he : execOp (putS a [17, 18, 19, 20, 21, 22, 10] v).eval opa3_5 = execOp (Act.eval ⟨#[undef], []⟩) ⟨some 0, .build 82 #[(0, .const (.string key)), (1, .const (.slice ta n (wc - 1)))], 0, "", #[], none⟩ := by simp only [execOp, eval_const, opa3_5, r19, r21, List.map_toArray, List.map_cons, List.map_nil]
  refine Lid.mk ?_
  unfold Oper.wp
  rw [he]
  clear he
  go_simp
  exact hK.out _ _ (InvG.nextL (W := W) hv 5 (.agg #[.string key, (.slice ta n (wc - 1))]) (put_in 5 hnd rfl) (fun _ _ _ h => h) rfl hb)
 case o6 =>
  rintro Q' L _ W h0L hpre ⟨v, rfl, hv, hb⟩ K hK
  have bx := (Below.refl W.heap.size W).alloc (Nat.le_refl _) (.cells #[.string ⟨#[]⟩, .slice none 0 0] 82)
  have he : execOp (putS a [17, 18, 19, 20, 21, 22, 10] v).eval opa3_6 = execOp (Act.eval ⟨#[undef], []⟩) ⟨some 0, .alloc 82, 0, "", #[], none⟩ := by kernel_rfl
  refine Lid.mk ?_
  unfold Oper.wp
  rw [he]
  clear he
  go_simp
  refine hK.out _ _ (InvG.nextL (W := W) hv 6 (.pointer (some ⟨W.heap.size, 0, none⟩)) (put_in 6 hnd rfl) (fun j y hj h => ?_) ⟨W.heap.size, rfl, alloc_here _ _, hb.size⟩ (hb.trans (bx.mono hb.size)))
  have h6 : j ≠ 6 := fun e => by rw [e, h0L] at hj; cases hj
  unfold A3F at *
  split <;> simp only at h
  all_goals first | exact h | exact absurd rfl h6 | trivial
 case o7 =>
  rintro Q' L _ W h0L hpre ⟨v, rfl, hv, hb⟩ K hK
  obtain ⟨R, e6, hz, hR⟩ := hv 6 (hpre 6 (by simp))
  have r10 : (putS a [17, 18, 19, 20, 21, 22, 10] v).eval (.tmp 10) = _ := (eval_in 6 hnd rfl (by omega)).trans e6
  have r22 : (putS a [17, 18, 19, 20, 21, 22, 10] v).eval (.tmp 22) = _ := (eval_in 5 hnd rfl (by omega)).trans (hv 5 (hpre 5 (by simp)))
  have g0 := cell_of_block hz 0
  have g1 := cell_of_block hz 1
  simp only [List.getElem?_toArray, List.getElem?_cons_zero, List.getElem?_cons_succ] at g0 g1
  have f0 := frozen_of_block hz 0
  have f1 := frozen_of_block hz 1
  have HZ := hid_in (show ((W.setCell ⟨R, 0, none⟩ (.string key)).setCell ⟨R, 1, none⟩ (.slice ta n (wc - 1))).heap[R]? = some (.cells #[.string key, (.slice ta n (wc - 1))] 82 (0, 0)) from by
   have z1 : (W.setCell ⟨R, 0, none⟩ (.string key)).heap[R]? = some (.cells #[.string key, .slice none 0 0] 82 (0, 0)) := by rw [heap_setCell_same W R 0 _ _ _ hz]; rfl
   rw [heap_setCell_same _ R 1 _ _ _ z1]; rfl)
  have HB := hid_in (below_setCell (below_setCell hb ⟨R, 0, none⟩ hR (.string key)) ⟨R, 1, none⟩ hR (.slice ta n (wc - 1)))
  have he : execOp (putS a [17, 18, 19, 20, 21, 22, 10] v).eval opa3_7 = execOp (Act.eval ⟨#[undef], []⟩) ⟨some 0, .store 82 (.const (.pointer (some ⟨R, 0, none⟩))) (.const (.agg #[.string key, (.slice ta n (wc - 1))])), 0, "", #[], none⟩ := by simp only [execOp, eval_const, opa3_7, r10, r22]
  refine Lid.mk ?_
  unfold Oper.wp
  rw [he]
  clear he
  go_simp
  exact hK.out _ _ (NoPanic.normal (hQ v _ R _ rfl e6 hR HB.out HZ.out))
end Go.Proofs.YtpdahhnjhggocabGreatDoor
namespace Go.Proofs.YtpdahhnjhggocabGreatDoor
open Go.RowKit
set_option maxHeartbeats 1000000 in
theorem add_open {R m : Nat} {rest : ByteArray} {vr ev : Value} {w : World} (h : RdBox R rest m w) : Calls Tryz.prog 176 #[.pointer (some ⟨R, 0, none⟩), vr, ev, .slice none 0 0] w fun e w' => e = .returned (.tuple #[.slice none 0 0, flt m 8]) ∧ w' = w := by
 have FA := fault_any h 8
 go_enter Tryz.func176, Tryz.ntmps176
 go_wp2_with (go_at_call 231; refine FA.mono ?_; rintro e w6 ⟨rfl, rfl⟩)
 go_ret2
 exact ⟨rfl, rfl⟩
def AddPost (R : List Plain) (B : Nat) (ev : Value) (es : List LAt) (m : Nat) (x : List UInt8) (xs : List (List UInt8)) (ta : Option Addr) (wc : Nat) (w : World) (e : Ending) (w' : World) : Prop :=
 (lineFault R (es.map LAt.plain) ⟨keyOf x, xs⟩ ≠ 0 ∧ e = .returned (.tuple #[.slice none 0 0, flt m (lineFault R (es.map LAt.plain) ⟨keyOf x, xs⟩)]) ∧ Below w.heap.size w w') ∨
 (lineFault R (es.map LAt.plain) ⟨keyOf x, xs⟩ = 0 ∧ ∃ a c, e = .returned (.tuple #[.slice a (es.length + 1) c, .nilIface]) ∧ w'.ownsRow B 82 2 (.slice a (es.length + 1) c) (es.length + 1) ((es ++ [(⟨keyOf x, .slice ta xs.length (wc - 1), xs⟩ : LAt)]).flatMap LAt.cells) ∧ ∃ W1, Below w.heap.size w W1 ∧ W1.grownBy w' ev.ownBlock ∧ ((Value.slice a (es.length + 1) c).ownBlock = ev.ownBlock ∨ (Value.slice a (es.length + 1) c).ownBlock = some W1.heap.size))
theorem tail_has {w : World} {g wc : Nat} {x : List UInt8} {xs : List (List UInt8)} {ta : Option Addr} (hta : (if wc = 1 then some ⟨g, 0, none⟩ else some ⟨g, 1, none⟩ : Option Addr) = ta) (hw : HasRow w (.slice (some ⟨g, 0, none⟩) (xs.length + 1) wc) (xs.length + 1) 1 (strs (x :: xs))) : HasRow w (.slice ta xs.length (wc - 1)) xs.length 1 (strs xs) := by
 have hcap := hw.cap
 obtain ⟨b, off, e, hc⟩ := hw.at (by omega)
 cases e
 refine ⟨by rw [strs_length]; omega, ta, wc - 1, rfl, ⟨by omega, by omega⟩, ?_⟩
 by_cases h0 : xs.length = 0
 ·exact .inl h0
 ·rw [if_neg (by omega)] at hta
  refine .inr ⟨g, 1, hta.symm, fun j u hj => ?_⟩
  have := hc (j + 1) u (by simpa [strs] using hj)
  rw [Nat.zero_add] at this
  rw [Nat.add_comm 1 j]; exact this
set_option maxHeartbeats 4000000 in
set_option maxRecDepth 100000 in
theorem add_any {R m B B2 g wc : Nat} {rest : ByteArray} {vr : Value} {L : List RAt} {ea : Option Addr} {ec : Nat} {es : List LAt} {x : List UInt8} {xs : List (List UInt8)} {ta : Option Addr} {w : World} (h : RdBox R rest m w) (hr : RulesAt B2 w vr L) (hsm : SmallR (L.map RAt.plain)) (hown : w.ownsRow B 82 2 (.slice ea es.length ec) es.length (es.flatMap LAt.cells)) (hB : B ≤ w.heap.size) (hin : ∀ y ∈ es, LineIn w y) (hel : es.length ≤ 1000000) (hew : ∀ y ∈ es, y.ws.length ≤ 1048576)
  (hw : HasRow w (.slice (some ⟨g, 0, none⟩) (xs.length + 1) wc) (xs.length + 1) 1 (strs (x :: xs))) (h200 : ∀ y ∈ x :: xs, y.length ≤ 200) (hx7 : xs.length ≤ 7) (hta : (if wc = 1 then some ⟨g, 0, none⟩ else some ⟨g, 1, none⟩ : Option Addr) = ta) (hst : StdAt w) :
  Calls Tryz.prog 176 #[.pointer (some ⟨R, 0, none⟩), vr, .slice ea es.length ec, .slice (some ⟨g, 0, none⟩) (xs.length + 1) wc] w fun e w' => AddPost (L.map RAt.plain) B (.slice ea es.length ec) es m x xs ta wc w e w' := by
 obtain ⟨b, off, e', k0⟩ := hw.word 0 (by simp)
 cases e'
 simp only [List.getElem_cons_zero, Nat.add_zero] at k0
 have hcap := hw.cap
 have htl := tail_has hta hw
 have hne : (((xs.length : Int) + 1) == 0) = false := by rw [beq_eq_false_iff_ne]; omega
 generalize hcode : lineFault (L.map RAt.plain) (es.map LAt.plain) ⟨keyOf x, xs⟩ = code
 obtain ⟨i0, hi, hz0, hz1, hz2⟩ := info_parts infoLine
 have HO1 := hid_in (show code ≠ 0 → ∀ W, Below w.heap.size w W → AddPost (L.map RAt.plain) B (.slice ea es.length ec) es m x xs ta wc w (.returned (.tuple #[.slice none 0 0, flt m code])) W from fun hc W hb => .inl ⟨by rw [hcode]; exact hc, by rw [hcode], hb⟩)
 have HO2 := hid_in (show code = 0 → ∀ a c W, W.ownsRow B 82 2 (.slice a (es.length + 1) c) (es.length + 1) ((es ++ [(⟨keyOf x, .slice ta xs.length (wc - 1), xs⟩ : LAt)]).flatMap LAt.cells) → (∃ W1, Below w.heap.size w W1 ∧ W1.grownBy W (Value.slice ea es.length ec).ownBlock ∧ ((Value.slice a (es.length + 1) c).ownBlock = (Value.slice ea es.length ec).ownBlock ∨ (Value.slice a (es.length + 1) c).ownBlock = some W1.heap.size)) → AddPost (L.map RAt.plain) B (.slice ea es.length ec) es m x xs ta wc w (.returned (.tuple #[.slice a (es.length + 1) c, .nilIface])) W from fun hc a c W ho hg => .inr ⟨by rw [hcode]; exact hc, a, c, rfl, ho, hg⟩)
 have HLF : ∀ W, Below w.heap.size w W → Calls Tryz.prog 204 #[vr, .slice ea es.length ec, .agg #[.string ⟨x.toArray⟩, .slice ta xs.length (wc - 1)]] W fun e w' => e = .returned (.int .i64 code) ∧ Below W.heap.size W w' := fun W hb => by
  have := lineFault_any (w := W) ⟨keyOf x, xs⟩ (hr.below hb) hsm ⟨(own_has hown).below hb, fun y hy => (hin y hy).below hb⟩ (by omega) hew (htl.below hb) (by simp only; omega) (fun y hy => Nat.le_trans (h200 y (List.mem_cons_of_mem _ hy)) (by decide)) (hst.below hb)
  rw [hcode] at this
  exact this
 have HOWN := hid_in hown
 have HBX := hid_in h
 obtain ⟨ra, rc, rfl⟩ : ∃ ra rc, vr = .slice ra L.length rc := by
  obtain ⟨ra, rc, e, _⟩ := own_form (Mem.head hr)
  exact ⟨ra, rc, e⟩
 clear h hr hown hin hew hw h200 hst htl hcode hsm
 generalize hne' : es.length = ne at *
 have ENE := hid_in hne'
 clear hne'
 generalize hnx : xs.length = nx at *
 clear hnx
 generalize L.length = nr at *
 go_enter Tryz.func176, Tryz.ntmps176
 go_upto_region 3 with fail
 refine regionA3 hta k0 hcap.1 (by kernel_rfl) (by kernel_rfl) ?_
 intro v a' Z W1 ha' hv6 hZ b1 hz
 simp only [putS, setS, List.setIfInBounds_toArray, List.set_cons_zero, List.set_cons_succ, hv6] at ha'
 subst ha'
 have HF := HLF W1 b1
 have c0 := cell_of_block hz 0
 have c1 := cell_of_block hz 1
 simp only [List.getElem?_toArray, List.getElem?_cons_zero, List.getElem?_cons_succ] at c0 c1
 go_wp2_with (go_at_call 204; refine HF.mono ?_)
 first | rintro e w2 rfl b2 | rintro e w2 ⟨rfl, b2⟩
 have B2' := b1.trans (b2.mono b1.size)
 have hBX := HBX.out.below B2'
 have d0 := (b2.cell (World.block_lt_of_cell? _ _ c0)).trans c0
 have d1 := (b2.cell (World.block_lt_of_cell? _ _ c1)).trans c1
 clear HF HLF c0 c1
 by_cases hc : code = 0
 ·subst hc
  have hm3 := (own_below HOWN.out B2').alloc (.cells #[.string ⟨x.toArray⟩, .slice ta nx (wc - 1)] 82)
  have hrow := lit_has w2 #[.string ⟨x.toArray⟩, .slice ta nx (wc - 1)] 82 2 rfl
  have hone := lcells_one (ls := [⟨keyOf x, .slice ta nx (wc - 1), xs⟩]) (fun y hy => by rw [List.mem_singleton.1 hy]; exact ⟨_, _, _, rfl⟩)
  rw [List.flatMap_singleton] at hone
  have b3 := (Below.refl w2.heap.size w2).alloc (Nat.le_refl _) (.cells #[.string ⟨x.toArray⟩, .slice ta nx (wc - 1)] 82)
  have B3 := B2'.trans (b3.mono B2'.size)
  clear hBX
  go_wp2_with (at_builtin; refine wpList_append_has (by rfl) _ _ 41 (by rfl) B 82 i0 _ 2 40 Tryz.underlying41 hi hz0 hz1 hz2 rfl (by decide) _ ne _ (by rfl) hm3 _ 1 _ (by rfl) hrow hone ?c3 ?c4 (Nat.le_trans hB (Nat.le_trans B2'.size (by simp))) ?_)
  case c3 => unfold maxLen; omega
  case c4 => omega
  intro ao' cap' w5 hown5 hg5 hv5
  have HO := hid_in (HO2.out (by trivial) ao' cap' w5 (by rw [List.flatMap_append, List.flatMap_singleton]; exact hown5) ⟨_, B3, hg5, by rw [World.size_alloc]; exact hv5⟩)
  clear hm3 hrow hone hown5 hg5 d0 d1 HO1 HO2
  go_wp2
  go_ret2
  exact HO.out
 ·have hcn : (code == 0) = false := by rw [beq_eq_false_iff_ne]; exact hc
  have FA := fault_any hBX code
  have HO := hid_in (HO1.out hc w2 B2')
  clear hBX d0 d1 HO1 HO2
  go_wp2_with (go_at_call 231; refine FA.mono ?_; rintro e w6 ⟨rfl, rfl⟩)
  go_ret2
  exact HO.out
end Go.Proofs.YtpdahhnjhggocabGreatDoor
namespace Go.Proofs.YtpdahhnjhggocabGreatDoor
open Go.RowKit
def BegPost (done : List PBlock) (x : List UInt8) (xs : List (List UInt8)) (w : World) (e : Ending) (w' : World) : Prop := Below w.heap.size w w' ∧ (((stepW done none x xs).1 ≠ 0 ∧ e = .returned (.tuple #[.agg #[.string ⟨#[]⟩, .string ⟨#[]⟩, .slice none 0 0], .int .i64 (stepW done none x xs).1])) ∨ ((stepW done none x xs).1 = 0 ∧ ∃ nm, xs = [nm] ∧ e = .returned (.tuple #[.agg #[.string (keyOf x), .string (keyOf nm), .slice none 0 0], .int .i64 0])))
set_option maxHeartbeats 4000000 in
set_option maxRecDepth 100000 in
theorem l3Begin_any {v : Value} {bs : List BAt} {wa : Option Addr} {wc : Nat} {x : List UInt8} {xs : List (List UInt8)} {w : World} (hb : BlocksIn w v bs) (hl : bs.length ≤ 1048576) (hw : HasRow w (.slice wa (xs.length + 1) wc) (xs.length + 1) 1 (strs (x :: xs))) (h200 : ∀ y ∈ x :: xs, y.length ≤ 200) (hx7 : xs.length ≤ 7) : Calls Tryz.prog 48 #[.agg #[v], .slice wa (xs.length + 1) wc] w fun e w' => BegPost (bs.map BAt.plain) x xs w e w' := by
 obtain ⟨va, vc, rfl⟩ := hb.1.form
 have b0 := ((Below.refl w.heap.size w).alloc (Nat.le_refl _) (.cells #[.slice va bs.length vc] 24)).alloc (by simp) (.cells #[.string ⟨#[]⟩, .string ⟨#[]⟩, .slice none 0 0] 64)
 have y0 : ((w.alloc (.cells #[.slice va bs.length vc] 24)).alloc (.cells #[.string ⟨#[]⟩, .string ⟨#[]⟩, .slice none 0 0] 64)).heap[w.heap.size]? = some (.cells #[.slice va bs.length vc] 24 (0, 0)) := by
  rw [((Below.refl (w.alloc (.cells #[.slice va bs.length vc] 24)).heap.size (w.alloc (.cells #[.slice va bs.length vc] 24))).alloc (Nat.le_refl _) _).block w.heap.size (by simp)]; exact alloc_here w _
 have z0 : ((w.alloc (.cells #[.slice va bs.length vc] 24)).alloc (.cells #[.string ⟨#[]⟩, .string ⟨#[]⟩, .slice none 0 0] 64)).heap[w.heap.size + 1]? = some (.cells #[.string ⟨#[]⟩, .string ⟨#[]⟩, .slice none 0 0] 64 (0, 0)) := by
  have := alloc_here (w.alloc (.cells #[.slice va bs.length vc] 24)) (.cells #[.string ⟨#[]⟩, .string ⟨#[]⟩, .slice none 0 0] 64)
  rw [World.size_alloc] at this; exact this
 have hz1 : ((w.alloc (.cells #[.slice va bs.length vc] 24)).alloc (.cells #[.string ⟨#[]⟩, .string ⟨#[]⟩, .slice none 0 0] 64)).heap.size = w.heap.size + 2 := by simp
 have hb0 := hb.below b0
 by_cases hx1 : xs.length = 1
 ·match xs, hx1, hw, h200 with
  | [nm], _, hw, h200 =>
   obtain ⟨g, off, rfl, k0⟩ := hw.word 0 (by simp)
   obtain ⟨g', off', e', k1⟩ := hw.word 1 (by simp)
   cases e'
   simp only [List.getElem_cons_zero, List.getElem_cons_succ, Nat.add_zero] at k0 k1
   have i0 := (b0.cell (World.block_lt_of_cell? _ _ k0)).trans k0
   have i1 := (b0.cell (World.block_lt_of_cell? _ _ k1)).trans k1
   have hnm : (keyOf nm).size ≤ 1048576 := by
    have := h200 nm (by simp)
    show nm.toArray.size ≤ 1048576
    rw [List.size_toArray]; omega
   have HOH := hid_in (show ∀ (code : Int) W, Below w.heap.size w W → code ≠ 0 → headFault (bs.map BAt.plain) (keyOf x) (keyOf nm) = code → BegPost (bs.map BAt.plain) x [nm] w (.returned (.tuple #[.agg #[.string ⟨#[]⟩, .string ⟨#[]⟩, .slice none 0 0], .int .i64 code])) W from fun code W hB hc he => ⟨hB, .inl (by rw [stepW_head, he]; exact ⟨hc, rfl⟩)⟩)
   have HOZ := hid_in (show ∀ W, Below w.heap.size w W → headFault (bs.map BAt.plain) (keyOf x) (keyOf nm) = 0 → BegPost (bs.map BAt.plain) x [nm] w (.returned (.tuple #[.agg #[.string (keyOf x), .string (keyOf nm), .slice none 0 0], .int .i64 0])) W from fun W hB he => ⟨hB, .inr (by rw [stepW_head, he]; exact ⟨rfl, nm, rfl, rfl⟩)⟩)
   generalize hw1 : (w.alloc (.cells #[.slice va bs.length vc] 24)).alloc (.cells #[.string ⟨#[]⟩, .string ⟨#[]⟩, .slice none 0 0] 64) = w1 at *
   have HS := specRules_any (keyOf x) w1
   have HN := fun W => l2NameOk_any (keyOf nm) W hnm
   have HB0 := hid_in b0
   have HBI := hid_in hb0
   have Y0 := hid_in y0
   have Z0 := hid_in z0
   have HL := hid_in hl
   clear hb hw h200 k0 k1 y0 z0 b0 hb0 hl
   go_enter Tryz.func48, Tryz.ntmps48
   go_wp2_with (go_at_call 68; (try rw [hw1]); refine HS.mono ?_)
   rintro e w2 ⟨vr, L, rfl, hp, hr, b2⟩
   obtain ⟨ao, cap, rfl, _⟩ := own_form (show w2.ownsRow w1.heap.size 105 4 vr L.length (L.flatMap RAt.cells) from Mem.head hr)
   have hLn : (rulesOf (keyOf x)).length = L.length := by rw [← hp, List.length_map]
   have hl12 : L.length ≤ 12 := by have := (rulesOf_like (keyOf x)).1; omega
   have HLN := hid_in hLn
   have B1 := HB0.out.trans (b2.mono HB0.out.size)
   have hzz := b2.size
   have hz2 := (b2.block (w.heap.size + 1) (by omega)).trans Z0.out
   have hy2 := (b2.block w.heap.size (by omega)).trans Y0.out
   have s0 := cell_of_block hz2 0
   have s1 := cell_of_block hz2 1
   have s2 := cell_of_block hz2 2
   have q0 := frozen_of_block hz2 0
   have q1 := frozen_of_block hz2 1
   have q2 := frozen_of_block hz2 2
   have n0 := cell_of_block hy2 0
   simp only [List.getElem?_toArray, List.getElem?_cons_zero, List.getElem?_cons_succ] at s0 s1 s2 n0
   have j0 := (b2.cell (World.block_lt_of_cell? _ _ i0)).trans i0
   have j1 := (b2.cell (World.block_lt_of_cell? _ _ i1)).trans i1
   have HBJ := hid_in (HBI.out.below b2)
   clear HS hp hr b2 i0 i1 hLn HBI Y0 Z0 HB0
   generalize L.length = nr at *
   by_cases hR : nr = 0
   ·subst hR
    go_wp2
    exact bodyPost_ret (v := .tuple #[.agg #[.string ⟨#[]⟩, .string ⟨#[]⟩, .slice none 0 0], .int .i64 3]) (by simp [results, Tryz.results48, go_sem, s0, s1, s2]) rfl (HOH.out 3 _ (below_setCell (below_setCell (below_setCell B1 ⟨w.heap.size + 1, 0, none⟩ (by simp only; omega) _) ⟨w.heap.size + 1, 1, none⟩ (by simp only; omega) _) ⟨w.heap.size + 1, 2, none⟩ (by simp only; omega) _) (by decide) (by unfold headFault; rw [if_pos HLN.out]))
   ·have hR' : ((nr : Int) == 0) = false := by rw [beq_eq_false_iff_ne]; omega
    have HRN := hid_in (show ¬ (rulesOf (keyOf x)).length = 0 by rw [HLN.out]; exact hR)
    cases hnb : nameB (keyOf nm).data.toList with
    | false =>
     rw [hnb] at HN
     have HNB := hid_in hnb
     clear hnb
     go_wp2_with (go_at_call 108; refine (HN _).mono ?_; rintro e w3 ⟨rfl, rfl⟩)
     exact bodyPost_ret (v := .tuple #[.agg #[.string ⟨#[]⟩, .string ⟨#[]⟩, .slice none 0 0], .int .i64 4]) (by simp [results, Tryz.results48, go_sem, s0, s1, s2]) rfl (HOH.out 4 _ (below_setCell (below_setCell (below_setCell B1 ⟨w.heap.size + 1, 0, none⟩ (by simp only; omega) _) ⟨w.heap.size + 1, 1, none⟩ (by simp only; omega) _) ⟨w.heap.size + 1, 2, none⟩ (by simp only; omega) _) (by decide) (by unfold headFault; rw [if_neg HRN.out, if_pos HNB.out]))
    | true =>
     rw [hnb] at HN
     have HNB := hid_in hnb
     clear hnb
     have HF : ∀ p : Gr w2, Calls Tryz.prog 76 #[.agg #[.slice va bs.length vc], .string ⟨x.toArray⟩, .string ⟨nm.toArray⟩] p.u fun e w' => e = .returned (.int .i64 (headAt (bs.map BAt.plain) (keyOf x) (keyOf nm))) ∧ Below p.u.heap.size p.u w' := fun p => l3Find_at (keyOf x) (keyOf nm) (HBJ.out.below p.h) HL.out
     have hAA := headAt_any (bs := bs.map BAt.plain) (kind := keyOf x) (name := keyOf nm)
     have u0 := fun p : Gr w2 => gr_cell j0 p
     have u1 := fun p : Gr w2 => gr_cell j1 p
     have u2 := fun p : Gr w2 => gr_cell n0 p
     have HAA := hid_in hAA
     have hlb : (bs.map BAt.plain).length = bs.length := List.length_map ..
     have HLB := hid_in hlb
     have hl' := HL.out
     clear hAA HBJ HL hlb
     generalize headAt (bs.map BAt.plain) (keyOf x) (keyOf nm) = hA at *
     generalize hnbs : bs.length = nb at *
     go_upto_region 7 with (go_at_call 108; refine (HN _).mono ?_; rintro e w3 ⟨rfl, rfl⟩)
     refine wp_region_gr (by kernel_rfl) (by kernel_rfl) ?_
     iterate 7 quiet_step (fail)
     quiet_step ((go_at_call 76; refine gr_of (HF _)))
     quiet_step (fail)
     refine wpQuiet_nil ?_
     rintro _ ⟨⟨wq, bq⟩, rfl⟩
     have B2 := B1.trans (bq.mono B1.size)
     have e0 := (bq.cell (World.block_lt_of_cell? _ _ j0)).trans j0
     have e1 := (bq.cell (World.block_lt_of_cell? _ _ j1)).trans j1
     have t0 := (bq.cell (World.block_lt_of_cell? _ _ s0)).trans s0
     have t1 := (bq.cell (World.block_lt_of_cell? _ _ s1)).trans s1
     have t2 := (bq.cell (World.block_lt_of_cell? _ _ s2)).trans s2
     have m0 := (bq.cell (World.block_lt_of_cell? _ _ n0)).trans n0
     have p0 := (bq.frozen (World.block_lt_of_cell? _ _ s0)).trans q0
     have p1 := (bq.frozen (World.block_lt_of_cell? _ _ s1)).trans q1
     have p2 := (bq.frozen (World.block_lt_of_cell? _ _ s2)).trans q2
     clear HF u0 u1 u2 j0 j1 s0 s1 s2 n0 q0 q1 q2 hz2 hy2 bq
     by_cases hh : 0 ≤ hA
     ·go_wp2
      exact bodyPost_ret (v := .tuple #[.agg #[.string ⟨#[]⟩, .string ⟨#[]⟩, .slice none 0 0], .int .i64 9]) (by simp [results, Tryz.results48, go_sem, t0, t1, t2]) rfl (HOH.out 9 _ (below_setCell (below_setCell (below_setCell B2 ⟨w.heap.size + 1, 0, none⟩ (by simp only; omega) _) ⟨w.heap.size + 1, 1, none⟩ (by simp only; omega) _) ⟨w.heap.size + 1, 2, none⟩ (by simp only; omega) _) (by decide) (by unfold headFault; rw [if_neg HRN.out, if_neg (by rw [HNB.out]; simp), if_pos (HAA.out.1 hh)]))
     ·by_cases h60 : 60 ≤ nb
      ·have h60' : (60 : Int) ≤ (nb : Int) := by omega
       go_wp2
       exact bodyPost_ret (v := .tuple #[.agg #[.string ⟨#[]⟩, .string ⟨#[]⟩, .slice none 0 0], .int .i64 10]) (by simp [results, Tryz.results48, go_sem, t0, t1, t2]) rfl (HOH.out 10 _ (below_setCell (below_setCell (below_setCell B2 ⟨w.heap.size + 1, 0, none⟩ (by simp only; omega) _) ⟨w.heap.size + 1, 1, none⟩ (by simp only; omega) _) ⟨w.heap.size + 1, 2, none⟩ (by simp only; omega) _) (by decide) (by unfold headFault; rw [if_neg HRN.out, if_neg (by rw [HNB.out]; simp), if_neg (fun h => absurd (HAA.out.2 h) (by omega)), if_pos (by rw [HLB.out]; exact h60)]))
      ·have h60' : ¬ (60 : Int) ≤ (nb : Int) := by omega
       go_wp2
       go_region
       go_wp2
       exact bodyPost_ret (v := .tuple #[.agg #[.string ⟨x.toArray⟩, .string ⟨nm.toArray⟩, .slice none 0 0], .int .i64 0]) (by simp [results, Tryz.results48, go_sem, t0, t1, t2]) rfl (HOZ.out _ (Below.drew (below_setCell (below_setCell (below_setCell B2 ⟨w.heap.size + 1, 0, none⟩ (by simp only; omega) _) ⟨w.heap.size + 1, 1, none⟩ (by simp only; omega) _) ⟨w.heap.size + 1, 2, none⟩ (by simp only; omega) _)) (by unfold headFault; rw [if_neg HRN.out, if_neg (by rw [HNB.out]; simp), if_neg (fun h => absurd (HAA.out.2 h) (by omega)), if_neg (by rw [HLB.out]; exact h60)]))
 ·have hne : (((xs.length : Int) + 1) != 2) = true := by rw [bne_iff_ne]; omega
  have e0 := stepW_out (done := bs.map BAt.plain) (w := x) hx1
  have s0 := cell_of_block z0 0
  have s1 := cell_of_block z0 1
  have s2 := cell_of_block z0 2
  have q0 := frozen_of_block z0 0
  have q1 := frozen_of_block z0 1
  have q2 := frozen_of_block z0 2
  simp only [List.getElem?_toArray, List.getElem?_cons_zero, List.getElem?_cons_succ] at s0 s1 s2
  have HOH := hid_in (fun W (hB : Below w.heap.size w W) => (show BegPost (bs.map BAt.plain) x xs w (.returned (.tuple #[.agg #[.string ⟨#[]⟩, .string ⟨#[]⟩, .slice none 0 0], .int .i64 2])) W from ⟨hB, .inl (by rw [e0]; exact ⟨by simp, rfl⟩)⟩))
  have B0 := hid_in b0
  clear hb hw b0 z0 e0 h200 y0 hb0
  generalize bs.length = nb at *
  generalize xs.length = nx at *
  go_enter Tryz.func48, Tryz.ntmps48
  go_wp2
  exact bodyPost_ret (v := .tuple #[.agg #[.string ⟨#[]⟩, .string ⟨#[]⟩, .slice none 0 0], .int .i64 2]) (by simp [results, Tryz.results48, go_sem, s0, s1, s2]) rfl (HOH.out _ B0.out)
end Go.Proofs.YtpdahhnjhggocabGreatDoor
